/- The program's disk: Open. -/
import Derived.Test.YtmfcbndgambfmaaDoorShelf
import Derived.Test.YtmfcbndgambfmaaDoorQf
namespace Go.Proofs.YtmfcbndgambfmaaDoor.Q
open Go.RowKit

def natsI (l : List Nat) : List Int := l.map fun k : Nat => (k : Int)
theorem openL_mem (d : RD) (k : Nat) : k ∈ openL d ↔ ∃ h : k < d.s.length, 1 < d.s[k].length := by
  simp only [openL, openN, List.mem_filter, List.mem_range, decide_eq_true_eq]
  constructor
  · rintro ⟨h, h1⟩
    exact ⟨h, by simpa [List.getD, h] using h1⟩
  · rintro ⟨h, h1⟩
    exact ⟨h, by simpa [List.getD, h] using h1⟩
theorem openL_lts (d : RD) : (openL d).Pairwise (· < ·) := List.Pairwise.filter _ List.pairwise_lt_range
theorem natsI_mem (l : List Nat) (x : Int) : x ∈ natsI l ↔ ∃ k ∈ l, (k : Int) = x := by simp [natsI]
theorem open_perm {w : World} {m : Nat} {D : DataW Value} {X : Nat → Value} {d : RD} (h : PMap w m d.s D X) : (natsI (openL d)).Perm (intKeys D) := by
  obtain ⟨es, hD, hpw, _⟩ := h.own.entries lawI
  obtain ⟨es', hD', hko⟩ := h.own.keysOf
  obtain rfl : es = es' := by rw [hD] at hD'; simpa using hD'
  have hh := h.has_
  have hd := h.dom
  subst hD
  refine perm_intKeys hpw (fun p hp => ?_) ?_ (fun x => ?_)
  · obtain ⟨v, hv⟩ := hko p hp
    obtain ⟨x, _, hx, _⟩ := Maps.keyOf_i64 Tryd.underlying3 hv
    exact ⟨x, hx⟩
  · refine List.Pairwise.map _ (fun a b (hab : a < b) => ?_) (openL_lts d)
    omega
  · rw [natsI_mem]
    constructor
    · rintro ⟨k, hk, rfl⟩
      obtain ⟨h1, h2⟩ := (openL_mem d k).1 hk
      have := hh k h1
      rw [decide_eq_true h2] at this
      exact this
    · intro hx
      obtain ⟨i, hi, e⟩ := hd _ hx
      have e2 : x = (i : Int) := by injection e
      subst e2
      have := hh i hi
      rw [hx] at this
      exact ⟨i, (openL_mem d i).2 ⟨hi, by simpa using this.symm⟩, rfl⟩
theorem open_sorted (d : RD) : (natsI (openL d)).mergeSort leI = natsI (openL d) := by
  refine List.mergeSort_of_pairwise ?_
  refine List.Pairwise.map _ (fun a b (hab : a < b) => ?_) (openL_lts d)
  simp only [leI, decide_eq_true_eq]
  omega

theorem sortsA (n : Nat) : AnyZI.SortsIn Tryd.prog Tryd.sortedA_ren Fence.wide n :=
  ⟨fun blk off cap ss W hH hblk hsz => callsIn_wide.2 (AnyM.slices_Sort_int Tryd.sortA blk off cap ss W hH hblk hsz),
   fun p cap W => callsIn_wide.2 (AnyM.slices_Sort_int_none Tryd.sortA p cap W)⟩
theorem keys_calls (mb : Option Nat) (W : World) : Calls Tryd.prog 34 #[.map mb] W fun e w' => e = .returned (.func (.func 42) #[] #[.pointer (some ⟨W.heap.size, 0, none⟩)]) ∧ w' = W.alloc (.cells #[.map mb] 52) :=
  (callsIn_wide (n := 5)).1 (AnyZI.keys_in Tryd.keysA Fence.wide 5 trivial rfl mb W)
theorem sorted_calls {w : World} {m : Nat} {D : DataW Value} {X : Nat → Value} {d : RD} (h : PMap w m d.s D X) (h8 : d.s.length ≤ 8192) :
    Calls Tryd.prog 33 #[.func (.func 42) #[] #[.pointer (some ⟨w.heap.size, 0, none⟩)]] (w.alloc (.cells #[.map (some m)] 52)) fun e w' => ∃ u, e = .returned u ∧
      w'.ownsRow w.heap.size 3 1 u (openL d).length (ints (openL d)) ∧ Below w.heap.size w w' := by
  have hown := h.own
  have hbl := hown.lt
  have hp := open_perm h
  have hsz : Maps.size D ≤ 8192 := by
    obtain ⟨es, hD, _⟩ := hown.entries lawI
    have hl := hp.length_eq
    have : (intKeys D).length = Maps.size D := by subst hD; simp [intKeys, Maps.size]
    rw [← this, ← hl]
    have := openN_le d d.s.length
    simp [natsI, openL]
    omega
  have hseq : SeqGives Fence.wide 2 Tryd.prog 42 #[.pointer (some ⟨w.heap.size, 0, none⟩)] encZ (fun ss => ss.Perm (intKeys D)) (Maps.size D) (w.alloc (.cells #[.map (some m)] 52)) :=
    AnyZI.keys_gives (ρ := Tryd.keysA_ren) { Tryd.keysA with } Fence.wide _ trivial rfl (by omega) w.heap.size m d.s.length D _ (by simp) (by simp) (by
      obtain ⟨es, clock, hb, Ft, hs, hD⟩ := hown
      exact ⟨es, clock, (Below.heap_alloc _ _ m hbl).trans hb, Ft, hs, hD⟩)
  have cS := AnyZI.sorted_in Tryd.sortedA Fence.wide 5 trivial trivial trivial trivial rfl (by omega) (sortsA _) (enters_of Tryd.func41 (by kernel_rfl) rfl) 42 #[.pointer (some ⟨w.heap.size, 0, none⟩)] trivial (enters_of Tryd.func42 (by kernel_rfl) rfl) _ _ (by unfold maxLen; omega) (by omega) _ hseq
  refine ((callsIn_wide (n := 5)).1 cS).mono ?_
  rintro e w' ⟨v, ss, rfl, hS, hrow, hnil, hb⟩
  have e1 : ss.mergeSort (fun x y => decide (x ≤ y)) = natsI (openL d) := by
    have := mergeSort_of_perm_i (hS.trans hp.symm)
    rw [open_sorted] at this
    exact this
  have e2 : ss.length = (openL d).length := by
    rw [hS.length_eq, ← hp.length_eq]; simp [natsI]
  rw [e1, e2] at hrow
  have e3 : (natsI (openL d)).map encZ = ints (openL d) := by simp [natsI, ints, encZ]
  refine ⟨v, rfl, ?_, ((Below.refl _ w).alloc (Nat.le_refl _) _).trans (hb.mono (by simp))⟩
  have h2 : w'.ownsRow (w.alloc (.cells #[.map (some m)] 52)).heap.size 3 1 v (openL d).length ((natsI (openL d)).map encZ) := hrow
  rw [e3] at h2
  exact ownsRow_base_a h2 (by simp)

set_option maxHeartbeats 1000000 in
theorem popen_any (w : World) (b m : Nat) (L : Value) (D : DataW Value) (X : Nat → Value) (d : RD) (h : PDisk w b L m D X d) :
    Calls Tryd.prog 20 #[.pointer (some ⟨b, 0, none⟩)] w fun e w' => ∃ u, e = .returned u ∧ w'.ownsRow w.heap.size 3 1 u (openL d).length (ints (openL d)) ∧ Below w.heap.size w w' := by
  have HN := Lib.hid (none_any w b m L D X d h)
  have c1 := h.c1
  have HS := Lib.hid (sorted_calls h.map h.n1)
  clear h
  go_enter Tryd.func20, Tryd.ntmps20
  go_wp2_with (first
    | (go_at_call 19; refine HN.out.mono ?_; rintro e w' ⟨rfl, rfl⟩)
    | (go_at_call 34; refine (keys_calls _ _).mono ?_; rintro e w' ⟨rfl, rfl⟩)
    | (go_at_call 33; refine HS.out.mono ?_; rintro e w' ⟨u, rfl, hu, hb⟩))
  go_ret
  exact ⟨_, rfl, hu, hb⟩
theorem popen_nil (w : World) (p : Value) (hp : Calls Tryd.prog 19 #[p] w fun e w' => e = .returned (.bool true) ∧ w = w') :
    Calls Tryd.prog 20 #[p] w fun e w' => e = .returned (.slice none 0 0) ∧ w = w' := by
  have HN := Lib.hid hp
  clear hp
  go_enter Tryd.func20, Tryd.ntmps20
  go_wp2_with (go_at_call 19; refine HN.out.mono ?_; rintro e w' ⟨rfl, rfl⟩)
  go_ret
  exact ⟨rfl, rfl⟩
end Go.Proofs.YtmfcbndgambfmaaDoor.Q
