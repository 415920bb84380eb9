/- The program's disk: New, Fuse. -/
import Derived.Test.YtmfcbndgambfmaaDoorQe
import Derived.Test.YtmfcbndgambfmaaDoorQd
import Derived.Lib.AppendZerosOnto
namespace Go.Proofs.YtmfcbndgambfmaaDoor.Q
open Go.RowKit

def z8 : Value := .int .u8 0
theorem sec_zero : sec 0 = List.replicate 64 z8 := by
  show cells8 (List.replicate 64 0) = _
  simp [cells8, z8]
theorem secs_zero (n : Nat) : secs (List.replicate n 0) = List.replicate (n * 64) z8 := by
  induction n with
  | zero => simp [secs]
  | succ n ih => rw [List.replicate_succ, secs_cons, ih, sec_zero, List.replicate_append_replicate]; congr 1; omega
theorem made_zero (n : Nat) : (madeCells (sec 0).toArray (n * 64)).toList = secs (List.replicate n 0) := by
  rw [secs_zero]
  unfold madeCells
  rw [Array.toList_map, Array.toList_range, List.eq_replicate_iff]
  refine ⟨by simp, fun v hv => ?_⟩
  obtain ⟨i, hi, rfl⟩ := List.mem_map.1 hv
  have hA : ∀ (l : Array Value) (k : Nat), (∀ u ∈ l, u = z8) → k < l.size → l[k]! = z8 := fun l k ha hk => by rw [getElem!_pos l k hk]; exact ha _ (Array.getElem_mem hk)
  have hz : (sec 0).toArray.size = 64 := by rw [List.size_toArray, sec_len]
  refine hA _ _ (fun u hu => ?_) (by rw [hz]; omega)
  rw [List.mem_toArray, sec_zero] at hu
  exact List.eq_of_mem_replicate hu
theorem zeroc_zero (n : Nat) : (Builtin.zeroCells (sec 0).toArray n).toList = secs (List.replicate n 0) := by
  have h := made_zero n
  unfold madeCells at h
  rw [← h]
  unfold Builtin.zeroCells
  rw [List.size_toArray, sec_len]

theorem disk_info : (Tryd.prog.info? 56).map (fun i => (i.zero, i.size)) = some (some (.agg #[.slice none 0 0, .map none, .bool false, .int .i64 0, .bool false]), 5) := by kernel_rfl

set_option maxHeartbeats 1000000 in
theorem pnew_no (n : Int) (w : World) (h : n < 1 ∨ 8192 < n) :
    Calls Tryd.prog 5 #[.int .i64 n] w fun e w' => e = .returned (.tuple #[.pointer none, .int .i64 2]) ∧ w = w' := by
  by_cases h1 : n < 1
  · clear h
    go_enter Tryd.func5, Tryd.ntmps5
    go_wp2
    go_ret2
    exact ⟨rfl, rfl⟩
  · have h2 : 8192 < n := by omega
    clear h
    go_enter Tryd.func5, Tryd.ntmps5
    go_wp2
    go_ret2
    exact ⟨rfl, rfl⟩

theorem has_empty (kl : Lit) : Maps.has (.map [] : DataW Value) kl = false := rfl
theorem atKey_empty (kl : Lit) (z : DataW Value) : (DataW.map [] : DataW Value).atKey kl z = z := Maps.atKey_of_not_has (has_empty kl) z
/-- a map of no entries -/
theorem PMap.empty {w : World} {m n : Nat} {s : List (List SB)} (h : w.ownsMap Tryd.prog 3 rawE m n (.map [])) (hs : ∀ i (h : i < s.length), s[i].length = 1) (hn : n ≤ s.length) : PMap w m s (.map []) (fun _ => nilS) where
  own := h.mono hn
  dom := fun kl hk => by rw [has_empty] at hk; cases hk
  has_ := fun i hi => by rw [has_empty, hs i hi]; rfl
  at_ := fun i _ => atKey_empty _ _
  pos := fun i hi => by rw [hs i hi]; omega
  row := fun i hi => by
    have h1 := hs i hi
    have ht : s[i].tail = [] := List.eq_nil_of_length_eq_zero (by rw [List.length_tail, h1])
    rw [h1, ht]
    exact World.ownsRow_nil _ _ _ _
  apart := fun i j _ _ _ k hk => by cases hk

theorem newD_head (n : Nat) : (newD n).s.map (·.headD 0) = List.replicate n 0 := by simp [newD]
theorem new_disk {w w1 : World} {n : Nat} (hown : w1.ownsRow 0 64 64 (.slice (some ⟨w.heap.size, 0, none⟩) n n) n (secs (List.replicate n 0))) (hg : w.grownBy w1 none) (hn : 1 ≤ n ∧ n ≤ 8192) :
    ∃ F, PD ((w1.alloc (.map #[] 0)).alloc (.cells #[.slice (some ⟨w.heap.size, 0, none⟩) n n, .map (some w1.heap.size), .bool false, .int .i64 0, .bool false] 56)) F (w1.heap.size + 1) (newD n) ∧ (∀ k, F k → w.heap.size ≤ k) ∧
      Below w.heap.size w ((w1.alloc (.map #[] 0)).alloc (.cells #[.slice (some ⟨w.heap.size, 0, none⟩) n n, .map (some w1.heap.size), .bool false, .int .i64 0, .bool false] 56)) := by
  have hl : (newD n).s.length = n := by simp [newD]
  have hsz := hg.size
  refine ⟨foot (w1.heap.size + 1) w1.heap.size (.slice (some ⟨w.heap.size, 0, none⟩) n n) (fun _ => nilS) n, ⟨_, w1.heap.size, .map [], fun _ => nilS, ⟨?_, ?_, ?_, ?_, ?_, ?_, ?_⟩, fun k => by rw [hl]⟩, ?_, ?_⟩
  · exact heap_alloc2_new w1 _ _
  · rw [newD_head]
    have h2 := (hown.alloc (.map #[] 0)).alloc (.cells #[.slice (some ⟨w.heap.size, 0, none⟩) n n, .map (some w1.heap.size), .bool false, .int .i64 0, .bool false] 56)
    refine LRow.of_own ?_ (by simp; omega)
    rw [List.length_replicate]
    exact h2
  · have hm := (World.ownsMap_made w1 Tryd.prog 3 rawE).alloc (.cells #[.slice (some ⟨w.heap.size, 0, none⟩) n n, .map (some w1.heap.size), .bool false, .int .i64 0, .bool false] 56)
    exact PMap.empty hm (fun i hi => by simp [newD]) (Nat.zero_le _)
  · intro i _ k hk; cases hk
  · rw [hl]; omega
  · rw [hl]; omega
  · show (-1 : Int) ≤ -1 ∧ (-1 : Int) ≤ _; omega
  · rintro k (rfl | rfl | hk | ⟨i, _, hk⟩)
    · omega
    · omega
    · injection hk with hk
      have hk' : w.heap.size = k := hk
      omega
    · cases hk
  · exact (((Below.refl w.heap.size w).grown hg (Nat.le_refl _) (fun k hk => by cases hk)).alloc hsz _).alloc (by simp; omega) _

set_option maxHeartbeats 2000000 in
theorem pnew_any (n : Nat) (w : World) (h : 1 ≤ n ∧ n ≤ 8192) :
    Calls Tryd.prog 5 #[.int .i64 n] w fun e w' => ∃ b F, e = .returned (.tuple #[.pointer (some ⟨b, 0, none⟩), .int .i64 0]) ∧ PD w' F b (newD n) ∧ (∀ k, F k → w.heap.size ≤ k) ∧ Below w.heap.size w w' := by
  obtain ⟨i0, hi, hz0, hz1, hz2⟩ := info_parts sector_info
  have hmm := @run_makeMap Tryd.prog
  have hlt : decide ((8192 : Int) < (n : Int)) = false := by simp; omega
  have hlt1 : decide ((n : Int) < 1) = false := by simp; omega
  go_enter Tryd.func5, Tryd.ntmps5
  go_wp2_with (first
    | (at_make; refine wpList_make_full _ rfl (.tmp 10) (.tmp 10) 51 rfl 0 64 i0 (.agg (sec 0).toArray) 64 Tryd.underlying51 hi hz0 hz1 .i64 .i64 _ _ n rfl rfl rfl rfl (by rw [hz2]; omega) (by unfold maxLen; omega) (Nat.zero_le _) ?_; intro w1 hown hgrow)
    | fail)
  go_ret2
  have hown2 : w1.ownsRow 0 64 64 (.slice (some ⟨w.heap.size, 0, none⟩) n n) n (secs (List.replicate n 0)) := by rw [← made_zero]; exact hown
  obtain ⟨F, h1, h2, h3⟩ := new_disk hown2 hgrow h
  exact ⟨_, F, rfl, h1, h2, h3⟩

set_option maxHeartbeats 1000000 in
theorem pfuse_no (w : World) (b m : Nat) (L : Value) (D : DataW Value) (X : Nat → Value) (d : RD) (h : PDisk w b L m D X d) (n : Int) (hn : n < 0) :
    Calls Tryd.prog 8 #[.pointer (some ⟨b, 0, none⟩), .int .i64 n] w fun e w' => e = .returned (.int .i64 2) ∧ w = w' := by
  have HN := Lib.hid (none_any w b m L D X d h)
  clear h
  go_enter Tryd.func8, Tryd.ntmps8
  go_wp2_with (go_at_call 19; refine HN.out.mono ?_; rintro e w' ⟨rfl, rfl⟩)
  go_ret
  exact ⟨rfl, rfl⟩
set_option maxHeartbeats 1000000 in
theorem pfuse_any (w : World) (b m : Nat) (L : Value) (D : DataW Value) (X : Nat → Value) (d : RD) (h : PDisk w b L m D X d) (n : Int) (hn : 0 ≤ n) (hn2 : n ≤ 9223372036854775807) :
    Calls Tryd.prog 8 #[.pointer (some ⟨b, 0, none⟩), .int .i64 n] w fun e w' => e = .returned (.int .i64 0) ∧ PDisk w' b L m D X (fuseD d n) ∧ Stays w w' (· = b) := by
  have HN := Lib.hid (none_any w b m L D X d h)
  have c2 := h.c2
  have c3 := h.c3
  have f2 := h.fr 2
  have f3 := h.fr 3
  have t1 : decide (n < 0) = false := by simp; omega
  have h3 : PDisk ((w.setCell ⟨b, 2, none⟩ (.bool true)).setCell ⟨b, 3, none⟩ (.int .i64 n)) b L m D X (fuseD d n) := by
    have hb : ∀ k, k ≠ b → ((w.setCell ⟨b, 2, none⟩ (.bool true)).setCell ⟨b, 3, none⟩ (.int .i64 n)).heap[k]? = w.heap[k]? := fun k hk => by
      rw [Below.heap_setCell _ _ _ _ hk, Below.heap_setCell _ _ _ _ hk]
    have e1 := Joins.block_setCell h.disk (i := 2) (.bool true)
    have e2 := Joins.block_setCell e1 (i := 3) (.int .i64 n)
    refine ⟨?_, h.last.on (fun k hk => hb k (fun e => h.b_last (by rw [hk, e]))), h.map.on (hb m h.b_m) (fun j hj k hk => hb k (fun e => h.b_row (h.map.row j hj) (by rw [hk, e]))), h.off, h.n0, h.n1, by show -1 ≤ n ∧ n ≤ _; omega⟩
    rw [e2]
    have q1 : decide (0 ≤ n) = true := by simpa using hn
    have q2 : leftN n = n := by unfold leftN; rw [if_pos hn]
    show some _ = some (Obj.cells #[L, .map (some m), .bool (decide (0 ≤ n)), .int .i64 (leftN n), .bool d.dead] _ _)
    rw [q1, q2]
    rfl
  have hS : Stays w ((w.setCell ⟨b, 2, none⟩ (.bool true)).setCell ⟨b, 3, none⟩ (.int .i64 n)) (· = b) := ((Stays.refl w (· = b)).set ⟨b, 2, none⟩ (.inl rfl) _).set ⟨b, 3, none⟩ (.inl rfl) _
  have H3 := Lib.hid h3
  have HS := Lib.hid hS
  clear h h3 hS
  go_enter Tryd.func8, Tryd.ntmps8
  go_wp2_with (go_at_call 19; refine HN.out.mono ?_; rintro e w' ⟨rfl, rfl⟩)
  go_ret
  exact ⟨rfl, H3.out, HS.out⟩
end Go.Proofs.YtmfcbndgambfmaaDoor.Q
