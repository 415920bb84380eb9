/- The document's disk: New, Open. -/
import Derived.Test.YtdcfplfeagpcdaaDd
namespace Go.Proofs.Ytdcfplfeagpcdaa
open Go.RowKit

def newD (n : Nat) : RD := ⟨List.replicate n [0], -1, false⟩

set_option maxHeartbeats 1000000 in
theorem new_no (n : Int) (w : World) (h : n < 1 ∨ 8192 < n) :
    Calls Try.prog 28 #[.int .i64 n] w fun e w' => e = .returned (.tuple #[.pointer none, .int .i64 2]) ∧ w' = w := by
  by_cases h1 : n < 1
  · clear h
    go_enter Try.func28, Try.ntmps28
    go_wp2
    go_ret2
    exact ⟨rfl, rfl⟩
  · have h2 : 8192 < n := by omega
    clear h
    go_enter Try.func28, Try.ntmps28
    go_wp2
    go_ret2
    exact ⟨rfl, rfl⟩

set_option maxHeartbeats 1000000 in
theorem new_any (n : Nat) (w : World) (h : 1 ≤ n ∧ n ≤ 8192) :
    Calls Try.prog 28 #[.int .i64 n] w fun e w' => e = .returned (.tuple #[.pointer (some ⟨w.heap.size, 0, none⟩), .int .i64 0]) ∧ (∃ v, RDisk w' w.heap.size w.heap.size v (newD n)) ∧ Below w.heap.size w w' := by
  have hd0 : RDisk (w.alloc (.cells #[.slice none 0 0, .int .i64 (-1), .bool false] 47)) w.heap.size w.heap.size (.slice none 0 0) ⟨[], -1, false⟩ :=
    ⟨Nat.le_refl _, heap_alloc_new w _, [], ⟨rfl, .inl ⟨rfl, rfl⟩⟩, rfl, fun i hi => absurd hi (by simp)⟩
  have hb0 := (Below.refl w.heap.size w).alloc (Nat.le_refl _) (.cells #[.slice none 0 0, .int .i64 (-1), .bool false] 47)
  have HM := Lib.hid (more_any _ _ _ _ _ hd0 n (by omega) (by simp))
  have hlt : decide ((8192 : Int) < (n : Int)) = false := by simp; omega
  have hlt1 : decide ((n : Int) < 1) = false := by simp; omega
  go_enter Try.func28, Try.ntmps28
  go_wp2_with (go_at_call 41; refine HM.out.mono ?_; rintro e w1 ⟨rfl, v1, hr1, hO1, hv1, hk1⟩)
  go_ret2
  refine ⟨rfl, ⟨v1, ?_⟩, hb0.trans (hO1.below (by simp) (Nat.le_refl _) (by simp [Value.ownBlock]))⟩
  have e : moreD ⟨[], -1, false⟩ (n - 0) = newD n := by simp [moreD, newD]
  rw [← e]
  exact hr1

/-- the sectors that are open -/
def openN (d : RD) (i : Nat) : List Nat := (List.range i).filter fun k => 1 < (d.s.getD k []).length
def openL (d : RD) : List Nat := openN d d.s.length
theorem openN_yes (d : RD) (i : Nat) (h : 1 < (d.s.getD i []).length) : openN d (i + 1) = openN d i ++ [i] := by
  unfold openN
  rw [List.range_succ, List.filter_append, List.filter_cons_of_pos (by simp only [decide_eq_true_eq]; exact h)]
  rfl
theorem openN_no (d : RD) (i : Nat) (h : ¬ 1 < (d.s.getD i []).length) : openN d (i + 1) = openN d i := by
  unfold openN
  rw [List.range_succ, List.filter_append, List.filter_cons_of_neg (by simp only [decide_eq_true_eq]; exact h)]
  simp
theorem openN_le (d : RD) (i : Nat) : (openN d i).length ≤ i := by
  have := List.length_filter_le (fun k => decide (1 < (d.s.getD k []).length)) (List.range i)
  simpa [openN] using this
def ints (l : List Nat) : List Value := l.map fun k : Nat => Value.int .i64 (k : Int)
theorem int_info : (Try.prog.info? 3).map (fun i => (i.zero, i.size, i.bytes)) = some (some (.int .i64 0), 1, 8) := by kernel_rfl

set_option maxHeartbeats 2000000 in
theorem ropen_any (w : World) (base b : Nat) (v : Value) (d : RD) (h : RDisk w base b v d) (hn : d.s.length ≤ 100000) :
    Calls Try.prog 9 #[.pointer (some ⟨b, 0, none⟩)] w fun e w' => ∃ u, e = .returned u ∧ w'.ownsRow w.heap.size 3 1 u (openL d).length (ints (openL d)) ∧ Below w.heap.size w w' := by
  obtain ⟨i0, hi, hz0, hz1, hz2⟩ := info_parts int_info
  have H := Lib.hid h
  clear h
  go_enter Try.func9, Try.ntmps9
  go_wp2
  go_loopw [3, 4] (fun u j wr => ∃ i : Nat, i ≤ d.s.length ∧ j = .int .i64 (i : Int) ∧ wr.ownsRow w.heap.size 3 1 u (openN d i).length (ints (openN d i)) ∧ Below w.heap.size w wr) (fun _ j _ => d.s.length - (intOf j).toNat)
  case atStart => exact ⟨0, Nat.zero_le _, rfl, ⟨rfl, .inl ⟨rfl, rfl⟩⟩, Below.refl _ _⟩
  case round =>
    obtain ⟨i, hil, rfl, hown, hbr⟩ := hrel
    have hr := H.out.on hbr
    have c0 := hr.c0
    have hsz := hbr.size
    have hol := openN_le d i
    obtain ⟨A', c', hv'⟩ := hr.form
    subst hv'
    by_cases hlt : i < d.s.length
    · obtain ⟨g, cap, gi, ci, hv, hc, hg, hcell, _, h1, h2, hox⟩ := hr.at_ i hlt
      injection hv with e1 e2 e3
      subst e1
      subst e3
      have hge : d.s.getD i [] = d.s[i] := by simp [List.getD, hlt]
      by_cases h1l : 1 < d.s[i].length
      · have HN := Lib.hid (openN_yes d i (by rw [hge]; exact h1l))
        have ht : decide ((1 : Int) < (d.s[i].length : Int)) = true := by simp; omega
        clear hge hox hr
        generalize d.s[i].length = L at *
        go_wp2_with (first
          | (at_builtin; refine wpList_append_shows _ rfl (.tmp 24) (.tmp 26) 23 rfl w.heap.size 3 i0 (.int .i64 0) 8 Try.underlying23 hi hz0 hz1 hz2 rfl _ _ _ rfl (hown.alloc _) (wr.heap.size + 1) _ 1 1 [.int .i64 (i : Int)] rfl (shows_new wr _ _) (by simp [Value.oneCell']) (by unfold maxLen; omega) (by omega) (by simp; omega) ?_; intro v3 w4 ho4 hg4; replace hg4 : Grew _ w4 u3 v3 := hg4)
          | fail)
        go_roundw
        case rel =>
          refine ⟨i + 1, hlt, by go_num, ?_, hbr.trans (((Below.refl wr.heap.size wr).alloc (Nat.le_refl _) _).mono hsz |>.trans (hg4.below (hown.alloc _) (Nat.le_refl _) (by simp; omega)))⟩
          rw [HN.out, List.length_append]
          simpa [ints] using ho4
        case measure => simp [intOf]; omega
      · have HN := Lib.hid (openN_no d i (by rw [hge]; exact h1l))
        have ht : decide ((1 : Int) < (d.s[i].length : Int)) = false := by simp; omega
        clear hge hox hr
        generalize d.s[i].length = L at *
        go_wp2
        go_roundw
        case rel => exact ⟨i + 1, hlt, by go_num, by rw [HN.out]; exact hown, hbr⟩
        case measure => simp [intOf]; omega
    · obtain rfl : i = d.s.length := by omega
      go_wp2
      go_ret
      exact ⟨_, rfl, hown, hbr⟩
end Go.Proofs.Ytdcfplfeagpcdaa
