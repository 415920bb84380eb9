/- The document's page. -/
import Derived.Test.YtojbajbghldoeaaPc
import Derived.Deep.OwnRows
set_option linter.unusedVariables false
namespace Go.Proofs.Ytojbajbghldoeaa
open Go.RowKit

/-- so many counts of a page, noughts behind -/
def toL (y : List Nat) (i : Nat) : List Nat := y.take i ++ List.replicate (120 - i) 0
theorem toL_zero (y : List Nat) : toL y 0 = none16 := by simp [toL, none16]
theorem toL_all (y : List Nat) (h : y.length = 120) : toL y 120 = y := by simp [toL, List.take_of_length_le (show y.length ≤ 120 by omega)]
theorem toL_length (y : List Nat) (h : y.length = 120) (i : Nat) (hi : i ≤ 120) : (toL y i).length = 120 := by simp [toL]; omega
theorem toL_set (y : List Nat) (h : y.length = 120) (i : Nat) (hi : i < 120) : (toL y i).set i (y.getD i 0) = toL y (i + 1) := by
  have e : List.replicate (120 - i) 0 = 0 :: List.replicate (120 - (i + 1)) 0 := by
    rw [show 120 - i = (120 - (i + 1)) + 1 by omega, List.replicate_succ]
  have hl : (y.take i).length = i := by simp; omega
  have hy : y.getD i 0 = y[i]'(by omega) := by simp [List.getD, show i < y.length by omega]
  rw [toL, e, List.set_append_right _ _ (by omega), hl, Nat.sub_self, List.set_cons_zero, toL, List.take_succ_eq_append_getElem (by omega), List.append_assoc, hy]
  rfl
theorem toL_same (y : List Nat) (h : y.length = 120) (i : Nat) (hi : i < 120) (h0 : y.getD i 0 = 0) : toL y (i + 1) = toL y i := by
  rw [← toL_set y h i hi, h0]
  refine getD_ext (by simp) fun j hj => ?_
  by_cases hji : j = i
  · subst hji
    have hl : (y.take j).length = j := by simp; omega
    have : (toL y j).getD j 0 = 0 := by
      rw [toL, List.getD, List.getElem?_append_right (by omega), hl, Nat.sub_self, show 120 - j = (120 - (j + 1)) + 1 by omega, List.replicate_succ]; rfl
    rw [this]
    simp only [List.getD, List.getElem?_set, if_true]
    split <;> rfl
  · simp only [List.getD, List.getElem?_set]
    rw [if_neg (fun e => hji e.symm)]
theorem u16_info : (Try.prog.info? 31).map (fun i => (i.zero, i.size, i.bytes)) = some (some (.int .u16 0), 1, 2) := by kernel_rfl
theorem made_nums (n : Nat) : madeCells #[.int .u16 0] n = (nums16 (List.replicate n 0)).toArray := by
  apply Array.ext
  · simp [madeCells, nums16]
  · intro i h1 h2
    simp [madeCells, nums16, Nat.mod_one]
theorem make_nums (w : World) : (Instr.makeSlice 22 (.int .i64 120) (.int .i64 120)).run Try.prog w = .ok (.slice (some ⟨w.heap.size, 0, none⟩) 120 120) (w.alloc (.cells (nums16 none16).toArray 31)) := by
  have := run_make_row' (P := Try.prog) 22 31 (.int .u16 0) 2 Try.underlying22 u16_info rfl .i64 .i64 120 (by omega) (by omega) w
  rw [made_nums] at this
  exact this
theorem partL_get (l : List Nat) (ix : Int) (i : Nat) (h : i < 120) : (partL l ix).getD i 0 = if ix < 0 then 0 else l.getD (ix.toNat * 120 + i) 0 := by
  unfold partL
  split
  · rw [List.getD, List.getElem?_replicate, if_pos h]; rfl
  · exact rowL_get l _ _ i h
set_option maxRecDepth 20000 in
set_option maxHeartbeats 2000000 in
theorem rpart_any (w : World) (A : Option Addr) (l : List Nat) (cap : Nat) (h1010 : l.length ≤ 1010) (hs : Shows w w.heap.size A l.length (nums16 l)) (ix : Int) :
    Calls Try.prog 8 #[.slice A l.length cap, .int .i64 ix] w fun e w' => e = .returned (.slice (some ⟨w.heap.size, 0, none⟩) 120 120) ∧ Shows w' w'.heap.size (some ⟨w.heap.size, 0, none⟩) 120 (nums16 (partL l ix)) ∧ Below w.heap.size w w' := by
  have HS := Lib.hid hs
  have hmk := make_nums w
  have hpl := partL_length l ix
  have hg := fun i => partL_get l ix i
  have H0 : Hid (Holds16 (w.alloc (.cells (nums16 none16).toArray 31)) w.heap.size 31 (toL (partL l ix) 0)) := by
    rw [toL_zero]; exact Holds16.new w _ none16
  have HB0 := Lib.hid ((Below.refl w.heap.size w).alloc (Nat.le_refl _) (.cells (nums16 none16).toArray 31))
  have HT := Lib.hid (toL_all (partL l ix) hpl)
  have HTS := Lib.hid (fun i hi => toL_set (partL l ix) hpl i hi)
  have HTZ := Lib.hid (fun i hi h0 => toL_same (partL l ix) hpl i hi h0)
  have HTL := Lib.hid (toL_length (partL l ix) hpl)
  have HPL := Lib.hid hpl
  have HG := Lib.hid hg
  clear hs hpl hg
  generalize none16 = z at *
  go_enter Try.func8, Try.ntmps8
  go_wp2
  go_loopw [6] (fun j wr => ∃ i : Nat, i ≤ 120 ∧ j = .int .i64 (i : Int) ∧ Hid (Holds16 wr w.heap.size 31 (toL (partL l ix) i) ∧ Below w.heap.size w wr)) (fun j _ => 120 - (intOf j).toNat)
  case atStart => exact ⟨0, by omega, rfl, H0.out, HB0.out⟩
  case round =>
    obtain ⟨i, hi, rfl, HR⟩ := hrel
    clear H0 HB0 hmk
    by_cases hlt : i < 120
    · have hltI : (i : Int) < 120 := by omega
      have hgi := HG.out i hlt
      by_cases hin : 0 ≤ ix ∧ ix < 100 ∧ ix * 120 + (i : Int) < (l.length : Int)
      · obtain ⟨k, rfl⟩ := Int.eq_ofNat_of_zero_le hin.1
        have hk : k ≤ 8 := by omega
        have hk100 : (k : Int) < 100 := by omega
        have hin3 : (k : Int) * 120 + (i : Int) < (l.length : Int) := hin.2.2
        rw [if_neg (by omega), Int.toNat_natCast] at hgi
        obtain ⟨p, rfl, hp, hck⟩ := (HS.out.below HR.out.2).num16 (k * 120 + i) (by omega)
        rw [← hgi] at hck
        have hst := HR.out.1.set i ((partL l (k : Int)).getD i 0)
        rw [HTS.out i hlt] at hst
        have hfr := HR.out.1.frozen i
        obtain ⟨q, hcq⟩ : ∃ q, wr.cell? ⟨w.heap.size, i, none⟩ = some q := ⟨_, HR.out.1.cell i (by rw [HTL.out i hi]; exact hlt)⟩
        have HST : Hid (Holds16 (wr.setCell ⟨w.heap.size, i, none⟩ (.int .u16 (((partL l (k : Int)).getD i 0 : Nat) : Int))) w.heap.size 31 (toL (partL l (k : Int)) (i + 1)) ∧ Below w.heap.size w (wr.setCell ⟨w.heap.size, i, none⟩ (.int .u16 (((partL l (k : Int)).getD i 0 : Nat) : Int)))) := ⟨hst, HR.out.2.setCell (Nat.le_refl _) _⟩
        clear hst hgi hin HR
        generalize (partL l (k : Int)).getD i 0 = x at hck HST
        go_wp2
        go_roundw
        case rel => exact ⟨i + 1, by omega, by go_num, HST⟩
        case measure => simp [intOf]; omega
      · have hz : (partL l ix).getD i 0 = 0 := by
          rw [hgi]
          split
          · rfl
          · simp [List.getD, show ¬ ix.toNat * 120 + i < l.length by omega]
        have hsm := HTZ.out i hlt hz
        have HSM : Hid (Holds16 wr w.heap.size 31 (toL (partL l ix) (i + 1)) ∧ Below w.heap.size w wr) := by rw [hsm]; exact HR.out
        clear hz hsm hgi HR
        by_cases h1 : ix < 0
        · clear hin
          go_wp2
          go_roundw
          case rel => exact ⟨i + 1, by omega, by go_num, HSM⟩
          case measure => simp [intOf]; omega
        · have h1' : 0 ≤ ix := by omega
          by_cases h2 : ix < 100
          · have h3 : ¬ ix * 120 + (i : Int) < (l.length : Int) := fun h => hin ⟨h1', h2, h⟩
            clear hin h1
            go_wp2
            go_roundw
            case rel => exact ⟨i + 1, by omega, by go_num, HSM⟩
            case measure => simp [intOf]; omega
          · clear hin h1
            go_wp2
            go_roundw
            case rel => exact ⟨i + 1, by omega, by go_num, HSM⟩
            case measure => simp [intOf]; omega
    · obtain rfl : i = 120 := by omega
      have hltI : ¬ (120 : Int) < (120 : Int) := by omega
      have hr := HR.out.1
      rw [HT.out] at hr
      have hsh := hr.shows
      rw [HPL.out] at hsh
      have HSH := Lib.hid hsh
      have HB := Lib.hid HR.out.2
      clear hr hsh HR
      go_wp2
      go_ret
      exact ⟨rfl, HSH.out, HB.out⟩
end Go.Proofs.Ytojbajbghldoeaa
