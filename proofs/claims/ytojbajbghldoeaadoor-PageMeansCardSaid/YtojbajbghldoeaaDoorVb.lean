/- page's lay and countIn. -/
import Derived.Test.YtojbajbghldoeaaDoorVa
import Derived.Test.YtojbajbghldoeaaDoorBe
import Derived.Test.YtojbajbghldoeaaDoorBg
import Derived.Test.YtojbajbghldoeaaDoorBk
import Derived.Lib.BufferWrite
set_option linter.unusedVariables false
namespace Go.Proofs.YtojbajbghldoeaaDoor
open Go.RowKit

/-- counts, as they lie -/
def nums16 (l : List Nat) : List Value := l.map fun n : Nat => .int .u16 (n : Int)
theorem nums16_length (l : List Nat) : (nums16 l).length = l.length := by simp [nums16]
theorem nums16_get (l : List Nat) (i : Nat) (h : i < l.length) : (nums16 l)[i]? = some (.int .u16 ((l.getD i 0 : Nat) : Int)) := by
  simp [nums16, h]
theorem Shows.num16 {w : World} {B : Nat} {A : Option Addr} {l : List Nat} (h : Shows w B A l.length (nums16 l)) (i : Nat) (hi : i < l.length) : ∃ p : Addr, A = some p ∧ p.block < B ∧ w.cell? (p.add i) = some (.int .u16 ((l.getD i 0 : Nat) : Int)) := by
  obtain ⟨p, u, h1, h2, h3, h4⟩ := h.cell hi
  rw [nums16_get l i hi] at h3
  exact ⟨p, h1, h2, by rw [h4, ← h3]⟩

set_option maxHeartbeats 1000000 in
theorem vlay_any (w : World) (bb c : Nat) (T : TypeId) (pre post mid : List UInt8) (n : Nat) (h8 : mid.length ≤ 4) (hb : Holds8 w bb T (pre ++ (mid ++ post))) :
    Calls Tryd.prog 70 #[.slice (some ⟨bb, pre.length, none⟩) mid.length c, .int .u32 n] w fun e w' => e = .returned (.tuple #[]) ∧ Holds8 w' bb T (pre ++ (leN mid.length n ++ post)) ∧ Apart2 w w' bb bb := by
  go_enter Tryd.func70, Tryd.ntmps70
  go_wp2
  go_loopw [7, 4] (fun j x wr => ∃ i : Nat, i ≤ mid.length ∧ j = .int .i64 (i : Int) ∧ Holds8 wr bb T (pre ++ (leN i n ++ (mid.drop i ++ post))) ∧ Apart2 w wr bb bb) (fun j _ _ => mid.length - (intOf j).toNat)
  case atStart => exact ⟨0, Nat.zero_le _, rfl, by simpa [leN] using hb, Apart2.refl _ _ _⟩
  case round =>
    obtain ⟨i, hi, rfl, H0, H2⟩ := hrel
    by_cases hlt : i < mid.length
    · have hltI : (i : Int) < (mid.length : Int) := by omega
      have hlen : pre.length + i < (pre ++ (leN i n ++ (mid.drop i ++ post))).length := by simp [leN_length]; omega
      have hfz := H0.frozen (pre.length + i)
      obtain ⟨u0, hc0⟩ : ∃ u, wr.cell? ⟨bb, pre.length + i, none⟩ = some u := ⟨_, H0.cell (pre.length + i) hlen⟩
      have HS := Lib.hid (H0.set (pre.length + i) (UInt8.ofNat (n / 256 ^ i)))
      rw [set_mid _ _ _ _ _ _ (leN_length i n) hlt, ← leN_snoc] at HS
      clear H0 hb hlen
      go_wp2
      rw [shr_val]
      go_roundw
      case rel => exact ⟨i + 1, hlt, by go_num, HS.out, H2.setCell _ _ (.inl rfl)⟩
      case measure => simp [intOf]; omega
    · obtain rfl : i = mid.length := by omega
      have hltI : ¬ (mid.length : Int) < (mid.length : Int) := by omega
      have HS := Lib.hid H0
      clear H0 hb
      go_wp2
      go_end0
      rw [List.drop_length] at HS
      exact ⟨rfl, by simpa using HS.out, H2⟩

theorem slice_cnt (bb p : Nat) (h : p ≤ 254) (w : World) : (Instr.sliceAt 29 (.pointer (some ⟨bb, 0, none⟩)) (some (.int .i64 (p : Int))) (some (.int .i64 ((p : Int) + 2))) (some (.int .i64 ((p : Int) + 2)))).run Tryd.prog w = .ok (.slice (some ⟨bb, p, none⟩) 2 2) w := by
  have hl : Tryd.prog.arrayLen 29 = 256 := by kernel_rfl
  have hE : Tryd.prog.elem 29 = 5 := by kernel_rfl
  have h1 : ∀ w, (sizeOf 5).run Tryd.prog w = .ok 1 w := fun w => by kernel_rfl
  rw [run_sliceAt_array_lhm (P := Tryd.prog) w 29 ⟨bb, 0, none⟩ (by rw [hl, hE]; exact Tryd.underlying29) .i64 .i64 .i64 (p : Int) ((p : Int) + 2) ((p : Int) + 2) (by omega) (by omega) (by omega) (by rw [hl]; omega), hE, h1]
  have e1 : ((p : Int) + 2).toNat = p + 2 := by omega
  have e2 : ((p : Int)).toNat = p := by omega
  have e3 : (⟨bb, 0, none⟩ : Addr).add p = ⟨bb, p, none⟩ := by unfold Addr.add; split <;> simp_all
  simp only [Result.andThen_ok, slicedAt, e1, e2, Nat.mul_one, e3]
  rw [if_neg (by omega), show p + 2 - p = 2 by omega]
set_option maxRecDepth 20000 in
theorem vcount_any (w : World) (bb i : Nat) (h : i < 120) :
    Calls Tryd.prog 71 #[.pointer (some ⟨bb, 0, none⟩), .int .i64 (i : Int)] w fun e w' => e = .returned (.slice (some ⟨bb, 16 + 2 * i, none⟩) 2 2) ∧ w' = w := by
  have hs : ∀ W : World, (Instr.sliceAt 29 (.pointer (some ⟨bb, 0, none⟩)) (some (.int .i64 (16 + (i : Int) * 2))) (some (.int .i64 (16 + (i : Int) * 2 + 2))) (some (.int .i64 (16 + (i : Int) * 2 + 2)))).run Tryd.prog W = .ok (.slice (some ⟨bb, 16 + 2 * i, none⟩) 2 2) W := fun W => by
    have e1 : 16 + (i : Int) * 2 = ((16 + 2 * i : Nat) : Int) := by omega
    rw [e1]
    exact slice_cnt bb (16 + 2 * i) (by omega) W
  go_enter Tryd.func71, Tryd.ntmps71
  go_wp2
  go_ret
  exact ⟨rfl, rfl⟩
end Go.Proofs.YtojbajbghldoeaaDoor
