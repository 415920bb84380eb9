/- The walk of the laws' bound 'much'. -/
import Derived.Test.YthjbchdpnlenjaaAll
namespace Go.Proofs.Ythjbchdpnlenjaa
open Go.RowKit

def muchB (s : ByteArray) (vals : List LVal) : Bool := (vals.take 41).any (fun v => decide (3000 < v.b.length)) || decide (40 < s.size) || decide (40 < vals.length)
theorem muchB_at (s : ByteArray) (vals : List LVal) (i : Nat) (h : i < vals.length) (hi : i ≤ 40) (hb : 3000 < vals[i].b.length) : muchB s vals = true := by
  have : (vals.take 41).any (fun v => decide (3000 < v.b.length)) = true := by
    rw [List.any_eq_true]
    refine ⟨vals[i], ?_, by simpa using hb⟩
    rw [List.mem_iff_getElem]
    exact ⟨i, by rw [List.length_take]; omega, by rw [List.getElem_take]⟩
  rw [muchB, this]
  rfl
theorem muchB_end (s : ByteArray) (vals : List LVal) (i : Nat) (hi : i = vals.length ∨ i = 41) (h : (vals.take i).any (fun v => decide (3000 < v.b.length)) = false) : muchB s vals = (decide (40 < s.size) || decide (40 < vals.length)) := by
  have : (vals.take 41).any (fun v => decide (3000 < v.b.length)) = false := by
    rcases hi with rfl | rfl
    · rw [List.take_length] at h
      rw [List.any_eq_false] at h ⊢
      exact fun v hv => h v (List.mem_of_mem_take hv)
    · exact h
  rw [muchB, this]
  rfl
theorem muchB_no {s : ByteArray} {vals : List LVal} (h : muchB s vals = false) : s.size ≤ 40 ∧ vals.length ≤ 40 ∧ ∀ v ∈ vals, v.b.length ≤ 3000 := by
  simp only [muchB, Bool.or_eq_false_iff, decide_eq_false_iff_not] at h
  obtain ⟨⟨h1, h2⟩, h3⟩ := h
  refine ⟨by omega, by omega, fun v hv => ?_⟩
  rw [List.take_of_length_le (by omega), List.any_eq_false] at h1
  have := h1 v hv
  simp at this
  omega

set_option maxHeartbeats 2000000 in
theorem much_any (s : ByteArray) (A : Option Addr) (cap : Nat) (vals : List LVal) (w : World) (B : Nat) (hv : VRow w B A vals) (hs : s.size ≤ maxLen) (hn : vals.length ≤ 9223372036854775807) :
    Calls Try.prog 10 #[.string s, .slice A vals.length cap] w fun e w' => e = .returned (.bool (muchB s vals)) ∧ w = w' := by
  unfold maxLen at hs
  go_enter Try.func10, Try.ntmps10
  go_wp2
  go_loop [5] (fun j => ∃ i : Nat, i ≤ vals.length ∧ i ≤ 41 ∧ j = .int .i64 (i : Int) ∧ Hid ((vals.take i).any (fun v => decide (3000 < v.b.length)) = false)) (fun j => vals.length - (intOf j).toNat)
  case atStart => exact ⟨0, Nat.zero_le _, Nat.zero_le _, rfl, rfl⟩
  case round =>
    obtain ⟨i, hp, hq, rfl, HA⟩ := hrel
    by_cases hlt : i < vals.length
    · by_cases h40 : i ≤ 40
      · obtain ⟨p, hA, hpb, hx⟩ := hv (by omega)
        subst hA
        obtain ⟨cs, ⟨AB, capB, rfl, hxl, hnl, hsb, hcb, hcmb⟩, hcell⟩ := hx i hlt
        have hc3 : w.cell? ⟨(p.add (i * 260)).block, (p.add (i * 260)).off + 3, none⟩ = some (.slice AB vals[i].b.length capB) := by
          rw [← add_pos (p.add (i * 260)) 3 (by omega), addr_twice]
          exact hcell 3 _ rfl
        have hbl : vals[i].b.length ≤ 9223372036854775807 := by omega
        clear hx hcell hsb
        by_cases hb : 3000 < vals[i].b.length
        · have HR := Lib.hid (muchB_at s vals i hlt h40 hb)
          generalize vals[i].b.length = bl at *
          go_wp2_with fail
          go_ret
          rw [HR.out]
          exact ⟨rfl, rfl⟩
        · have HB := Lib.hid (show (vals.take (i + 1)).any (fun v => decide (3000 < v.b.length)) = false by
            rw [List.take_succ_eq_append_getElem hlt, List.any_append, HA.out]
            simp; omega)
          generalize vals[i].b.length = bl at *
          go_wp2_with fail
          go_round
          case rel => exact ⟨i + 1, hlt, by omega, by go_num, HB⟩
          case measure => simp [intOf]; omega
      · obtain rfl : i = 41 := by omega
        have HR := Lib.hid (muchB_end s vals 41 (.inr rfl) HA.out)
        have hd1 : decide ((40 : Int) < (vals.length : Int)) = true := by simp; omega
        have hd2 : decide (40 < vals.length) = true := by simp; omega
        by_cases hs40 : 40 < s.size
        · go_wp2_with fail
          go_ret
          rw [HR.out, hd2, Bool.or_true]
          exact ⟨rfl, rfl⟩
        · have hd3 : decide ((40 : Int) < (s.size : Int)) = false := by simp; omega
          go_wp2_with fail
          go_ret
          rw [HR.out, hd2, Bool.or_true]
          exact ⟨rfl, rfl⟩
    · obtain rfl : i = vals.length := by omega
      have HR := Lib.hid (muchB_end s vals vals.length (.inl rfl) HA.out)
      by_cases hs40 : 40 < s.size
      · have hd2 : decide (40 < s.size) = true := by simp; omega
        go_wp2_with fail
        go_ret
        rw [HR.out, hd2, Bool.true_or]
        exact ⟨rfl, rfl⟩
      · have hd3 : decide ((40 : Int) < (s.size : Int)) = false := by simp; omega
        have hd4 : decide (40 < s.size) = false := by simp; omega
        by_cases hv40 : 40 < vals.length
        · have hd5 : decide ((40 : Int) < (vals.length : Int)) = true := by simp; omega
          have hd6 : decide (40 < vals.length) = true := by simp; omega
          go_wp2_with fail
          go_ret
          rw [HR.out, hd4, hd6]
          exact ⟨rfl, rfl⟩
        · have hd5 : decide ((40 : Int) < (vals.length : Int)) = false := by simp; omega
          have hd6 : decide (40 < vals.length) = false := by simp; omega
          go_wp2_with fail
          go_ret
          rw [HR.out, hd4, hd6]
          exact ⟨rfl, rfl⟩

end Go.Proofs.Ythjbchdpnlenjaa
