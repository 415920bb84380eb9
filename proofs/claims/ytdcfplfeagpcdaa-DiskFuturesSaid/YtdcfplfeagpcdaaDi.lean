/- A row of steps that came in; the walk of the bound 'Much'. -/
import Derived.Test.YtdcfplfeagpcdaaDf
namespace Go.Proofs.Ytdcfplfeagpcdaa
open Go.RowKit

def nums (l : List Int) : List Value := l.map fun k => Value.int .i64 k
/-- these cells are that step; its picks lie below block B -/
def STok (w : World) (B : Nat) (cs : Array Value) (x : ST) : Prop := ∃ A cap, cs = stCells x A cap ∧ Shows w B A x.picks.length (nums x.picks) ∧ x.picks.length ≤ cap ∧ cap ≤ 9223372036854775807
/-- a slice of steps -/
def SRow (w : World) (B : Nat) (A : Option Addr) (l : List ST) : Prop :=
  0 < l.length → ∃ p : Addr, A = some p ∧ p.block < B ∧ ∀ i (h : i < l.length), ∃ cs, STok w B cs l[i] ∧ ∀ j u, cs[j]? = some u → w.cell? (p.add (i * 4 + j)) = some u
theorem SRow.below {w w' : World} {B : Nat} {A : Option Addr} {l : List ST} (h : SRow w B A l) (hb : Below B w w') : SRow w' B A l := by
  intro hp
  obtain ⟨p, e, hpb, hx⟩ := h hp
  refine ⟨p, e, hpb, fun i hi => ?_⟩
  obtain ⟨cs, ⟨A1, c1, hc1, hs, h2⟩, hc⟩ := hx i hi
  exact ⟨cs, ⟨A1, c1, hc1, hs.below hb, h2⟩, fun j u hu => by rw [hb.cell (by rw [addr_block]; exact hpb)]; exact hc j u hu⟩

/-- more than is gone through -/
def badS (x : ST) : Bool := decide (1000 < x.picks.length) || (x.kind == 5 && decide (60 < x.n) && decide (x.n ≤ 8192))
def muchS (l : List ST) (most : Nat) : Bool := (l.take (most + 1)).any badS || decide (most < l.length)
theorem muchS_at (l : List ST) (most i : Nat) (h : i < l.length) (hi : i ≤ most) (hb : badS l[i] = true) : muchS l most = true := by
  have : (l.take (most + 1)).any badS = true := by
    rw [List.any_eq_true]
    refine ⟨l[i], ?_, hb⟩
    rw [List.mem_iff_getElem]
    exact ⟨i, by rw [List.length_take]; omega, by rw [List.getElem_take]⟩
  rw [muchS, this]
  rfl
theorem muchS_end (l : List ST) (most i : Nat) (hi : i = l.length ∨ i = most + 1) (h : (l.take i).any badS = false) : muchS l most = decide (most < l.length) := by
  have : (l.take (most + 1)).any badS = false := by
    rcases hi with rfl | rfl
    · rw [List.take_length] at h
      rw [List.any_eq_false] at h ⊢
      exact fun v hv => h v (List.mem_of_mem_take hv)
    · exact h
  rw [muchS, this]
  rfl
theorem muchS_no {l : List ST} {most : Nat} (h : muchS l most = false) : l.length ≤ most ∧ ∀ x ∈ l, badS x = false := by
  simp only [muchS, Bool.or_eq_false_iff, decide_eq_false_iff_not] at h
  obtain ⟨h1, h2⟩ := h
  refine ⟨by omega, fun x hx => ?_⟩
  rw [List.take_of_length_le (by omega), List.any_eq_false] at h1
  simpa using h1 x hx

set_option maxRecDepth 10000 in
set_option maxHeartbeats 4000000 in
theorem much_any (A : Option Addr) (cap : Nat) (l : List ST) (most : Nat) (w : World) (B : Nat) (hv : SRow w B A l) (hn : l.length ≤ 9223372036854775807) :
    Calls Try.prog 6 #[.slice A l.length cap, .int .i64 most] w fun e w' => e = .returned (.bool (muchS l most)) ∧ w = w' := by
  go_enter Try.func6, Try.ntmps6
  go_wp2
  go_loop [5] (fun j => ∃ i : Nat, i ≤ l.length ∧ i ≤ most + 1 ∧ j = .int .i64 (i : Int) ∧ Hid ((l.take i).any badS = false)) (fun j => l.length - (intOf j).toNat)
  case atStart => exact ⟨0, Nat.zero_le _, Nat.zero_le _, rfl, rfl⟩
  case round =>
    obtain ⟨i, hp, hq, rfl, HA⟩ := hrel
    by_cases hlt : i < l.length
    · by_cases h40 : i ≤ most
      · obtain ⟨p, hA, hpb, hx⟩ := hv (by omega)
        subst hA
        obtain ⟨cs, ⟨AB, capB, rfl, hsb, hcb, hcmb⟩, hcell⟩ := hx i hlt
        have hc0 : w.cell? (p.add (i * 4)) = some (.int .i64 l[i].kind) := by
          have := hcell 0 _ rfl
          rw [Nat.add_zero] at this
          exact this
        have hc1 : w.cell? ⟨(p.add (i * 4)).block, (p.add (i * 4)).off + 1, none⟩ = some (.int .i64 l[i].n) := by
          rw [← add_pos (p.add (i * 4)) 1 (by omega), addr_twice]
          exact hcell 1 _ rfl
        have hc3 : w.cell? ⟨(p.add (i * 4)).block, (p.add (i * 4)).off + 3, none⟩ = some (.slice AB l[i].picks.length capB) := by
          rw [← add_pos (p.add (i * 4)) 3 (by omega), addr_twice]
          exact hcell 3 _ rfl
        have hat := fun hb => muchS_at l most i hlt h40 hb
        have hno : badS l[i] = false → (l.take (i + 1)).any badS = false := fun hb => by
          rw [List.take_succ_eq_append_getElem hlt, List.any_append, HA.out]
          simp [hb]
        have HAT := Lib.hid hat
        have HNO := Lib.hid hno
        have hpl : l[i].picks.length ≤ 9223372036854775807 := by omega
        clear hx hcell hsb hat hno
        generalize l[i] = x at *
        by_cases b1 : 1000 < x.picks.length
        · have HR := Lib.hid (HAT.out (by simp [badS, b1]))
          have t1 : decide ((1000 : Int) < (x.picks.length : Int)) = true := by simp; omega
          generalize x.picks.length = pl at *
          go_wp2_with fail
          go_ret
          rw [HR.out]
          exact ⟨rfl, rfl⟩
        · have t1 : decide ((1000 : Int) < (x.picks.length : Int)) = false := by simp; omega
          cases k5 : (x.kind == 5) with
          | false =>
            have HB := Lib.hid (HNO.out (by simp [badS, k5]; omega))
            generalize x.picks.length = pl at *
            go_wp2_with fail
            go_round
            case rel => exact ⟨i + 1, hlt, by omega, by go_num, HB⟩
            case measure => simp [intOf]; omega
          | true =>
            by_cases b2 : 60 < x.n
            · have t2 : decide (60 < x.n) = true := by simpa using b2
              by_cases b3 : x.n ≤ 8192
              · have t3 : decide (x.n ≤ 8192) = true := by simpa using b3
                have HR := Lib.hid (HAT.out (by simp [badS, k5, b2, b3]))
                generalize x.picks.length = pl at *
                go_wp2_with fail
                go_ret
                rw [HR.out]
                exact ⟨rfl, rfl⟩
              · have t3 : decide (x.n ≤ 8192) = false := by simpa using b3
                have HB := Lib.hid (HNO.out (by simp [badS, k5, b3]; omega))
                generalize x.picks.length = pl at *
                go_wp2_with fail
                go_round
                case rel => exact ⟨i + 1, hlt, by omega, by go_num, HB⟩
                case measure => simp [intOf]; omega
            · have t2 : decide (60 < x.n) = false := by simpa using b2
              have HB := Lib.hid (HNO.out (by simp [badS, k5, b2]; omega))
              generalize x.picks.length = pl at *
              go_wp2_with fail
              go_round
              case rel => exact ⟨i + 1, hlt, by omega, by go_num, HB⟩
              case measure => simp [intOf]; omega
      · have HR := Lib.hid (muchS_end l most i (.inr (by omega)) HA.out)
        have hd1 : decide ((most : Int) < (l.length : Int)) = true := by simp; omega
        have hd2 : decide (most < l.length) = true := by simp; omega
        have hd3 : decide ((i : Int) ≤ (most : Int)) = false := by simp; omega
        go_wp2_with fail
        go_ret
        rw [HR.out, hd2]
        exact ⟨rfl, rfl⟩
    · obtain rfl : i = l.length := by omega
      have HR := Lib.hid (muchS_end l most l.length (.inl rfl) HA.out)
      go_wp2_with fail
      go_ret
      rw [HR.out]
      exact ⟨by simp, rfl⟩
end Go.Proofs.Ytdcfplfeagpcdaa
