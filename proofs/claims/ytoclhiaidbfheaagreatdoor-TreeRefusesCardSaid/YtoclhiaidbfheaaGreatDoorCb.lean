/- Walks: the table's entry, the registers of one bit. -/
import Derived.Test.YtoclhiaidbfheaaGreatDoorCa
import Derived.Deep.QuietTactic
import Derived.BigQuiet
namespace Go.Proofs.YtoclhiaidbfheaaGreatDoor
open Go.RowKit


set_option maxHeartbeats 400000 in
theorem entry_zero (w : World) (bt bo : Nat) :
    Calls Tryz.prog 255 #[.int .u64 0, .pointer (some ⟨bt, 0, none⟩), .pointer (some ⟨bo, 0, none⟩)] w fun e w' => e = .returned (.int .u32 0) ∧ w' = w := by
  go_enter Tryz.func255, Tryz.ntmps255
  go_wp2
  go_ret
  exact ⟨rfl, rfl⟩

theorem sub1 (n : Nat) (h0 : 0 < n) (h : n < 256) : IntKind.u64.wrap ((n : Int) - 1) = ((n - 1 : Nat) : Int) := by rw [IntKind.wrap_u64]; omega
theorem and1 : ∀ n, n < 256 → 0 < n → bits .and .u64 ((n : Nat) : Int) (((n - 1 : Nat)) : Int) = (((n &&& (n - 1) : Nat)) : Int) := by decide +kernel

set_option maxHeartbeats 1000000 in
theorem entry_any (w : World) (bt bo n x y : Nat) (h : n < 256) (h0 : 0 < n) (hT : Tabs w) (hx : x < 4294967296) (hy : y < 4294967296)
    (ht : w.cell? ⟨bt, n &&& (n - 1), none⟩ = some (.int .u32 x)) (ho : w.cell? ⟨bo, tz n, none⟩ = some (.int .u32 y)) :
    Calls Tryz.prog 255 #[.int .u64 n, .pointer (some ⟨bt, 0, none⟩), .pointer (some ⟨bo, 0, none⟩)] w fun e w' => e = .returned (.int .u32 ((x ^^^ y : Nat) : Int)) ∧ ∃ k, w' = w.drewN k := by
  have h1 := sub1 n h0 h
  have h2 := and1 n h h0
  have h3 := and_lt' n h h0
  have h4 := tz_lt n
  have h5 := u32_xor_nat x y hx hy
  have hz : ((n : Int) == 0) = false := by simp; omega
  have htz : ∀ q, Calls Tryz.prog 256 #[.int .u64 n] (w.drewN q) fun e w' => e = .returned (.int .i64 (tz n)) ∧ w' = w.drewN q := fun q => tz_any n _ h h0 hT
  generalize n &&& (n - 1) = m at *
  generalize tz n = k at *
  generalize x ^^^ y = z at *
  go_enter Tryz.func255, Tryz.ntmps255
  go_wp2
  go_quiet ((go_at_call 256; exact Calls.quiet_of_same (htz _)))
  go_wp2
  go_ret
  exact ⟨rfl, _, rfl⟩
end Go.Proofs.YtoclhiaidbfheaaGreatDoor
