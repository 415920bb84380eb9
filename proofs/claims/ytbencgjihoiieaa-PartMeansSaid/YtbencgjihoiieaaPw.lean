/- Cut. -/
import Derived.Test.YtbencgjihoiieaaPv
set_option linter.unusedVariables false
namespace Go.Proofs.Ytbencgjihoiieaa
open Go.RowKit

theorem slice_whole (g : Nat) (w : World) : (Instr.sliceAt 36 (.pointer (some ⟨g, 0, none⟩)) none none none).run Try.prog w = .ok (.slice (some ⟨g, 0, none⟩) 256 256) w := by
  have hl : Try.prog.arrayLen 36 = 256 := by kernel_rfl
  have hE : Try.prog.elem 36 = 5 := by kernel_rfl
  have h1 : ∀ w, (sizeOf 5).run Try.prog w = .ok 1 w := fun w => by kernel_rfl
  rw [run_sliceAt_array_all (P := Try.prog) w 36 ⟨g, 0, none⟩ (by rw [hl, hE]; exact Try.underlying36), hl, hE, h1]
  simp [Result.andThen, slicedAt, Addr.add]
set_option maxRecDepth 100000 in
set_option maxHeartbeats 4000000 in
theorem cut_ok (w : World) (B : List UInt8) (hB : B.length = 256) (b : Int) (f t : Nat) (hft : f < t) (ht : t ≤ 4) :
    Calls Try.prog 16 #[.agg (cells8 B).toArray, .agg #[.int .i64 b, .int .i64 (f : Int), .int .i64 (t : Int)]] w fun e w' => ∃ v, e = .returned v ∧ Hid (w'.ownsRow w.heap.size 5 1 v (cutD B f t).length (cells8 (cutD B f t)) ∧ Below w.heap.size w w') := by
  have HX := Lib.hid (fun W => has_any W ⟨b, f, t⟩)
  have HE := fun p q r u w => eql_none p q r u w
  dsimp only at HX
  have ho : okS ⟨b, f, t⟩ = true := by unfold okS; simp; omega
  rw [ho] at HX
  have hsl := fun W => slice_whole w.heap.size W
  have H0 : Hid (Holds8 ((w.alloc (.cells (cells8 B).toArray 36)).alloc (.cells #[.int .i64 b, .int .i64 (f : Int), .int .i64 (t : Int)] 23)) w.heap.size 36 B) := (Holds8.new w _ B _ rfl).alloc _
  have HB1 : Hid (Below w.heap.size w ((w.alloc (.cells (cells8 B).toArray 36)).alloc (.cells #[.int .i64 b, .int .i64 (f : Int), .int .i64 (t : Int)] 23))) := ((Below.refl _ w).alloc (Nat.le_refl _) _).alloc (by simp) _
  obtain ⟨W0, hW0⟩ : ∃ W0, (w.alloc (.cells (cells8 B).toArray 36)).alloc (.cells #[.int .i64 b, .int .i64 (f : Int), .int .i64 (t : Int)] 23) = W0 := ⟨_, rfl⟩
  have hc0 : W0.cell? ⟨w.heap.size + 1, 0, none⟩ = some (.int .i64 b) := by rw [← hW0]; simp
  have hc1 : W0.cell? ⟨w.heap.size + 1, 1, none⟩ = some (.int .i64 (f : Int)) := by rw [← hW0]; simp
  have hc2 : W0.cell? ⟨w.heap.size + 1, 2, none⟩ = some (.int .i64 (t : Int)) := by rw [← hW0]; simp
  have hsz : w.heap.size + 2 = W0.heap.size := by rw [← hW0]; simp
  rw [hW0] at H0 HB1
  have HZ := Lib.hid hsz
  have HBL := Lib.hid hB
  have HSEC : Hid (∀ W, Below W0.heap.size W0 W → Calls Try.prog 21 #[.slice (some ⟨w.heap.size, 0, none⟩) 256 256, .int .i64 (f : Int), .int .i64 (t : Int)] W fun e w' => ∃ v, e = .returned v ∧ Hid (w'.ownsRow W.heap.size 5 1 v (cutD B f t).length (cells8 (cutD B f t)) ∧ Below W.heap.size W w')) := fun W hW => by
    have h := sectors_any W ⟨w.heap.size, 0, none⟩ 256 B f t hft (by omega) (by omega) (by omega) (H0.out.below hW).shows
    rwa [hB] at h
  clear ho hsz hB
  go_enter Try.func16, Try.ntmps16
  go_wp2_with (first
    | (go_at_call 20; (with_reducible refine (HX.out _).mono ?_); rintro e w1 ⟨⟨p, q, r, u, rfl, hh⟩, hbel⟩; have hq1 : w1.cell? ⟨w.heap.size + 1, 1, none⟩ = some (.int .i64 (f : Int)) := (hbel.cell (p := ⟨w.heap.size + 1, 1, none⟩) (by have := HZ.out; simp; omega)).trans hc1; have hq2 : w1.cell? ⟨w.heap.size + 1, 2, none⟩ = some (.int .i64 (t : Int)) := (hbel.cell (p := ⟨w.heap.size + 1, 2, none⟩) (by have := HZ.out; simp; omega)).trans hc2; have HBE := Lib.hid hbel; have hz := hh.out.1; clear hh hbel)
    | fail)
  have HBD : Hid (Below W0.heap.size W0 w1.drew) := HBE.out.drew
  have hq1' : w1.drew.cell? ⟨w.heap.size + 1, 1, none⟩ = some (.int .i64 (f : Int)) := hq1
  have hq2' : w1.drew.cell? ⟨w.heap.size + 1, 2, none⟩ = some (.int .i64 (t : Int)) := hq2
  first | go_region_with (first
    | (go_at_call 21; (with_reducible refine (HSEC.out _ HBD.out).mono ?_); rintro e w2 ⟨v, rfl, hv⟩; have HV := Lib.hid hv; clear hv)
    | fail) | fail
  all_goals go_wp2
  all_goals go_ret
  all_goals exact ⟨_, rfl, own_mono HV.out.1 (by have := HBE.out.size; have := HB1.out.size; show w.heap.size ≤ w1.heap.size; omega), HB1.out.trans ((HBD.out.mono (by have := HB1.out.size; omega)).trans (HV.out.2.mono (by have := HBE.out.size; have := HB1.out.size; show w.heap.size ≤ w1.heap.size; omega)))⟩
end Go.Proofs.Ytbencgjihoiieaa
