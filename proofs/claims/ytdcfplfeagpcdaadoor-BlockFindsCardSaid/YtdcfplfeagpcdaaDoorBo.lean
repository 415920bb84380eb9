/- The chapter's row. -/
import Derived.Test.YtdcfplfeagpcdaaDoorBj
set_option linter.unusedVariables false
namespace Go.Proofs.YtdcfplfeagpcdaaDoor
open Go.RowKit

def kND : ND := ⟨2, 1, [], []⟩
theorem k_may : mayB kND = true := by decide
theorem k_len : (img 5 kND).length = 256 := img_length 5 kND (by decide)
theorem k_at (i : Nat) (hi : 4 + i < 256) (x : UInt8) (h : (padB (bodyB 5 kND)).getD i 0 = x) : (img 5 kND)[4 + i]'(by rw [k_len]; exact hi) = x := by
  have h1 := get_four (padB (bodyB 5 kND)) 5 i
  have h2 : (img 5 kND).getD (4 + i) 0 = (img 5 kND)[4 + i]'(by rw [k_len]; exact hi) := by
    have : 4 + i < (img 5 kND).length := by rw [k_len]; exact hi
    simp [List.getD, this]
  rw [← h2, ← h]
  exact h1

set_option maxRecDepth 10000 in
set_option maxHeartbeats 1000000 in
theorem known_any (w : World) (hT : Tabs w) :
    Calls Tryd.prog 9 #[] w fun e w' => e = .returned (.bool true) ∧ Below w.heap.size w w' := by
  have hb := block_ok w hT 5 (by omega) 2 1 [] [] k_may none none 0 0 (Shows.empty _ _ _) (Shows.empty _ _ _)
  have e1 : ([] : List Nat).length = 0 := rfl
  have e2 : (⟨2, 1, [], []⟩ : ND) = kND := rfl
  have e3 : ((5 : Nat) : Int) = 5 := rfl
  have e4 : ((1 : Nat) : Int) = 1 := rfl
  rw [e1, e2, e3, e4] at hb
  have HB := Lib.hid hb
  have hz := blk_zero
  have hnl : (cells8 noughts).toArray.size = 256 := (cells8_size _).trans noughts_len
  have hcs : (cells8 (img 5 kND)).toArray.size = 256 := (cells8_size _).trans k_len
  have hst := fun w => store_blk w noughts (img 5 kND) noughts_len k_len
  have hc : ∀ (W : World) (i : Nat) (hi : 4 + i < 256) (x : UInt8), (padB (bodyB 5 kND)).getD i 0 = x → (W.alloc (.cells (cells8 (img 5 kND)).toArray 29)).cell? ⟨W.heap.size, 4 + i, none⟩ = some (.int .u8 (x.toNat : Int)) := fun W i hi x hx => by
    rw [(Holds8.new W 29 (img 5 kND) _ rfl).cell (4 + i) (by rw [k_len]; exact hi), k_at i hi x hx]
  have c0 : ∀ W : World, (W.alloc (.cells (cells8 (img 5 kND)).toArray 29)).cell? ⟨W.heap.size, 4, none⟩ = some (.int .u8 2) := fun W => hc W 0 (by omega) 2 rfl
  have c1 : ∀ W : World, (W.alloc (.cells (cells8 (img 5 kND)).toArray 29)).cell? ⟨W.heap.size, 5, none⟩ = some (.int .u8 0) := fun W => hc W 1 (by omega) 0 rfl
  have c4 : ∀ W : World, (W.alloc (.cells (cells8 (img 5 kND)).toArray 29)).cell? ⟨W.heap.size, 8, none⟩ = some (.int .u8 5) := fun W => hc W 4 (by omega) 5 rfl
  have c8 : ∀ W : World, (W.alloc (.cells (cells8 (img 5 kND)).toArray 29)).cell? ⟨W.heap.size, 12, none⟩ = some (.int .u8 1) := fun W => hc W 8 (by omega) 1 rfl
  have c16 : ∀ W : World, (W.alloc (.cells (cells8 (img 5 kND)).toArray 29)).cell? ⟨W.heap.size, 20, none⟩ = some (.int .u8 0) := fun W => hc W 16 (by omega) 0 rfl
  clear hb hc e1 e2 e3 e4 hT
  generalize img 5 kND = I at *
  generalize noughts = z at *
  go_enter Tryd.func9, Tryd.ntmps9
  go_wp2_with (go_at_call 12; (with_reducible refine HB.out.mono ?_); rintro e w1 ⟨rfl, hb1⟩)
  go_ret
  exact ⟨rfl, hb1.alloc hb1.size _⟩
end Go.Proofs.YtdcfplfeagpcdaaDoor
