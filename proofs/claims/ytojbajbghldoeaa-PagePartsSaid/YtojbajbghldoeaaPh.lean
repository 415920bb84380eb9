/- Counts that came in as an argument. -/
import Derived.Test.YtojbajbghldoeaaRow
import Derived.Test.YtojbajbghldoeaaPb
import Derived.Deep.Slices
import Derived.OpenShut
namespace Go.Proofs.Ytojbajbghldoeaa
open Go.RowKit Go.ChangeShapes Go.WideShapes Go.Deep

section
variable {H : Type} {enc : TypeId × Value → H} {w : World} {base : Nat} {spare : Nat → Bool} {held : Bool}
/-- counts, read -/
theorem counts_of {fuel : Nat} {v : Value} {x : DataW H × List MemPlace} (h : DataW.trod enc Try.prog w base (fun _ => true) held fuel 22 [v] = some x) :
    ∃ (A : Option Addr) (l : List Nat) (cap : Nat), v = .slice A l.length cap ∧ Shows w w.heap.size A l.length (nums16 l) ∧ (∀ k ∈ l, k ≤ 65535) ∧ l.length ≤ cap ∧ cap ≤ 9223372036854775807 := by
  rcases open_ints Try.underlying22 Try.underlying31 (by kernel_rfl) h with ⟨hcs, _⟩ | ⟨a, len, cap, zs, hcs, _, hl, hm, hz, _, hcell, hwz⟩
  · injection hcs with hcs _
    exact ⟨none, [], 0, hcs, Shows.empty _ _ _, by simp, Nat.le_refl _, by omega⟩
  · injection hcs with hcs _
    have hz' : zs.length = cap := by simpa using hz
    have hlen : ((zs.take len).map Int.toNat).length = len := by simp; omega
    refine ⟨some a, (zs.take len).map Int.toNat, cap, by rw [hlen]; exact hcs, ?_, ?_, by omega, hm⟩
    · have hc : ∀ j u, (nums16 ((zs.take len).map Int.toNat))[j]? = some u → w.cell? (a.add j) = some u := by
        intro j u hu
        have hj : j < len := by
          rcases Nat.lt_or_ge j len with h1 | h1
          · exact h1
          · rw [List.getElem?_eq_none (by rw [nums16_length, hlen]; exact h1)] at hu; cases hu
        have hjz : j < zs.length := by omega
        rw [hcell j (by omega), ← hu, nums16_get _ j (by rw [hlen]; exact hj)]
        have hb := bounds_u16 (hwz _ (List.getElem_mem hjz))
        simp [List.getD, hjz, hj]
        omega
      refine ⟨by rw [nums16_length], fun hp => ⟨a, rfl, ?_, hc⟩⟩
      rw [hlen] at hp
      have h0 := hcell 0 (by omega)
      have := block_lt_of_cell h0
      rwa [addr_block] at this
    · intro k hk
      obtain ⟨z, hzm, rfl⟩ := List.mem_map.1 hk
      have hb := bounds_u16 (hwz _ (List.mem_of_mem_take hzm))
      omega

end
end Go.Proofs.Ytojbajbghldoeaa
