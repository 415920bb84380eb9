/- Bytes that came in as an argument, as a list. -/
import Derived.Test.YtpkbkliblbbdcaaMem
import Derived.OpenShut
namespace Go.Proofs.Ytpkbkliblbbdcaa
open Go.RowKit
set_option maxRecDepth 20000

/-- bytes that came in: nil, or a row of cells -/
theorem row_bytes {w : World} {a : Option Addr} {len cap : Nat} {zs : List Int}
    (h : (a = none ∧ len = 0 ∧ cap = 0 ∧ zs = []) ∨
      ∃ x, a = some x ∧ len ≤ cap ∧ cap ≤ maxLen ∧ zs.length = cap ∧ (∀ i, i < zs.length → w.cell? (x.add i) = some (.int .u8 (zs.getD i 0))) ∧ ∀ n ∈ zs, (Lit.int .u8 n).wf = true) :
    ∃ l : List UInt8, l.length = len ∧ Shows w w.heap.size a l.length (cells8 l) ∧ l.length ≤ cap ∧ cap ≤ 9223372036854775807 := by
  rcases h with ⟨rfl, rfl, rfl, rfl⟩ | ⟨x, rfl, hl, hm, hz, hc, hw⟩
  · exact ⟨[], rfl, Shows.empty _ _ _, Nat.le_refl _, by omega⟩
  · refine ⟨(zs.take len).map fun z => UInt8.ofNat z.toNat, by simp; omega, ?_, by simp; omega, hm⟩
    have hlen : ((zs.take len).map fun z => UInt8.ofNat z.toNat).length = len := by simp; omega
    have hcell : ∀ j u, (cells8 ((zs.take len).map fun z => UInt8.ofNat z.toNat))[j]? = some u → w.cell? (x.add j) = some u := by
      intro j u hu
      have hj : j < len := by
        rcases Nat.lt_or_ge j len with h1 | h1
        · exact h1
        · rw [List.getElem?_eq_none (by rw [cells8_length, hlen]; exact h1)] at hu; cases hu
      have hjz : j < zs.length := by omega
      rw [hc j hjz]
      rw [cells8_get _ j (by rw [hlen]; exact hj)] at hu
      rw [← hu]
      have hwf := hw _ (List.getElem_mem hjz)
      have hb := bounds_u8 hwf
      simp [List.getD, hjz]
      omega
    refine ⟨by rw [cells8_length], fun hp => ⟨x, rfl, ?_, hcell⟩⟩
    rw [hlen] at hp
    have h0 := hc 0 (by omega)
    have := block_lt_of_cell h0
    rwa [addr_block] at this

end Go.Proofs.Ytpkbkliblbbdcaa
