/- The walk of the law WireJoins, whatever it is handed. -/
import Derived.Test.YtfkjgebbaahnmaaJoinsW
import Derived.Test.YtfkjgebbaahnmaaJoinsV
import Derived.Test.YtfkjgebbaahnmaaJoinsU
namespace Go.Proofs.Ytfkjgebbaahnmaa
open Go.RowKit

theorem joins_walk (a c : ByteArray) (A : Option Addr) (cap : Nat) (l : List UInt8) (w : World) (ha : a.size ≤ maxLen) (hc : c.size ≤ maxLen)
    (hl : Shows w w.heap.size A l.length (cells8 l)) (hlc : l.length ≤ cap) (hcm : cap ≤ 9223372036854775807) :
    Calls Try.prog 8 #[.string a, .string c, .slice A l.length cap] w fun e w' => e = .returned (.bool true) ∧ Below w.heap.size w w' := by
  by_cases h : 20 < a.size ∨ 20 < c.size ∨ 3000 < l.length
  · exact joins_big a c A cap l w h ha hc (by omega)
  · by_cases hE : unpE (bs a) l = 0
    · obtain ⟨hm1, ps1, n1, hu1⟩ := unpE_zero hE
      by_cases hE2 : unpE (bs c) (l.drop n1) = 0
      · obtain ⟨hm2, ps2, n2, hu2⟩ := unpE_zero hE2
        have hm12 : mayS (bs (a ++ c)) = true := by rw [bs_app, mayS_app, hm1, hm2]; rfl
        have hu12 : unpZ (bs (a ++ c)) l = some (ps1 ++ ps2, n1 + n2) := by rw [bs_app]; exact unpZ_app_some hu1 hu2
        by_cases hcn : cap = n1
        · exact joins_good0 a c A cap l w (by omega) (by omega) (by omega) hl hlc hcm ps1 ps2 _ n1 n2 _ hm1 hu1 hm2 hu2 hm12 hu12 rfl rfl hcn
        · exact joins_good1 a c A cap l w (by omega) (by omega) (by omega) hl hlc hcm ps1 ps2 _ n1 n2 _ hm1 hu1 hm2 hu2 hm12 hu12 rfl rfl hcn
      · exact joins_second a c A cap l w (by omega) (by omega) (by omega) hl hlc hcm ps1 n1 hm1 hu1 hE2
    · exact joins_bad a c A cap l w (by omega) (by omega) (by omega) hl hlc hcm hE

end Go.Proofs.Ytfkjgebbaahnmaa
