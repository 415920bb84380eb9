/- The walk of the law CommandMeans: too much; all of it. -/
import Derived.Test.YtpkbkliblbbdcaaDn
set_option linter.unusedVariables false
namespace Go.Proofs.Ytpkbkliblbbdcaa
open Go.RowKit
set_option maxRecDepth 20000

set_option maxHeartbeats 8000000 in
theorem means_much (o p : OP) (a : AN) (l m : List UInt8) (A B C D E : Option Addr) (ca cb cc cl cm : Nat) (w : World) (h : 9000 < o.d.length ∨ 9000 < p.d.length ∨ 70000 < a.d.length ∨ 9000 < l.length ∨ 9000 < m.length) :
    Calls Try.prog 7 #[.agg #[.int .i64 o.k, .int .u64 (o.v : Int), .int .u64 (o.t : Int), .int .i64 o.s, .int .i64 o.a, .int .i64 o.c, .slice A o.d.length ca], .agg #[.int .i64 p.k, .int .u64 (p.v : Int), .int .u64 (p.t : Int), .int .i64 p.s, .int .i64 p.a, .int .i64 p.c, .slice B p.d.length cb], .agg #[.int .i64 a.k, .int .i64 a.s, .slice C a.d.length cc], .slice D l.length cl, .slice E m.length cm] w fun e w' => e = .returned (.bool true) ∧ Below w.heap.size w w' := by
  have HM1 := Lib.hid (much_any o.k o.v o.t o.s o.a o.c o.d A ca)
  have HM2 := Lib.hid (much_any p.k p.v p.t p.s p.a p.c p.d B cb)
  have HT0 := Lib.hid (TM.new w o p a A B C ca cb cc)
  by_cases h1 : 9000 < o.d.length
  · rw [dec_t h1] at HM1
    clear h1 h HM2
    go_enter Try.func7, Try.ntmps7
    go_wp2_with fail
    refine (known_any _).mono ?_
    rintro e w1 ⟨rfl, hb1⟩
    have HT1 := Lib.hid (HT0.out.on hb1)
    obtain ⟨l0, l1, l2, l3, l4, l5, l6⟩ := HT1.out.bo.cells
    clear hb1 HT0
    go_wp2_with fail
    refine (HM1.out _).mono ?_
    rintro e w2 ⟨rfl, hb2⟩
    have HT2 := Lib.hid (HT1.out.on hb2)
    clear l0 l1 l2 l3 l4 l5 l6 hb2 HT1
    go_wp2_with fail
    go_ret
    exact ⟨rfl, HT2.out.bel⟩
  · rw [dec_f h1] at HM1
    by_cases h2 : 9000 < p.d.length
    · rw [dec_t h2] at HM2
      clear h1 h2 h
      go_enter Try.func7, Try.ntmps7
      go_wp2_with fail
      refine (known_any _).mono ?_
      rintro e w1 ⟨rfl, hb1⟩
      have HT1 := Lib.hid (HT0.out.on hb1)
      obtain ⟨l0, l1, l2, l3, l4, l5, l6⟩ := HT1.out.bo.cells
      clear hb1 HT0
      go_wp2_with fail
      refine (HM1.out _).mono ?_
      rintro e w2 ⟨rfl, hb2⟩
      have HT2 := Lib.hid (HT1.out.on hb2)
      clear l0 l1 l2 l3 l4 l5 l6 hb2 HT1
      obtain ⟨l0, l1, l2, l3, l4, l5, l6⟩ := HT2.out.bp.cells
      go_wp2_with fail
      refine (HM2.out _).mono ?_
      rintro e w3 ⟨rfl, hb3⟩
      have HT3 := Lib.hid (HT2.out.on hb3)
      clear l0 l1 l2 l3 l4 l5 l6 hb3 HT2
      obtain ⟨n0, n1, n2⟩ := HT3.out.ba.cells
      go_wp2_with fail
      go_ret
      exact ⟨rfl, HT3.out.bel⟩
    · rw [dec_f h2] at HM2
      by_cases h3 : 70000 < a.d.length
      · have e3 : decide ((70000 : Int) < (a.d.length : Int)) = true := dec_t (by omega)
        clear h1 h2 h3 h
        go_enter Try.func7, Try.ntmps7
        go_wp2_with fail
        refine (known_any _).mono ?_
        rintro e w1 ⟨rfl, hb1⟩
        have HT1 := Lib.hid (HT0.out.on hb1)
        obtain ⟨l0, l1, l2, l3, l4, l5, l6⟩ := HT1.out.bo.cells
        clear hb1 HT0
        go_wp2_with fail
        refine (HM1.out _).mono ?_
        rintro e w2 ⟨rfl, hb2⟩
        have HT2 := Lib.hid (HT1.out.on hb2)
        clear l0 l1 l2 l3 l4 l5 l6 hb2 HT1
        obtain ⟨l0, l1, l2, l3, l4, l5, l6⟩ := HT2.out.bp.cells
        go_wp2_with fail
        refine (HM2.out _).mono ?_
        rintro e w3 ⟨rfl, hb3⟩
        have HT3 := Lib.hid (HT2.out.on hb3)
        clear l0 l1 l2 l3 l4 l5 l6 hb3 HT2
        obtain ⟨n0, n1, n2⟩ := HT3.out.ba.cells
        go_wp2_with fail
        go_ret
        exact ⟨rfl, HT3.out.bel⟩
      · have e3 : decide ((70000 : Int) < (a.d.length : Int)) = false := dec_f (by omega)
        by_cases h4 : 9000 < l.length
        · have e4 : decide ((9000 : Int) < (l.length : Int)) = true := dec_t (by omega)
          clear h1 h2 h3 h4 h
          go_enter Try.func7, Try.ntmps7
          go_wp2_with fail
          refine (known_any _).mono ?_
          rintro e w1 ⟨rfl, hb1⟩
          have HT1 := Lib.hid (HT0.out.on hb1)
          obtain ⟨l0, l1, l2, l3, l4, l5, l6⟩ := HT1.out.bo.cells
          clear hb1 HT0
          go_wp2_with fail
          refine (HM1.out _).mono ?_
          rintro e w2 ⟨rfl, hb2⟩
          have HT2 := Lib.hid (HT1.out.on hb2)
          clear l0 l1 l2 l3 l4 l5 l6 hb2 HT1
          obtain ⟨l0, l1, l2, l3, l4, l5, l6⟩ := HT2.out.bp.cells
          go_wp2_with fail
          refine (HM2.out _).mono ?_
          rintro e w3 ⟨rfl, hb3⟩
          have HT3 := Lib.hid (HT2.out.on hb3)
          clear l0 l1 l2 l3 l4 l5 l6 hb3 HT2
          obtain ⟨n0, n1, n2⟩ := HT3.out.ba.cells
          go_wp2_with fail
          go_ret
          exact ⟨rfl, HT3.out.bel⟩
        · have e4 : decide ((9000 : Int) < (l.length : Int)) = false := dec_f (by omega)
          have e5 : decide ((9000 : Int) < (m.length : Int)) = true := dec_t (by omega)
          clear h1 h2 h3 h4 h
          go_enter Try.func7, Try.ntmps7
          go_wp2_with fail
          refine (known_any _).mono ?_
          rintro e w1 ⟨rfl, hb1⟩
          have HT1 := Lib.hid (HT0.out.on hb1)
          obtain ⟨l0, l1, l2, l3, l4, l5, l6⟩ := HT1.out.bo.cells
          clear hb1 HT0
          go_wp2_with fail
          refine (HM1.out _).mono ?_
          rintro e w2 ⟨rfl, hb2⟩
          have HT2 := Lib.hid (HT1.out.on hb2)
          clear l0 l1 l2 l3 l4 l5 l6 hb2 HT1
          obtain ⟨l0, l1, l2, l3, l4, l5, l6⟩ := HT2.out.bp.cells
          go_wp2_with fail
          refine (HM2.out _).mono ?_
          rintro e w3 ⟨rfl, hb3⟩
          have HT3 := Lib.hid (HT2.out.on hb3)
          clear l0 l1 l2 l3 l4 l5 l6 hb3 HT2
          obtain ⟨n0, n1, n2⟩ := HT3.out.ba.cells
          go_wp2_with fail
          go_ret
          exact ⟨rfl, HT3.out.bel⟩

theorem means_law (o p : OP) (a : AN) (l m : List UInt8) (A B C D E : Option Addr) (ca cb cc cl cm : Nat) (w : World) (hfo : o.fit) (hso : Shows w w.heap.size A o.d.length (cells8 o.d)) (hco : o.d.length ≤ ca) (hfp : p.fit) (hsp : Shows w w.heap.size B p.d.length (cells8 p.d)) (hcp : p.d.length ≤ cb) (hsa : Shows w w.heap.size C a.d.length (cells8 a.d)) (hca : a.d.length ≤ cc)
    (hsl : Shows w w.heap.size D l.length (cells8 l)) (hcl : l.length ≤ cl) (hclm : cl ≤ 9223372036854775807) (hsm : Shows w w.heap.size E m.length (cells8 m)) (hcm : m.length ≤ cm) (hcmm : cm ≤ 9223372036854775807) :
    Calls Try.prog 7 #[.agg #[.int .i64 o.k, .int .u64 (o.v : Int), .int .u64 (o.t : Int), .int .i64 o.s, .int .i64 o.a, .int .i64 o.c, .slice A o.d.length ca], .agg #[.int .i64 p.k, .int .u64 (p.v : Int), .int .u64 (p.t : Int), .int .i64 p.s, .int .i64 p.a, .int .i64 p.c, .slice B p.d.length cb], .agg #[.int .i64 a.k, .int .i64 a.s, .slice C a.d.length cc], .slice D l.length cl, .slice E m.length cm] w fun e w' => e = .returned (.bool true) ∧ Below w.heap.size w w' := by
  by_cases h : 9000 < o.d.length ∨ 9000 < p.d.length ∨ 70000 < a.d.length ∨ 9000 < l.length ∨ 9000 < m.length
  · exact means_much o p a l m A B C D E ca cb cc cl cm w h
  · exact means_main o p a l m A B C D E ca cb cc cl cm w hfo hfp (by omega) (by omega) (by omega) (by omega) (by omega) hso hco hsp hcp hsa hca hsl hcl hclm hsm hcm hcmm

end Go.Proofs.Ytpkbkliblbbdcaa
