/- SuperMeans: what the walk needs, and the walk (Tl Tm Bl Tn To Tp Tq Bs Tr Ti Tj Tk in one text) -/
import Derived.Test.YtojbajbghldoeaaDoorTh
import Derived.Test.YtojbajbghldoeaaDoorBk
import Derived.Test.YtojbajbghldoeaaDoorBi
import Derived.ArgAppend
import Derived.Lib.SmallJoins
import Derived.Test.YtojbajbghldoeaaDoorSc
import Derived.Deep.RegionHeld3
import Derived.Deep.DeepCutAuto
import Derived.Test.YtojbajbghldoeaaDoorBj
import Derived.Test.YtojbajbghldoeaaDoorRows
import Derived.Test.YtojbajbghldoeaaDoorBc
import Derived.Test.YtojbajbghldoeaaDoorCa
import Derived.ProofKit
import Derived.LaidMore
import Derived.OpenShut
import Derived.Stop.Joined
import Derived.Lib.LaidTab
import Derived.Deep.Slices
import Derived.Test.YtojbajbghldoeaaDoorSg
section
/- Write to a block that a disk has not. -/
set_option linter.unusedVariables false
namespace Go.Proofs.YtojbajbghldoeaaDoor.Q
open Go.RowKit
set_option maxRecDepth 100000 in
set_option maxHeartbeats 4000000 in
theorem write_out {w : World} {F : Nat → Prop} {b : Nat} {d : RD} (h : PD w F b d) (k : Int) (hk : ¬ hasK d k) (l : List UInt8) (hl : l.length = 256) : Calls Tryd.prog 30 #[.pointer (some ⟨b, 0, none⟩), .int .i64 k, .agg (cells8 l).toArray] w fun e w' => e = .returned (.int .i64 2) ∧ Below w.heap.size w w' := by
  have hcs := cells8_size l
  have HP := Lib.hid (fun (W : World) (hb : Below w.heap.size w W) => place_any' (h.below hb) k)
  rw [plK_no hk] at HP
  have HB := Lib.hid ((Below.refl _ w).alloc (Nat.le_refl _) (.cells (cells8 l).toArray 29))
  clear h
  go_enter Tryd.func30, Tryd.ntmps30
  go_wp2_with (first
    | (go_at_call 58; (with_reducible refine (HP.out _ HB.out).mono ?_); rintro e w1 ⟨rfl, rfl⟩)
    | fail)
  go_ret
  exact ⟨rfl, HB.out⟩
/-- a block is written on a living disk -/
theorem Live.writeK {d : RD} (h : Live d) (k : Nat) (hk : k * 4 + 4 ≤ d.s.length) (l : List UInt8) (hl : l.length = 256) : (Q.writeK d k l).1 = 0 ∧ Live (Q.writeK d k l).2 ∧ (Q.writeK d k l).2.s.length = d.s.length ∧ blkAt (Q.writeK d k l).2 k = l ∧ ∀ j, j ≠ k → j * 4 + 4 ≤ d.s.length → blkAt (Q.writeK d k l).2 j = blkAt d j := by
  obtain ⟨v1, v2, v3⟩ := h.wrK k l 4 0 (by omega)
  have vl : (Q.writeK d k l).2.s.length = d.s.length := wrK_len k l 4 0 d
  refine ⟨v1, v2, vl, ?_, fun j hj hj4 => ?_⟩
  · rw [blkAt_last _ _ (by omega)]
    show (lastD (Q.wrK d k l 4 0).2 _).1 ++ (lastD (Q.wrK d k l 4 0).2 _).1 ++ (lastD (Q.wrK d k l 4 0).2 _).1 ++ (lastD (Q.wrK d k l 4 0).2 _).1 = l
    rw [v3, v3, v3, v3, if_pos (by omega), if_pos (by omega), if_pos (by omega), if_pos (by omega)]
    rw [show k * 4 - k * 4 = 0 by omega, show k * 4 + 1 - k * 4 = 1 by omega, show k * 4 + 2 - k * 4 = 2 by omega, show k * 4 + 3 - k * 4 = 3 by omega]
    exact parts_all l hl
  · rw [blkAt_last _ _ (by omega), blkAt_last _ _ hj4]
    show (lastD (Q.wrK d k l 4 0).2 _).1 ++ (lastD (Q.wrK d k l 4 0).2 _).1 ++ (lastD (Q.wrK d k l 4 0).2 _).1 ++ (lastD (Q.wrK d k l 4 0).2 _).1 = _
    rw [v3, v3, v3, v3, if_neg (by omega), if_neg (by omega), if_neg (by omega), if_neg (by omega)]
theorem KS.write {w W : World} {b : Nat} {d : RD} (h : KS w W b d) (k : Nat) (hk : hasK d (k : Int)) (l : List UInt8) (hl : l.length = 256) (hs : Short d 4) {er : Int} (he : (writeK d k l).1 = er) :
    Calls Tryd.prog 30 #[.pointer (some ⟨b, 0, none⟩), .int .i64 (k : Int), .agg (cells8 l).toArray] W fun e w' => e = .returned (.int .i64 er) ∧ Hid (KS w w' b (writeK d k l).2) := by
  obtain ⟨F, h1, h2, h3⟩ := h
  refine (write_any' h1 k hk l hl hs).mono fun e w' hp => ⟨?_, KS.done h3 h2 hp⟩
  rw [← he]
  exact hp.1
theorem KS.write_out {w W : World} {b : Nat} {d : RD} (h : KS w W b d) (k : Int) (hk : ¬ hasK d k) (l : List UInt8) (hl : l.length = 256) :
    Calls Tryd.prog 30 #[.pointer (some ⟨b, 0, none⟩), .int .i64 k, .agg (cells8 l).toArray] W fun e w' => e = .returned (.int .i64 2) ∧ Hid (KS w w' b d) := by
  have h0 := h
  obtain ⟨F, h1, h2, h3⟩ := h
  exact (Q.write_out h1 k hk l hl).mono fun e w' hp => ⟨hp.1, h0.below hp.2⟩
theorem KS.read {w W : World} {b : Nat} {d : RD} (h : KS w W b d) (k : Nat) (hk : hasK d (k : Int)) :
    Calls Tryd.prog 31 #[.pointer (some ⟨b, 0, none⟩), .int .i64 (k : Int)] W fun e w' => e = .returned (.tuple #[.agg (cells8 (blkAt d k)).toArray, .int .i64 0]) ∧ Hid (KS w w' b d) := by
  have h0 := h
  obtain ⟨F, h1, h2, h3⟩ := h
  exact (read_any' h1 k hk).mono fun e w' hp => ⟨hp.1, h0.below hp.2⟩
theorem KS.read_out {w W : World} {b : Nat} {d : RD} (h : KS w W b d) (k : Int) (hk : ¬ hasK d k) :
    Calls Tryd.prog 31 #[.pointer (some ⟨b, 0, none⟩), .int .i64 k] W fun e w' => e = .returned (.tuple #[.agg (cells8 noughts).toArray, .int .i64 2]) ∧ Hid (KS w w' b d) := by
  have h0 := h
  obtain ⟨F, h1, h2, h3⟩ := h
  exact (Q.read_out h1 k hk).mono fun e w' hp => ⟨hp.1, h0.below hp.2⟩
end Go.Proofs.YtojbajbghldoeaaDoor.Q
end

section
/- The document's in, May. -/
set_option linter.unusedVariables false
namespace Go.Proofs.YtojbajbghldoeaaDoor.Q
open Go.RowKit
theorem rin_any (w : World) (n : Nat) (m : Int) (hn : n < 4294967296) (hm : 0 ≤ m ∧ m ≤ 1000) : Calls Tryd.prog 52 #[.int .u32 (n : Int), .int .i64 m] w fun e w' => e = .returned (.bool (decide ((n : Int) < m))) ∧ w' = w := by
  have h1 : IntKind.u64.wrap (n : Int) = (n : Int) := by rw [IntKind.wrap_u64]; omega
  have h2 : IntKind.u64.wrap m = m := by rw [IntKind.wrap_u64]; omega
  go_enter Tryd.func52, Tryd.ntmps52
  go_wp2
  go_ret
  exact ⟨rfl, rfl⟩
def pageS (s : SU) (i : Nat) : Nat := [s.p0, s.p1, s.p2, s.p3, s.p4, s.p5].getD i 0
theorem may_iff (s : SU) : s.may = true ↔ (16 ≤ s.m ∧ s.m ≤ 240 ∧ 1 ≤ s.d ∧ s.d ≤ 480) ∧ (∀ i, i < 6 → (pageS s i : Int) < s.m) ∧ ((s.tp : Int) < s.m ∧ (s.ba : Int) < s.m ∧ (s.sg : Int) < s.m) ∧ (1 ≤ s.tx ∧ s.tx ≤ 4611686018427387904) ∧ 0 ≤ s.c ∧ s.c < s.d := by
  constructor
  · intro h
    obtain ⟨h1, h2, h3, h4⟩ := SU.mayP_of h
    refine ⟨h1, fun i hi => h2 _ ?_, ⟨h2 _ (by simp), h2 _ (by simp), h2 _ (by simp)⟩, h3, h4⟩
    rcases i with _ | _ | _ | _ | _ | _ | i <;> first | (exfalso; omega) | (simp [pageS])
  · rintro ⟨h1, h2, ⟨h3, h4, h5⟩, h6, h7⟩
    refine mayS_yes ⟨h1, fun p hp => ?_, h6, h7⟩
    simp only [List.mem_cons, List.not_mem_nil, or_false] at hp
    rcases hp with rfl | rfl | rfl | rfl | rfl | rfl | rfl | rfl | rfl
    · exact h2 0 (by omega)
    · exact h2 1 (by omega)
    · exact h2 2 (by omega)
    · exact h2 3 (by omega)
    · exact h2 4 (by omega)
    · exact h2 5 (by omega)
    · exact h3
    · exact h4
    · exact h5
/-- the box of a superblock that came in -/
structure SX (W : World) (q : Nat) (s : SU) : Prop where
  tx : W.cell? ⟨q, 0, none⟩ = some (.int .u64 (s.tx : Int))
  m : W.cell? ⟨q, 1, none⟩ = some (.int .i64 s.m)
  d : W.cell? ⟨q, 2, none⟩ = some (.int .i64 s.d)
  p : ∀ i, i < 6 → W.cell? ⟨q, 3 + i, none⟩ = some (.int .u32 (pageS s i : Int))
  tp : W.cell? ⟨q, 9, none⟩ = some (.int .u32 (s.tp : Int))
  ba : W.cell? ⟨q, 10, none⟩ = some (.int .u32 (s.ba : Int))
  sg : W.cell? ⟨q, 11, none⟩ = some (.int .u32 (s.sg : Int))
  c : W.cell? ⟨q, 12, none⟩ = some (.int .i64 s.c)
theorem SX.new (w : World) (s : SU) : SX (w.alloc (.cells s.cells 50)) w.heap.size s := by
  have h := heap_alloc_new w (.cells s.cells 50)
  refine ⟨?_, ?_, ?_, fun i hi => ?_, ?_, ?_, ?_, ?_⟩
  · rw [Joins.cell_of_block h]; rfl
  · rw [Joins.cell_of_block h]; rfl
  · rw [Joins.cell_of_block h]; rfl
  · rw [Joins.cell_of_block h]
    rcases i with _ | _ | _ | _ | _ | _ | i <;> first | (exfalso; omega) | rfl
  · rw [Joins.cell_of_block h]; rfl
  · rw [Joins.cell_of_block h]; rfl
  · rw [Joins.cell_of_block h]; rfl
  · rw [Joins.cell_of_block h]; rfl
set_option maxRecDepth 100000 in
set_option maxHeartbeats 4000000 in
theorem rmay_any (w : World) (s : SU) (hf : s.fits) : Calls Tryd.prog 22 #[.agg s.cells] w fun e w' => e = .returned (.bool s.may) ∧ Below w.heap.size w w' := by
  have hx := SX.new w s
  have HB := Lib.hid ((Below.refl _ w).alloc (Nat.le_refl _) (.cells s.cells 50))
  have HMI := Lib.hid (may_iff s)
  have hsz : s.cells.size = 19 := rfl
  have HF := Lib.hid hf
  obtain ⟨cl, hcl⟩ : ∃ cl, s.cells = cl := ⟨_, rfl⟩
  rw [hcl] at hx HB hsz ⊢
  have q0 := hx.tx
  have q1 := hx.m
  have q2 := hx.d
  have q12 := hx.c
  have q9 := hx.tp
  have q10 := hx.ba
  have q11 := hx.sg
  have HX := Lib.hid hx
  clear hx hcl hf
  by_cases g0 : s.m < 16
  · have hno : s.may = false := by
      cases hm : s.may with
      | false => rfl
      | true =>
        have := HMI.out.1 hm
        omega
    rw [hno]
    clear hno HMI
    go_enter Tryd.func22, Tryd.ntmps22
    go_wp2
    go_ret
    exact ⟨rfl, HB.out⟩
  by_cases g1 : 240 < s.m
  · have hno : s.may = false := by
      cases hm : s.may with
      | false => rfl
      | true =>
        have := HMI.out.1 hm
        omega
    rw [hno]
    clear hno HMI
    go_enter Tryd.func22, Tryd.ntmps22
    go_wp2
    go_ret
    exact ⟨rfl, HB.out⟩
  by_cases g2 : s.d < 1
  · have hno : s.may = false := by
      cases hm : s.may with
      | false => rfl
      | true =>
        have := HMI.out.1 hm
        omega
    rw [hno]
    clear hno HMI
    go_enter Tryd.func22, Tryd.ntmps22
    go_wp2
    go_ret
    exact ⟨rfl, HB.out⟩
  by_cases g3 : 480 < s.d
  · have hno : s.may = false := by
      cases hm : s.may with
      | false => rfl
      | true =>
        have := HMI.out.1 hm
        omega
    rw [hno]
    clear hno HMI
    go_enter Tryd.func22, Tryd.ntmps22
    go_wp2
    go_ret
    exact ⟨rfl, HB.out⟩
  by_cases g4 : (s.tx : Int) < 1
  · have hno : s.may = false := by
      cases hm : s.may with
      | false => rfl
      | true =>
        have := HMI.out.1 hm
        omega
    rw [hno]
    clear hno HMI
    go_enter Tryd.func22, Tryd.ntmps22
    go_wp2
    go_ret
    exact ⟨rfl, HB.out⟩
  by_cases g5 : (4611686018427387904 : Int) < (s.tx : Int)
  · have hno : s.may = false := by
      cases hm : s.may with
      | false => rfl
      | true =>
        have := HMI.out.1 hm
        omega
    rw [hno]
    clear hno HMI
    go_enter Tryd.func22, Tryd.ntmps22
    go_wp2
    go_ret
    exact ⟨rfl, HB.out⟩
  by_cases g6 : s.c < 0
  · have hno : s.may = false := by
      cases hm : s.may with
      | false => rfl
      | true =>
        have := HMI.out.1 hm
        omega
    rw [hno]
    clear hno HMI
    go_enter Tryd.func22, Tryd.ntmps22
    go_wp2
    go_ret
    exact ⟨rfl, HB.out⟩
  by_cases g7 : s.d ≤ s.c
  · have hno : s.may = false := by
      cases hm : s.may with
      | false => rfl
      | true =>
        have := HMI.out.1 hm
        omega
    rw [hno]
    clear hno HMI
    go_enter Tryd.func22, Tryd.ntmps22
    go_wp2
    go_ret
    exact ⟨rfl, HB.out⟩
  go_enter Tryd.func22, Tryd.ntmps22
  have hm2 : 0 ≤ s.m ∧ s.m ≤ 1000 := by omega
  have HIN := Lib.hid (fun (W : World) (n : Nat) (hn : n < 4294967296) => rin_any W n s.m hn hm2)
  go_wp2
  go_loopw [3] (fun j wr => ∃ i : Nat, i ≤ 6 ∧ j = .int .i64 (i : Int) ∧ wr.heap = (w.alloc (.cells cl 50)).heap ∧ Hid (Below w.heap.size w wr ∧ ∀ k, k < i → (pageS s k : Int) < s.m)) (fun j _ => 6 - (intOf j).toNat)
  case atStart => exact ⟨0, by omega, rfl, rfl, Lib.hid ⟨HB.out, fun k hk => absurd hk (by omega)⟩⟩
  case round =>
    obtain ⟨i, hi, rfl, hh, HI⟩ := hrel
    have HH := Lib.hid hh
    have hcell : ∀ a : Addr, wr.cell? a = (w.alloc (.cells cl 50)).cell? a := fun a => by simp only [World.cell?, hh]
    by_cases hlt : i < 6
    · have hltI : (i : Int) < 6 := by omega
      have hp : wr.cell? ⟨w.heap.size, 3 + i, none⟩ = some (.int .u32 (pageS s i : Int)) := (hcell _).trans (HX.out.p i hlt)
      have hm1 : wr.cell? ⟨w.heap.size, 1, none⟩ = some (.int .i64 s.m) := (hcell _).trans q1
      have hpl : pageS s i < 4294967296 := by
        obtain ⟨f0, f1, f2, f3, f4, f5, _⟩ := HF.out.p
        rcases i with _ | _ | _ | _ | _ | _ | i <;> first | (exfalso; omega) | (simp only [pageS]; assumption) | (simp [pageS]; assumption)
      have HNI := Lib.hid (fun W => HIN.out W (pageS s i) hpl)
      generalize hpp : pageS s i = p at *
      have HPP := Lib.hid hpp
      clear hpp hcell hh
      by_cases c1 : (p : Int) < s.m
      · have t1 : decide ((p : Int) < s.m) = true := decide_eq_true c1
        go_wp2_with fail
        go_region_held_law (fun W' => W'.cell? ⟨w.heap.size, 3 + i, none⟩ = some (.int .u32 (p : Int)) ∧ W'.cell? ⟨w.heap.size, 1, none⟩ = some (.int .i64 s.m))
          (first | exact ⟨hp, hm1⟩)
          (first | (go_at_call 52; (with_reducible refine (HNI.out _).mono ?_); rintro e w1 ⟨rfl, rfl⟩))
        go_wp2
        exact ⟨⟨i + 1, hlt, by go_num, HH.out, Lib.hid ⟨HI.out.1.drew, fun k hk => by
          by_cases e : k = i
          · rw [e, HPP.out]; exact c1
          · exact HI.out.2 k (by omega)⟩⟩, by simp [intOf]; omega⟩
      · have t1 : decide ((p : Int) < s.m) = false := decide_eq_false c1
        have hno : s.may = false := by
          cases hm : s.may with
          | false => rfl
          | true => exact absurd (by rw [← HPP.out]; exact (HMI.out.1 hm).2.1 i hlt) c1
        have HNO := Lib.hid hno
        clear hno
        go_wp2_with fail
        go_region_held_law (fun W' => W'.cell? ⟨w.heap.size, 3 + i, none⟩ = some (.int .u32 (p : Int)) ∧ W'.cell? ⟨w.heap.size, 1, none⟩ = some (.int .i64 s.m))
          (first | exact ⟨hp, hm1⟩)
          (first | (go_at_call 52; (with_reducible refine (HNI.out _).mono ?_); rintro e w1 ⟨rfl, rfl⟩))
        go_wp2
        go_ret
        exact ⟨by rw [HNO.out]; rfl, HI.out.1.drew⟩
    · obtain rfl : i = 6 := by omega
      have z1 : wr.cell? ⟨w.heap.size, 1, none⟩ = some (.int .i64 s.m) := (hcell _).trans q1
      have z9 : wr.cell? ⟨w.heap.size, 9, none⟩ = some (.int .u32 (s.tp : Int)) := (hcell _).trans q9
      have z10 : wr.cell? ⟨w.heap.size, 10, none⟩ = some (.int .u32 (s.ba : Int)) := (hcell _).trans q10
      have z11 : wr.cell? ⟨w.heap.size, 11, none⟩ = some (.int .u32 (s.sg : Int)) := (hcell _).trans q11
      obtain ⟨_, _, _, _, _, _, f6, f7, f8⟩ := HF.out.p
      have HTP := Lib.hid (fun W => HIN.out W s.tp f6)
      have HBA := Lib.hid (fun W => HIN.out W s.ba f7)
      have HSG := Lib.hid (fun W => HIN.out W s.sg f8)
      have HME : Hid (s.may = (decide ((s.tp : Int) < s.m) && (decide ((s.ba : Int) < s.m) && decide ((s.sg : Int) < s.m)))) := Lib.hid (by
        rw [Bool.eq_iff_iff, HMI.out]
        simp only [Bool.and_eq_true, decide_eq_true_eq]
        constructor
        · rintro ⟨_, _, h, _⟩; exact h
        · intro h; exact ⟨by omega, HI.out.2, h, by omega, by omega, by omega⟩)
      have HBW := Lib.hid HI.out.1
      clear hcell hh f6 f7 f8
      cases t1 : decide ((s.tp : Int) < s.m) with
      | false =>
        rw [t1] at HTP
        have u1 := of_decide_eq_false t1
        have hno : s.may = false := by rw [HME.out, t1]; rfl
        have HNO := Lib.hid hno
        clear hno HME HI
        go_wp2_with (first | (go_at_call 52; first | ((with_reducible refine (HTP.out _).mono ?_); rintro e w1 ⟨rfl, rfl⟩) | ((with_reducible refine (HBA.out _).mono ?_); rintro e w1 ⟨rfl, rfl⟩) | ((with_reducible refine (HSG.out _).mono ?_); rintro e w1 ⟨rfl, rfl⟩)) | fail)
        all_goals go_wp2
        all_goals go_ret
        all_goals exact ⟨by rw [HNO.out]; rfl, HBW.out⟩
      | true =>
        rw [t1] at HTP
        have u1 := of_decide_eq_true t1
        cases t2 : decide ((s.ba : Int) < s.m) with
        | false =>
          rw [t2] at HBA
          have u2 := of_decide_eq_false t2
          have hno : s.may = false := by rw [HME.out, t1, t2]; rfl
          have HNO := Lib.hid hno
          clear hno HME HI
          go_wp2_with (first | (go_at_call 52; first | ((with_reducible refine (HTP.out _).mono ?_); rintro e w1 ⟨rfl, rfl⟩) | ((with_reducible refine (HBA.out _).mono ?_); rintro e w1 ⟨rfl, rfl⟩) | ((with_reducible refine (HSG.out _).mono ?_); rintro e w1 ⟨rfl, rfl⟩)) | fail)
          all_goals go_wp2
          all_goals go_ret
          all_goals exact ⟨by rw [HNO.out]; rfl, HBW.out⟩
        | true =>
          rw [t2] at HBA
          have u2 := of_decide_eq_true t2
          cases t3 : decide ((s.sg : Int) < s.m) with
          | false =>
            rw [t3] at HSG
            have u3 := of_decide_eq_false t3
            have hno : s.may = false := by rw [HME.out, t1, t2, t3]; rfl
            have HNO := Lib.hid hno
            clear hno HME HI
            go_wp2_with (first | (go_at_call 52; first | ((with_reducible refine (HTP.out _).mono ?_); rintro e w1 ⟨rfl, rfl⟩) | ((with_reducible refine (HBA.out _).mono ?_); rintro e w1 ⟨rfl, rfl⟩) | ((with_reducible refine (HSG.out _).mono ?_); rintro e w1 ⟨rfl, rfl⟩)) | fail)
            all_goals go_wp2
            all_goals go_ret
            all_goals exact ⟨by rw [HNO.out]; rfl, HBW.out⟩
          | true =>
            rw [t3] at HSG
            have u3 := of_decide_eq_true t3
            have hno : s.may = true := by rw [HME.out, t1, t2, t3]; rfl
            have HNO := Lib.hid hno
            clear hno HME HI
            go_wp2_with (first | (go_at_call 52; first | ((with_reducible refine (HTP.out _).mono ?_); rintro e w1 ⟨rfl, rfl⟩) | ((with_reducible refine (HBA.out _).mono ?_); rintro e w1 ⟨rfl, rfl⟩) | ((with_reducible refine (HSG.out _).mono ?_); rintro e w1 ⟨rfl, rfl⟩)) | fail)
            all_goals go_wp2
            all_goals go_ret
            all_goals exact ⟨by rw [HNO.out]; rfl, HBW.out⟩
end Go.Proofs.YtojbajbghldoeaaDoor.Q
end

section
/- The document's Summed. -/
set_option linter.unusedVariables false
namespace Go.Proofs.YtojbajbghldoeaaDoor
open Go.RowKit

/-- some of the bytes laid -/
def laidTo (l : List UInt8) (i : Nat) : List UInt8 := [0, 0, 0, 0] ++ (l.take i ++ List.replicate (252 - i) 0)
theorem laidTo_zero (l : List UInt8) : laidTo l 0 = noughts := by unfold laidTo noughts; rfl
theorem laidTo_len (l : List UInt8) (h : l.length ≤ 252) (i : Nat) (hi : i ≤ l.length) : (laidTo l i).length = 256 := by simp [laidTo]; omega
theorem laidTo_set (l : List UInt8) (h : l.length ≤ 252) (i : Nat) (hi : i < l.length) : (laidTo l i).set (4 + i) (l[i]'hi) = laidTo l (i + 1) := by
  have e : List.replicate (252 - i) (0 : UInt8) = (List.replicate 252 0).drop i ++ [] := by rw [List.drop_replicate, List.append_nil]
  have e2 : List.replicate (252 - (i + 1)) (0 : UInt8) = (List.replicate 252 0).drop (i + 1) ++ [] := by rw [List.drop_replicate, List.append_nil]
  unfold laidTo
  rw [e, e2]
  have := set_mid [0, 0, 0, 0] (l.take i) (List.replicate 252 0) [] i (l[i]'hi) (by rw [List.length_take]; omega) (by rw [List.length_replicate]; omega)
  rw [List.take_succ_eq_append_getElem hi]
  exact this
theorem laidTo_all (l : List UInt8) : laidTo l l.length = [0, 0, 0, 0] ++ padB l := by unfold laidTo padB; rw [List.take_length]
/-- the sum laid ahead -/
def headTo (s : Nat) (p : List UInt8) (i : Nat) : List UInt8 := (leN 4 s).take i ++ (([0, 0, 0, 0] : List UInt8).drop i ++ p)
theorem headTo_set (s : Nat) (p : List UInt8) (i : Nat) (hi : i < 4) : (headTo s p i).set i ((leN 4 s)[i]'(by rw [leN_length]; exact hi)) = headTo s p (i + 1) := by
  unfold headTo
  have := set_mid [] ((leN 4 s).take i) [0, 0, 0, 0] p i ((leN 4 s)[i]'(by rw [leN_length]; exact hi)) (by simp [leN_length]; omega) (by simp; omega)
  rw [List.take_succ_eq_append_getElem (by rw [leN_length]; exact hi)]
  simpa using this
theorem headTo_all (s : Nat) (p : List UInt8) : headTo s p 4 = leN 4 s ++ p := by unfold headTo; rw [List.take_of_length_le (by rw [leN_length]; omega)]; rfl
theorem headTo_len (s : Nat) (p : List UInt8) (i : Nat) (hi : i ≤ 4) : (headTo s p i).length = 4 + p.length := by simp [headTo, leN_length]; omega

set_option maxRecDepth 10000 in
set_option maxHeartbeats 2000000 in
theorem rsummed_any (w : World) (A : Option Addr) (c : Nat) (l : List UInt8) (hs : Shows w w.heap.size A l.length (cells8 l)) (h252 : l.length ≤ 252) :
    Calls Tryd.prog 48 #[.slice A l.length c] w fun e w' => e = .returned (.agg (cells8 (summed (padB l))).toArray) ∧ Below w.heap.size w w' := by
  have hz := blk_zero
  have hcs : (cells8 noughts).toArray.size = 256 := (cells8_size _).trans noughts_len
  have hb0 := ((Below.refl w.heap.size w).alloc (Nat.le_refl _) (.cells (cells8 noughts).toArray 29)).alloc (by simp) (.cells (cells8 noughts).toArray 29)
  have hr0 : Holds8 ((w.alloc (.cells (cells8 noughts).toArray 29)).alloc (.cells (cells8 noughts).toArray 29)) w.heap.size 29 noughts := (Holds8.new w _ noughts _ rfl).alloc _
  have hx0 : Holds8 ((w.alloc (.cells (cells8 noughts).toArray 29)).alloc (.cells (cells8 noughts).toArray 29)) (w.heap.size + 1) 29 noughts := by
    have := Holds8.new (w.alloc (.cells (cells8 noughts).toArray 29)) 29 noughts _ rfl
    simpa using this
  have HB0 := Lib.hid hb0
  have HR0 := Lib.hid hr0
  have HX0 := Lib.hid hx0
  have HL0 := Lib.hid (laidTo_zero l)
  have HS := Lib.hid hs
  have HCS := Lib.hid hcs
  clear hb0 hr0 hx0 hs
  go_enter Tryd.func48, Tryd.ntmps48
  go_wp2
  go_loopw [4] (fun j wr => ∃ i : Nat, i ≤ l.length ∧ j = .int .i64 (i : Int) ∧ Holds8 wr (w.heap.size + 1) 29 (laidTo l i) ∧ Holds8 wr w.heap.size 29 noughts ∧ Below w.heap.size w wr) (fun j _ => l.length - (intOf j).toNat)
  case atStart => exact ⟨0, Nat.zero_le _, rfl, by rw [HL0.out]; exact HX0.out, HR0.out, HB0.out⟩
  case round =>
    obtain ⟨i, hi, rfl, hx, hr, hbr⟩ := hrel
    by_cases hlt : i < l.length
    · obtain ⟨p, u, rfl, hp, hu, hcl⟩ := (HS.out.below hbr).cell hlt
      rw [cells8_get l i hlt] at hu
      injection hu with hu
      subst hu
      have hlen := laidTo_len l h252 i hi
      obtain ⟨q, hc⟩ : ∃ q, wr.cell? ⟨w.heap.size + 1, 4 + i, none⟩ = some q := ⟨_, hx.cell (4 + i) (by omega)⟩
      have hf := hx.frozen (4 + i)
      have hst := hx.set (4 + i) (l[i]'hlt)
      rw [laidTo_set l h252 i hlt] at hst
      have HST := Lib.hid hst
      have HR := Lib.hid hr
      clear hst hx hr hlen
      generalize l[i]'hlt = b at *
      have hltI : (i : Int) < (l.length : Int) := by omega
      have hltJ : (i : Int) < 252 := by omega
      clear hz hcs
      go_wp2
      go_roundw
      case rel => exact ⟨i + 1, hlt, by go_num, HST.out, HR.out.other (by simp) _, hbr.setCell (by simp) _⟩
      case measure => simp [intOf]; omega
    · obtain rfl : i = l.length := by omega
      have hltI : ¬ (l.length : Int) < (l.length : Int) := by omega
      rw [laidTo_all] at hx
      have hpl := padB_length l h252
      have hsh : Shows wr wr.heap.size (some ⟨w.heap.size + 1, 4, none⟩) (padB l).length (cells8 (padB l)) := by
        have := hx.shows.from_ (k := 4) (cap := 256) (by simp) (by simp [hpl])
        rw [if_neg (by omega), ← cells8_drop] at this
        simpa [Addr.add] using this
      have hsum := rsum_any wr.heap.size (some ⟨w.heap.size + 1, 4, none⟩) 252 (padB l) wr hsh (by omega)
      rw [hpl] at hsum
      have HSUM := Lib.hid hsum
      have hs32 := sumB_lt (padB l)
      have HX := Lib.hid hx
      have HR := Lib.hid hr
      have HPL := Lib.hid hpl
      clear hsum hx hr hpl hsh
      have HSD : Hid (summed (padB l) = leN 4 (sumB (padB l)) ++ padB l) := rfl
      generalize sumB (padB l) = s at *
      generalize hpd : padB l = pd at *
      have HPD := Lib.hid hpd
      clear hpd
      have HLW := Lib.hid (rlow_any s 4 wr (by omega) (by omega))
      go_wp2_with (first
        | (go_at_call 74; (with_reducible refine HSUM.out.mono ?_); rintro e w1 ⟨rfl, rfl⟩)
        | fail)
      refine HLW.out.mono ?_
      rintro e w2 ⟨v, rfl, hown, hb2⟩
      obtain ⟨A2, c2, rfl, hc24, _⟩ := own_form4 hown
      have hx2 := HX.out.below hb2
      have hr2 := HR.out.below hb2
      have HB2 := Lib.hid (hbr.trans (hb2.mono hbr.size))
      have hsz : w.heap.size + 1 < w2.heap.size := hx2.lt
      have hlw : w.heap.size + 1 < w1.heap.size := HX.out.lt
      have HOW := Lib.hid hown
      clear HSUM HLW HX HR hb2 hown hbr
      go_wp2
      go_loopw [6] (fun j wr => ∃ i : Nat, i ≤ 4 ∧ j = .int .i64 (i : Int) ∧ Holds8 wr (w.heap.size + 1) 29 (headTo s pd i) ∧ Holds8 wr w.heap.size 29 noughts ∧ wr.ownsRow w1.heap.size 5 1 (.slice A2 4 c2) 4 (cells8 (leN 4 s)) ∧ Below w.heap.size w wr) (fun j _ => 4 - (intOf j).toNat)
      case atStart => exact ⟨0, Nat.zero_le _, rfl, hx2, hr2, HOW.out, HB2.out⟩
      case round =>
        obtain ⟨i, hi, rfl, hx, hr, ho, hbr⟩ := hrel
        by_cases hlt : i < 4
        · have hsh4 := Shows.owned ho
          obtain ⟨p, u, rfl, hp, hu, hcl⟩ := hsh4.cell hlt
          rw [cells8_get (leN 4 s) i (by rw [leN_length]; exact hlt)] at hu
          injection hu with hu
          subst hu
          have hlen := headTo_len s pd i hi
          rw [HPL.out] at hlen
          obtain ⟨q, hc⟩ : ∃ q, wr.cell? ⟨w.heap.size + 1, i, none⟩ = some q := ⟨_, hx.cell i (by omega)⟩
          have hf := hx.frozen i
          have hst := hx.set i ((leN 4 s)[i]'(by rw [leN_length]; exact hlt))
          rw [headTo_set s pd i hlt] at hst
          have HST := Lib.hid hst
          have HR := Lib.hid hr
          have HO := Lib.hid ho
          clear hst hx hr hlen hsh4 ho hz hcs hx2 hr2
          generalize (leN 4 s)[i]'_ = b at hcl HST
          go_wp2
          go_roundw
          case rel => exact ⟨i + 1, hlt, by go_num, HST.out, HR.out.other (by simp) _, HO.out.kept (grown_set _ _ _) (.inr fun e => by have := (HO.out.lt _ e).1; simp at this; omega), hbr.setCell (by simp) _⟩
          case measure => simp [intOf]; omega
        · obtain rfl : i = 4 := by omega
          rw [headTo_all, ← HSD.out, ← HPD.out] at hx
          have HX := Lib.hid hx
          have HR := Lib.hid hr
          have HIS : Hid ((cells8 (summed (padB l))).toArray.size = 256) := (cells8_size _).trans (by rw [summed_length, padB_length l h252])
          clear hx hr hx2 hr2 ho
          go_wp2_with (first
            | refine wpList_load_row rfl 29 (.tmp 3) rfl (w.heap.size + 1) rfl 29 (cells8 (summed (padB l))).toArray (0, 0) _ HX.out Tryd.underlying29 rfl (by rw [blk_size, HIS.out]) ?_
            | refine wpList_store_row rfl 29 (.tmp 2) (.tmp 38) rfl w.heap.size (cells8 (summed (padB l))).toArray rfl rfl 29 (cells8 noughts).toArray HR.out (by rw [blk_size, HIS.out]) (by rw [HCS.out, HIS.out]) (cells8_all _) ?_
            | fail)
          exact bodyPost_ret (results_cell_row rfl _ _ w.heap.size 29 (cells8 (summed (padB l))).toArray (0, 0) _ rfl (HR.out.row (summed (padB l))) Tryd.underlying29 rfl (by rw [blk_size, HIS.out])) rfl ⟨rfl, below_setRow hbr (Nat.le_refl _) _⟩
end Go.Proofs.YtojbajbghldoeaaDoor
end

section
/- The document's Block. -/
set_option linter.unusedVariables false
namespace Go.Proofs.YtojbajbghldoeaaDoor.Q
open Go.RowKit
/-- while the document's bytes grow -/
structure SLB (w wr : World) (cl : Array Value) (v : Value) (l : List UInt8) : Prop where
  node : wr.heap[w.heap.size]? = some (.cells cl 50 (0, 0))
  res : Holds8 wr (w.heap.size + 1) 29 noughts
  own : wr.ownsRow (w.heap.size + 2) 5 1 v l.length (cells8 l)
  bel : Below w.heap.size w wr
  n4 : w.heap.size + 2 ≤ wr.heap.size
theorem SLB.on {w wr w2 : World} {cl : Array Value} {v : Value} {l : List UInt8} (h : SLB w wr cl v l) (hb : Below wr.heap.size wr w2) : SLB w w2 cl v l :=
  ⟨(hb.block _ (lt_of_block h.node)).trans h.node, h.res.below hb, own_on h.own hb, h.bel.trans (hb.mono h.bel.size), Nat.le_trans h.n4 hb.size⟩
theorem SLB.low {w wr : World} {cl : Array Value} {v : Value} {l : List UInt8} (h : SLB w wr cl v l) (k n : Nat) (K N : Int) (hK : K = k) (hN : N = n) (hn : n < 18446744073709551616) (hk : k ≤ 8) :
    Calls Tryd.prog 47 #[.int .u64 N, .int .i64 K] wr fun e w' => ∃ A c, e = .returned (.slice A k c) ∧ Shows w' w'.heap.size A k (cells8 (leN k n)) ∧ Hid (SLB w w' cl v l) := by
  subst hK hN
  refine (rlow_any n k wr hn hk).mono fun e w' hp => ?_
  obtain ⟨v', he, ho, hb⟩ := hp
  obtain ⟨A, c, rfl, _⟩ := own_form4 ho
  exact ⟨A, c, he, Shows.owned ho, h.on hb⟩
theorem SLB.app {w wr w2 : World} {cl : Array Value} {v v2 : Value} {l m : List UInt8} {k : Nat} (h : SLB w wr cl v l) (hk : m.length = k) (ho : w2.ownsRow (w.heap.size + 2) 5 1 v2 (l.length + k) (cells8 l ++ cells8 m)) (hg : Grew wr w2 v v2) : SLB w w2 cl v2 (l ++ m) := by
  have hb := hg.below h.own (Nat.le_refl _) h.n4
  refine ⟨(hb.block _ (by omega)).trans h.node, (hb.block _ (by omega)).trans h.res, ?_, h.bel.trans (hb.mono (by omega)), Nat.le_trans h.n4 hb.size⟩
  rw [List.length_append, hk, cells8_append]
  exact ho
theorem SLB.sx {w wr : World} {cl : Array Value} {v : Value} {l : List UInt8} {s : SU} (h : SLB w wr cl v l) (hc : s.cells = cl) : SX wr w.heap.size s := by
  have hx := SX.new w s
  have hn := heap_alloc_new w (.cells s.cells 50)
  have e : ∀ i, wr.cell? ⟨w.heap.size, i, none⟩ = (w.alloc (.cells s.cells 50)).cell? ⟨w.heap.size, i, none⟩ := fun i => by
    rw [Joins.cell_of_block h.node, Joins.cell_of_block hn, hc]
  exact ⟨(e 0).trans hx.tx, (e 1).trans hx.m, (e 2).trans hx.d, fun i hi => (e _).trans (hx.p i hi), (e 9).trans hx.tp, (e 10).trans hx.ba, (e 11).trans hx.sg, (e 12).trans hx.c⟩
theorem SLB.start (w : World) (cl : Array Value) :
    SLB w (((w.alloc (.cells cl 50)).alloc (.cells (cells8 noughts).toArray 29)).alloc (.cells #[.int .u8 86, .int .u8 79, .int .u8 73, .int .u8 76] 5)) cl (.slice (some ⟨w.heap.size + 2, 0, none⟩) 4 4) [86, 79, 73, 76] := by
  have h1 := heap_alloc_new w (.cells cl 50)
  have h2 := Holds8.new (w.alloc (.cells cl 50)) 29 noughts _ rfl
  have h3 := heap_alloc_new ((w.alloc (.cells cl 50)).alloc (.cells (cells8 noughts).toArray 29)) (.cells #[.int .u8 86, .int .u8 79, .int .u8 73, .int .u8 76] 5)
  simp only [World.size_alloc] at h2 h3
  refine ⟨heap_alloc' (heap_alloc' h1), h2.alloc _, ⟨rfl, .inr ⟨w.heap.size + 2, 4, _, rfl, Nat.le_refl _, h3, Nat.le_refl _, by decide, rfl, rfl⟩⟩, (((Below.refl w.heap.size w).alloc (Nat.le_refl _) _).alloc (by simp) _).alloc (by simp; omega) _, by simp⟩
theorem run_append_full {P : Program} (w : World) (t ty e : TypeId) (i : TypeInfo) (z : Value) (ht : P.underlying t = some (.slice e)) (hi : P.info? e = some i) (hz : i.zero = some z)
    (hsize : i.size = 1) (hby : i.bytes = 1) (hzs : z.cells.size = 1) (B : Nat) (A : Option Addr) (n : Nat) (olds : List Value) (hs : Shows w B A n olds)
    (p : Addr) (m c : Nat) (news : List Value) (hm : 0 < m) (hnl : news.length = m) (hnews : ∀ j u, news[j]? = some u → w.cell? (p.add j) = some u) (h1 : ∀ u ∈ news, u.oneCell' = true)
    (h63 : n + m ≤ 70368744177664) :
    ∃ v' w', (Builtin.append_ #[t, t] ty #[.slice A n n, .slice (some p) m c]).run P w = .ok v' w' ∧ w'.ownsRow w.heap.size e 1 v' (n + m) (olds ++ news) ∧ Below w.heap.size w w' := by
  cases A with
  | none =>
    have hn0 : n = 0 := by
      rcases Nat.eq_zero_or_pos n with h | h
      · exact h
      · obtain ⟨q, hq, _⟩ := hs.lies h
        cases hq
    subst hn0
    have ho : olds = [] := List.eq_nil_of_length_eq_zero hs.len
    subst ho
    obtain ⟨v', w', hr, h2, h3, _, h5⟩ := run_append_own_at (P := P) w w.heap.size t ty e i z 1 1 ht hi hz hsize hby hzs (by omega) (.slice none 0 0) 0 [] ⟨rfl, .inl ⟨rfl, rfl⟩⟩ p m c news (by rw [hnl, Nat.mul_one]) hnews h1 (by unfold maxLen; omega) (by omega) (Nat.le_refl _)
    exact ⟨v', w', hr, h2, (Below.refl _ _).grown h3 (Nat.le_refl _) (by intro k hk; cases hk)⟩
  | some b =>
    have holds : ∀ j u, olds[j]? = some u → w.cell? (b.add j) = some u := by
      intro j u hu
      have hj : j < olds.length := by
        rcases Nat.lt_or_ge j olds.length with h | h
        · exact h
        · rw [List.getElem?_eq_none h] at hu; cases hu
      obtain ⟨q, hq, _, hx⟩ := hs.lies (by rw [← hs.len]; omega)
      injection hq with hq
      subst hq
      exact hx j u hu
    obtain ⟨v', w', hr, h2, h3⟩ := run_append_arg_grows (P := P) w t ty e i z 1 1 ht hi hz hsize hby hzs (by omega) b n n olds (by rw [hs.len, Nat.mul_one]) holds p m c news (by rw [hnl, Nat.mul_one]) hnews (by omega) (by unfold maxLen; omega) (by omega)
    exact ⟨v', w', hr, h2, (Below.refl _ _).grown h3 (Nat.le_refl _) (by intro k hk; cases hk)⟩

theorem wpList_append_full {P : Program} (w : World) {ops : Array Oper} {rest : List Oper} {o : Oper} {a : Act} {Q : Exit → Act → World → Prop} (hgd : o.guard = none) (s x : Operand) (t : TypeId)
    (ho : o.op = .call { callee := .builtin .append, args := #[s, x], argTypes := #[t, t] })
    (e : TypeId) (i : TypeInfo) (z : Value) (ht : P.underlying t = some (.slice e)) (hi : P.info? e = some i) (hz : i.zero = some z)
    (hsize : i.size = 1) (hby : i.bytes = 1) (hzs : z.cells.size = 1) (B : Nat) (A : Option Addr) (n : Nat) (olds : List Value) (hev : a.eval s = .slice A n n) (hs : Shows w B A n olds)
    (p : Addr) (m c : Nat) (news : List Value) (hx : a.eval x = .slice (some p) m c) (hm : 0 < m) (hnl : news.length = m) (hnews : ∀ j u, news[j]? = some u → w.cell? (p.add j) = some u) (h1 : ∀ u ∈ news, u.oneCell' = true)
    (h63 : n + m ≤ 70368744177664)
    (h : ∀ v' w', w'.ownsRow w.heap.size e 1 v' (n + m) (olds ++ news) → Below w.heap.size w w' → wpList P ops Q rest (a.put o.dst v') w') : wpList P ops Q (o :: rest) a w := by
  refine wpList_plain hgd fun K hK => ?_
  obtain ⟨v', w', hr, h2, h3⟩ := run_append_full (P := P) w t o.type e i z ht hi hz hsize hby hzs B A n olds hs p m c news hm hnl hnews h1 h63
  unfold Oper.wp execOp
  simp only [ho, resolve, invoke, builtin, Sem.run_bind, Sem.run_pure, Result.andThen_ok, List.map_toArray, List.map_cons, List.map_nil, hev, hx, hr]
  exact hK _ _ (h v' w' h2 h3)

/-- ahead of the first append: the letters lie in a row of theirs -/
structure SLA (w wr : World) (cl : Array Value) : Prop where
  node : wr.heap[w.heap.size]? = some (.cells cl 50 (0, 0))
  res : Holds8 wr (w.heap.size + 1) 29 noughts
  sh : Shows wr wr.heap.size (some ⟨w.heap.size + 1 + 1, 0, none⟩) 4 (cells8 [86, 79, 73, 76])
  bel : Below w.heap.size w wr
  n4 : w.heap.size + 2 ≤ wr.heap.size
theorem SLA.low {w wr : World} {cl : Array Value} (h : SLA w wr cl) (k n : Nat) (K N : Int) (hK : K = k) (hN : N = n) (hn : n < 18446744073709551616) (hk : k ≤ 8) :
    Calls Tryd.prog 47 #[.int .u64 N, .int .i64 K] wr fun e w' => ∃ A c, e = .returned (.slice A k c) ∧ Shows w' w'.heap.size A k (cells8 (leN k n)) ∧ Hid (SLA w w' cl) := by
  subst hK hN
  refine (rlow_any n k wr hn hk).mono fun e w' hp => ?_
  obtain ⟨v', he, ho, hb⟩ := hp
  obtain ⟨A, c, rfl, _⟩ := own_form4 ho
  exact ⟨A, c, he, Shows.owned ho, (hb.block _ (lt_of_block h.node)).trans h.node, h.res.below hb, (h.sh.below hb).wide hb.size, h.bel.trans (hb.mono h.bel.size), Nat.le_trans h.n4 hb.size⟩
theorem SLA.app {w wr w2 : World} {cl : Array Value} {v2 : Value} {m : List UInt8} {k : Nat} (h : SLA w wr cl) (hk : m.length = k) (ho : w2.ownsRow wr.heap.size 5 1 v2 (4 + k) (cells8 [86, 79, 73, 76] ++ cells8 m)) (hb : Below wr.heap.size wr w2) : SLB w w2 cl v2 ([86, 79, 73, 76] ++ m) := by
  refine ⟨(hb.block _ (lt_of_block h.node)).trans h.node, h.res.below hb, ?_, h.bel.trans (hb.mono h.bel.size), Nat.le_trans h.n4 hb.size⟩
  rw [List.length_append, hk, cells8_append]
  exact Joins.ownsRow_le ho h.n4
theorem SLA.start (w : World) (cl : Array Value) : SLA w (((w.alloc (.cells cl 50)).alloc (.cells (cells8 noughts).toArray 29)).alloc (.cells #[.int .u8 86, .int .u8 79, .int .u8 73, .int .u8 76] 5 (4, 5))) cl := by
  have h1 := heap_alloc_new w (.cells cl 50)
  have h2 := Holds8.new (w.alloc (.cells cl 50)) 29 noughts _ rfl
  simp only [World.size_alloc] at h2
  refine ⟨heap_alloc' (heap_alloc' h1), h2.alloc _, ⟨rfl, fun _ => ⟨_, rfl, by simp, fun j u hu => ?_⟩⟩, (((Below.refl w.heap.size w).alloc (Nat.le_refl _) _).alloc (by simp) _).alloc (by simp; omega) _, by simp⟩
  have ha : (⟨w.heap.size + 1 + 1, 0, none⟩ : Addr).add j = ⟨w.heap.size + 1 + 1, j, none⟩ := by
    unfold Addr.add
    by_cases hj0 : j = 0 <;> simp [hj0]
  rw [ha, Joins.cell_alloc_mark_at _ _ _ _ _ _ (by simp)]
  simpa [cells8] using hu
/-- the letters, and the first j numbers -/
def PR (L : List Nat) (j : Nat) : List UInt8 := [86, 79, 73, 76] ++ laidToS L j
theorem PR_len (L : List Nat) (j : Nat) : (PR L j).length = 4 + offTo j := by rw [PR, List.length_append, laidTo_length]; rfl
theorem PR_succ (L : List Nat) (j : Nat) : PR L j ++ leN (widL.getD j 0) (L.getD j 0) = PR L (j + 1) := by rw [PR, PR, laidToS, List.append_assoc]
theorem SLB.cell {w wr : World} {cl : Array Value} {v : Value} {l : List UInt8} (h : SLB w wr cl v l) (i : Nat) : wr.cell? ⟨w.heap.size, i, none⟩ = cl[i]? := by rw [Joins.cell_of_block h.node]
theorem SLB.own' {w wr : World} {cl : Array Value} {v : Value} {l : List UInt8} {k : Nat} (h : SLB w wr cl v l) (hk : l.length = k) : wr.ownsRow (w.heap.size + 2) 5 1 v k (cells8 l) := by
  have := h.own
  rwa [hk] at this
/-- the same, with the state's box -/
structure SLC (w wr : World) (cl : Array Value) (v : Value) (l : List UInt8) (sb : Nat) (st : Array Value) : Prop where
  b : SLB w wr cl v l
  bx : wr.heap[sb]? = some (.cells st 48 (0, 0))
  ne : ∀ k, v.ownBlock = some k → k ≠ sb
theorem SLC.on {w wr w2 : World} {cl : Array Value} {v : Value} {l : List UInt8} {sb : Nat} {st : Array Value} (h : SLC w wr cl v l sb st) (hb : Below wr.heap.size wr w2) : SLC w w2 cl v l sb st :=
  ⟨h.b.on hb, (hb.block _ (lt_of_block h.bx)).trans h.bx, h.ne⟩
theorem SLC.make {w wr : World} {cl : Array Value} {v : Value} {l : List UInt8} (h : SLB w wr cl v l) (st : Array Value) : SLC w (wr.alloc (.cells st 48)) cl v l wr.heap.size st :=
  ⟨h.on ((Below.refl _ _).alloc (Nat.le_refl _) _), heap_alloc_new wr _, fun k hk e => by have := (h.own.lt k hk).2; omega⟩
theorem SLC.cell {w wr : World} {cl : Array Value} {v : Value} {l : List UInt8} {sb : Nat} {st : Array Value} (h : SLC w wr cl v l sb st) (i : Nat) : wr.cell? ⟨sb, i, none⟩ = st[i]? := by rw [Joins.cell_of_block h.bx]
theorem SLC.low {w wr : World} {cl : Array Value} {v : Value} {l : List UInt8} {sb : Nat} {st : Array Value} (h : SLC w wr cl v l sb st) (k n : Nat) (K N : Int) (hK : K = k) (hN : N = n) (hn : n < 18446744073709551616) (hk : k ≤ 8) :
    Calls Tryd.prog 47 #[.int .u64 N, .int .i64 K] wr fun e w' => ∃ A c, e = .returned (.slice A k c) ∧ Shows w' w'.heap.size A k (cells8 (leN k n)) ∧ Hid (SLC w w' cl v l sb st) := by
  subst hK hN
  refine (rlow_any n k wr hn hk).mono fun e w' hp => ?_
  obtain ⟨v', he, ho, hb⟩ := hp
  obtain ⟨A, c, rfl, _⟩ := own_form4 ho
  exact ⟨A, c, he, Shows.owned ho, h.on hb⟩
theorem SLC.app {w wr w2 : World} {cl : Array Value} {v v2 : Value} {l m : List UInt8} {k sb : Nat} {st : Array Value} (h : SLC w wr cl v l sb st) (hk : m.length = k) (ho : w2.ownsRow (w.heap.size + 2) 5 1 v2 (l.length + k) (cells8 l ++ cells8 m)) (hg : Grew wr w2 v v2) : SLC w w2 cl v2 (l ++ m) sb st := by
  have hlt := lt_of_block h.bx
  refine ⟨h.b.app hk ho hg, (hg.by_.block sb hlt (fun e => h.ne sb e.symm rfl)).trans h.bx, fun k hk2 => ?_⟩
  rcases hg.at_ with e | ⟨g, e, hge⟩
  · exact h.ne k (by rw [← e]; exact hk2)
  · rw [hk2] at e
    injection e with e
    omega
theorem pageS_num (s : SU) (i : Nat) (h : i < 6) : s.nums.getD (3 + i) 0 = pageS s i ∧ widL.getD (3 + i) 0 = 4 ∧ 4 + offTo (3 + i) = 20 + 4 * i := by
  rcases i with _ | _ | _ | _ | _ | _ | i <;> first | (exfalso; omega) | exact ⟨rfl, rfl, rfl⟩
theorem pageS_lt (s : SU) (hf : s.fits) (i : Nat) (h : i < 6) : pageS s i < 4294967296 := by
  obtain ⟨f0, f1, f2, f3, f4, f5, _⟩ := hf.p
  rcases i with _ | _ | _ | _ | _ | _ | i <;> first | (exfalso; omega) | (simp only [pageS]; assumption) | (simp [pageS]; assumption)
theorem shows_one (w : World) : Shows (w.alloc (.cells #[.int .u8 1] 5)) (w.alloc (.cells #[.int .u8 1] 5)).heap.size (some ⟨w.heap.size, 0, none⟩) 1 (cells8 [1]) := by
  refine ⟨rfl, fun _ => ⟨_, rfl, by simp, fun j u hu => ?_⟩⟩
  have ha : (⟨w.heap.size, 0, none⟩ : Addr).add j = ⟨w.heap.size, j, none⟩ := by
    unfold Addr.add
    by_cases hj0 : j = 0 <;> simp [hj0]
  rw [ha, Joins.cell_of_block (heap_alloc_new w _)]
  simpa [cells8] using hu
def mkL (b : Bool) : List UInt8 := match b with | true => [1] | false => []
/-- the row's end: a nought stands for no mark -/
theorem img_row (s : SU) : summed (padB (PR s.nums 18 ++ mkL s.mkd)) = s.img := by
  have e0 : s.nums.getD 18 0 = bitN s.mkd := rfl
  have hb : ∀ (l : List UInt8), padB (PR s.nums 18 ++ l) = PR s.nums 18 ++ (l ++ List.replicate (152 - l.length) 0) := fun l => by
    rw [padB, List.length_append, PR_len, show 4 + offTo 18 = 100 from rfl, List.append_assoc]
    congr 3
    omega
  rw [hb]
  have hi : bodyS s.nums = PR s.nums 18 ++ (leN 1 (bitN s.mkd) ++ List.replicate 151 0) := by
    rw [bodyS, laidToS, e0, show widL.getD 18 0 = 1 from rfl, PR]
    simp only [List.append_assoc]
  show summed _ = imgS s.nums
  unfold imgS summed
  have hx : mkL s.mkd ++ List.replicate (152 - (mkL s.mkd).length) 0 = leN 1 (bitN s.mkd) ++ List.replicate 151 0 := by
    cases s.mkd with
    | true => rfl
    | false => rfl
  rw [hx, hi]
set_option maxRecDepth 100000 in
set_option maxHeartbeats 8000000 in
theorem rsblock_any (w : World) (s : SU) (hf : s.fits) (hm : s.may = true) : Calls Tryd.prog 25 #[.agg s.cells] w fun e w' => e = .returned (.agg (cells8 s.img).toArray) ∧ Below w.heap.size w w' := by
  obtain ⟨i0, hi0, hz0, hz1, hz2⟩ := info_parts u8_info
  obtain ⟨⟨hm1, hm2, hm3, hm4⟩, hm5, ⟨hm6, hm7⟩, hm8, hm9⟩ := SU.mayP_of hm
  have hsz : s.cells.size = 19 := rfl
  have hz := blk_zero
  have HCS : Hid ((cells8 noughts).toArray.size = 256) := (cells8_size _).trans noughts_len
  have HIL := Lib.hid s.img_len
  have HPG := Lib.hid (fun i hi => pageS_lt s hf i hi)
  have HPN := Lib.hid (fun i hi => pageS_num s i hi)
  have HRW := Lib.hid (img_row s)
  obtain ⟨mk, hmk⟩ : ∃ mk, s.mkd = mk := ⟨_, rfl⟩
  rw [hmk] at HRW
  obtain ⟨f0, f1, f2, f3, f4, f5, htp, hba, hsg⟩ := hf.p
  obtain ⟨hep, hla, hsq, hbl, hbs⟩ := hf.t
  have htx := hf.tx
  have hw1 : IntKind.u64.wrap s.m = s.m := by rw [IntKind.wrap_u64]; omega
  have hw2 : IntKind.u64.wrap s.d = s.d := by rw [IntKind.wrap_u64]; omega
  have hw9 : IntKind.u64.wrap (s.tp : Int) = (s.tp : Int) := by rw [IntKind.wrap_u64]; omega
  have hw10 : IntKind.u64.wrap (s.ba : Int) = (s.ba : Int) := by rw [IntKind.wrap_u64]; omega
  have hw11 : IntKind.u64.wrap (s.sg : Int) = (s.sg : Int) := by rw [IntKind.wrap_u64]; omega
  have hw12 : IntKind.u64.wrap s.c = s.c := by rw [IntKind.wrap_u64]; omega
  have HP0 : Hid (PR s.nums 0 ++ leN 8 s.tx = PR s.nums 1) := PR_succ s.nums 0
  have HP1 : Hid (PR s.nums 1 ++ leN 4 s.m.toNat = PR s.nums 2) := PR_succ s.nums 1
  have HP2 : Hid (PR s.nums 2 ++ leN 4 s.d.toNat = PR s.nums 3) := PR_succ s.nums 2
  have HP9 : Hid (PR s.nums 9 ++ leN 4 s.tp = PR s.nums 10) := PR_succ s.nums 9
  have HP10 : Hid (PR s.nums 10 ++ leN 4 s.ba = PR s.nums 11) := PR_succ s.nums 10
  have HP11 : Hid (PR s.nums 11 ++ leN 4 s.sg = PR s.nums 12) := PR_succ s.nums 11
  have HP12 : Hid (PR s.nums 12 ++ leN 4 s.c.toNat = PR s.nums 13) := PR_succ s.nums 12
  have HP13 : Hid (PR s.nums 13 ++ leN 8 s.ep = PR s.nums 14) := PR_succ s.nums 13
  have HP14 : Hid (PR s.nums 14 ++ leN 8 s.la = PR s.nums 15) := PR_succ s.nums 14
  have HP15 : Hid (PR s.nums 15 ++ leN 8 s.sq = PR s.nums 16) := PR_succ s.nums 15
  have HP16 : Hid (PR s.nums 16 ++ leN 8 s.bl = PR s.nums 17) := PR_succ s.nums 16
  have HP17 : Hid (PR s.nums 17 ++ leN 8 s.bs = PR s.nums 18) := PR_succ s.nums 17
  have HN0 : Hid ((PR s.nums 0).length = 4) := PR_len s.nums 0
  have HN1 : Hid ((PR s.nums 1).length = 12) := PR_len s.nums 1
  have HN2 : Hid ((PR s.nums 2).length = 16) := PR_len s.nums 2
  have HN9 : Hid ((PR s.nums 9).length = 44) := PR_len s.nums 9
  have HN10 : Hid ((PR s.nums 10).length = 48) := PR_len s.nums 10
  have HN11 : Hid ((PR s.nums 11).length = 52) := PR_len s.nums 11
  have HN12 : Hid ((PR s.nums 12).length = 56) := PR_len s.nums 12
  have HN13 : Hid ((PR s.nums 13).length = 60) := PR_len s.nums 13
  have HN14 : Hid ((PR s.nums 14).length = 68) := PR_len s.nums 14
  have HN15 : Hid ((PR s.nums 15).length = 76) := PR_len s.nums 15
  have HN16 : Hid ((PR s.nums 16).length = 84) := PR_len s.nums 16
  have HN17 : Hid ((PR s.nums 17).length = 92) := PR_len s.nums 17
  have HN3 : Hid ((PR s.nums 3).length = 20) := PR_len s.nums 3
  have HN18 : Hid ((PR s.nums 18).length = 100) := PR_len s.nums 18
  have HPP : Hid (∀ i, i < 6 → PR s.nums (3 + i) ++ leN 4 (pageS s i) = PR s.nums (3 + (i + 1)) ∧ (PR s.nums (3 + i)).length = 20 + 4 * i) := fun i hi => by
    obtain ⟨g1, g2, g3⟩ := pageS_num s i hi
    have := PR_succ s.nums (3 + i)
    rw [g1, g2] at this
    exact ⟨this, by rw [PR_len, g3]⟩
  have HST : Hid (s.cells[13]? = some (.int .u64 (s.ep : Int)) ∧ s.cells[14]? = some (.int .u64 (s.la : Int)) ∧ s.cells[15]? = some (.int .u64 (s.sq : Int)) ∧ s.cells[16]? = some (.int .u64 (s.bl : Int)) ∧ s.cells[17]? = some (.int .u64 (s.bs : Int)) ∧ s.cells[18]? = some (.bool s.mkd)) := ⟨rfl, rfl, rfl, rfl, rfl, rfl⟩
  rw [hmk] at HST
  clear hmk
  obtain ⟨cl, hcl⟩ : ∃ cl, s.cells = cl := ⟨_, rfl⟩
  rw [hcl] at hsz HST ⊢
  have hcv : (convert 61 61 (.slice (some ⟨w.heap.size + 1 + 1, 0, none⟩) 4 4)).run Tryd.prog (((w.alloc (.cells cl 50)).alloc (.cells (cells8 noughts).toArray 29)).alloc (.cells #[.int .u8 86, .int .u8 79, .int .u8 73, .int .u8 76] 5)) = .ok (.slice (some ⟨w.heap.size + 1 + 1, 0, none⟩) 4 4) (((w.alloc (.cells cl 50)).alloc (.cells (cells8 noughts).toArray 29)).alloc (.cells #[.int .u8 86, .int .u8 79, .int .u8 73, .int .u8 76] 5 (4, 5))) := Joins.run_convert_bytes_const_at _ 61 5 _ 4 4 _ (by simp) Tryd.underlying61 Tryd.underlying5
  have hs0 := SLA.start w cl
  have HS0 := Lib.hid hs0
  have HL := Lib.hid (HS0.out.low 8 s.tx 8 (s.tx : Int) rfl rfl htx (by omega))
  have HCL := Lib.hid hcl
  have z0 := (SX.new w s).tx
  rw [hcl] at z0
  have z0a : (((w.alloc (.cells cl 50)).alloc (.cells (cells8 noughts).toArray 29)).alloc (.cells #[.int .u8 86, .int .u8 79, .int .u8 73, .int .u8 76] 5 (4, 5))).cell? ⟨w.heap.size, 0, none⟩ = some (.int .u64 (s.tx : Int)) := by
    rw [World.cell?_alloc_lt _ _ _ (by simp; omega), World.cell?_alloc_lt _ _ _ (by simp)]
    exact z0
  clear hcl hf hm hs0 HS0
  generalize hnz : noughts = z at *
  have HZ := Lib.hid hnz
  clear hnz
  go_enter Tryd.func25, Tryd.ntmps25
  go_wp2_with fail
  refine HL.out.mono ?_
  rintro e u0 ⟨A0, c0, rfl, hs0, h0⟩
  clear HL z0 z0a hcv
  obtain ⟨pA0, rfl, hpA0, hxA0⟩ := hs0.lies (by omega)
  go_wp2_with (first
    | (at_builtin; refine wpList_append_full _ rfl (.tmp 8) (.tmp 11) 61 rfl 5 i0 (.int .u8 0) Tryd.underlying61 hi0 hz0 hz1 hz2 rfl _ (some ⟨w.heap.size + 1 + 1, 0, none⟩) 4 (cells8 [86, 79, 73, 76]) rfl h0.out.sh pA0 8 c0 (cells8 (leN 8 s.tx)) rfl (by omega) (by rw [cells8_length, leN_length]) hxA0 (cells8_one _) (by omega) ?_; intro v1 w1 hown hg; have g1 : Hid (SLB w w1 cl v1 (PR s.nums 1)) := HP0.out ▸ h0.out.app (leN_length 8 s.tx) hown hg; have z1 := (g1.out.sx HCL.out).m; clear hown hg)
    | fail)
  have HL := Lib.hid (g1.out.low 4 s.m.toNat 4 s.m rfl (by omega) (by omega) (by omega))
  refine HL.out.mono ?_
  rintro e u1 ⟨A1, c1, rfl, hs1, h1⟩
  clear HL z1 g1 h0 hs0
  have ho := h1.out.own' HN1.out
  go_wp2_with (first
    | (at_builtin; refine wpList_append_shows _ rfl (.tmp 13) (.tmp 17) 61 rfl (w.heap.size + 2) 5 i0 (.int .u8 0) 1 Tryd.underlying61 hi0 hz0 hz1 hz2 rfl _ 12 _ rfl ho _ A1 4 c1 (cells8 (leN 4 s.m.toNat)) rfl hs1 (cells8_one _) (by unfold maxLen; omega) (by omega) h1.out.n4 ?_; intro v2 w2 hown hg; have g2 := Lib.hid (HP1.out ▸ h1.out.app (leN_length 4 s.m.toNat) (by rw [HN1.out]; exact hown) hg); have z2 := (g2.out.sx HCL.out).d; clear hown hg)
    | fail)
  have HL := Lib.hid (g2.out.low 4 s.d.toNat 4 s.d rfl (by omega) (by omega) (by omega))
  refine HL.out.mono ?_
  rintro e u2 ⟨A2, c2, rfl, hs2, h2⟩
  clear HL z2 g2 h1 hs1 ho
  have ho := h2.out.own' HN2.out
  go_wp2_with (first
    | (at_builtin; refine wpList_append_shows _ rfl (.tmp 19) (.tmp 23) 61 rfl (w.heap.size + 2) 5 i0 (.int .u8 0) 1 Tryd.underlying61 hi0 hz0 hz1 hz2 rfl _ 16 _ rfl ho _ A2 4 c2 (cells8 (leN 4 s.d.toNat)) rfl hs2 (cells8_one _) (by unfold maxLen; omega) (by omega) h2.out.n4 ?_; intro v3 w3 hown hg; have g3 := Lib.hid (HP2.out ▸ h2.out.app (leN_length 4 s.d.toNat) (by rw [HN2.out]; exact hown) hg); clear hown hg)
    | fail)
  clear h2 hs2 ho
  go_loopw [3, 4] (fun v j wr => ∃ i : Nat, i ≤ 6 ∧ j = .int .i64 (i : Int) ∧ Hid (SLB w wr cl v (PR s.nums (3 + i)))) (fun _ j _ => 6 - (intOf j).toNat)
  case atStart => exact ⟨0, by omega, rfl, g3⟩
  case round =>
    obtain ⟨i, hi, rfl, HR⟩ := hrel
    clear g3
    by_cases hlt : i < 6
    · have hltI : (i : Int) < 6 := by omega
      have hp := (HR.out.sx HCL.out).p i hlt
      have hpl := HPG.out i hlt
      have HQ := Lib.hid (HPP.out i hlt)
      generalize pageS s i = pg at *
      have hwp : IntKind.u64.wrap (pg : Int) = (pg : Int) := by rw [IntKind.wrap_u64]; omega
      have HL := Lib.hid (HR.out.low 4 pg 4 (pg : Int) rfl rfl (by omega) (by omega))
      go_wp2_with fail
      refine HL.out.mono ?_
      rintro e up ⟨Ap, cp, rfl, hsp, hp2⟩
      have ho := hp2.out.own' HQ.out.2
      clear HL HR hp
      go_wp2_with (first
        | (at_builtin; refine wpList_append_shows _ rfl (.tmp 29) (.tmp 35) 61 rfl (w.heap.size + 2) 5 i0 (.int .u8 0) 1 Tryd.underlying61 hi0 hz0 hz1 hz2 rfl _ (20 + 4 * i) _ rfl ho _ Ap 4 cp (cells8 (leN 4 pg)) rfl hsp (cells8_one _) (by unfold maxLen; omega) (by omega) hp2.out.n4 ?_; intro vp wp hown hg; have gp := Lib.hid (HQ.out.1 ▸ hp2.out.app (leN_length 4 pg) (by rw [HQ.out.2]; exact hown) hg); clear hown hg)
        | fail)
      go_roundw
      case rel => exact ⟨i + 1, by omega, by go_num, gp⟩
      case measure => simp [intOf]; omega
    · obtain rfl : i = 6 := by omega
      have g9 : Hid (SLB w wr cl _ (PR s.nums 9)) := HR
      have z9 := (g9.out.sx HCL.out).tp
      clear HR
      go_wp2_with fail
      have HL := Lib.hid (g9.out.low 4 s.tp 4 (s.tp : Int) rfl rfl (by omega) (by omega))
      refine HL.out.mono ?_
      rintro e u9 ⟨A9, c9, rfl, hs9, h9⟩
      clear HL z9 g9
      have ho := h9.out.own' HN9.out
      go_wp2_with (first
        | (at_builtin; refine wpList_append_shows _ rfl (.tmp 37) (.tmp 41) 61 rfl (w.heap.size + 2) 5 i0 (.int .u8 0) 1 Tryd.underlying61 hi0 hz0 hz1 hz2 rfl _ 44 _ rfl ho _ A9 4 c9 (cells8 (leN 4 s.tp)) rfl hs9 (cells8_one _) (by unfold maxLen; omega) (by omega) h9.out.n4 ?_; intro v10 w10 hown hg; have g10 := Lib.hid (HP9.out ▸ h9.out.app (leN_length 4 s.tp) (by rw [HN9.out]; exact hown) hg); have z10 := (g10.out.sx HCL.out).ba; clear hown hg)
        | fail)
      have HL := Lib.hid (g10.out.low 4 s.ba 4 (s.ba : Int) rfl rfl (by omega) (by omega))
      refine HL.out.mono ?_
      rintro e u10 ⟨A10, c10, rfl, hs10, h10⟩
      clear HL z10 g10 h9 hs9 ho
      have ho := h10.out.own' HN10.out
      go_wp2_with (first
        | (at_builtin; refine wpList_append_shows _ rfl (.tmp 43) (.tmp 47) 61 rfl (w.heap.size + 2) 5 i0 (.int .u8 0) 1 Tryd.underlying61 hi0 hz0 hz1 hz2 rfl _ 48 _ rfl ho _ A10 4 c10 (cells8 (leN 4 s.ba)) rfl hs10 (cells8_one _) (by unfold maxLen; omega) (by omega) h10.out.n4 ?_; intro v11 w11 hown hg; have g11 := Lib.hid (HP10.out ▸ h10.out.app (leN_length 4 s.ba) (by rw [HN10.out]; exact hown) hg); have z11 := (g11.out.sx HCL.out).sg; clear hown hg)
        | fail)
      have HL := Lib.hid (g11.out.low 4 s.sg 4 (s.sg : Int) rfl rfl (by omega) (by omega))
      refine HL.out.mono ?_
      rintro e u11 ⟨A11, c11, rfl, hs11, h11⟩
      clear HL z11 g11 h10 hs10 ho
      have ho := h11.out.own' HN11.out
      go_wp2_with (first
        | (at_builtin; refine wpList_append_shows _ rfl (.tmp 49) (.tmp 53) 61 rfl (w.heap.size + 2) 5 i0 (.int .u8 0) 1 Tryd.underlying61 hi0 hz0 hz1 hz2 rfl _ 52 _ rfl ho _ A11 4 c11 (cells8 (leN 4 s.sg)) rfl hs11 (cells8_one _) (by unfold maxLen; omega) (by omega) h11.out.n4 ?_; intro v12 w12 hown hg; have g12 := Lib.hid (HP11.out ▸ h11.out.app (leN_length 4 s.sg) (by rw [HN11.out]; exact hown) hg); have z12 := (g12.out.sx HCL.out).c; clear hown hg)
        | fail)
      have HL := Lib.hid (g12.out.low 4 s.c.toNat 4 s.c rfl (by omega) (by omega) (by omega))
      refine HL.out.mono ?_
      rintro e u12 ⟨A12, c12, rfl, hs12, h12⟩
      clear HL z12 g12 h11 hs11 ho
      have ho := h12.out.own' HN12.out
      go_wp2_with (first
        | (at_builtin; refine wpList_append_shows _ rfl (.tmp 55) (.tmp 59) 61 rfl (w.heap.size + 2) 5 i0 (.int .u8 0) 1 Tryd.underlying61 hi0 hz0 hz1 hz2 rfl _ 56 _ rfl ho _ A12 4 c12 (cells8 (leN 4 s.c.toNat)) rfl hs12 (cells8_one _) (by unfold maxLen; omega) (by omega) h12.out.n4 ?_; intro v13 w13 hown hg; have g13 := Lib.hid (HP12.out ▸ h12.out.app (leN_length 4 s.c.toNat) (by rw [HN12.out]; exact hown) hg); have y13 := (g13.out.cell 13).trans HST.out.1; have y14 := (g13.out.cell 14).trans HST.out.2.1; have y15 := (g13.out.cell 15).trans HST.out.2.2.1; have y16 := (g13.out.cell 16).trans HST.out.2.2.2.1; have y17 := (g13.out.cell 17).trans HST.out.2.2.2.2.1; have y18 := (g13.out.cell 18).trans HST.out.2.2.2.2.2; have k13 := Lib.hid (SLC.make g13.out #[.int .u64 (s.ep : Int), .int .u64 (s.la : Int), .int .u64 (s.sq : Int), .int .u64 (s.bl : Int), .int .u64 (s.bs : Int), .bool mk]); have z13 : (w13.alloc (.cells #[.int .u64 (s.ep : Int), .int .u64 (s.la : Int), .int .u64 (s.sq : Int), .int .u64 (s.bl : Int), .int .u64 (s.bs : Int), .bool mk] 48)).cell? ⟨w13.heap.size, 0, none⟩ = some (.int .u64 (s.ep : Int)) := k13.out.cell 0; clear hown hg)
        | fail)
      have HL := Lib.hid (k13.out.low 8 s.ep 8 (s.ep : Int) rfl rfl (by omega) (by omega))
      refine HL.out.mono ?_
      rintro e u13 ⟨A13, c13, rfl, hs13, h13⟩
      clear HL z13 k13 g13 y13 y14 y15 y16 y17 y18 h12 hs12 ho
      have ho := h13.out.b.own' HN13.out
      go_wp2_with (first
        | (at_builtin; refine wpList_append_shows _ rfl (.tmp 63) (.tmp 66) 61 rfl (w.heap.size + 2) 5 i0 (.int .u8 0) 1 Tryd.underlying61 hi0 hz0 hz1 hz2 rfl _ 60 _ rfl ho _ A13 8 c13 (cells8 (leN 8 s.ep)) rfl hs13 (cells8_one _) (by unfold maxLen; omega) (by omega) h13.out.b.n4 ?_; intro v14 w14 hown hg; have g14 := Lib.hid (HP13.out ▸ h13.out.app (leN_length 8 s.ep) (by rw [HN13.out]; exact hown) hg); have z14 : w14.cell? ⟨w13.heap.size, 1, none⟩ = some (.int .u64 (s.la : Int)) := g14.out.cell 1; clear hown hg)
        | fail)
      have HL := Lib.hid (g14.out.low 8 s.la 8 (s.la : Int) rfl rfl (by omega) (by omega))
      refine HL.out.mono ?_
      rintro e u14 ⟨A14, c14, rfl, hs14, h14⟩
      clear HL z14 g14 h13 hs13 ho
      have ho := h14.out.b.own' HN14.out
      go_wp2_with (first
        | (at_builtin; refine wpList_append_shows _ rfl (.tmp 68) (.tmp 71) 61 rfl (w.heap.size + 2) 5 i0 (.int .u8 0) 1 Tryd.underlying61 hi0 hz0 hz1 hz2 rfl _ 68 _ rfl ho _ A14 8 c14 (cells8 (leN 8 s.la)) rfl hs14 (cells8_one _) (by unfold maxLen; omega) (by omega) h14.out.b.n4 ?_; intro v15 w15 hown hg; have g15 := Lib.hid (HP14.out ▸ h14.out.app (leN_length 8 s.la) (by rw [HN14.out]; exact hown) hg); have z15 : w15.cell? ⟨w13.heap.size, 2, none⟩ = some (.int .u64 (s.sq : Int)) := g15.out.cell 2; clear hown hg)
        | fail)
      have HL := Lib.hid (g15.out.low 8 s.sq 8 (s.sq : Int) rfl rfl (by omega) (by omega))
      refine HL.out.mono ?_
      rintro e u15 ⟨A15, c15, rfl, hs15, h15⟩
      clear HL z15 g15 h14 hs14 ho
      have ho := h15.out.b.own' HN15.out
      go_wp2_with (first
        | (at_builtin; refine wpList_append_shows _ rfl (.tmp 73) (.tmp 76) 61 rfl (w.heap.size + 2) 5 i0 (.int .u8 0) 1 Tryd.underlying61 hi0 hz0 hz1 hz2 rfl _ 76 _ rfl ho _ A15 8 c15 (cells8 (leN 8 s.sq)) rfl hs15 (cells8_one _) (by unfold maxLen; omega) (by omega) h15.out.b.n4 ?_; intro v16 w16 hown hg; have g16 := Lib.hid (HP15.out ▸ h15.out.app (leN_length 8 s.sq) (by rw [HN15.out]; exact hown) hg); have z16 : w16.cell? ⟨w13.heap.size, 3, none⟩ = some (.int .u64 (s.bl : Int)) := g16.out.cell 3; clear hown hg)
        | fail)
      have HL := Lib.hid (g16.out.low 8 s.bl 8 (s.bl : Int) rfl rfl (by omega) (by omega))
      refine HL.out.mono ?_
      rintro e u16 ⟨A16, c16, rfl, hs16, h16⟩
      clear HL z16 g16 h15 hs15 ho
      have ho := h16.out.b.own' HN16.out
      go_wp2_with (first
        | (at_builtin; refine wpList_append_shows _ rfl (.tmp 78) (.tmp 81) 61 rfl (w.heap.size + 2) 5 i0 (.int .u8 0) 1 Tryd.underlying61 hi0 hz0 hz1 hz2 rfl _ 84 _ rfl ho _ A16 8 c16 (cells8 (leN 8 s.bl)) rfl hs16 (cells8_one _) (by unfold maxLen; omega) (by omega) h16.out.b.n4 ?_; intro v17 w17 hown hg; have g17 := Lib.hid (HP16.out ▸ h16.out.app (leN_length 8 s.bl) (by rw [HN16.out]; exact hown) hg); have z17 : w17.cell? ⟨w13.heap.size, 4, none⟩ = some (.int .u64 (s.bs : Int)) := g17.out.cell 4; clear hown hg)
        | fail)
      have HL := Lib.hid (g17.out.low 8 s.bs 8 (s.bs : Int) rfl rfl (by omega) (by omega))
      refine HL.out.mono ?_
      rintro e u17 ⟨A17, c17, rfl, hs17, h17⟩
      clear HL z17 g17 h16 hs16 ho
      have ho := h17.out.b.own' HN17.out
      cases mk with
      | false =>
        have e0 : PR s.nums 18 ++ mkL false = PR s.nums 18 := List.append_nil _
        have HRX : Hid (summed (padB (PR s.nums 18)) = s.img) := by rw [← e0]; exact HRW.out
        clear e0
        go_wp2_with (first
          | (at_builtin; refine wpList_append_shows _ rfl (.tmp 83) (.tmp 86) 61 rfl (w.heap.size + 2) 5 i0 (.int .u8 0) 1 Tryd.underlying61 hi0 hz0 hz1 hz2 rfl _ 92 _ rfl ho _ A17 8 c17 (cells8 (leN 8 s.bs)) rfl hs17 (cells8_one _) (by unfold maxLen; omega) (by omega) h17.out.b.n4 ?_; intro v18 w18 hown hg; have g18 := Lib.hid (HP17.out ▸ h17.out.app (leN_length 8 s.bs) (by rw [HN17.out]; exact hown) hg); obtain ⟨AL, cL, rfl, _⟩ := own_form4 g18.out.b.own; have z18 : w18.cell? ⟨w13.heap.size, 5, none⟩ = some (.bool false) := g18.out.cell 5; clear hown hg)
          | fail)
        have hsm := rsummed_any w18 AL cL (PR s.nums 18) (Shows.owned g18.out.b.own) (by rw [HN18.out]; omega)
        rw [HRX.out] at hsm
        have hrs := g18.out.b.res
        rw [HZ.out] at hrs
        have HBL := Lib.hid g18.out.b.bel
        clear HRX HRW g18 z18 h17 hs17 ho
        have HRS := Lib.hid hrs
        have HSM := Lib.hid hsm
        clear hsm hrs
        have HIS : Hid ((cells8 s.img).toArray.size = 256) := (cells8_size _).trans HIL.out
        generalize hI : s.img = I at *
        have HI := Lib.hid hI
        clear hI
        generalize hZZ : noughts = z2 at *
        clear hZZ
        go_wp2_with fail
        refine HSM.out.mono ?_
        rintro e w21 ⟨rfl, hb⟩
        have HR2 := Lib.hid (HRS.out.below hb)
        have HB2 := Lib.hid (HBL.out.trans (hb.mono HBL.out.size))
        clear hb HSM
        go_wp2_with (first
          | refine wpList_store_row rfl 29 (.tmp 2) (.tmp 94) rfl (w.heap.size + 1) (cells8 I).toArray rfl rfl 29 (cells8 z).toArray HR2.out (by rw [blk_size, HIS.out]) (by rw [HCS.out, HIS.out]) (cells8_all _) ?_
          | fail)
        exact bodyPost_ret (results_cell_row rfl _ _ (w.heap.size + 1) 29 (cells8 I).toArray (0, 0) _ rfl (HR2.out.row I) Tryd.underlying29 rfl (by rw [blk_size, HIS.out])) rfl ⟨by rw [HI.out], below_setRow HB2.out (by simp) _⟩
      | true =>
        have HRX : Hid (summed (padB (PR s.nums 18 ++ [1])) = s.img) := HRW.out
        have E101 : Hid ((PR s.nums 18 ++ [1]).length = 101) := by rw [List.length_append, HN18.out]; rfl
        go_wp2_with (first
          | (at_builtin; refine wpList_append_shows _ rfl (.tmp 83) (.tmp 86) 61 rfl (w.heap.size + 2) 5 i0 (.int .u8 0) 1 Tryd.underlying61 hi0 hz0 hz1 hz2 rfl _ 92 _ rfl ho _ A17 8 c17 (cells8 (leN 8 s.bs)) rfl hs17 (cells8_one _) (by unfold maxLen; omega) (by omega) h17.out.b.n4 ?_; intro v18 w18 hown hg; have g18 := Lib.hid (HP17.out ▸ h17.out.app (leN_length 8 s.bs) (by rw [HN17.out]; exact hown) hg); have z18 : w18.cell? ⟨w13.heap.size, 5, none⟩ = some (.bool true) := g18.out.cell 5; have k18 := Lib.hid (g18.out.on ((Below.refl _ w18).alloc (Nat.le_refl _) (.cells #[.int .u8 1] 5))); have hsx := shows_one w18; have ho2 := k18.out.b.own' HN18.out; clear hown hg)
          | (at_builtin; refine wpList_append_shows _ rfl (.tmp 90) (.tmp 91) 61 rfl (w.heap.size + 2) 5 i0 (.int .u8 0) 1 Tryd.underlying61 hi0 hz0 hz1 hz2 rfl _ 100 _ rfl ho2 _ (some ⟨w18.heap.size, 0, none⟩) 1 1 (cells8 [1]) rfl hsx (cells8_one _) (by unfold maxLen; omega) (by omega) k18.out.b.n4 ?_; intro v19 w19 hown hg; have g19 := Lib.hid (k18.out.app (m := [1]) rfl (by rw [HN18.out]; exact hown) hg); obtain ⟨AL, cL, rfl, _⟩ := own_form4 (g19.out.b.own' E101.out); clear hown hg)
          | fail)
        have hsm := rsummed_any w19 AL cL (PR s.nums 18 ++ [1]) (by rw [E101.out]; exact Shows.owned (g19.out.b.own' E101.out)) (by rw [E101.out]; omega)
        rw [E101.out] at hsm
        rw [HRX.out] at hsm
        have hrs := g19.out.b.res
        rw [HZ.out] at hrs
        have HBL := Lib.hid g19.out.b.bel
        clear HRX HRW g18 k18 hsx ho2 g19 z18 h17 hs17 ho
        have HRS := Lib.hid hrs
        have HSM := Lib.hid hsm
        clear hsm hrs
        have HIS : Hid ((cells8 s.img).toArray.size = 256) := (cells8_size _).trans HIL.out
        generalize hI : s.img = I at *
        have HI := Lib.hid hI
        clear hI
        generalize hZZ : noughts = z2 at *
        clear hZZ
        go_wp2_with fail
        refine HSM.out.mono ?_
        rintro e w21 ⟨rfl, hb⟩
        have HR2 := Lib.hid (HRS.out.below hb)
        have HB2 := Lib.hid (HBL.out.trans (hb.mono HBL.out.size))
        clear hb HSM
        go_wp2_with (first
          | refine wpList_store_row rfl 29 (.tmp 2) (.tmp 94) rfl (w.heap.size + 1) (cells8 I).toArray rfl rfl 29 (cells8 z).toArray HR2.out (by rw [blk_size, HIS.out]) (by rw [HCS.out, HIS.out]) (cells8_all _) ?_
          | fail)
        exact bodyPost_ret (results_cell_row rfl _ _ (w.heap.size + 1) 29 (cells8 I).toArray (0, 0) _ rfl (HR2.out.row I) Tryd.underlying29 rfl (by rw [blk_size, HIS.out])) rfl ⟨by rw [HI.out], below_setRow HB2.out (by simp) _⟩
end Go.Proofs.YtojbajbghldoeaaDoor.Q
end

section
/- The document's number: a number of a block's bytes from a place on. -/
set_option linter.unusedVariables false
namespace Go.Proofs.YtojbajbghldoeaaDoor.Q
open Go.RowKit

set_option maxRecDepth 10000 in
theorem rnum_any (w : World) (l : List UInt8) (hl : l.length = 256) (p v : Nat) (h : p + v ≤ 105) (hv : v ≤ 8) :
    Calls Tryd.prog 57 #[.agg (cells8 l).toArray, .int .i64 (p : Int), .int .i64 (v : Int)] w fun e w' => e = .returned (.int .u64 ((numN ((l.drop p).take v) : Nat) : Int)) ∧ Below w.heap.size w w' := by
  have hcs : (cells8 l).toArray.size = 256 := (cells8_size _).trans hl
  have hb := Holds8.new w 29 l _ rfl
  have hsl := fun W => slice_blk w.heap.size p v h W
  have hwr : IntKind.i64.wrap ((p : Int) + (v : Int)) = (p : Int) + (v : Int) := IntWalk.i64_in _ (by omega)
  have hlen : ((l.drop p).take v).length = v := by simp; omega
  have hsh : Shows (w.alloc (.cells (cells8 l).toArray 29)) (w.alloc (.cells (cells8 l).toArray 29)).heap.size (some ⟨w.heap.size, p, none⟩) ((l.drop p).take v).length (cells8 ((l.drop p).take v)) := by
    have g1 := hb.shows.from_ (k := p) (cap := 256) (by omega) (by omega)
    rw [if_neg (by omega), ← cells8_drop] at g1
    have g2 := g1.upto (k := v) (by omega)
    rw [← cells8_take] at g2
    rw [hlen]
    have e3 : (⟨w.heap.size, 0, none⟩ : Addr).add p = ⟨w.heap.size, p, none⟩ := by unfold Addr.add; split <;> simp_all
    have g3 := g2
    simp only [Option.map_some, e3] at g3
    exact g3
  have hn := rnumber_any (w.alloc (.cells (cells8 l).toArray 29)) _ _ (256 - p) _ hsh (by omega)
  rw [hlen] at hn
  have HN := Lib.hid hn
  have HB := Lib.hid ((Below.refl _ w).alloc (Nat.le_refl _) (.cells (cells8 l).toArray 29))
  clear hn hsh hb hlen
  generalize numN ((l.drop p).take v) = x at *
  generalize hcl : cells8 l = cl at *
  clear hcl
  go_enter Tryd.func57, Tryd.ntmps57
  go_wp2_with (first
    | (go_at_call 50; (with_reducible refine HN.out.mono ?_); rintro e w3 ⟨rfl, hw3⟩; subst hw3)
    | fail)
  go_ret
  exact ⟨rfl, HB.out⟩
end Go.Proofs.YtojbajbghldoeaaDoor.Q
end

section
/- The document's Of: what any 256 bytes say. -/
set_option linter.unusedVariables false
namespace Go.Proofs.YtojbajbghldoeaaDoor.Q
open Go.RowKit

/-- the row of 19 cells, the first three numbers and i pages in it -/
def VP (l : List UInt8) (i : Nat) : Array Value := #[.int .u64 ((numAt l 0) : Int), .int .i64 ((numAt l 1) : Int), .int .i64 ((numAt l 2) : Int), .int .u32 ((pgN i 0 (numAt l 3) : Nat) : Int), .int .u32 ((pgN i 1 (numAt l 4) : Nat) : Int), .int .u32 ((pgN i 2 (numAt l 5) : Nat) : Int), .int .u32 ((pgN i 3 (numAt l 6) : Nat) : Int), .int .u32 ((pgN i 4 (numAt l 7) : Nat) : Int), .int .u32 ((pgN i 5 (numAt l 8) : Nat) : Int), .int .u32 0, .int .u32 0, .int .u32 0, .int .i64 0, .int .u64 0, .int .u64 0, .int .u64 0, .int .u64 0, .int .u64 0, .bool false]
theorem VP_zero (l : List UInt8) : ((zeroSC.setIfInBounds 0 (.int .u64 ((numAt l 0) : Int))).setIfInBounds 1 (.int .i64 ((numAt l 1) : Int))).setIfInBounds 2 (.int .i64 ((numAt l 2) : Int)) = VP l 0 := rfl
theorem zeroSC_all : zeroSC.all (·.oneCell') = true := by simp [zeroSC, Value.oneCell']
theorem zeroSC_ne : ¬ zeroSC = #[] := fun h => by have := congrArg Array.size h; cases this
theorem VP_size (l : List UInt8) (i : Nat) : (VP l i).size = 19 := rfl
theorem VP_all (l : List UInt8) (i : Nat) : (VP l i).all (·.oneCell') = true := by simp [VP, Value.oneCell']
theorem VP_set (l : List UInt8) (i : Nat) (h : i < 6) : (VP l i).setIfInBounds (3 + i) (.int .u32 ((numAt l (3 + i)) : Int)) = VP l (i + 1) := by
  rcases i with _ | _ | _ | _ | _ | _ | i
  case succ.succ.succ.succ.succ.succ => omega
  all_goals simp [VP, pgN]
/-- numbers laid behind the pages -/
def VA (l : List UInt8) : Array Value := (((((VP l 6).setIfInBounds 9 (.int .u32 ((numAt l 9) : Int))).setIfInBounds 10 (.int .u32 ((numAt l 10) : Int))).setIfInBounds 11 (.int .u32 ((numAt l 11) : Int))).setIfInBounds 12 (.int .i64 ((numAt l 12) : Int)))
def SQ (w : World) (l : List UInt8) (W : World) : Prop := Holds8 W w.heap.size 29 l ∧ W.heap[w.heap.size + 1]? = some (.cells zeroSC 50 (0, 0)) ∧ Below w.heap.size w W
theorem SQ.on {w W W' : World} {l : List UInt8} (h : SQ w l W) (hb : Below W.heap.size W W') : SQ w l W' :=
  ⟨h.1.below hb, (hb.block _ (lt_of_block h.2.1)).trans h.2.1, h.2.2.trans (hb.mono h.2.2.size)⟩
/-- with the superblock's box -/
structure RQ (w W : World) (q : Nat) (l : List UInt8) (qv : Array Value) : Prop where
  b : SQ w l W
  s : W.heap[q]? = some (.cells qv 50 (0, 0))
  l : w.heap.size + 1 < q
theorem RQ.on {w W W' : World} {q : Nat} {l : List UInt8} {qv : Array Value} (h : RQ w W q l qv) (hb : Below W.heap.size W W') : RQ w W' q l qv := ⟨h.b.on hb, (hb.block _ (lt_of_block h.s)).trans h.s, h.l⟩
theorem RQ.set {w W : World} {q : Nat} {l : List UInt8} {qv qv' : Array Value} (h : RQ w W q l qv) (i : Nat) (u : Value) (he : qv.setIfInBounds i u = qv') : RQ w (W.setCell ⟨q, i, none⟩ u) q l qv' := by
  subst he
  have hl := h.l
  exact ⟨⟨h.b.1.other (by simp; omega) u, (Below.heap_setCell _ _ _ _ (by simp; omega)).trans h.b.2.1, h.b.2.2.setCell (by simp; omega) _⟩, Joins.block_setCell h.s u, h.l⟩
theorem RQ.row {w W : World} {q : Nat} {l : List UInt8} {qv : Array Value} (h : RQ w W q l qv) (qv' : Array Value) : RQ w (W.setRow q qv') q l qv' := by
  have hl := h.l
  exact ⟨⟨(setRow_other _ _ _ _ (by omega)).trans h.b.1, (setRow_other _ _ _ _ (by omega)).trans h.b.2.1, below_setRow h.b.2.2 (by omega) _⟩, setRow_heap _ _ _ _ _ _ h.s, h.l⟩
theorem RQ.new {w W : World} {l : List UInt8} (h : SQ w l W) : RQ w (W.alloc (.cells zeroSC 50)) W.heap.size l zeroSC := ⟨h.on ((Below.refl _ _).alloc (Nat.le_refl _) _), heap_alloc_new W _, lt_of_block h.2.1⟩
theorem RQ.range {w W : World} {q : Nat} {l : List UInt8} {qv : Array Value} (h : RQ w W q l qv) : W.rangeAt q 0 qv.toList := fun j v hv => by
  rw [Nat.zero_add, cell_of_row W q j _ _ _ h.s]
  simpa using hv
def stC (l : List UInt8) : Array Value := #[.int .u64 ((numAt l 13 : Nat) : Int), .int .u64 ((numAt l 14 : Nat) : Int), .int .u64 ((numAt l 15 : Nat) : Int), .int .u64 ((numAt l 16 : Nat) : Int), .int .u64 ((numAt l 17 : Nat) : Int), .bool (decide (numAt l 18 = 1))]
theorem st_zero (w : World) : (zeroValue 48).run Tryd.prog w = .ok (.agg #[.int .u64 0, .int .u64 0, .int .u64 0, .int .u64 0, .int .u64 0, .bool false]) w := by kernel_rfl
theorem num18 (l : List UInt8) (h : 104 < l.length) : numAt l 18 = (l[104]'h).toNat := by
  have e : (l.drop 104).take 1 = [l[104]'h] := by rw [List.drop_eq_getElem_cons h]; rfl
  have e2 : numAt l 18 = numN ((l.drop 104).take 1) := rfl
  rw [e2, e]
  simp [numN]
theorem store_state {w W : World} {q : Nat} {l : List UInt8} (h : RQ w W q l (VA l)) : (storeVar 48 ⟨q, 13, none⟩ (.agg (stC l))).run Tryd.prog W = .ok () (W.setRow q (superCells l)) := by
  have hst := run_storeCells_at (P := Tryd.prog) q 13 50 (stC l).toList 0 (VA l) W h.s (by show 13 + 0 + 6 ≤ 19; omega) (by simp [stC, Value.oneCell'])
  have e : (VA l).toList.take (13 + 0) ++ (stC l).toList ++ (VA l).toList.drop (13 + 0 + (stC l).toList.length) = (superCells l).toList := rfl
  rw [e] at hst
  obtain ⟨i, hq, hzz⟩ := Option.map_eq_some_iff.1 st_size
  have key : ∀ cs : Array Value, cs.size = i.size → (storeCells ⟨q, 13, none⟩ cs.toList).run Tryd.prog W = .ok () (W.setRow q (superCells l)) → (storeVar 48 ⟨q, 13, none⟩ (.agg cs)).run Tryd.prog W = .ok () (W.setRow q (superCells l)) := by
    intro cs h1 h2
    simp [storeVar, sizeOf, typeInfo, hq, Value.cells, h1, h2]
  exact key (stC l) (by rw [hzz]; rfl) hst
theorem wp_store_runT {P : Program} {op : Oper} {a : Act} {w : World} {K : Act → World → Prop} {Q : Exit → Act → World → Prop} (ty : TypeId) (x y : Operand) (ho : op.op = .store ty x y)
    (b o : Nat) (v : Value) (w' : World) (hx : a.eval x = .pointer (some ⟨b, o, none⟩)) (hy : a.eval y = v) (hs : (storeVar ty ⟨b, o, none⟩ v).run P w = .ok () w')
    (h : K (a.put op.dst undef) w') : op.wp P a w K Q := by
  unfold Oper.wp execOp
  simp only [ho, hx, hy, Instr.storeAt, Instr.sureAddr, Sem.run_bind, Sem.run_pure, Result.andThen_ok, hs]
  exact h
theorem box_range {W : World} {q : Nat} {l : List UInt8} (h : Holds8 W q 29 l) : W.rangeAt q 0 (cells8 l) := fun j v hv => by
  rw [Nat.zero_add, cell_of_row W q j _ _ _ h]
  simpa using hv
set_option maxRecDepth 100000 in
set_option maxHeartbeats 8000000 in
theorem rof_any' (w : World) (l : List UInt8) (hl : l.length = 256) : Calls Tryd.prog 27 #[.agg (cells8 l).toArray] w fun e w' => e = .returned (.tuple #[.agg (ofV (superOfB l) l), .bool (superOfB l)]) ∧ Below w.heap.size w w' := by
  have hcs : (cells8 l).toArray.size = 256 := (cells8_size _).trans hl
  have HL := Lib.hid hl
  have hzs := sup_zero
  have HU := Lib.hid (Tryd.underlying29)
  have HZ1 : Hid ((Tryd.prog.info? 29).map (·.size) = some (cells8 l).length) := Lib.hid (by rw [blk_size, cells8_length, hl])
  have HQ0 : Hid (SQ w l ((w.alloc (.cells (cells8 l).toArray 29)).alloc (.cells zeroSC 50))) := by
    have h2 := heap_alloc_new (w.alloc (.cells (cells8 l).toArray 29)) (.cells zeroSC 50)
    simp only [World.size_alloc] at h2
    exact ⟨(Holds8.new w _ l _ rfl).alloc _, h2, ((Below.refl w.heap.size w).alloc (Nat.le_refl _) _).alloc (by simp) _⟩
  have hz19 : zeroSC.size = 19 := rfl
  have HC4 : Hid (∀ W, SQ w l W → W.cell? ⟨w.heap.size, 104, none⟩ = some (.int .u8 ((l[104]'(by omega)).toNat : Int))) := fun W h => h.1.cell 104 (by omega)
  have HK18 : Hid (numAt l 18 = (l[104]'(by omega)).toNat) := num18 l (by omega)
  generalize l[104]'_ = k8 at *
  have HN0 : Hid (∀ W : World, Calls Tryd.prog 57 #[.agg (cells8 l).toArray, .int .i64 8, .int .i64 8] W fun e w' => e = .returned (.int .u64 ((numAt l 0 : Nat) : Int)) ∧ Below W.heap.size W w') := fun W => rnum_any W l hl 8 8 (by omega) (by omega)
  have HN1 : Hid (∀ W : World, Calls Tryd.prog 57 #[.agg (cells8 l).toArray, .int .i64 16, .int .i64 4] W fun e w' => e = .returned (.int .u64 ((numAt l 1 : Nat) : Int)) ∧ Below W.heap.size W w') := fun W => rnum_any W l hl 16 4 (by omega) (by omega)
  have HN2 : Hid (∀ W : World, Calls Tryd.prog 57 #[.agg (cells8 l).toArray, .int .i64 20, .int .i64 4] W fun e w' => e = .returned (.int .u64 ((numAt l 2 : Nat) : Int)) ∧ Below W.heap.size W w') := fun W => rnum_any W l hl 20 4 (by omega) (by omega)
  have HN3 : Hid (∀ W : World, Calls Tryd.prog 57 #[.agg (cells8 l).toArray, .int .i64 24, .int .i64 4] W fun e w' => e = .returned (.int .u64 ((numAt l 3 : Nat) : Int)) ∧ Below W.heap.size W w') := fun W => rnum_any W l hl 24 4 (by omega) (by omega)
  have HN4 : Hid (∀ W : World, Calls Tryd.prog 57 #[.agg (cells8 l).toArray, .int .i64 28, .int .i64 4] W fun e w' => e = .returned (.int .u64 ((numAt l 4 : Nat) : Int)) ∧ Below W.heap.size W w') := fun W => rnum_any W l hl 28 4 (by omega) (by omega)
  have HN5 : Hid (∀ W : World, Calls Tryd.prog 57 #[.agg (cells8 l).toArray, .int .i64 32, .int .i64 4] W fun e w' => e = .returned (.int .u64 ((numAt l 5 : Nat) : Int)) ∧ Below W.heap.size W w') := fun W => rnum_any W l hl 32 4 (by omega) (by omega)
  have HN6 : Hid (∀ W : World, Calls Tryd.prog 57 #[.agg (cells8 l).toArray, .int .i64 36, .int .i64 4] W fun e w' => e = .returned (.int .u64 ((numAt l 6 : Nat) : Int)) ∧ Below W.heap.size W w') := fun W => rnum_any W l hl 36 4 (by omega) (by omega)
  have HN7 : Hid (∀ W : World, Calls Tryd.prog 57 #[.agg (cells8 l).toArray, .int .i64 40, .int .i64 4] W fun e w' => e = .returned (.int .u64 ((numAt l 7 : Nat) : Int)) ∧ Below W.heap.size W w') := fun W => rnum_any W l hl 40 4 (by omega) (by omega)
  have HN8 : Hid (∀ W : World, Calls Tryd.prog 57 #[.agg (cells8 l).toArray, .int .i64 44, .int .i64 4] W fun e w' => e = .returned (.int .u64 ((numAt l 8 : Nat) : Int)) ∧ Below W.heap.size W w') := fun W => rnum_any W l hl 44 4 (by omega) (by omega)
  have HN9 : Hid (∀ W : World, Calls Tryd.prog 57 #[.agg (cells8 l).toArray, .int .i64 48, .int .i64 4] W fun e w' => e = .returned (.int .u64 ((numAt l 9 : Nat) : Int)) ∧ Below W.heap.size W w') := fun W => rnum_any W l hl 48 4 (by omega) (by omega)
  have HN10 : Hid (∀ W : World, Calls Tryd.prog 57 #[.agg (cells8 l).toArray, .int .i64 52, .int .i64 4] W fun e w' => e = .returned (.int .u64 ((numAt l 10 : Nat) : Int)) ∧ Below W.heap.size W w') := fun W => rnum_any W l hl 52 4 (by omega) (by omega)
  have HN11 : Hid (∀ W : World, Calls Tryd.prog 57 #[.agg (cells8 l).toArray, .int .i64 56, .int .i64 4] W fun e w' => e = .returned (.int .u64 ((numAt l 11 : Nat) : Int)) ∧ Below W.heap.size W w') := fun W => rnum_any W l hl 56 4 (by omega) (by omega)
  have HN12 : Hid (∀ W : World, Calls Tryd.prog 57 #[.agg (cells8 l).toArray, .int .i64 60, .int .i64 4] W fun e w' => e = .returned (.int .u64 ((numAt l 12 : Nat) : Int)) ∧ Below W.heap.size W w') := fun W => rnum_any W l hl 60 4 (by omega) (by omega)
  have HN13 : Hid (∀ W : World, Calls Tryd.prog 57 #[.agg (cells8 l).toArray, .int .i64 64, .int .i64 8] W fun e w' => e = .returned (.int .u64 ((numAt l 13 : Nat) : Int)) ∧ Below W.heap.size W w') := fun W => rnum_any W l hl 64 8 (by omega) (by omega)
  have HN14 : Hid (∀ W : World, Calls Tryd.prog 57 #[.agg (cells8 l).toArray, .int .i64 72, .int .i64 8] W fun e w' => e = .returned (.int .u64 ((numAt l 14 : Nat) : Int)) ∧ Below W.heap.size W w') := fun W => rnum_any W l hl 72 8 (by omega) (by omega)
  have HN15 : Hid (∀ W : World, Calls Tryd.prog 57 #[.agg (cells8 l).toArray, .int .i64 80, .int .i64 8] W fun e w' => e = .returned (.int .u64 ((numAt l 15 : Nat) : Int)) ∧ Below W.heap.size W w') := fun W => rnum_any W l hl 80 8 (by omega) (by omega)
  have HN16 : Hid (∀ W : World, Calls Tryd.prog 57 #[.agg (cells8 l).toArray, .int .i64 88, .int .i64 8] W fun e w' => e = .returned (.int .u64 ((numAt l 16 : Nat) : Int)) ∧ Below W.heap.size W w') := fun W => rnum_any W l hl 88 8 (by omega) (by omega)
  have HN17 : Hid (∀ W : World, Calls Tryd.prog 57 #[.agg (cells8 l).toArray, .int .i64 96, .int .i64 8] W fun e w' => e = .returned (.int .u64 ((numAt l 17 : Nat) : Int)) ∧ Below W.heap.size W w') := fun W => rnum_any W l hl 96 8 (by omega) (by omega)
  have hw1 : IntKind.i64.wrap ((numAt l 1 : Nat) : Int) = ((numAt l 1 : Nat) : Int) := IntWalk.i64_in _ (by have h := numAt_lt l 1; have h : numAt l 1 < 4294967296 := h; omega)
  have hw2 : IntKind.i64.wrap ((numAt l 2 : Nat) : Int) = ((numAt l 2 : Nat) : Int) := IntWalk.i64_in _ (by have h := numAt_lt l 2; have h : numAt l 2 < 4294967296 := h; omega)
  go_enter Tryd.func27, Tryd.ntmps27
  go_upto_region 1 with fail
  generalize (w.alloc (.cells (cells8 l).toArray 29)).alloc (.cells zeroSC 50) = w1 at *
  go_cut [4] (fun x wx => ∃ q, x = .pointer (some ⟨q, 0, none⟩) ∧ Hid (RQ w wx q l (VP l 0)))
  case first =>
    refine wp_region_noPanic ?_
    refine wp_region_held_drew (S := SQ w l) (by kernel_rfl) (HQ0.out.on (Below.refl _ _).drew) (fun hHeld => ?_)
    clear HQ0
    generalize w1.drew = W at *
    refine takeN (i := 0) (oi := _) 6 rfl rfl (by kernel_rfl) (by kernel_rfl) (by kernel_rfl) (fun _ _ _ h => h) (yieldsIf_load_mid (by rfl) 29 (.tmp 1) rfl w.heap.size 0 rfl (cells8 l) _ (fun w hSw => box_range hSw.1) HU.out rfl HZ1.out) hHeld ?_
    try simp only [Act.put, List.setIfInBounds_toArray, List.set_cons_zero, List.set_cons_succ]
    refine takeN (i := 2) (oi := _) 8 rfl rfl (by kernel_rfl) (by kernel_rfl) (by kernel_rfl) (fun _ _ _ h => h) (yieldsIf_load_mid (by rfl) 29 (.tmp 1) rfl w.heap.size 0 rfl (cells8 l) _ (fun w hSw => box_range hSw.1) HU.out rfl HZ1.out) hHeld ?_
    try simp only [Act.put, List.setIfInBounds_toArray, List.set_cons_zero, List.set_cons_succ]
    refine takeN (i := 5) (oi := _) 11 rfl rfl (by kernel_rfl) (by kernel_rfl) (by kernel_rfl) (fun _ _ _ h => h) (yieldsIf_load_mid (by rfl) 29 (.tmp 1) rfl w.heap.size 0 rfl (cells8 l) _ (fun w hSw => box_range hSw.1) HU.out rfl HZ1.out) hHeld ?_
    try simp only [Act.put, List.setIfInBounds_toArray, List.set_cons_zero, List.set_cons_succ]
    refine wpAnyH_ready (rs := [1, 9]) (by kernel_rfl) (by simp) ?_
    refine AllReadyH.cons rfl (fun K hK => ?_) (AllReadyH.cons rfl (fun K hK => ?_) (AllReadyH.nil))
    · go_simp
      go_wp2_with (first
        | (go_at_call 57; (with_reducible refine (HN0.out W).mono ?_); rintro e W0 ⟨rfl, hb0⟩)
        | fail)
      have hS0 := hHeld.on hb0
      refine hK.out _ _ hS0 (fun hHeld => ?_)
      clear hK K hb0 hS0
      try simp only [Act.put, List.setIfInBounds_toArray, List.set_cons_zero, List.set_cons_succ]
      refine wpAnyH_ready (rs := [3, 9]) (by kernel_rfl) (by simp) ?_
      refine AllReadyH.cons rfl (fun K hK => ?_) (AllReadyH.cons rfl (fun K hK => ?_) (AllReadyH.nil))
      · go_simp
        go_wp2_with (first
          | (go_at_call 57; (with_reducible refine (HN1.out W0).mono ?_); rintro e W1 ⟨rfl, hb1⟩)
          | fail)
        have hS1 := hHeld.on hb1
        refine hK.out _ _ hS1 (fun hHeld => ?_)
        clear hK K hb1 hS1
        try simp only [Act.put, List.setIfInBounds_toArray, List.set_cons_zero, List.set_cons_succ]
        refine takeN (i := 4) (oi := _) (v := .int .i64 ((numAt l 1 : Nat) : Int)) 10 rfl rfl (by kernel_rfl) (by kernel_rfl) (by kernel_rfl) (fun _ _ _ h => h) (Or.inl ⟨by rfl, fun w hSw => by (go_simp)⟩) hHeld ?_
        try simp only [Act.put, List.setIfInBounds_toArray, List.set_cons_zero, List.set_cons_succ]
        refine wpAnyH_ready (rs := [6, 9]) (by kernel_rfl) (by simp) ?_
        refine AllReadyH.cons rfl (fun K hK => ?_) (AllReadyH.cons rfl (fun K hK => ?_) (AllReadyH.nil))
        · go_simp
          go_wp2_with (first
            | (go_at_call 57; (with_reducible refine (HN2.out W1).mono ?_); rintro e W2 ⟨rfl, hb2⟩)
            | fail)
          have hS2 := hHeld.on hb2
          refine hK.out _ _ hS2 (fun hHeld => ?_)
          clear hK K hb2 hS2
          try simp only [Act.put, List.setIfInBounds_toArray, List.set_cons_zero, List.set_cons_succ]
          refine takeN (i := 7) (oi := _) (v := .int .i64 ((numAt l 2 : Nat) : Int)) 13 rfl rfl (by kernel_rfl) (by kernel_rfl) (by kernel_rfl) (fun _ _ _ h => h) (Or.inl ⟨by rfl, fun w hSw => by (go_simp)⟩) hHeld ?_
          try simp only [Act.put, List.setIfInBounds_toArray, List.set_cons_zero, List.set_cons_succ]
          refine takeN (i := 8) (oi := _) (v := (.agg (VP l 0))) 14 rfl rfl (by kernel_rfl) (by kernel_rfl) (by kernel_rfl) (fun _ _ _ h => h) (Or.inl ⟨by rfl, fun w hSw => by (have hvp := VP_zero l; have hzne := zeroSC_ne; go_simp)⟩) hHeld ?_
          try simp only [Act.put, List.setIfInBounds_toArray, List.set_cons_zero, List.set_cons_succ]
          refine wpAnyH_ready (rs := [9]) (by kernel_rfl) (by simp) ?_
          refine AllReadyH.cons rfl (fun K hK => ?_) (AllReadyH.nil)
          · go_simp
            have HRn := Lib.hid (RQ.new hHeld)
            refine hK.out _ _ HRn.out.b (fun hHeld => ?_)
            clear hK K
            try simp only [Act.put, List.setIfInBounds_toArray, List.set_cons_zero, List.set_cons_succ]
            have HR := HRn
            clear HRn
            have hq3 : w.heap.size + 1 < W2.heap.size := HR.out.l
            generalize W2.alloc (.cells zeroSC 50) = W3 at *
            generalize W2.heap.size = q3 at *
            refine storeN (i := 10) (oi := _) 50 (.tmp 4) (.tmp 14) rfl (by kernel_rfl) (by rfl) rfl rfl q3 (VP l 0) rfl rfl 50 zeroSC HR.out.s super_size rfl (VP_all l 0) (HR.out.row _).b (fun hHeld => ?_)
            have HRX := Lib.hid (HR.out.row (VP l 0))
            refine wpAnyH_done (by kernel_rfl) ?_ _
            refine NoPanic.normal ?_
            go_wp2_with fail
            go_meet
            exact ⟨_, rfl, HRX⟩
        · go_simp
          have HRn := Lib.hid (RQ.new hHeld)
          refine hK.out _ _ HRn.out.b (fun hHeld => ?_)
          clear hK K
          try simp only [Act.put, List.setIfInBounds_toArray, List.set_cons_zero, List.set_cons_succ]
          have HR := HRn
          clear HRn
          have hq2 : w.heap.size + 1 < W1.heap.size := HR.out.l
          generalize W1.alloc (.cells zeroSC 50) = W2 at *
          generalize W1.heap.size = q2 at *
          refine wpAnyH_ready (rs := [6]) (by kernel_rfl) (by simp) ?_
          refine AllReadyH.cons rfl (fun K hK => ?_) (AllReadyH.nil)
          · go_simp
            go_wp2_with (first
              | (go_at_call 57; (with_reducible refine (HN2.out W2).mono ?_); rintro e W3 ⟨rfl, hb3⟩)
              | fail)
            have hS3 := hHeld.on hb3
            have HRn := Lib.hid (HR.out.on hb3)
            refine hK.out _ _ hS3 (fun hHeld => ?_)
            clear hK K hb3 hS3
            try simp only [Act.put, List.setIfInBounds_toArray, List.set_cons_zero, List.set_cons_succ]
            clear HR
            have HR := HRn
            clear HRn
            refine takeN (i := 7) (oi := _) (v := .int .i64 ((numAt l 2 : Nat) : Int)) 13 rfl rfl (by kernel_rfl) (by kernel_rfl) (by kernel_rfl) (fun _ _ _ h => h) (Or.inl ⟨by rfl, fun w hSw => by (go_simp)⟩) hHeld ?_
            try simp only [Act.put, List.setIfInBounds_toArray, List.set_cons_zero, List.set_cons_succ]
            refine takeN (i := 8) (oi := _) (v := (.agg (VP l 0))) 14 rfl rfl (by kernel_rfl) (by kernel_rfl) (by kernel_rfl) (fun _ _ _ h => h) (Or.inl ⟨by rfl, fun w hSw => by (have hvp := VP_zero l; have hzne := zeroSC_ne; go_simp)⟩) hHeld ?_
            try simp only [Act.put, List.setIfInBounds_toArray, List.set_cons_zero, List.set_cons_succ]
            refine storeN (i := 10) (oi := _) 50 (.tmp 4) (.tmp 14) rfl (by kernel_rfl) (by rfl) rfl rfl q2 (VP l 0) rfl rfl 50 zeroSC HR.out.s super_size rfl (VP_all l 0) (HR.out.row _).b (fun hHeld => ?_)
            have HRX := Lib.hid (HR.out.row (VP l 0))
            refine wpAnyH_done (by kernel_rfl) ?_ _
            refine NoPanic.normal ?_
            go_wp2_with fail
            go_meet
            exact ⟨_, rfl, HRX⟩
      · go_simp
        have HRn := Lib.hid (RQ.new hHeld)
        refine hK.out _ _ HRn.out.b (fun hHeld => ?_)
        clear hK K
        try simp only [Act.put, List.setIfInBounds_toArray, List.set_cons_zero, List.set_cons_succ]
        have HR := HRn
        clear HRn
        have hq1 : w.heap.size + 1 < W0.heap.size := HR.out.l
        generalize W0.alloc (.cells zeroSC 50) = W1 at *
        generalize W0.heap.size = q1 at *
        refine wpAnyH_ready (rs := [3]) (by kernel_rfl) (by simp) ?_
        refine AllReadyH.cons rfl (fun K hK => ?_) (AllReadyH.nil)
        · go_simp
          go_wp2_with (first
            | (go_at_call 57; (with_reducible refine (HN1.out W1).mono ?_); rintro e W2 ⟨rfl, hb2⟩)
            | fail)
          have hS2 := hHeld.on hb2
          have HRn := Lib.hid (HR.out.on hb2)
          refine hK.out _ _ hS2 (fun hHeld => ?_)
          clear hK K hb2 hS2
          try simp only [Act.put, List.setIfInBounds_toArray, List.set_cons_zero, List.set_cons_succ]
          clear HR
          have HR := HRn
          clear HRn
          refine takeN (i := 4) (oi := _) (v := .int .i64 ((numAt l 1 : Nat) : Int)) 10 rfl rfl (by kernel_rfl) (by kernel_rfl) (by kernel_rfl) (fun _ _ _ h => h) (Or.inl ⟨by rfl, fun w hSw => by (go_simp)⟩) hHeld ?_
          try simp only [Act.put, List.setIfInBounds_toArray, List.set_cons_zero, List.set_cons_succ]
          refine wpAnyH_ready (rs := [6]) (by kernel_rfl) (by simp) ?_
          refine AllReadyH.cons rfl (fun K hK => ?_) (AllReadyH.nil)
          · go_simp
            go_wp2_with (first
              | (go_at_call 57; (with_reducible refine (HN2.out W2).mono ?_); rintro e W3 ⟨rfl, hb3⟩)
              | fail)
            have hS3 := hHeld.on hb3
            have HRn := Lib.hid (HR.out.on hb3)
            refine hK.out _ _ hS3 (fun hHeld => ?_)
            clear hK K hb3 hS3
            try simp only [Act.put, List.setIfInBounds_toArray, List.set_cons_zero, List.set_cons_succ]
            clear HR
            have HR := HRn
            clear HRn
            refine takeN (i := 7) (oi := _) (v := .int .i64 ((numAt l 2 : Nat) : Int)) 13 rfl rfl (by kernel_rfl) (by kernel_rfl) (by kernel_rfl) (fun _ _ _ h => h) (Or.inl ⟨by rfl, fun w hSw => by (go_simp)⟩) hHeld ?_
            try simp only [Act.put, List.setIfInBounds_toArray, List.set_cons_zero, List.set_cons_succ]
            refine takeN (i := 8) (oi := _) (v := (.agg (VP l 0))) 14 rfl rfl (by kernel_rfl) (by kernel_rfl) (by kernel_rfl) (fun _ _ _ h => h) (Or.inl ⟨by rfl, fun w hSw => by (have hvp := VP_zero l; have hzne := zeroSC_ne; go_simp)⟩) hHeld ?_
            try simp only [Act.put, List.setIfInBounds_toArray, List.set_cons_zero, List.set_cons_succ]
            refine storeN (i := 10) (oi := _) 50 (.tmp 4) (.tmp 14) rfl (by kernel_rfl) (by rfl) rfl rfl q1 (VP l 0) rfl rfl 50 zeroSC HR.out.s super_size rfl (VP_all l 0) (HR.out.row _).b (fun hHeld => ?_)
            have HRX := Lib.hid (HR.out.row (VP l 0))
            refine wpAnyH_done (by kernel_rfl) ?_ _
            refine NoPanic.normal ?_
            go_wp2_with fail
            go_meet
            exact ⟨_, rfl, HRX⟩
    · go_simp
      have HRn := Lib.hid (RQ.new hHeld)
      refine hK.out _ _ HRn.out.b (fun hHeld => ?_)
      clear hK K
      try simp only [Act.put, List.setIfInBounds_toArray, List.set_cons_zero, List.set_cons_succ]
      have HR := HRn
      clear HRn
      have hq0 : w.heap.size + 1 < W.heap.size := HR.out.l
      generalize W.alloc (.cells zeroSC 50) = W0 at *
      generalize W.heap.size = q0 at *
      refine wpAnyH_ready (rs := [1]) (by kernel_rfl) (by simp) ?_
      refine AllReadyH.cons rfl (fun K hK => ?_) (AllReadyH.nil)
      · go_simp
        go_wp2_with (first
          | (go_at_call 57; (with_reducible refine (HN0.out W0).mono ?_); rintro e W1 ⟨rfl, hb1⟩)
          | fail)
        have hS1 := hHeld.on hb1
        have HRn := Lib.hid (HR.out.on hb1)
        refine hK.out _ _ hS1 (fun hHeld => ?_)
        clear hK K hb1 hS1
        try simp only [Act.put, List.setIfInBounds_toArray, List.set_cons_zero, List.set_cons_succ]
        clear HR
        have HR := HRn
        clear HRn
        refine wpAnyH_ready (rs := [3]) (by kernel_rfl) (by simp) ?_
        refine AllReadyH.cons rfl (fun K hK => ?_) (AllReadyH.nil)
        · go_simp
          go_wp2_with (first
            | (go_at_call 57; (with_reducible refine (HN1.out W1).mono ?_); rintro e W2 ⟨rfl, hb2⟩)
            | fail)
          have hS2 := hHeld.on hb2
          have HRn := Lib.hid (HR.out.on hb2)
          refine hK.out _ _ hS2 (fun hHeld => ?_)
          clear hK K hb2 hS2
          try simp only [Act.put, List.setIfInBounds_toArray, List.set_cons_zero, List.set_cons_succ]
          clear HR
          have HR := HRn
          clear HRn
          refine takeN (i := 4) (oi := _) (v := .int .i64 ((numAt l 1 : Nat) : Int)) 10 rfl rfl (by kernel_rfl) (by kernel_rfl) (by kernel_rfl) (fun _ _ _ h => h) (Or.inl ⟨by rfl, fun w hSw => by (go_simp)⟩) hHeld ?_
          try simp only [Act.put, List.setIfInBounds_toArray, List.set_cons_zero, List.set_cons_succ]
          refine wpAnyH_ready (rs := [6]) (by kernel_rfl) (by simp) ?_
          refine AllReadyH.cons rfl (fun K hK => ?_) (AllReadyH.nil)
          · go_simp
            go_wp2_with (first
              | (go_at_call 57; (with_reducible refine (HN2.out W2).mono ?_); rintro e W3 ⟨rfl, hb3⟩)
              | fail)
            have hS3 := hHeld.on hb3
            have HRn := Lib.hid (HR.out.on hb3)
            refine hK.out _ _ hS3 (fun hHeld => ?_)
            clear hK K hb3 hS3
            try simp only [Act.put, List.setIfInBounds_toArray, List.set_cons_zero, List.set_cons_succ]
            clear HR
            have HR := HRn
            clear HRn
            refine takeN (i := 7) (oi := _) (v := .int .i64 ((numAt l 2 : Nat) : Int)) 13 rfl rfl (by kernel_rfl) (by kernel_rfl) (by kernel_rfl) (fun _ _ _ h => h) (Or.inl ⟨by rfl, fun w hSw => by (go_simp)⟩) hHeld ?_
            try simp only [Act.put, List.setIfInBounds_toArray, List.set_cons_zero, List.set_cons_succ]
            refine takeN (i := 8) (oi := _) (v := (.agg (VP l 0))) 14 rfl rfl (by kernel_rfl) (by kernel_rfl) (by kernel_rfl) (fun _ _ _ h => h) (Or.inl ⟨by rfl, fun w hSw => by (have hvp := VP_zero l; have hzne := zeroSC_ne; go_simp)⟩) hHeld ?_
            try simp only [Act.put, List.setIfInBounds_toArray, List.set_cons_zero, List.set_cons_succ]
            refine storeN (i := 10) (oi := _) 50 (.tmp 4) (.tmp 14) rfl (by kernel_rfl) (by rfl) rfl rfl q0 (VP l 0) rfl rfl 50 zeroSC HR.out.s super_size rfl (VP_all l 0) (HR.out.row _).b (fun hHeld => ?_)
            have HRX := Lib.hid (HR.out.row (VP l 0))
            refine wpAnyH_done (by kernel_rfl) ?_ _
            refine NoPanic.normal ?_
            go_wp2_with fail
            go_meet
            exact ⟨_, rfl, HRX⟩
  case rest =>
    obtain ⟨q, rfl, HR0⟩ := hcut
    clear HN0 HN1 HN2 hw1 hw2 hzs hz19 HQ0
    go_wp2_with fail
    go_loopw [5] (fun j wr => ∃ i : Nat, i ≤ 6 ∧ j = .int .i64 (i : Int) ∧ Hid (RQ w wr q l (VP l i))) (fun j _ => 6 - (intOf j).toNat)
    case atStart => exact ⟨0, by omega, rfl, HR0⟩
    case round =>
      obtain ⟨i, hi, rfl, HR⟩ := hrel
      rename_i wr
      clear HR0
      have hrg := box_range HR.out.b.1
      obtain rfl | rfl | rfl | rfl | rfl | rfl | rfl : i = 0 ∨ i = 1 ∨ i = 2 ∨ i = 3 ∨ i = 4 ∨ i = 5 ∨ i = 6 := by omega
      · have hwp : IntKind.u32.wrap ((numAt l 3 : Nat) : Int) = ((numAt l 3 : Nat) : Int) := by rw [IntKind.wrap_u32]; have h : numAt l 3 < 4294967296 := numAt_lt l 3; omega
        have HNI := HN3
        have HVS : Hid ((VP l 0).setIfInBounds 3 (.int .u32 ((numAt l 3 : Nat) : Int)) = VP l 1) := VP_set l 0 (by omega)
        clear HN3 HN4 HN5 HN6 HN7 HN8
        go_wp2_with (first
          | refine wpList_load_mid rfl 29 (.tmp 1) rfl w.heap.size 0 rfl (cells8 l) _ hrg HU.out rfl HZ1.out ?_
          | (go_at_call 57; (with_reducible refine (HNI.out wr).mono ?_); rintro e w7 ⟨rfl, hb⟩; have HR7 := Lib.hid (HR.out.on hb); have c1 : w7.cell? ⟨q, 3, none⟩ = some (.int .u32 0) := (by rw [cell_of_row w7 q 3 _ _ _ HR7.out.s]; rfl); have c2 : w7.frozen? ⟨q, 3, none⟩ = false := Joins.unfrozen_of_block HR7.out.s 3; have HS := Lib.hid (HR7.out.set 3 (.int .u32 ((numAt l 3 : Nat) : Int)) HVS.out); clear hb)
          | fail)
        go_roundw
        case rel => exact ⟨1, by omega, by go_num, HS⟩
        case measure => simp [intOf]
      · have hwp : IntKind.u32.wrap ((numAt l 4 : Nat) : Int) = ((numAt l 4 : Nat) : Int) := by rw [IntKind.wrap_u32]; have h : numAt l 4 < 4294967296 := numAt_lt l 4; omega
        have HNI := HN4
        have HVS : Hid ((VP l 1).setIfInBounds 4 (.int .u32 ((numAt l 4 : Nat) : Int)) = VP l 2) := VP_set l 1 (by omega)
        clear HN3 HN4 HN5 HN6 HN7 HN8
        go_wp2_with (first
          | refine wpList_load_mid rfl 29 (.tmp 1) rfl w.heap.size 0 rfl (cells8 l) _ hrg HU.out rfl HZ1.out ?_
          | (go_at_call 57; (with_reducible refine (HNI.out wr).mono ?_); rintro e w7 ⟨rfl, hb⟩; have HR7 := Lib.hid (HR.out.on hb); have c1 : w7.cell? ⟨q, 4, none⟩ = some (.int .u32 0) := (by rw [cell_of_row w7 q 4 _ _ _ HR7.out.s]; rfl); have c2 : w7.frozen? ⟨q, 4, none⟩ = false := Joins.unfrozen_of_block HR7.out.s 4; have HS := Lib.hid (HR7.out.set 4 (.int .u32 ((numAt l 4 : Nat) : Int)) HVS.out); clear hb)
          | fail)
        go_roundw
        case rel => exact ⟨2, by omega, by go_num, HS⟩
        case measure => simp [intOf]
      · have hwp : IntKind.u32.wrap ((numAt l 5 : Nat) : Int) = ((numAt l 5 : Nat) : Int) := by rw [IntKind.wrap_u32]; have h : numAt l 5 < 4294967296 := numAt_lt l 5; omega
        have HNI := HN5
        have HVS : Hid ((VP l 2).setIfInBounds 5 (.int .u32 ((numAt l 5 : Nat) : Int)) = VP l 3) := VP_set l 2 (by omega)
        clear HN3 HN4 HN5 HN6 HN7 HN8
        go_wp2_with (first
          | refine wpList_load_mid rfl 29 (.tmp 1) rfl w.heap.size 0 rfl (cells8 l) _ hrg HU.out rfl HZ1.out ?_
          | (go_at_call 57; (with_reducible refine (HNI.out wr).mono ?_); rintro e w7 ⟨rfl, hb⟩; have HR7 := Lib.hid (HR.out.on hb); have c1 : w7.cell? ⟨q, 5, none⟩ = some (.int .u32 0) := (by rw [cell_of_row w7 q 5 _ _ _ HR7.out.s]; rfl); have c2 : w7.frozen? ⟨q, 5, none⟩ = false := Joins.unfrozen_of_block HR7.out.s 5; have HS := Lib.hid (HR7.out.set 5 (.int .u32 ((numAt l 5 : Nat) : Int)) HVS.out); clear hb)
          | fail)
        go_roundw
        case rel => exact ⟨3, by omega, by go_num, HS⟩
        case measure => simp [intOf]
      · have hwp : IntKind.u32.wrap ((numAt l 6 : Nat) : Int) = ((numAt l 6 : Nat) : Int) := by rw [IntKind.wrap_u32]; have h : numAt l 6 < 4294967296 := numAt_lt l 6; omega
        have HNI := HN6
        have HVS : Hid ((VP l 3).setIfInBounds 6 (.int .u32 ((numAt l 6 : Nat) : Int)) = VP l 4) := VP_set l 3 (by omega)
        clear HN3 HN4 HN5 HN6 HN7 HN8
        go_wp2_with (first
          | refine wpList_load_mid rfl 29 (.tmp 1) rfl w.heap.size 0 rfl (cells8 l) _ hrg HU.out rfl HZ1.out ?_
          | (go_at_call 57; (with_reducible refine (HNI.out wr).mono ?_); rintro e w7 ⟨rfl, hb⟩; have HR7 := Lib.hid (HR.out.on hb); have c1 : w7.cell? ⟨q, 6, none⟩ = some (.int .u32 0) := (by rw [cell_of_row w7 q 6 _ _ _ HR7.out.s]; rfl); have c2 : w7.frozen? ⟨q, 6, none⟩ = false := Joins.unfrozen_of_block HR7.out.s 6; have HS := Lib.hid (HR7.out.set 6 (.int .u32 ((numAt l 6 : Nat) : Int)) HVS.out); clear hb)
          | fail)
        go_roundw
        case rel => exact ⟨4, by omega, by go_num, HS⟩
        case measure => simp [intOf]
      · have hwp : IntKind.u32.wrap ((numAt l 7 : Nat) : Int) = ((numAt l 7 : Nat) : Int) := by rw [IntKind.wrap_u32]; have h : numAt l 7 < 4294967296 := numAt_lt l 7; omega
        have HNI := HN7
        have HVS : Hid ((VP l 4).setIfInBounds 7 (.int .u32 ((numAt l 7 : Nat) : Int)) = VP l 5) := VP_set l 4 (by omega)
        clear HN3 HN4 HN5 HN6 HN7 HN8
        go_wp2_with (first
          | refine wpList_load_mid rfl 29 (.tmp 1) rfl w.heap.size 0 rfl (cells8 l) _ hrg HU.out rfl HZ1.out ?_
          | (go_at_call 57; (with_reducible refine (HNI.out wr).mono ?_); rintro e w7 ⟨rfl, hb⟩; have HR7 := Lib.hid (HR.out.on hb); have c1 : w7.cell? ⟨q, 7, none⟩ = some (.int .u32 0) := (by rw [cell_of_row w7 q 7 _ _ _ HR7.out.s]; rfl); have c2 : w7.frozen? ⟨q, 7, none⟩ = false := Joins.unfrozen_of_block HR7.out.s 7; have HS := Lib.hid (HR7.out.set 7 (.int .u32 ((numAt l 7 : Nat) : Int)) HVS.out); clear hb)
          | fail)
        go_roundw
        case rel => exact ⟨5, by omega, by go_num, HS⟩
        case measure => simp [intOf]
      · have hwp : IntKind.u32.wrap ((numAt l 8 : Nat) : Int) = ((numAt l 8 : Nat) : Int) := by rw [IntKind.wrap_u32]; have h : numAt l 8 < 4294967296 := numAt_lt l 8; omega
        have HNI := HN8
        have HVS : Hid ((VP l 5).setIfInBounds 8 (.int .u32 ((numAt l 8 : Nat) : Int)) = VP l 6) := VP_set l 5 (by omega)
        clear HN3 HN4 HN5 HN6 HN7 HN8
        go_wp2_with (first
          | refine wpList_load_mid rfl 29 (.tmp 1) rfl w.heap.size 0 rfl (cells8 l) _ hrg HU.out rfl HZ1.out ?_
          | (go_at_call 57; (with_reducible refine (HNI.out wr).mono ?_); rintro e w7 ⟨rfl, hb⟩; have HR7 := Lib.hid (HR.out.on hb); have c1 : w7.cell? ⟨q, 8, none⟩ = some (.int .u32 0) := (by rw [cell_of_row w7 q 8 _ _ _ HR7.out.s]; rfl); have c2 : w7.frozen? ⟨q, 8, none⟩ = false := Joins.unfrozen_of_block HR7.out.s 8; have HS := Lib.hid (HR7.out.set 8 (.int .u32 ((numAt l 8 : Nat) : Int)) HVS.out); clear hb)
          | fail)
        go_roundw
        case rel => exact ⟨6, by omega, by go_num, HS⟩
        case measure => simp [intOf]
      · clear HN3 HN4 HN5 HN6 HN7 HN8 hrg
        have hv9 : IntKind.u32.wrap ((numAt l 9 : Nat) : Int) = ((numAt l 9 : Nat) : Int) := by rw [IntKind.wrap_u32]; have h : numAt l 9 < 4294967296 := numAt_lt l 9; omega
        have hv10 : IntKind.u32.wrap ((numAt l 10 : Nat) : Int) = ((numAt l 10 : Nat) : Int) := by rw [IntKind.wrap_u32]; have h : numAt l 10 < 4294967296 := numAt_lt l 10; omega
        have hv11 : IntKind.u32.wrap ((numAt l 11 : Nat) : Int) = ((numAt l 11 : Nat) : Int) := by rw [IntKind.wrap_u32]; have h : numAt l 11 < 4294967296 := numAt_lt l 11; omega
        have hv12 : IntKind.i64.wrap ((numAt l 12 : Nat) : Int) = ((numAt l 12 : Nat) : Int) := IntWalk.i64_in _ (by have h : numAt l 12 < 4294967296 := numAt_lt l 12; omega)
        go_upto_region 6 with fail
        refine wp_region_noPanic ?_
        refine wp_region_held_drew (S := SQ w l) (by kernel_rfl) (HR.out.b.on (Below.refl _ _).drew) (fun hHeld => ?_)
        have HRn := Lib.hid (HR.out.on (Below.refl _ _).drew)
        clear HR
        have HR := HRn
        clear HRn
        generalize wr.drew = X0 at *
        refine takeN (i := 0) (oi := _) 28 rfl rfl (by kernel_rfl) (by kernel_rfl) (by kernel_rfl) (fun _ _ _ h => h) (yieldsIf_load_mid (by rfl) 29 (.tmp 1) rfl w.heap.size 0 rfl (cells8 l) _ (fun w hSw => box_range hSw.1) HU.out rfl HZ1.out) hHeld ?_
        try simp only [Act.put, List.setIfInBounds_toArray, List.set_cons_zero, List.set_cons_succ]
        refine takeN (i := 3) (oi := _) 31 rfl rfl (by kernel_rfl) (by kernel_rfl) (by kernel_rfl) (fun _ _ _ h => h) (yieldsIf_load_mid (by rfl) 29 (.tmp 1) rfl w.heap.size 0 rfl (cells8 l) _ (fun w hSw => box_range hSw.1) HU.out rfl HZ1.out) hHeld ?_
        try simp only [Act.put, List.setIfInBounds_toArray, List.set_cons_zero, List.set_cons_succ]
        refine takeN (i := 6) (oi := _) 34 rfl rfl (by kernel_rfl) (by kernel_rfl) (by kernel_rfl) (fun _ _ _ h => h) (yieldsIf_load_mid (by rfl) 29 (.tmp 1) rfl w.heap.size 0 rfl (cells8 l) _ (fun w hSw => box_range hSw.1) HU.out rfl HZ1.out) hHeld ?_
        try simp only [Act.put, List.setIfInBounds_toArray, List.set_cons_zero, List.set_cons_succ]
        refine takeN (i := 9) (oi := _) 37 rfl rfl (by kernel_rfl) (by kernel_rfl) (by kernel_rfl) (fun _ _ _ h => h) (yieldsIf_load_mid (by rfl) 29 (.tmp 1) rfl w.heap.size 0 rfl (cells8 l) _ (fun w hSw => box_range hSw.1) HU.out rfl HZ1.out) hHeld ?_
        try simp only [Act.put, List.setIfInBounds_toArray, List.set_cons_zero, List.set_cons_succ]
        refine wpAnyH_ready (rs := [1]) (by kernel_rfl) (by simp) ?_
        refine AllReadyH.cons rfl (fun K hK => ?_) AllReadyH.nil
        go_simp
        go_wp2_with (first
          | (go_at_call 57; (with_reducible refine (HN9.out X0).mono ?_); rintro e X1 ⟨rfl, hb⟩)
          | fail)
        have hSn := hHeld.on hb
        have HRn := Lib.hid (HR.out.on hb)
        refine hK.out _ _ hSn (fun hHeld => ?_)
        clear hK K hb hSn HR
        try simp only [Act.put, List.setIfInBounds_toArray, List.set_cons_zero, List.set_cons_succ]
        have HR := HRn
        clear HRn
        refine takeN (i := 2) (oi := _) (v := .int .u32 ((numAt l 9 : Nat) : Int)) 30 rfl rfl (by kernel_rfl) (by kernel_rfl) (by kernel_rfl) (fun _ _ _ h => h) (Or.inl ⟨by rfl, fun w hSw => by (go_simp)⟩) hHeld ?_
        try simp only [Act.put, List.setIfInBounds_toArray, List.set_cons_zero, List.set_cons_succ]
        refine takeN (i := 12) (oi := _) (v := .pointer (some ⟨q, 9, none⟩)) 40 rfl rfl (by kernel_rfl) (by kernel_rfl) (by kernel_rfl) (fun _ _ _ h => h) (Or.inl ⟨by rfl, fun w hSw => by (go_simp)⟩) hHeld ?_
        try simp only [Act.put, List.setIfInBounds_toArray, List.set_cons_zero, List.set_cons_succ]
        refine wpAnyH_ready (rs := [4]) (by kernel_rfl) (by simp) ?_
        refine AllReadyH.cons rfl (fun K hK => ?_) AllReadyH.nil
        go_simp
        go_wp2_with (first
          | (go_at_call 57; (with_reducible refine (HN10.out X1).mono ?_); rintro e X2 ⟨rfl, hb⟩)
          | fail)
        have hSn := hHeld.on hb
        have HRn := Lib.hid (HR.out.on hb)
        refine hK.out _ _ hSn (fun hHeld => ?_)
        clear hK K hb hSn HR
        try simp only [Act.put, List.setIfInBounds_toArray, List.set_cons_zero, List.set_cons_succ]
        have HR := HRn
        clear HRn
        refine takeN (i := 5) (oi := _) (v := .int .u32 ((numAt l 10 : Nat) : Int)) 33 rfl rfl (by kernel_rfl) (by kernel_rfl) (by kernel_rfl) (fun _ _ _ h => h) (Or.inl ⟨by rfl, fun w hSw => by (go_simp)⟩) hHeld ?_
        try simp only [Act.put, List.setIfInBounds_toArray, List.set_cons_zero, List.set_cons_succ]
        refine wpAnyH_ready (rs := [7]) (by kernel_rfl) (by simp) ?_
        refine AllReadyH.cons rfl (fun K hK => ?_) AllReadyH.nil
        go_simp
        go_wp2_with (first
          | (go_at_call 57; (with_reducible refine (HN11.out X2).mono ?_); rintro e X3 ⟨rfl, hb⟩)
          | fail)
        have hSn := hHeld.on hb
        have HRn := Lib.hid (HR.out.on hb)
        refine hK.out _ _ hSn (fun hHeld => ?_)
        clear hK K hb hSn HR
        try simp only [Act.put, List.setIfInBounds_toArray, List.set_cons_zero, List.set_cons_succ]
        have HR := HRn
        clear HRn
        refine takeN (i := 8) (oi := _) (v := .int .u32 ((numAt l 11 : Nat) : Int)) 36 rfl rfl (by kernel_rfl) (by kernel_rfl) (by kernel_rfl) (fun _ _ _ h => h) (Or.inl ⟨by rfl, fun w hSw => by (go_simp)⟩) hHeld ?_
        try simp only [Act.put, List.setIfInBounds_toArray, List.set_cons_zero, List.set_cons_succ]
        refine wpAnyH_ready (rs := [10]) (by kernel_rfl) (by simp) ?_
        refine AllReadyH.cons rfl (fun K hK => ?_) AllReadyH.nil
        go_simp
        go_wp2_with (first
          | (go_at_call 57; (with_reducible refine (HN12.out X3).mono ?_); rintro e X4 ⟨rfl, hb⟩)
          | fail)
        have hSn := hHeld.on hb
        have HRn := Lib.hid (HR.out.on hb)
        refine hK.out _ _ hSn (fun hHeld => ?_)
        clear hK K hb hSn HR
        try simp only [Act.put, List.setIfInBounds_toArray, List.set_cons_zero, List.set_cons_succ]
        have HR := HRn
        clear HRn
        refine takeN (i := 11) (oi := _) (v := .int .i64 ((numAt l 12 : Nat) : Int)) 39 rfl rfl (by kernel_rfl) (by kernel_rfl) (by kernel_rfl) (fun _ _ _ h => h) (Or.inl ⟨by rfl, fun w hSw => by (go_simp)⟩) hHeld ?_
        try simp only [Act.put, List.setIfInBounds_toArray, List.set_cons_zero, List.set_cons_succ]
        have c1 : X4.cell? ⟨q, 9, none⟩ = some (.int .u32 0) := by rw [cell_of_row X4 q 9 _ _ _ HR.out.s]; rfl
        have c2 : X4.frozen? ⟨q, 9, none⟩ = false := Joins.unfrozen_of_block HR.out.s 9
        refine wpAnyH_ready (rs := [13]) (by kernel_rfl) (by simp) ?_
        refine AllReadyH.cons rfl (fun K hK => ?_) AllReadyH.nil
        go_simp
        have HRn := Lib.hid (HR.out.set 9 (.int .u32 ((numAt l 9 : Nat) : Int)) rfl)
        refine hK.out _ _ HRn.out.b (fun hHeld => ?_)
        clear hK K c1 c2 HR
        try simp only [Act.put, List.setIfInBounds_toArray, List.set_cons_zero, List.set_cons_succ]
        have HR := HRn
        clear HRn
        generalize X4.setCell ⟨q, 9, none⟩ (.int .u32 ((numAt l 9 : Nat) : Int)) = X5 at *
        refine takeN (i := 14) (oi := _) (v := .pointer (some ⟨q, 10, none⟩)) 41 rfl rfl (by kernel_rfl) (by kernel_rfl) (by kernel_rfl) (fun _ _ _ h => h) (Or.inl ⟨by rfl, fun w hSw => by (go_simp)⟩) hHeld ?_
        try simp only [Act.put, List.setIfInBounds_toArray, List.set_cons_zero, List.set_cons_succ]
        have c1 : X5.cell? ⟨q, 10, none⟩ = some (.int .u32 0) := by rw [cell_of_row X5 q 10 _ _ _ HR.out.s]; rfl
        have c2 : X5.frozen? ⟨q, 10, none⟩ = false := Joins.unfrozen_of_block HR.out.s 10
        refine wpAnyH_ready (rs := [15]) (by kernel_rfl) (by simp) ?_
        refine AllReadyH.cons rfl (fun K hK => ?_) AllReadyH.nil
        go_simp
        have HRn := Lib.hid (HR.out.set 10 (.int .u32 ((numAt l 10 : Nat) : Int)) rfl)
        refine hK.out _ _ HRn.out.b (fun hHeld => ?_)
        clear hK K c1 c2 HR
        try simp only [Act.put, List.setIfInBounds_toArray, List.set_cons_zero, List.set_cons_succ]
        have HR := HRn
        clear HRn
        generalize X5.setCell ⟨q, 10, none⟩ (.int .u32 ((numAt l 10 : Nat) : Int)) = X6 at *
        refine takeN (i := 16) (oi := _) (v := .pointer (some ⟨q, 11, none⟩)) 42 rfl rfl (by kernel_rfl) (by kernel_rfl) (by kernel_rfl) (fun _ _ _ h => h) (Or.inl ⟨by rfl, fun w hSw => by (go_simp)⟩) hHeld ?_
        try simp only [Act.put, List.setIfInBounds_toArray, List.set_cons_zero, List.set_cons_succ]
        have c1 : X6.cell? ⟨q, 11, none⟩ = some (.int .u32 0) := by rw [cell_of_row X6 q 11 _ _ _ HR.out.s]; rfl
        have c2 : X6.frozen? ⟨q, 11, none⟩ = false := Joins.unfrozen_of_block HR.out.s 11
        refine wpAnyH_ready (rs := [17]) (by kernel_rfl) (by simp) ?_
        refine AllReadyH.cons rfl (fun K hK => ?_) AllReadyH.nil
        go_simp
        have HRn := Lib.hid (HR.out.set 11 (.int .u32 ((numAt l 11 : Nat) : Int)) rfl)
        refine hK.out _ _ HRn.out.b (fun hHeld => ?_)
        clear hK K c1 c2 HR
        try simp only [Act.put, List.setIfInBounds_toArray, List.set_cons_zero, List.set_cons_succ]
        have HR := HRn
        clear HRn
        generalize X6.setCell ⟨q, 11, none⟩ (.int .u32 ((numAt l 11 : Nat) : Int)) = X7 at *
        refine takeN (i := 18) (oi := _) (v := .pointer (some ⟨q, 12, none⟩)) 43 rfl rfl (by kernel_rfl) (by kernel_rfl) (by kernel_rfl) (fun _ _ _ h => h) (Or.inl ⟨by rfl, fun w hSw => by (go_simp)⟩) hHeld ?_
        try simp only [Act.put, List.setIfInBounds_toArray, List.set_cons_zero, List.set_cons_succ]
        have c1 : X7.cell? ⟨q, 12, none⟩ = some (.int .i64 0) := by rw [cell_of_row X7 q 12 _ _ _ HR.out.s]; rfl
        have c2 : X7.frozen? ⟨q, 12, none⟩ = false := Joins.unfrozen_of_block HR.out.s 12
        refine wpAnyH_ready (rs := [19]) (by kernel_rfl) (by simp) ?_
        refine AllReadyH.cons rfl (fun K hK => ?_) AllReadyH.nil
        go_simp
        have HRn := Lib.hid (HR.out.set 12 (.int .i64 ((numAt l 12 : Nat) : Int)) rfl)
        refine hK.out _ _ HRn.out.b (fun hHeld => ?_)
        clear hK K c1 c2 HR
        try simp only [Act.put, List.setIfInBounds_toArray, List.set_cons_zero, List.set_cons_succ]
        have HR := HRn
        clear HRn
        generalize X7.setCell ⟨q, 12, none⟩ (.int .i64 ((numAt l 12 : Nat) : Int)) = X8 at *
        refine wpAnyH_done (by kernel_rfl) ?_ _
        refine NoPanic.normal ?_
        have HRA : Hid (RQ w X8 q l (VA l)) := HR
        clear HR hHeld HN9 HN10 HN11 HN12 hv9 hv10 hv11 hv12
        go_upto_region 7 with fail
        refine wp_region_noPanic ?_
        refine wp_region_held_drew (S := SQ w l) (by kernel_rfl) (HRA.out.b.on (Below.refl _ _).drew) (fun hHeld => ?_)
        have HR := Lib.hid (HRA.out.on (Below.refl _ _).drew)
        clear HRA
        generalize X8.drew = Z0 at *
        refine takeN (i := 0) (oi := _) 44 rfl rfl (by kernel_rfl) (by kernel_rfl) (by kernel_rfl) (fun _ _ _ h => h) (yieldsIf_load_mid (by rfl) 29 (.tmp 1) rfl w.heap.size 0 rfl (cells8 l) _ (fun w hSw => box_range hSw.1) HU.out rfl HZ1.out) hHeld ?_
        try simp only [Act.put, List.setIfInBounds_toArray, List.set_cons_zero, List.set_cons_succ]
        refine takeN (i := 2) (oi := _) 46 rfl rfl (by kernel_rfl) (by kernel_rfl) (by kernel_rfl) (fun _ _ _ h => h) (yieldsIf_load_mid (by rfl) 29 (.tmp 1) rfl w.heap.size 0 rfl (cells8 l) _ (fun w hSw => box_range hSw.1) HU.out rfl HZ1.out) hHeld ?_
        try simp only [Act.put, List.setIfInBounds_toArray, List.set_cons_zero, List.set_cons_succ]
        refine takeN (i := 4) (oi := _) 48 rfl rfl (by kernel_rfl) (by kernel_rfl) (by kernel_rfl) (fun _ _ _ h => h) (yieldsIf_load_mid (by rfl) 29 (.tmp 1) rfl w.heap.size 0 rfl (cells8 l) _ (fun w hSw => box_range hSw.1) HU.out rfl HZ1.out) hHeld ?_
        try simp only [Act.put, List.setIfInBounds_toArray, List.set_cons_zero, List.set_cons_succ]
        refine takeN (i := 6) (oi := _) 50 rfl rfl (by kernel_rfl) (by kernel_rfl) (by kernel_rfl) (fun _ _ _ h => h) (yieldsIf_load_mid (by rfl) 29 (.tmp 1) rfl w.heap.size 0 rfl (cells8 l) _ (fun w hSw => box_range hSw.1) HU.out rfl HZ1.out) hHeld ?_
        try simp only [Act.put, List.setIfInBounds_toArray, List.set_cons_zero, List.set_cons_succ]
        refine takeN (i := 8) (oi := _) 52 rfl rfl (by kernel_rfl) (by kernel_rfl) (by kernel_rfl) (fun _ _ _ h => h) (yieldsIf_load_mid (by rfl) 29 (.tmp 1) rfl w.heap.size 0 rfl (cells8 l) _ (fun w hSw => box_range hSw.1) HU.out rfl HZ1.out) hHeld ?_
        try simp only [Act.put, List.setIfInBounds_toArray, List.set_cons_zero, List.set_cons_succ]
        refine takeN (i := 10) (oi := _) (v := .pointer (some ⟨w.heap.size, 104, none⟩)) 54 rfl rfl (by kernel_rfl) (by kernel_rfl) (by kernel_rfl) (fun _ _ _ h => h) (Or.inl ⟨by rfl, fun w hSw => by (go_simp)⟩) hHeld ?_
        try simp only [Act.put, List.setIfInBounds_toArray, List.set_cons_zero, List.set_cons_succ]
        refine takeN (i := 11) (oi := _) (v := .int .u8 (k8.toNat : Int)) 55 rfl rfl (by kernel_rfl) (by kernel_rfl) (by kernel_rfl) (fun _ _ _ h => h) (Or.inl ⟨by rfl, fun W5 hSw => by (have f := HC4.out _ hSw; go_simp)⟩) hHeld ?_
        try simp only [Act.put, List.setIfInBounds_toArray, List.set_cons_zero, List.set_cons_succ]
        refine takeN (i := 12) (oi := _) (v := .bool (decide (numAt l 18 = 1))) 56 rfl rfl (by kernel_rfl) (by kernel_rfl) (by kernel_rfl) (fun _ _ _ h => h) (Or.inl ⟨by rfl, fun W5 hSw => ?y12⟩) hHeld ?_
        case y12 =>
          have hK := HK18.out
          by_cases hm : k8.toNat = 1
          · have hmI : (k8.toNat : Int) = 1 := by omega
            have e : decide (numAt l 18 = 1) = true := decide_eq_true (by omega)
            rw [e]
            clear hm hK e
            go_simp
          · have hmI : ¬ (k8.toNat : Int) = 1 := by omega
            have e : decide (numAt l 18 = 1) = false := decide_eq_false (by omega)
            rw [e]
            clear hm hK e
            go_simp
        try simp only [Act.put, List.setIfInBounds_toArray, List.set_cons_zero, List.set_cons_succ]
        refine wpAnyH_ready (rs := [1]) (by kernel_rfl) (by simp) ?_
        refine AllReadyH.cons rfl (fun K hK => ?_) AllReadyH.nil
        go_simp
        go_wp2_with (first
          | (go_at_call 57; (with_reducible refine (HN13.out Z0).mono ?_); rintro e Z1 ⟨rfl, hb⟩)
          | fail)
        have hSn := hHeld.on hb
        have HRn := Lib.hid (HR.out.on hb)
        refine hK.out _ _ hSn (fun hHeld => ?_)
        clear hK K hb hSn HR
        try simp only [Act.put, List.setIfInBounds_toArray, List.set_cons_zero, List.set_cons_succ]
        have HR := HRn
        clear HRn
        refine wpAnyH_ready (rs := [3]) (by kernel_rfl) (by simp) ?_
        refine AllReadyH.cons rfl (fun K hK => ?_) AllReadyH.nil
        go_simp
        go_wp2_with (first
          | (go_at_call 57; (with_reducible refine (HN14.out Z1).mono ?_); rintro e Z2 ⟨rfl, hb⟩)
          | fail)
        have hSn := hHeld.on hb
        have HRn := Lib.hid (HR.out.on hb)
        refine hK.out _ _ hSn (fun hHeld => ?_)
        clear hK K hb hSn HR
        try simp only [Act.put, List.setIfInBounds_toArray, List.set_cons_zero, List.set_cons_succ]
        have HR := HRn
        clear HRn
        refine wpAnyH_ready (rs := [5]) (by kernel_rfl) (by simp) ?_
        refine AllReadyH.cons rfl (fun K hK => ?_) AllReadyH.nil
        go_simp
        go_wp2_with (first
          | (go_at_call 57; (with_reducible refine (HN15.out Z2).mono ?_); rintro e Z3 ⟨rfl, hb⟩)
          | fail)
        have hSn := hHeld.on hb
        have HRn := Lib.hid (HR.out.on hb)
        refine hK.out _ _ hSn (fun hHeld => ?_)
        clear hK K hb hSn HR
        try simp only [Act.put, List.setIfInBounds_toArray, List.set_cons_zero, List.set_cons_succ]
        have HR := HRn
        clear HRn
        refine wpAnyH_ready (rs := [7]) (by kernel_rfl) (by simp) ?_
        refine AllReadyH.cons rfl (fun K hK => ?_) AllReadyH.nil
        go_simp
        go_wp2_with (first
          | (go_at_call 57; (with_reducible refine (HN16.out Z3).mono ?_); rintro e Z4 ⟨rfl, hb⟩)
          | fail)
        have hSn := hHeld.on hb
        have HRn := Lib.hid (HR.out.on hb)
        refine hK.out _ _ hSn (fun hHeld => ?_)
        clear hK K hb hSn HR
        try simp only [Act.put, List.setIfInBounds_toArray, List.set_cons_zero, List.set_cons_succ]
        have HR := HRn
        clear HRn
        refine wpAnyH_ready (rs := [9]) (by kernel_rfl) (by simp) ?_
        refine AllReadyH.cons rfl (fun K hK => ?_) AllReadyH.nil
        go_simp
        go_wp2_with (first
          | (go_at_call 57; (with_reducible refine (HN17.out Z4).mono ?_); rintro e Z5 ⟨rfl, hb⟩)
          | fail)
        have hSn := hHeld.on hb
        have HRn := Lib.hid (HR.out.on hb)
        refine hK.out _ _ hSn (fun hHeld => ?_)
        clear hK K hb hSn HR
        try simp only [Act.put, List.setIfInBounds_toArray, List.set_cons_zero, List.set_cons_succ]
        have HR := HRn
        clear HRn
        refine takeN (i := 13) (oi := _) (v := .agg (stC l)) 57 rfl rfl (by kernel_rfl) (by kernel_rfl) (by kernel_rfl) (fun _ _ _ h => h) (Or.inl ⟨by rfl, fun w hSw => by (have hz48 := st_zero; go_simp; rfl)⟩) hHeld ?_
        try simp only [Act.put, List.setIfInBounds_toArray, List.set_cons_zero, List.set_cons_succ]
        refine takeN (i := 14) (oi := _) (v := .pointer (some ⟨q, 13, none⟩)) 58 rfl rfl (by kernel_rfl) (by kernel_rfl) (by kernel_rfl) (fun _ _ _ h => h) (Or.inl ⟨by rfl, fun w hSw => by (go_simp)⟩) hHeld ?_
        try simp only [Act.put, List.setIfInBounds_toArray, List.set_cons_zero, List.set_cons_succ]
        refine wpAnyH_ready (rs := [15]) (by kernel_rfl) (by simp) ?_
        refine AllReadyH.cons rfl (fun K hK => ?_) AllReadyH.nil
        rw [if_pos (by rfl)]
        refine wp_store_runT 48 (.tmp 58) (.tmp 57) rfl q 13 (.agg (stC l)) _ (by rfl) (by rfl) (store_state HR.out) ?_
        have HRn := Lib.hid (HR.out.row (superCells l))
        refine hK.out _ _ HRn.out.b (fun hHeld => ?_)
        clear hK K HR
        refine wpAnyH_done (by kernel_rfl) ?_ _
        refine NoPanic.normal ?_
        clear HN13 HN14 HN15 HN16 HN17 HC4 HK18 hHeld
        try simp only [Act.put, List.setIfInBounds_toArray]
        generalize Z5.setRow q (superCells l) = Y0 at *
        clear hHeld
        have HRY : Hid (RQ w Y0 q l (superCells l)) := HRn
        clear HRn
        have HVI : Hid ((Tryd.prog.info? 50).map (·.size) = some (superCells l).toList.length) := Lib.hid super_size
        have HUS := Lib.hid (Tryd.underlying50)
        have HVA : Hid ((superCells l).all (·.oneCell') = true) := Lib.hid (superCells_all l)
        have HMAY : Hid (∀ W : World, Calls Tryd.prog 22 #[.agg (superCells l)] W fun e w' => e = .returned (.bool (superMay l)) ∧ Below W.heap.size W w') := fun W => rmay_any W (blkS l) (blkS_fits l)
        have HBK : superMay l = true → Hid (∀ W : World, Calls Tryd.prog 25 #[.agg (superCells l)] W fun e w' => e = .returned (.agg (cells8 (superImg l)).toArray) ∧ Below W.heap.size W w') := fun h W => rsblock_any W (blkS l) (blkS_fits l) h
        have HOF : Hid (superOfB l = (superMay l && (superImg l == l))) := Lib.hid rfl
        have HXL : Hid ((superImg l).length = 256) := Lib.hid (superImg_len l)
        have HVE : Hid (ofV true l = superCells l) := Lib.hid rfl
        have HVF : Hid (ofV false l = zeroSC) := Lib.hid rfl
        generalize superCells l = V at *
        generalize superImg l = X at *
        generalize hob : superOfB l = ob at *
        have HOB := Lib.hid hob
        clear hob
        generalize superMay l = mm at *
        have HVS : Hid (zeroSC.size = V.size) := Lib.hid (by have h := HVI.out; rw [super_size] at h; exact Option.some.inj h)
        cases mm with
        | false =>
          clear HBK
          obtain rfl : ob = false := HOF.out
          go_upto_region 8 with fail
          refine wp_region_noPanic ?_
          refine wp_region_held_drew (S := fun W => RQ w W q l V) (by kernel_rfl) (HRY.out.on (Below.refl _ _).drew) (fun hHeld => ?_)
          clear HRY
          generalize Y0.drew = Y1 at *
          refine takeN (i := 0) (oi := _) (v := .agg V) 59 rfl rfl (by kernel_rfl) (by kernel_rfl) (by kernel_rfl) (fun _ _ _ h => h) (yieldsIf_load_mid (by rfl) 50 (.tmp 4) rfl q 0 rfl V.toList _ (fun W5 hSw => hSw.range) HUS.out rfl HVI.out) hHeld ?_
          try simp only [Act.put]
          refine wpAnyH_ready (rs := [1]) (by kernel_rfl) (by simp) ?_
          refine AllReadyH.cons rfl (fun K hK => ?_) AllReadyH.nil
          go_simp
          go_wp2_with (first
            | (go_at_call 22; (with_reducible refine (HMAY.out Y1).mono ?_); rintro e Y2 ⟨rfl, hb⟩)
            | fail)
          have hSn := hHeld.on hb
          refine hK.out _ _ hSn (fun hHeld => ?_)
          clear hK K hb hSn
          try simp only [Act.put, List.setIfInBounds_toArray, List.set_cons_zero, List.set_cons_succ]
          refine takeN (i := 2) (oi := _) (v := .bool true) 61 rfl rfl (by kernel_rfl) (by kernel_rfl) (by kernel_rfl) (fun _ _ _ h => h) (Or.inl ⟨by rfl, fun w hSw => by (go_simp)⟩) hHeld ?_
          try simp only [Act.put, List.setIfInBounds_toArray, List.set_cons_zero, List.set_cons_succ]
          refine takeN (i := 3) (oi := _) (v := .bool true) 62 rfl rfl (by kernel_rfl) (by kernel_rfl) (by kernel_rfl) (fun _ _ _ h => h) (Or.inl ⟨by rfl, fun w hSw => by (go_simp)⟩) hHeld ?_
          try simp only [Act.put, List.setIfInBounds_toArray, List.set_cons_zero, List.set_cons_succ]
          refine takeN (i := 4) (oi := _) (v := undef) 63 rfl rfl (by kernel_rfl) (by kernel_rfl) (by kernel_rfl) (fun _ _ _ h => h) (Or.inr ⟨by rfl, rfl⟩) hHeld ?_
          try simp only [Act.put, List.setIfInBounds_toArray, List.set_cons_zero, List.set_cons_succ]
          refine takeN (i := 5) (oi := _) (v := undef) 64 rfl rfl (by kernel_rfl) (by kernel_rfl) (by kernel_rfl) (fun _ _ _ h => h) (Or.inr ⟨by rfl, rfl⟩) hHeld ?_
          try simp only [Act.put, List.setIfInBounds_toArray, List.set_cons_zero, List.set_cons_succ]
          refine takeN (i := 6) (oi := _) (v := undef) 65 rfl rfl (by kernel_rfl) (by kernel_rfl) (by kernel_rfl) (fun _ _ _ h => h) (Or.inr ⟨by rfl, rfl⟩) hHeld ?_
          try simp only [Act.put, List.setIfInBounds_toArray, List.set_cons_zero, List.set_cons_succ]
          refine takeN (i := 7) (oi := _) (v := undef) 66 rfl rfl (by kernel_rfl) (by kernel_rfl) (by kernel_rfl) (fun _ _ _ h => h) (Or.inr ⟨by rfl, rfl⟩) hHeld ?_
          try simp only [Act.put, List.setIfInBounds_toArray, List.set_cons_zero, List.set_cons_succ]
          refine takeN (i := 8) (oi := _) (v := .bool true) 67 rfl rfl (by kernel_rfl) (by kernel_rfl) (by kernel_rfl) (fun _ _ _ h => h) (Or.inl ⟨by rfl, fun w hSw => by (go_simp)⟩) hHeld ?_
          try simp only [Act.put, List.setIfInBounds_toArray, List.set_cons_zero, List.set_cons_succ]
          refine wpAnyH_done (by kernel_rfl) ?_ _
          refine NoPanic.normal ?_
          have HRE := Lib.hid hHeld
          have HZ0 := Lib.hid hHeld.b.2.1
          have HBE := Lib.hid hHeld.b.2.2
          clear hHeld
          have hzs := sup_zero
          have hzne := zeroSC_ne
          go_wp2_with (first
            | refine wpList_store_row rfl 50 (.tmp 2) (.tmp 68) rfl (w.heap.size + 1) zeroSC rfl rfl 50 zeroSC HZ0.out super_size rfl zeroSC_all ?_
            | fail)
          exact bodyPost_ret (results_cell_tmp rfl _ _ (w.heap.size + 1) 50 zeroSC (0, 0) _ (.bool false) rfl rfl (setRow_heap _ _ _ _ _ _ HZ0.out) HUS.out rfl super_size) rfl ⟨by rw [HOB.out, HVF.out], below_setRow HBE.out (by simp) _⟩
        | true =>
          have HBQ := HBK rfl
          clear HBK
          have hneq := fun w => neq_blk X l HXL.out hl w
          have HNE := Lib.hid hneq
          clear hneq
          generalize hr : (X == l) = r at *
          clear hr
          cases r with
          | false =>
            obtain rfl : ob = false := HOF.out
            go_upto_region 8 with fail
            refine wp_region_noPanic ?_
            refine wp_region_held_drew (S := fun W => RQ w W q l V) (by kernel_rfl) (HRY.out.on (Below.refl _ _).drew) (fun hHeld => ?_)
            clear HRY
            generalize Y0.drew = Y1 at *
            refine takeN (i := 0) (oi := _) (v := .agg V) 59 rfl rfl (by kernel_rfl) (by kernel_rfl) (by kernel_rfl) (fun _ _ _ h => h) (yieldsIf_load_mid (by rfl) 50 (.tmp 4) rfl q 0 rfl V.toList _ (fun W5 hSw => hSw.range) HUS.out rfl HVI.out) hHeld ?_
            try simp only [Act.put]
            refine wpAnyH_ready (rs := [1]) (by kernel_rfl) (by simp) ?_
            refine AllReadyH.cons rfl (fun K hK => ?_) AllReadyH.nil
            go_simp
            go_wp2_with (first
              | (go_at_call 22; (with_reducible refine (HMAY.out Y1).mono ?_); rintro e Y2 ⟨rfl, hb⟩)
              | fail)
            have hSn := hHeld.on hb
            refine hK.out _ _ hSn (fun hHeld => ?_)
            clear hK K hb hSn
            try simp only [Act.put, List.setIfInBounds_toArray, List.set_cons_zero, List.set_cons_succ]
            refine takeN (i := 2) (oi := _) (v := .bool false) 61 rfl rfl (by kernel_rfl) (by kernel_rfl) (by kernel_rfl) (fun _ _ _ h => h) (Or.inl ⟨by rfl, fun w hSw => by (go_simp)⟩) hHeld ?_
            try simp only [Act.put, List.setIfInBounds_toArray, List.set_cons_zero, List.set_cons_succ]
            refine takeN (i := 3) (oi := _) (v := .bool false) 62 rfl rfl (by kernel_rfl) (by kernel_rfl) (by kernel_rfl) (fun _ _ _ h => h) (Or.inl ⟨by rfl, fun w hSw => by (go_simp)⟩) hHeld ?_
            try simp only [Act.put, List.setIfInBounds_toArray, List.set_cons_zero, List.set_cons_succ]
            refine takeN (i := 4) (oi := _) (v := .agg V) 63 rfl rfl (by kernel_rfl) (by kernel_rfl) (by kernel_rfl) (fun _ _ _ h => h) (yieldsIf_load_mid (by rfl) 50 (.tmp 4) rfl q 0 rfl V.toList _ (fun W5 hSw => hSw.range) HUS.out rfl HVI.out) hHeld ?_
            try simp only [Act.put, List.setIfInBounds_toArray, List.set_cons_zero, List.set_cons_succ]
            refine takeN (i := 6) (oi := _) 65 rfl rfl (by kernel_rfl) (by kernel_rfl) (by kernel_rfl) (fun _ _ _ h => h) (yieldsIf_load_mid (by rfl) 29 (.tmp 1) rfl w.heap.size 0 rfl (cells8 l) _ (fun w hSw => box_range hSw.b.1) HU.out rfl HZ1.out) hHeld ?_
            try simp only [Act.put, List.setIfInBounds_toArray, List.set_cons_zero, List.set_cons_succ]
            refine wpAnyH_ready (rs := [5]) (by kernel_rfl) (by simp) ?_
            refine AllReadyH.cons rfl (fun K hK => ?_) AllReadyH.nil
            go_simp
            go_wp2_with (first
              | (go_at_call 25; (with_reducible refine (HBQ.out Y2).mono ?_); rintro e Y3 ⟨rfl, hb⟩)
              | fail)
            have hSn := hHeld.on hb
            refine hK.out _ _ hSn (fun hHeld => ?_)
            clear hK K hb hSn
            try simp only [Act.put, List.setIfInBounds_toArray, List.set_cons_zero, List.set_cons_succ]
            have hneq : ∀ w : World, (binOp .neq 29 (.agg (cells8 X).toArray) (.agg (cells8 l).toArray)).run Tryd.prog w = .ok (.bool true) w := HNE.out
            refine takeN (i := 7) (oi := _) (v := .bool true) 66 rfl rfl (by kernel_rfl) (by kernel_rfl) (by kernel_rfl) (fun _ _ _ h => h) (Or.inl ⟨by rfl, fun w hSw => by (go_simp)⟩) hHeld ?_
            try simp only [Act.put, List.setIfInBounds_toArray, List.set_cons_zero, List.set_cons_succ]
            clear hneq
            refine takeN (i := 8) (oi := _) (v := .bool true) 67 rfl rfl (by kernel_rfl) (by kernel_rfl) (by kernel_rfl) (fun _ _ _ h => h) (Or.inl ⟨by rfl, fun w hSw => by (go_simp)⟩) hHeld ?_
            try simp only [Act.put, List.setIfInBounds_toArray, List.set_cons_zero, List.set_cons_succ]
            refine wpAnyH_done (by kernel_rfl) ?_ _
            refine NoPanic.normal ?_
            have HRE := Lib.hid hHeld
            have HZ0 := Lib.hid hHeld.b.2.1
            have HBE := Lib.hid hHeld.b.2.2
            clear hHeld
            have hzs := sup_zero
            have hzne := zeroSC_ne
            go_wp2_with (first
              | refine wpList_store_row rfl 50 (.tmp 2) (.tmp 68) rfl (w.heap.size + 1) zeroSC rfl rfl 50 zeroSC HZ0.out super_size rfl zeroSC_all ?_
              | fail)
            exact bodyPost_ret (results_cell_tmp rfl _ _ (w.heap.size + 1) 50 zeroSC (0, 0) _ (.bool false) rfl rfl (setRow_heap _ _ _ _ _ _ HZ0.out) HUS.out rfl super_size) rfl ⟨by rw [HOB.out, HVF.out], below_setRow HBE.out (by simp) _⟩
          | true =>
            obtain rfl : ob = true := HOF.out
            go_upto_region 8 with fail
            refine wp_region_noPanic ?_
            refine wp_region_held_drew (S := fun W => RQ w W q l V) (by kernel_rfl) (HRY.out.on (Below.refl _ _).drew) (fun hHeld => ?_)
            clear HRY
            generalize Y0.drew = Y1 at *
            refine takeN (i := 0) (oi := _) (v := .agg V) 59 rfl rfl (by kernel_rfl) (by kernel_rfl) (by kernel_rfl) (fun _ _ _ h => h) (yieldsIf_load_mid (by rfl) 50 (.tmp 4) rfl q 0 rfl V.toList _ (fun W5 hSw => hSw.range) HUS.out rfl HVI.out) hHeld ?_
            try simp only [Act.put]
            refine wpAnyH_ready (rs := [1]) (by kernel_rfl) (by simp) ?_
            refine AllReadyH.cons rfl (fun K hK => ?_) AllReadyH.nil
            go_simp
            go_wp2_with (first
              | (go_at_call 22; (with_reducible refine (HMAY.out Y1).mono ?_); rintro e Y2 ⟨rfl, hb⟩)
              | fail)
            have hSn := hHeld.on hb
            refine hK.out _ _ hSn (fun hHeld => ?_)
            clear hK K hb hSn
            try simp only [Act.put, List.setIfInBounds_toArray, List.set_cons_zero, List.set_cons_succ]
            refine takeN (i := 2) (oi := _) (v := .bool false) 61 rfl rfl (by kernel_rfl) (by kernel_rfl) (by kernel_rfl) (fun _ _ _ h => h) (Or.inl ⟨by rfl, fun w hSw => by (go_simp)⟩) hHeld ?_
            try simp only [Act.put, List.setIfInBounds_toArray, List.set_cons_zero, List.set_cons_succ]
            refine takeN (i := 3) (oi := _) (v := .bool false) 62 rfl rfl (by kernel_rfl) (by kernel_rfl) (by kernel_rfl) (fun _ _ _ h => h) (Or.inl ⟨by rfl, fun w hSw => by (go_simp)⟩) hHeld ?_
            try simp only [Act.put, List.setIfInBounds_toArray, List.set_cons_zero, List.set_cons_succ]
            refine takeN (i := 4) (oi := _) (v := .agg V) 63 rfl rfl (by kernel_rfl) (by kernel_rfl) (by kernel_rfl) (fun _ _ _ h => h) (yieldsIf_load_mid (by rfl) 50 (.tmp 4) rfl q 0 rfl V.toList _ (fun W5 hSw => hSw.range) HUS.out rfl HVI.out) hHeld ?_
            try simp only [Act.put, List.setIfInBounds_toArray, List.set_cons_zero, List.set_cons_succ]
            refine takeN (i := 6) (oi := _) 65 rfl rfl (by kernel_rfl) (by kernel_rfl) (by kernel_rfl) (fun _ _ _ h => h) (yieldsIf_load_mid (by rfl) 29 (.tmp 1) rfl w.heap.size 0 rfl (cells8 l) _ (fun w hSw => box_range hSw.b.1) HU.out rfl HZ1.out) hHeld ?_
            try simp only [Act.put, List.setIfInBounds_toArray, List.set_cons_zero, List.set_cons_succ]
            refine wpAnyH_ready (rs := [5]) (by kernel_rfl) (by simp) ?_
            refine AllReadyH.cons rfl (fun K hK => ?_) AllReadyH.nil
            go_simp
            go_wp2_with (first
              | (go_at_call 25; (with_reducible refine (HBQ.out Y2).mono ?_); rintro e Y3 ⟨rfl, hb⟩)
              | fail)
            have hSn := hHeld.on hb
            refine hK.out _ _ hSn (fun hHeld => ?_)
            clear hK K hb hSn
            try simp only [Act.put, List.setIfInBounds_toArray, List.set_cons_zero, List.set_cons_succ]
            have hneq : ∀ w : World, (binOp .neq 29 (.agg (cells8 X).toArray) (.agg (cells8 l).toArray)).run Tryd.prog w = .ok (.bool false) w := HNE.out
            refine takeN (i := 7) (oi := _) (v := .bool false) 66 rfl rfl (by kernel_rfl) (by kernel_rfl) (by kernel_rfl) (fun _ _ _ h => h) (Or.inl ⟨by rfl, fun w hSw => by (go_simp)⟩) hHeld ?_
            try simp only [Act.put, List.setIfInBounds_toArray, List.set_cons_zero, List.set_cons_succ]
            clear hneq
            refine takeN (i := 8) (oi := _) (v := .bool false) 67 rfl rfl (by kernel_rfl) (by kernel_rfl) (by kernel_rfl) (fun _ _ _ h => h) (Or.inl ⟨by rfl, fun w hSw => by (go_simp)⟩) hHeld ?_
            try simp only [Act.put, List.setIfInBounds_toArray, List.set_cons_zero, List.set_cons_succ]
            refine wpAnyH_done (by kernel_rfl) ?_ _
            refine NoPanic.normal ?_
            have HRE := Lib.hid hHeld
            have HZ0 := Lib.hid hHeld.b.2.1
            have HBE := Lib.hid hHeld.b.2.2
            clear hHeld
            go_wp2_with (first
              | refine wpList_load_row rfl 50 (.tmp 4) rfl q rfl 50 V (0, 0) _ HRE.out.s HUS.out rfl (by rw [← Array.length_toList]; exact HVI.out) ?_
              | refine wpList_store_row rfl 50 (.tmp 2) (.tmp 69) rfl (w.heap.size + 1) V rfl rfl 50 zeroSC HZ0.out (by rw [← Array.length_toList]; exact HVI.out) HVS.out HVA.out ?_
              | fail)
            exact bodyPost_ret (results_cell_tmp rfl _ _ (w.heap.size + 1) 50 V (0, 0) _ (.bool true) rfl rfl (setRow_heap _ _ _ _ _ _ HZ0.out) HUS.out rfl (by rw [← Array.length_toList]; exact HVI.out)) rfl ⟨by rw [HOB.out, HVE.out], below_setRow HBE.out (by simp) _⟩
end Go.Proofs.YtojbajbghldoeaaDoor.Q
end

section
/- SuperMeans, walked. -/
set_option linter.unusedVariables false
namespace Go.Proofs.YtojbajbghldoeaaDoor.Q
open Go.RowKit

/-- the law's own variables: the superblock, the bytes -/
structure MW (w W : World) (cl : Array Value) (l : List UInt8) : Prop where
  node : W.heap[w.heap.size]? = some (.cells cl 50 (0, 0))
  blk : Holds8 W (w.heap.size + 1) 29 l
  bel : Below w.heap.size w W
theorem MW.on {w W W' : World} {cl : Array Value} {l : List UInt8} (h : MW w W cl l) (hb : Below W.heap.size W W') : MW w W' cl l :=
  ⟨(hb.block _ (lt_of_block h.node)).trans h.node, h.blk.below hb, h.bel.trans (hb.mono h.bel.size)⟩
theorem MW.start (w : World) (cl : Array Value) (l : List UInt8) : MW w ((w.alloc (.cells cl 50)).alloc (.cells (cells8 l).toArray 29)) cl l := by
  have h2 := Holds8.new (w.alloc (.cells cl 50)) 29 l _ rfl
  simp only [World.size_alloc] at h2
  exact ⟨heap_alloc' (heap_alloc_new w _), h2, ((Below.refl w.heap.size w).alloc (Nat.le_refl _) _).alloc (by simp) _⟩
theorem sup_range {W : World} {q : Nat} {qv : Array Value} (h : W.heap[q]? = some (.cells qv 50 (0, 0))) : W.rangeAt q 0 qv.toList := fun j v hv => by
  rw [Nat.zero_add, cell_of_row W q j _ _ _ h]
  simpa using hv
theorem wpList_load_gs {P : Program} {ops : Array Oper} {rest : List Oper} {op : Oper} {a : Act} {w : World} {Q : Exit → Act → World → Prop} (hw : Region.wanted op (yielded ops a.tmps) = true) (ty : TypeId) (x : Operand) (ho : op.op = .load ty x)
    (b : Nat) (hx : a.eval x = .pointer (some ⟨b, 0, none⟩)) (V : Array Value) (d : TypeDesc) (hc : w.rangeAt b 0 V.toList)
    (hu : P.underlying ty = some d) (hd : d.isRow = true) (hi : (P.info? ty).map (·.size) = some V.toList.length)
    (h : wpList P ops Q rest (a.put op.dst (.agg V)) w) : wpList P ops Q (op :: rest) a w :=
  wpList_load_g hw ty x ho b 0 hx V.toList d hc hu hd hi h
theorem blocks_any (W : World) : Calls Tryd.prog 23 #[.int .i64 16, .int .i64 8] W fun e w' => e = .returned (.int .i64 26) ∧ Below W.heap.size W w' := by
  go_enter Tryd.func23, Tryd.ntmps23
  go_wp2
  go_ret
  exact ⟨rfl, Below.refl _ _⟩
theorem neq_sup_self (s : SU) (W : World) : (binOp .neq 50 (.agg s.cells) (.agg s.cells)).run Tryd.prog W = .ok (.bool false) W := by
  have h := eql_sup s s W
  rw [(eqS_iff s s).2 rfl, run_eql_struct] at h
  rw [run_neq_struct]
  generalize (Op.equalIn 10000 50 (.agg s.cells) (.agg s.cells)).run Tryd.prog W = r at h ⊢
  cases r <;> simp_all [Result.andThen]
theorem eql_ofV (b : Bool) (l : List UInt8) (W : World) : (binOp .eql 50 (.agg (ofV b l)) (.agg (ofV b l))).run Tryd.prog W = .ok (.bool true) W := by
  cases b with
  | false =>
    have h := eql_sup zeroSU zeroSU W
    rw [(eqS_iff zeroSU zeroSU).2 rfl] at h
    exact h
  | true =>
    have h := eql_sup (blkS l) (blkS l) W
    rw [(eqS_iff (blkS l) (blkS l)).2 rfl] at h
    exact h
theorem smay_at (W : World) (s : SU) (hf : s.fits) : Calls Tryd.prog 21 #[.agg s.cells] W fun e w' => e = .returned (.bool s.may) ∧ Below W.heap.size W w' :=
  smay_any W s.tx s.m s.d s.c s.p0 s.p1 s.p2 s.p3 s.p4 s.p5 s.tp s.ba s.sg s.ep s.la s.sq s.bl s.bs s.mkd hf.p
set_option maxRecDepth 100000 in
set_option maxHeartbeats 8000000 in
theorem means_law (w : World) (hT : Tabs w) (hW : Wids w) (s : SU) (hf : s.fits) (l : List UInt8) (hl : l.length = 256) (at_ : Int) (by_ : UInt8) :
    Calls Tryd.prog 5 #[.agg s.cells, .agg (cells8 l).toArray, .int .i64 at_, .int .u8 (by_.toNat : Int)] w fun e w' => e = .returned (.bool true) ∧ Below w.heap.size w w' := by
  have HK : Hid (∀ W, Below w.heap.size w W → Calls Tryd.prog 28 #[] W fun e w' => e = .returned (.bool true) ∧ Below w.heap.size w w') := fun W hb => known_any w W hb hT hW
  have HMAY : Hid (∀ W, Calls Tryd.prog 21 #[.agg s.cells] W fun e w' => e = .returned (.bool s.may) ∧ Below W.heap.size W w') := fun W => smay_at W s hf
  have HRMAY : Hid (∀ W, Calls Tryd.prog 22 #[.agg s.cells] W fun e w' => e = .returned (.bool s.may) ∧ Below W.heap.size W w') := fun W => rmay_any W s hf
  have HBLKS : Hid (∀ W, Calls Tryd.prog 23 #[.int .i64 16, .int .i64 8] W fun e w' => e = .returned (.int .i64 26) ∧ Below W.heap.size W w') := fun W => blocks_any W
  have HBLK : Hid (∀ W, Below w.heap.size w W → Calls Tryd.prog 24 #[.agg s.cells] W fun e w' => e = .returned (.tuple #[.agg (cells8 s.blk).toArray, .int .i64 s.err]) ∧ Below W.heap.size W w') := fun W hb => SU.block W (hT.below hb hT.size) (hW.below hb hW.size) s hf
  have HRBLK : s.may = true → Hid (∀ W, Calls Tryd.prog 25 #[.agg s.cells] W fun e w' => e = .returned (.agg (cells8 s.img).toArray) ∧ Below W.heap.size W w') := fun h W => rsblock_any W s hf h
  have HOF : Hid (∀ W (y : List UInt8), Below w.heap.size w W → y.length = 256 → Calls Tryd.prog 26 #[.agg (cells8 y).toArray] W fun e w' => e = .returned (.tuple #[.agg (ofV (superOfB y) y), .int .i64 (ofE (superOfB y))]) ∧ Below W.heap.size W w') := fun W y hb hy => (sof_any W (hT.below hb hT.size) (hW.below hb hW.size) y hy).mono fun e w' hp => ⟨hp.1, hp.2⟩
  have HROF : Hid (∀ W (y : List UInt8), y.length = 256 → Calls Tryd.prog 27 #[.agg (cells8 y).toArray] W fun e w' => e = .returned (.tuple #[.agg (ofV (superOfB y) y), .bool (superOfB y)]) ∧ Below W.heap.size W w') := fun W y hy => rof_any' W y hy
  have HUS := Lib.hid (Tryd.underlying50)
  have HU := Lib.hid (Tryd.underlying29)
  have HCL : Hid ((Tryd.prog.info? 50).map (·.size) = some s.cells.toList.length) := Lib.hid (sup_info s)
  have HS19 : Hid (s.cells.size = 19) := Lib.hid rfl
  have hcs : (cells8 l).toArray.size = 256 := (cells8_size _).trans hl
  have HL := Lib.hid hl
  have HBX : s.may = true → Hid (s.blk = s.img ∧ s.err = 0 ∧ superOfB s.img = true ∧ superCells s.img = s.cells) := fun h => Lib.hid ⟨by rw [SU.blk, h]; rfl, by rw [SU.err, h]; rfl, SU.of_img hf h, SU.of_cells hf h⟩
  have HBN : s.may = false → Hid (s.blk = noughts ∧ s.err = 2) := fun h => Lib.hid ⟨by rw [SU.blk, h]; rfl, by rw [SU.err, h]; rfl⟩
  have hxl : s.blk.length = 256 := blkB_len _ _ s.img_len
  have H0 := Lib.hid (MW.start w s.cells l)
  have HNS : Hid (∀ W : World, (binOp .neq 50 (.agg s.cells) (.agg s.cells)).run Tryd.prog W = .ok (.bool false) W) := fun W => neq_sup_self s W
  have HST5 : Hid (∀ W : World, (storeCells ⟨W.heap.size, 0, none⟩ s.cells.toList).run Tryd.prog (W.alloc (.cells zeroSC 50)) = .ok () (W.alloc (.cells s.cells 50))) := fun W => store_sup W s.cells rfl (cellsS_all s)
  have HIL := Lib.hid s.img_len
  clear hl hf
  obtain ⟨cl, hcl⟩ : ∃ cl, s.cells = cl := ⟨_, rfl⟩
  rw [hcl] at HMAY HRMAY HBLK HCL HS19 H0 HNS HST5 ⊢
  have hrb : s.may = true → Hid (∀ W, Calls Tryd.prog 25 #[.agg cl] W fun e w' => e = .returned (.agg (cells8 s.img).toArray) ∧ Below W.heap.size W w') := hcl ▸ HRBLK
  have hbx2 : s.may = true → Hid (s.blk = s.img ∧ s.err = 0 ∧ superOfB s.img = true ∧ superCells s.img = cl) := hcl ▸ HBX
  clear HRBLK HBX
  have HSC := Lib.hid hcl
  clear hcl
  have hcz := HS19.out
  generalize s.may = r at *
  have hrr : (r != r) = false := by simp
  go_enter Tryd.func5, Tryd.ntmps5
  go_upto_region 1 with fail
  generalize (w.alloc (.cells cl 50)).alloc (.cells (cells8 l).toArray 29) = w1 at *
  refine wp_region_noPanic ?_
  refine wp_region_held_drew (S := fun W => MW w W cl l) (by kernel_rfl) (H0.out.on (Below.refl _ _).drew) (fun hHeld => ?_)
  clear H0
  generalize w1.drew = W0 at *
  refine takeN (i := 0) (oi := _) (v := .agg cl) 17 rfl rfl (by kernel_rfl) (by kernel_rfl) (by kernel_rfl) (fun _ _ _ h => h) (yieldsIf_load_mid (by rfl) 50 (.tmp 4) rfl w.heap.size 0 rfl cl.toList _ (fun W5 hSw => sup_range hSw.node) HUS.out rfl HCL.out) hHeld ?_
  try simp only [Act.put, List.setIfInBounds_toArray, List.set_cons_zero, List.set_cons_succ]
  refine takeN (i := 2) (oi := _) (v := .agg cl) 19 rfl rfl (by kernel_rfl) (by kernel_rfl) (by kernel_rfl) (fun _ _ _ h => h) (yieldsIf_load_mid (by rfl) 50 (.tmp 4) rfl w.heap.size 0 rfl cl.toList _ (fun W5 hSw => sup_range hSw.node) HUS.out rfl HCL.out) hHeld ?_
  try simp only [Act.put, List.setIfInBounds_toArray, List.set_cons_zero, List.set_cons_succ]
  refine wpAnyH_ready (rs := [1]) (by kernel_rfl) (by simp) ?_
  refine AllReadyH.cons rfl (fun K hK => ?_) AllReadyH.nil
  go_simp
  go_wp2_with (first
    | (go_at_call 21; (with_reducible refine (HMAY.out W0).mono ?_); rintro e W1 ⟨rfl, hb⟩)
    | fail)
  have hSn := hHeld.on hb
  refine hK.out _ _ hSn (fun hHeld => ?_)
  clear hK K hb hSn
  try simp only [Act.put, List.setIfInBounds_toArray, List.set_cons_zero, List.set_cons_succ]
  refine wpAnyH_ready (rs := [3]) (by kernel_rfl) (by simp) ?_
  refine AllReadyH.cons rfl (fun K hK => ?_) AllReadyH.nil
  go_simp
  go_wp2_with (first
    | (go_at_call 22; (with_reducible refine (HRMAY.out W1).mono ?_); rintro e W2 ⟨rfl, hb⟩)
    | fail)
  have hSn := hHeld.on hb
  refine hK.out _ _ hSn (fun hHeld => ?_)
  clear hK K hb hSn
  try simp only [Act.put, List.setIfInBounds_toArray, List.set_cons_zero, List.set_cons_succ]
  refine takeN (i := 4) (oi := _) (v := .bool false) 21 rfl rfl (by kernel_rfl) (by kernel_rfl) (by kernel_rfl) (fun _ _ _ h => h) (Or.inl ⟨by rfl, fun w hSw => by (go_simp)⟩) hHeld ?_
  try simp only [Act.put, List.setIfInBounds_toArray, List.set_cons_zero, List.set_cons_succ]
  refine takeN (i := 5) (oi := _) (v := .bool false) 22 rfl rfl (by kernel_rfl) (by kernel_rfl) (by kernel_rfl) (fun _ _ _ h => h) (Or.inl ⟨by rfl, fun w hSw => by (go_simp)⟩) hHeld ?_
  try simp only [Act.put, List.setIfInBounds_toArray, List.set_cons_zero, List.set_cons_succ]
  refine wpAnyH_ready (rs := [6]) (by kernel_rfl) (by simp) ?_
  refine AllReadyH.cons rfl (fun K hK => ?_) AllReadyH.nil
  go_simp
  go_wp2_with (first
    | (go_at_call 23; (with_reducible refine (HBLKS.out W2).mono ?_); rintro e W3 ⟨rfl, hb⟩)
    | fail)
  have hSn := hHeld.on hb
  refine hK.out _ _ hSn (fun hHeld => ?_)
  clear hK K hb hSn
  try simp only [Act.put, List.setIfInBounds_toArray, List.set_cons_zero, List.set_cons_succ]
  refine takeN (i := 7) (oi := _) (v := .bool false) 24 rfl rfl (by kernel_rfl) (by kernel_rfl) (by kernel_rfl) (fun _ _ _ h => h) (Or.inl ⟨by rfl, fun w hSw => by (go_simp)⟩) hHeld ?_
  try simp only [Act.put, List.setIfInBounds_toArray, List.set_cons_zero, List.set_cons_succ]
  refine takeN (i := 8) (oi := _) (v := .bool false) 25 rfl rfl (by kernel_rfl) (by kernel_rfl) (by kernel_rfl) (fun _ _ _ h => h) (Or.inl ⟨by rfl, fun w hSw => by (go_simp)⟩) hHeld ?_
  try simp only [Act.put, List.setIfInBounds_toArray, List.set_cons_zero, List.set_cons_succ]
  refine wpAnyH_done (by kernel_rfl) ?_ _
  refine NoPanic.normal ?_
  have H1 : Hid (MW w W3 cl l) := Lib.hid hHeld
  clear hHeld HMAY HBLKS hrr
  have hst := fun w => store_blk w noughts s.blk noughts_len hxl
  have HXL := Lib.hid hxl
  have hcx : (cells8 s.blk).toArray.size = 256 := (cells8_size _).trans hxl
  have hz := blk_zero
  have hz2 : (cells8 noughts).toArray.size = 256 := (cells8_size _).trans noughts_len
  clear hxl
  generalize hX : s.blk = X at *
  have HX := Lib.hid hX
  clear hX
  generalize hZ : noughts = z at *
  have HZ := Lib.hid hZ
  clear hZ
  generalize hE : s.err = E at *
  clear hE
  go_wp2_with (first
    | refine wpList_load_row rfl 50 (.tmp 4) rfl w.heap.size rfl 50 cl (0, 0) _ H1.out.node HUS.out rfl HCL.out ?_
    | fail)
  (with_reducible refine (HBLK.out _ H1.out.bel).mono ?_)
  rintro e W4 ⟨rfl, hb4⟩
  have H4 : Hid (MW w (W4.alloc (.cells (cells8 X).toArray 29)) cl l) := (H1.out.on hb4).on ((Below.refl _ _).alloc (Nat.le_refl _) _)
  have HXB : Hid (Holds8 (W4.alloc (.cells (cells8 X).toArray 29)) W4.heap.size 29 X) := Holds8.new W4 _ X _ rfl
  go_wp2_with (first
    | refine wpList_load_row rfl 50 (.tmp 4) rfl w.heap.size rfl 50 cl (0, 0) _ H4.out.node HUS.out rfl HCL.out ?_
    | fail)
  (with_reducible refine (HRMAY.out _).mono ?_)
  rintro e W5 ⟨rfl, hb5⟩
  have H5 := Lib.hid (H4.out.on hb5)
  have HX5 := Lib.hid (HXB.out.below hb5)
  clear HXB H4 hb5 hb4 H1 HBLK HRMAY
  generalize W4.heap.size = bx at *
  go_upto_if 33 with fail
  go_cut [8] (fun s wx => s = .bool false ∧ ∃ l2, Hid (l2.length = 256 ∧ MW w wx cl l2))
  case first =>
    cases r with
    | false =>
      obtain ⟨hXz, rfl⟩ := (HBN rfl).out
      have hneq := fun w => neq_blk X X HXL.out HXL.out w
      rw [show (X == X) = true by simp] at hneq
      have hneq2 : ∀ w : World, (binOp .neq 29 (.agg (cells8 X).toArray) (.agg (cells8 z).toArray)).run Tryd.prog w = .ok (.bool false) w := hXz ▸ hneq
      have HCX := Lib.hid hcx
      clear hneq hst HBN hbx2 hrb HST5 HNS HOF HROF hXz hcz
      go_wp2_with fail
      refine wp_load_row 29 (.tmp 9) rfl bx rfl 29 (cells8 X).toArray (0, 0) _ HX5.out HU.out rfl (by rw [blk_size, HCX.out]) ?_
      go_wp2_with fail
      go_meet
      exact ⟨rfl, l, HL.out, H5.out⟩
    | true =>
      obtain ⟨hXi, rfl, hob, hsc⟩ := (hbx2 rfl).out
      have HRB := hrb rfl
      rw [← hXi] at HRB hob hsc
      have HXZ : Hid ((Tryd.prog.info? 29).map (·.size) = some (cells8 X).length) := Lib.hid (by rw [blk_size, cells8_length, HXL.out])
      have HOFX : Hid (∀ W, Below w.heap.size w W → Calls Tryd.prog 26 #[.agg (cells8 X).toArray] W fun e w' => e = .returned (.tuple #[.agg cl, .int .i64 0]) ∧ Below W.heap.size W w') := fun W hb => by
        have h := HOF.out W X hb HXL.out
        rw [hob] at h
        have e : ofV true X = cl := hsc
        rw [e] at h
        exact h
      have HNE : Hid (∀ w : World, (binOp .neq 29 (.agg (cells8 X).toArray) (.agg (cells8 X).toArray)).run Tryd.prog w = .ok (.bool false) w) := Lib.hid (fun w => by have h := neq_blk X X HXL.out HXL.out w; rwa [show (X == X) = true by simp] at h)
      have HCX := Lib.hid hcx
      clear HBN hbx2 hrb HOF HROF hob hsc hXi hst hz hz2 HX HIL
      go_upto_region 7 with fail
      refine wp_region_noPanic ?_
      refine wp_region_held_drew (S := fun W => MW w W cl l ∧ Holds8 W bx 29 X) (by kernel_rfl) ⟨H5.out.on (Below.refl _ _).drew, HX5.out.below (Below.refl _ _).drew⟩ (fun hHeld => ?_)
      clear H5 HX5
      generalize W5.drew = V0 at *
      refine takeN (i := 0) (oi := _) (v := .int .i64 0) 41 rfl rfl (by kernel_rfl) (by kernel_rfl) (by kernel_rfl) (fun _ _ _ h => h) (Or.inl ⟨by rfl, fun w hSw => by (go_simp)⟩) hHeld ?_
      try simp only [Act.put, List.setIfInBounds_toArray, List.set_cons_zero, List.set_cons_succ]
      refine takeN (i := 1) (oi := _) (v := .bool false) 42 rfl rfl (by kernel_rfl) (by kernel_rfl) (by kernel_rfl) (fun _ _ _ h => h) (Or.inl ⟨by rfl, fun w hSw => by (go_simp)⟩) hHeld ?_
      try simp only [Act.put, List.setIfInBounds_toArray, List.set_cons_zero, List.set_cons_succ]
      refine takeN (i := 2) (oi := _) (v := .bool false) 43 rfl rfl (by kernel_rfl) (by kernel_rfl) (by kernel_rfl) (fun _ _ _ h => h) (Or.inl ⟨by rfl, fun w hSw => by (go_simp)⟩) hHeld ?_
      try simp only [Act.put, List.setIfInBounds_toArray, List.set_cons_zero, List.set_cons_succ]
      refine takeN (i := 3) (oi := _) 44 rfl rfl (by kernel_rfl) (by kernel_rfl) (by kernel_rfl) (fun _ _ _ h => h) (yieldsIf_load_mid (by rfl) 29 (.tmp 9) rfl bx 0 rfl (cells8 X) _ (fun W5 hSw => box_range hSw.2) HU.out rfl HXZ.out) hHeld ?_
      try simp only [Act.put, List.setIfInBounds_toArray, List.set_cons_zero, List.set_cons_succ]
      refine takeN (i := 4) (oi := _) (v := .agg cl) 45 rfl rfl (by kernel_rfl) (by kernel_rfl) (by kernel_rfl) (fun _ _ _ h => h) (yieldsIf_load_mid (by rfl) 50 (.tmp 4) rfl w.heap.size 0 rfl cl.toList _ (fun W5 hSw => sup_range hSw.1.node) HUS.out rfl HCL.out) hHeld ?_
      try simp only [Act.put, List.setIfInBounds_toArray, List.set_cons_zero, List.set_cons_succ]
      refine wpAnyH_ready (rs := [5]) (by kernel_rfl) (by simp) ?_
      refine AllReadyH.cons rfl (fun K hK => ?_) AllReadyH.nil
      go_simp
      go_wp2_with (first
        | (go_at_call 25; (with_reducible refine (HRB.out V0).mono ?_); rintro e V1 ⟨rfl, hb⟩)
        | fail)
      have hSn := (⟨hHeld.1.on hb, hHeld.2.below hb⟩ : MW w V1 cl l ∧ Holds8 V1 bx 29 X)
      refine hK.out _ _ hSn (fun hHeld => ?_)
      clear hK K hb hSn
      try simp only [Act.put, List.setIfInBounds_toArray, List.set_cons_zero, List.set_cons_succ]
      have hneq := HNE.out
      refine takeN (i := 6) (oi := _) (v := .bool false) 47 rfl rfl (by kernel_rfl) (by kernel_rfl) (by kernel_rfl) (fun _ _ _ h => h) (Or.inl ⟨by rfl, fun w hSw => by (go_simp)⟩) hHeld ?_
      try simp only [Act.put, List.setIfInBounds_toArray, List.set_cons_zero, List.set_cons_succ]
      clear hneq
      refine takeN (i := 7) (oi := _) (v := .bool false) 48 rfl rfl (by kernel_rfl) (by kernel_rfl) (by kernel_rfl) (fun _ _ _ h => h) (Or.inl ⟨by rfl, fun w hSw => by (go_simp)⟩) hHeld ?_
      try simp only [Act.put, List.setIfInBounds_toArray, List.set_cons_zero, List.set_cons_succ]
      refine wpAnyH_done (by kernel_rfl) ?_ _
      refine NoPanic.normal ?_
      have H6 := Lib.hid hHeld.1
      have HX6 := Lib.hid hHeld.2
      have HOX := Lib.hid (HOFX.out V1 hHeld.1.bel)
      clear hHeld HNE HRB HOFX HXZ
      have hzs := sup_zero
      have hz19 : zeroSC.size = 19 := rfl
      have hst5 := HST5.out
      clear HST5
      generalize zeroSC = zq at *
      go_wp2_with (first
        | refine wpList_load_row rfl 29 (.tmp 9) rfl bx rfl 29 (cells8 X).toArray (0, 0) _ HX6.out HU.out rfl (by rw [blk_size, HCX.out]) ?_
        | fail)
      (with_reducible refine HOX.out.mono ?_)
      rintro e V2 ⟨rfl, hb2⟩
      have hb3 := hb2.alloc hb2.size (.cells cl 50)
      have H7 := Lib.hid (H6.out.on hb3)
      have HX7 := Lib.hid (HX6.out.below hb3)
      have HN7 := Lib.hid (heap_alloc_new V2 (.cells cl 50))
      have hns := HNS.out
      clear hb2 hb3 HOX H6 HX6
      go_upto_region 10 with fail
      clear hzs hst5 hz19
      generalize V2.alloc (.cells cl 50) = V3 at *
      generalize V2.heap.size = by2 at *
      by_cases hat : 0 ≤ at_
      · obtain ⟨n, rfl⟩ := Int.eq_ofNat_of_zero_le hat
        have hmod : ((n : Int) % 256) = ((n % 256 : Nat) : Int) := by omega
        have hmlt : n % 256 < 256 := by omega
        generalize n % 256 = m at *
        have HLS : Hid ((cells8 l).toArray.size = 256) := (cells8_size l).trans HL.out
        have HXR := H7.out.blk.row X
        have hcm := HXR.cell m (by rw [HXL.out]; exact hmlt)
        have hfm := HXR.frozen m
        have hxo : ∀ x : UInt8, bits .xor .u8 (x.toNat : Int) (by_.toNat : Int) = ((x ^^^ by_).toNat : Int) := fun x => by rw [u8_xor_nat _ _ x.toNat_lt by_.toNat_lt, UInt8.toNat_xor]
        have HSET := Lib.hid (HXR.set m ((X[m]'(by rw [HXL.out]; exact hmlt)) ^^^ by_))
        clear HXR
        generalize X[m]'_ = x at hcm HSET
        have hxx := hxo x
        clear hxo
        go_wp2_with (first
          | refine wpList_load_gs (by rfl) 50 (.tmp 11) rfl by2 rfl cl _ (sup_range HN7.out) HUS.out rfl HCL.out ?_
          | refine wpList_load_gs (by rfl) 50 (.tmp 4) rfl w.heap.size rfl cl _ (sup_range H7.out.node) HUS.out rfl HCL.out ?_
          | refine wpList_load_row rfl 29 (.tmp 9) rfl bx rfl 29 (cells8 X).toArray (0, 0) _ HX7.out HU.out rfl (by rw [blk_size, HCX.out]) ?_
          | refine wpList_store_row rfl 29 (.tmp 5) (.tmp 63) rfl (w.heap.size + 1) (cells8 X).toArray rfl rfl 29 (cells8 l).toArray H7.out.blk (by rw [blk_size, HCX.out]) (by rw [HLS.out, HCX.out]) (cells8_all _) ?_
          | fail)
        go_meet
        refine ⟨rfl, X.set m (x ^^^ by_), ⟨by rw [List.length_set, HXL.out], ?_, HSET.out, ?_⟩⟩
        · exact (Below.heap_setCell _ _ _ _ (by simp)).trans ((setRow_other _ _ _ _ (by omega)).trans H7.out.node)
        · exact (below_setRow H7.out.bel (by omega) _).setCell (by simp) _
      · have hat2 : at_ < 0 := by omega
        go_wp2_with (first
          | refine wpList_load_gs (by rfl) 50 (.tmp 11) rfl by2 rfl cl _ (sup_range HN7.out) HUS.out rfl HCL.out ?_
          | refine wpList_load_gs (by rfl) 50 (.tmp 4) rfl w.heap.size rfl cl _ (sup_range H7.out.node) HUS.out rfl HCL.out ?_
          | fail)
        go_meet
        exact ⟨rfl, l, HL.out, H7.out⟩
  case rest =>
    obtain ⟨rfl, l2, HL2⟩ := hcut
    have HOF2 := Lib.hid (HOF.out wc l2 HL2.out.2.bel HL2.out.1)
    have HROF2 := Lib.hid (fun W => HROF.out W l2 HL2.out.1)
    have HEQ : Hid (∀ W : World, (binOp .eql 50 (.agg (ofV (superOfB l2) l2)) (.agg (ofV (superOfB l2) l2))).run Tryd.prog W = .ok (.bool true) W) := fun W => eql_ofV _ _ W
    have hst50 := fun w => store_sup w (ofV (superOfB l2) l2) (ofV_size _ _) (ofV_all _ _)
    have hV19 := ofV_size (superOfB l2) l2
    have HVI : Hid ((Tryd.prog.info? 50).map (·.size) = some (ofV (superOfB l2) l2).size) := Lib.hid (by rw [ofV_size]; exact super_size)
    have HLS : Hid ((cells8 l2).toArray.size = 256) := (cells8_size l2).trans HL2.out.1
    have hzs := sup_zero
    have hz19 : zeroSC.size = 19 := rfl
    clear HOF HROF hst hcx hz hz2 HX HZ HXL HX5 H5 HBN hbx2 hrb HST5 HNS HIL hcz
    generalize ofV (superOfB l2) l2 = V at *
    generalize superOfB l2 = ob at *
    generalize zeroSC = zq at *
    cases ob with
    | false =>
      have HOF3 : Hid (Calls Tryd.prog 26 #[.agg (cells8 l2).toArray] wc fun e w' => e = .returned (.tuple #[.agg V, .int .i64 4]) ∧ Below wc.heap.size wc w') := HOF2
      clear HOF2
      go_wp2_with (first
        | refine wpList_load_row rfl 29 (.tmp 5) rfl (w.heap.size + 1) rfl 29 (cells8 l2).toArray (0, 0) _ HL2.out.2.blk HU.out rfl (by rw [blk_size, HLS.out]) ?_
        | fail)
      (with_reducible refine HOF3.out.mono ?_)
      rintro e w6 ⟨rfl, hb6⟩
      have hb7 := hb6.alloc hb6.size (.cells V 50)
      have H7 := Lib.hid (HL2.out.2.on hb7)
      have HN7 := Lib.hid (heap_alloc_new w6 (.cells V 50))
      clear hb6 hb7 HOF3
      go_wp2_with (first
        | refine wpList_load_row rfl 29 (.tmp 5) rfl (w.heap.size + 1) rfl 29 (cells8 l2).toArray (0, 0) _ H7.out.blk HU.out rfl (by rw [blk_size, HLS.out]) ?_
        | fail)
      (with_reducible refine (HROF2.out _).mono ?_)
      rintro e w8 ⟨rfl, hb8⟩
      have hb9 := hb8.alloc hb8.size (.cells V 50)
      have H9 := Lib.hid (H7.out.on hb9)
      have HN9 := Lib.hid ((hb9.block w6.heap.size (by simp)).trans HN7.out)
      have HM9 := Lib.hid (heap_alloc_new w8 (.cells V 50))
      have HKN := Lib.hid (HK.out _ H9.out.bel)
      clear hb8 hb9 HN7 HROF2 HL2
      have heq := HEQ.out
      go_wp2_with (first
        | refine wpList_load_gs (by rfl) 50 (.tmp 13) rfl w6.heap.size rfl V _ (sup_range HN9.out) HUS.out rfl HVI.out ?_
        | refine wpList_load_gs (by rfl) 50 (.tmp 15) rfl w8.heap.size rfl V _ (sup_range HM9.out) HUS.out rfl HVI.out ?_
        | (go_at_call 28; (with_reducible refine HKN.out.mono ?_); rintro e w11 ⟨rfl, hb11⟩)
        | fail)
      go_ret
      exact ⟨rfl, hb11⟩
    | true =>
      have HOF3 : Hid (Calls Tryd.prog 26 #[.agg (cells8 l2).toArray] wc fun e w' => e = .returned (.tuple #[.agg V, .int .i64 0]) ∧ Below wc.heap.size wc w') := HOF2
      clear HOF2
      go_wp2_with (first
        | refine wpList_load_row rfl 29 (.tmp 5) rfl (w.heap.size + 1) rfl 29 (cells8 l2).toArray (0, 0) _ HL2.out.2.blk HU.out rfl (by rw [blk_size, HLS.out]) ?_
        | fail)
      (with_reducible refine HOF3.out.mono ?_)
      rintro e w6 ⟨rfl, hb6⟩
      have hb7 := hb6.alloc hb6.size (.cells V 50)
      have H7 := Lib.hid (HL2.out.2.on hb7)
      have HN7 := Lib.hid (heap_alloc_new w6 (.cells V 50))
      clear hb6 hb7 HOF3
      go_wp2_with (first
        | refine wpList_load_row rfl 29 (.tmp 5) rfl (w.heap.size + 1) rfl 29 (cells8 l2).toArray (0, 0) _ H7.out.blk HU.out rfl (by rw [blk_size, HLS.out]) ?_
        | fail)
      (with_reducible refine (HROF2.out _).mono ?_)
      rintro e w8 ⟨rfl, hb8⟩
      have hb9 := hb8.alloc hb8.size (.cells V 50)
      have H9 := Lib.hid (H7.out.on hb9)
      have HN9 := Lib.hid ((hb9.block w6.heap.size (by simp)).trans HN7.out)
      have HM9 := Lib.hid (heap_alloc_new w8 (.cells V 50))
      have HKN := Lib.hid (HK.out _ H9.out.bel)
      clear hb8 hb9 HN7 HROF2 HL2
      have heq := HEQ.out
      go_wp2_with (first
        | refine wpList_load_gs (by rfl) 50 (.tmp 13) rfl w6.heap.size rfl V _ (sup_range HN9.out) HUS.out rfl HVI.out ?_
        | refine wpList_load_gs (by rfl) 50 (.tmp 15) rfl w8.heap.size rfl V _ (sup_range HM9.out) HUS.out rfl HVI.out ?_
        | (go_at_call 28; (with_reducible refine HKN.out.mono ?_); rintro e w11 ⟨rfl, hb11⟩)
        | fail)
      go_ret
      exact ⟨rfl, hb11⟩
end Go.Proofs.YtojbajbghldoeaaDoor.Q
end

section
/- From what the row lists to what the walks ask; nodes, blocks that came in as arguments. -/
namespace Go.Proofs.YtojbajbghldoeaaDoor
open Go.RowKit Go.ChangeShapes Go.WideShapes Go.Deep Go.WideMaps Go.WideElems

def laidL : List (String × DataW Unit) := [("math/bits.deBruijn32tab", Rows.laid_math_bits_deBruijn32tab), ("math/bits.deBruijn64tab", Rows.laid_math_bits_deBruijn64tab)]

theorem door_met (os : Os) (args : Array Value) : laidMetH Tryd.prog laidL ((World.doorLaid Tryd.prog 400 os).forCall (fun _ _ => 0) ⟨#[], args, []⟩).memory :=
  laidMetH_of_parts3 (fuel := 8) (laidMet_of_run' 8 (by kernel_rfl) (by kernel_rfl)) (by kernel_rfl) (by kernel_rfl)

theorem gTab : Tryd.prog.globalNamed "math/bits.deBruijn64tab" = some 2 := by kernel_rfl
theorem tTab : (Tryd.prog.globals[2]?).map (·.type) = some 113 := by kernel_rfl
theorem tabs_of {W : World} (h : laidMetH Tryd.prog laidL W) : Tabs W := by
  rw [MakeChecks.laidMetH_plain _ _ _ (by kernel_rfl)] at h
  obtain ⟨ps, ⟨g0, t0, cs0, f0, p0, q0, hg0, ht0, hv0, hd0, ⟨g1, t1, cs1, f1, p1, q1, hg1, ht1, hv1, hd1, _, _⟩, _⟩, _, _⟩ := h
  obtain rfl := Option.some.inj (gTab.symm.trans hg1)
  obtain rfl := Option.some.inj (tTab.symm.trans ht1)
  have e : (Rows.laid_math_bits_deBruijn64tab : DataW Unit) = Lib.tabData .u8 db64 := rfl
  rw [e] at hd1
  have hcs := Lib.cells_of_tab Tryd.underlying113 Tryd.underlying5 (by kernel_rfl) (by kernel_rfl) hd1
  have hT : Lib.TabIs Tryd.prog W "math/bits.deBruijn64tab" .u8 db64 := by
    unfold Lib.TabIs
    rw [hv1, ← hcs]
  intro i hi
  exact hT.cell gTab i (by simpa [db64] using hi)

theorem nat32 {z : Int} (h : (Lit.int .u32 z).wf = true) : ∃ u : Nat, z = (u : Int) ∧ u < 4294967296 := by
  have hb := bounds_u32 h
  exact ⟨z.toNat, by omega, by omega⟩
theorem nat64 {z : Int} (h : (Lit.int .u64 z).wf = true) : ∃ u : Nat, z = (u : Int) ∧ u < 18446744073709551616 := by
  have hb := bounds_u64 h
  exact ⟨z.toNat, by omega, by omega⟩
theorem byte_of {z : Int} (h : (Lit.int .u8 z).wf = true) : ∃ b : UInt8, z = (b.toNat : Int) := by
  have hb := bounds_u8 h
  exact ⟨UInt8.ofNat z.toNat, by simp; omega⟩
theorem bytes_list : ∀ {cs : List Value}, (∀ i, i < cs.length → ∃ z : Int, cs[i]? = some (.int .u8 z) ∧ (Lit.int .u8 z).wf = true) → ∃ l : List UInt8, l.length = cs.length ∧ cs = cells8 l
  | [], _ => ⟨[], rfl, rfl⟩
  | c :: cs, h => by
    obtain ⟨z, hz, hw⟩ := h 0 (by simp)
    obtain ⟨b, rfl⟩ := byte_of hw
    obtain ⟨l, hl, he⟩ := bytes_list (cs := cs) fun i hi => h (i + 1) (by simpa using hi)
    refine ⟨b :: l, by simp [hl], ?_⟩
    simp at hz
    rw [hz, he]
    simp [cells8]

section
variable {H : Type} {enc : TypeId × Value → H} {w : World} {base : Nat} {held : Bool}
/-- a slice of numbers, read -/
theorem nums_of {fuel : Nat} {v : Value} {x : DataW H × List MemPlace} (h : DataW.trod enc Tryd.prog w base (fun _ => true) held fuel 25 [v] = some x) :
    ∃ (A : Option Addr) (l : List Nat) (cap : Nat), v = .slice A l.length cap ∧ Shows w w.heap.size A l.length (nums64 l) ∧ ∀ k ∈ l, k < 18446744073709551616 := by
  rcases open_ints Tryd.underlying25 Tryd.underlying24 (by kernel_rfl) h with ⟨hcs, _⟩ | ⟨a, len, cap, zs, hcs, _, hl, hm, hz, _, hcell, hwz⟩
  · injection hcs with hcs _
    exact ⟨none, [], 0, hcs, Shows.empty _ _ _, by simp⟩
  · injection hcs with hcs _
    have hz' : zs.length = cap := by simpa using hz
    have hlen : ((zs.take len).map Int.toNat).length = len := by simp; omega
    refine ⟨some a, (zs.take len).map Int.toNat, cap, by rw [hlen]; exact hcs, ?_, ?_⟩
    · have hc : ∀ j u, (nums64 ((zs.take len).map Int.toNat))[j]? = some u → w.cell? (a.add j) = some u := by
        intro j u hu
        have hj : j < len := by
          rcases Nat.lt_or_ge j len with h1 | h1
          · exact h1
          · rw [List.getElem?_eq_none (by rw [nums64_length, hlen]; exact h1)] at hu; cases hu
        have hjz : j < zs.length := by omega
        rw [hcell j (by omega), ← hu, nums64_get _ j (by rw [hlen]; exact hj)]
        have hb := bounds_u64 (hwz _ (List.getElem_mem hjz))
        simp [List.getD, hjz, hj]
        omega
      refine ⟨by rw [nums64_length], fun hp => ⟨a, rfl, ?_, hc⟩⟩
      rw [hlen] at hp
      have h0 := hcell 0 (by omega)
      have := block_lt_of_cell h0
      rwa [addr_block] at this
    · intro k hk
      obtain ⟨z, hzm, rfl⟩ := List.mem_map.1 hk
      have hb := bounds_u64 (hwz _ (List.mem_of_mem_take hzm))
      omega

theorem node_fields : ∃ f0 f1 f2 f3 : Field, Tryd.prog.underlying 27 = some (.struct #[f0, f1, f2, f3]) ∧
    (f0.type = 23 ∧ f0.offset = 0) ∧ (f1.type = 24 ∧ f1.offset = 1) ∧ (f2.type = 25 ∧ f2.offset = 2) ∧ (f3.type = 25 ∧ f3.offset = 3) := by
  exact ⟨_, _, _, _, Tryd.underlying27, ⟨rfl, rfl⟩, ⟨rfl, rfl⟩, ⟨rfl, rfl⟩, ⟨rfl, rfl⟩⟩

set_option maxRecDepth 100000 in
/-- a node, read -/
theorem node_of {b0 : Nat} {v : Value} {d : DataW H} {p : List MemPlace} (hv : Value.okWide Tryd.prog w .any b0 27 v) (h : DataW.Trod enc Tryd.prog w base (fun _ => true) held 27 v d p) :
    ∃ (kind : Int) (birth : Nat) (keys vals : List Nat) (A A' : Option Addr) (ck cv : Nat), v = .agg #[.int .i64 kind, .int .u64 (birth : Int), .slice A keys.length ck, .slice A' vals.length cv] ∧ (ND.mk kind birth keys vals).fits ∧
      Shows w w.heap.size A keys.length (nums64 keys) ∧ Shows w w.heap.size A' vals.length (nums64 vals) := by
  have s4 : Tryd.prog.cellsOf 27 = 4 := by kernel_rfl
  have s0 : Tryd.prog.cellsOf 23 = 1 := by kernel_rfl
  have s1 : Tryd.prog.cellsOf 24 = 1 := by kernel_rfl
  have s2 : Tryd.prog.cellsOf 25 = 1 := by kernel_rfl
  obtain ⟨f0, f1, f2, f3, hu, ⟨t0, o0⟩, ⟨t1, o1⟩, ⟨t2, o2⟩, ⟨t3, o3⟩⟩ := node_fields
  have hv2 := okWide_struct hu hv
  obtain ⟨cs, hv3, hsz⟩ := hv2
  subst hv3
  obtain ⟨fuel, hf0⟩ := h
  have hf0 : DataW.trod enc Tryd.prog w base (fun _ => true) held fuel 27 cs.toList = some (d, p) := by simpa [Value.cells] using hf0
  obtain ⟨xs, n, _, _, _, hxl, hf⟩ := DataW.trod_struct hu hf0
  rw [s4] at hsz
  obtain ⟨a0, a1, a2, a3, rfl⟩ := Joins.array4 hsz
  have hx : ∀ i, i < 4 → ∃ y, xs[i]? = some y := fun i hi => ⟨xs[i]'(by rw [hxl]; exact hi), List.getElem?_eq_getElem _⟩
  obtain ⟨y0, e0⟩ := hx 0 (by omega)
  obtain ⟨y1, e1⟩ := hx 1 (by omega)
  obtain ⟨y2, e2⟩ := hx 2 (by omega)
  obtain ⟨y3, e3⟩ := hx 3 (by omega)
  have h0 := (hf 0 f0 rfl).trans e0
  have h1 := (hf 1 f1 rfl).trans e1
  have h2 := (hf 2 f2 rfl).trans e2
  have h3 := (hf 3 f3 rfl).trans e3
  rw [t0, o0, s0] at h0
  rw [t1, o1, s1] at h1
  rw [t2, o2, s2] at h2
  rw [t3, o3, s2] at h3
  simp only [List.drop_zero, List.drop_succ_cons, List.take_succ_cons, List.take_zero] at h0 h1 h2 h3
  obtain ⟨z0, c0, _, w0⟩ := DataW.trod_int Tryd.underlying23 h0
  obtain ⟨z1, c1, _, w1⟩ := DataW.trod_int Tryd.underlying24 h1
  injection c0 with c0 _
  injection c1 with c1 _
  subst c0
  subst c1
  obtain ⟨b1, rfl, hb1⟩ := nat64 w1
  obtain ⟨A, keys, ck, rfl, hs, hk⟩ := nums_of h2
  obtain ⟨A', vals, cv, rfl, hs', hk'⟩ := nums_of h3
  exact ⟨z0, b1, keys, vals, A, A', ck, cv, rfl, ⟨hb1, hk, hk'⟩, hs, hs'⟩

set_option maxRecDepth 100000 in
/-- a block, read -/
theorem block_of {b0 : Nat} {v : Value} {d : DataW H} {p : List MemPlace} (hv : Value.okWide Tryd.prog w .any b0 29 v) (h : DataW.Trod enc Tryd.prog w base (fun _ => true) held 29 v d p) :
    ∃ l : List UInt8, l.length = 256 ∧ v = .agg (cells8 l).toArray := by
  have s256 : Tryd.prog.cellsOf 29 = 256 := by kernel_rfl
  have s1 : Tryd.prog.cellsOf 5 = 1 := by kernel_rfl
  obtain ⟨cs, rfl⟩ : ∃ cs, v = .agg cs := by
    simp only [Value.okWide, Tryd.underlying29] at hv
    obtain ⟨cs, h1, _⟩ := hv
    exact ⟨cs, h1⟩
  obtain ⟨fuel, hf⟩ := h
  have hf : DataW.trod enc Tryd.prog w base (fun _ => true) held fuel 29 cs.toList = some (d, p) := by simpa [Value.cells] using hf
  obtain ⟨xs, m, _, _, hl, hxl, hi⟩ := DataW.trod_array Tryd.underlying29 hf
  rw [s256] at hl
  obtain ⟨l, hll, he⟩ := bytes_list (cs := cs.toList) fun i hlt => by
    have hi' := hi i (by omega)
    rw [s1, Nat.mul_one, List.drop_eq_getElem_cons hlt] at hi'
    simp only [List.take_succ_cons, List.take_zero] at hi'
    obtain ⟨y, hy⟩ : ∃ y, xs[i]? = some y := ⟨xs[i]'(by omega), List.getElem?_eq_getElem _⟩
    obtain ⟨z, hz, _, hw⟩ := DataW.trod_int Tryd.underlying5 (hi'.trans hy)
    have hz := (List.cons.inj hz).1
    exact ⟨z, by rw [List.getElem?_eq_getElem hlt, hz], hw⟩
  refine ⟨l, by omega, ?_⟩
  rw [← he]
end
end Go.Proofs.YtojbajbghldoeaaDoor
end

section
/- A superblock that came in as an argument. -/
set_option linter.unusedVariables false
namespace Go.Proofs.YtojbajbghldoeaaDoor
open Go.RowKit Go.ChangeShapes Go.WideShapes Go.Deep Go.WideMaps Go.WideElems

theorem super_fields : ∃ f0 f1 f2 f3 f4 f5 f6 f7 f8 : Field, Tryd.prog.underlying 50 = some (.struct #[f0, f1, f2, f3, f4, f5, f6, f7, f8]) ∧ (f0.type = 24 ∧ f0.offset = 0) ∧ (f1.type = 3 ∧ f1.offset = 1) ∧ (f2.type = 3 ∧ f2.offset = 2) ∧ (f3.type = 46 ∧ f3.offset = 3) ∧ (f4.type = 22 ∧ f4.offset = 9) ∧ (f5.type = 22 ∧ f5.offset = 10) ∧ (f6.type = 22 ∧ f6.offset = 11) ∧ (f7.type = 3 ∧ f7.offset = 12) ∧ (f8.type = 48 ∧ f8.offset = 13) :=
  ⟨_, _, _, _, _, _, _, _, _, Tryd.underlying50, ⟨rfl, rfl⟩, ⟨rfl, rfl⟩, ⟨rfl, rfl⟩, ⟨rfl, rfl⟩, ⟨rfl, rfl⟩, ⟨rfl, rfl⟩, ⟨rfl, rfl⟩, ⟨rfl, rfl⟩, ⟨rfl, rfl⟩⟩
theorem state_fields : ∃ f0 f1 f2 f3 f4 f5 : Field, Tryd.prog.underlying 48 = some (.struct #[f0, f1, f2, f3, f4, f5]) ∧ (f0.type = 24 ∧ f0.offset = 0) ∧ (f1.type = 24 ∧ f1.offset = 1) ∧ (f2.type = 24 ∧ f2.offset = 2) ∧ (f3.type = 24 ∧ f3.offset = 3) ∧ (f4.type = 24 ∧ f4.offset = 4) ∧ (f5.type = 4 ∧ f5.offset = 5) :=
  ⟨_, _, _, _, _, _, Tryd.underlying48, ⟨rfl, rfl⟩, ⟨rfl, rfl⟩, ⟨rfl, rfl⟩, ⟨rfl, rfl⟩, ⟨rfl, rfl⟩, ⟨rfl, rfl⟩⟩
section
variable {H : Type} {enc : TypeId × Value → H} {w : World} {base : Nat} {held : Bool}
theorem one_u32 {n : Nat} {a : Value} {x : DataW H × List MemPlace} (h : DataW.trod enc Tryd.prog w base (fun _ => true) held n 22 [a] = some x) : ∃ u : Nat, a = .int .u32 (u : Int) ∧ u < 4294967296 := by
  obtain ⟨z, c, _, hw⟩ := DataW.trod_int Tryd.underlying22 h
  injection c with c _
  obtain ⟨u, rfl, hu⟩ := nat32 hw
  exact ⟨u, c, hu⟩
theorem one_u64 {n : Nat} {a : Value} {x : DataW H × List MemPlace} (h : DataW.trod enc Tryd.prog w base (fun _ => true) held n 24 [a] = some x) : ∃ u : Nat, a = .int .u64 (u : Int) ∧ u < 18446744073709551616 := by
  obtain ⟨z, c, _, hw⟩ := DataW.trod_int Tryd.underlying24 h
  injection c with c _
  obtain ⟨u, rfl, hu⟩ := nat64 hw
  exact ⟨u, c, hu⟩
theorem one_int {n : Nat} {a : Value} {x : DataW H × List MemPlace} (h : DataW.trod enc Tryd.prog w base (fun _ => true) held n 3 [a] = some x) : ∃ z : Int, a = .int .i64 z := by
  obtain ⟨z, c, _, hw⟩ := DataW.trod_int Tryd.underlying3 h
  injection c with c _
  exact ⟨z, c⟩
theorem one_bool {n : Nat} {a : Value} {x : DataW H × List MemPlace} (h : DataW.trod enc Tryd.prog w base (fun _ => true) held n 4 [a] = some x) : ∃ b : Bool, a = .bool b := by
  obtain ⟨b, c, _⟩ := DataW.trod_bool Tryd.underlying4 h
  injection c with c _
  exact ⟨b, c⟩
theorem some_of {α : Type} {xs : List α} {o : Option α} {n i : Nat} (hl : xs.length = n) (h : o = xs[i]?) (hi : i < n) : ∃ y, o = some y := ⟨xs[i]'(by omega), by rw [h]; exact List.getElem?_eq_getElem _⟩
set_option maxRecDepth 100000 in
theorem six_u32 {n : Nat} {a0 a1 a2 a3 a4 a5 : Value} {x : DataW H × List MemPlace} (h : DataW.trod enc Tryd.prog w base (fun _ => true) held n 46 [a0, a1, a2, a3, a4, a5] = some x) :
    ∃ u0 u1 u2 u3 u4 u5 : Nat, (a0 = .int .u32 (u0 : Int) ∧ a1 = .int .u32 (u1 : Int) ∧ a2 = .int .u32 (u2 : Int) ∧ a3 = .int .u32 (u3 : Int) ∧ a4 = .int .u32 (u4 : Int) ∧ a5 = .int .u32 (u5 : Int)) ∧ u0 < 4294967296 ∧ u1 < 4294967296 ∧ u2 < 4294967296 ∧ u3 < 4294967296 ∧ u4 < 4294967296 ∧ u5 < 4294967296 := by
  have s1 : Tryd.prog.cellsOf 22 = 1 := by kernel_rfl
  obtain ⟨xs, m, _, _, _, hxl, hi⟩ := DataW.trod_array Tryd.underlying46 h
  obtain ⟨y0, g0⟩ := some_of hxl (hi 0 (by omega)) (by omega)
  rw [s1] at g0
  obtain ⟨u0, e0, b0⟩ := one_u32 (a := a0) g0
  obtain ⟨y1, g1⟩ := some_of hxl (hi 1 (by omega)) (by omega)
  rw [s1] at g1
  obtain ⟨u1, e1, b1⟩ := one_u32 (a := a1) g1
  obtain ⟨y2, g2⟩ := some_of hxl (hi 2 (by omega)) (by omega)
  rw [s1] at g2
  obtain ⟨u2, e2, b2⟩ := one_u32 (a := a2) g2
  obtain ⟨y3, g3⟩ := some_of hxl (hi 3 (by omega)) (by omega)
  rw [s1] at g3
  obtain ⟨u3, e3, b3⟩ := one_u32 (a := a3) g3
  obtain ⟨y4, g4⟩ := some_of hxl (hi 4 (by omega)) (by omega)
  rw [s1] at g4
  obtain ⟨u4, e4, b4⟩ := one_u32 (a := a4) g4
  obtain ⟨y5, g5⟩ := some_of hxl (hi 5 (by omega)) (by omega)
  rw [s1] at g5
  obtain ⟨u5, e5, b5⟩ := one_u32 (a := a5) g5
  exact ⟨u0, u1, u2, u3, u4, u5, ⟨e0, e1, e2, e3, e4, e5⟩, b0, b1, b2, b3, b4, b5⟩
set_option maxRecDepth 100000 in
theorem state_of {n : Nat} {a0 a1 a2 a3 a4 a5 : Value} {x : DataW H × List MemPlace} (h : DataW.trod enc Tryd.prog w base (fun _ => true) held n 48 [a0, a1, a2, a3, a4, a5] = some x) :
    ∃ (u0 u1 u2 u3 u4 : Nat) (b : Bool), (a0 = .int .u64 (u0 : Int) ∧ a1 = .int .u64 (u1 : Int) ∧ a2 = .int .u64 (u2 : Int) ∧ a3 = .int .u64 (u3 : Int) ∧ a4 = .int .u64 (u4 : Int) ∧ a5 = .bool b) ∧ u0 < 18446744073709551616 ∧ u1 < 18446744073709551616 ∧ u2 < 18446744073709551616 ∧ u3 < 18446744073709551616 ∧ u4 < 18446744073709551616 := by
  have s1 : Tryd.prog.cellsOf 24 = 1 := by kernel_rfl
  have s2 : Tryd.prog.cellsOf 4 = 1 := by kernel_rfl
  obtain ⟨f0, f1, f2, f3, f4, f5, hu, ⟨t0, o0⟩, ⟨t1, o1⟩, ⟨t2, o2⟩, ⟨t3, o3⟩, ⟨t4, o4⟩, ⟨t5, o5⟩⟩ := state_fields
  obtain ⟨xs, m, _, _, _, hxl, hf⟩ := DataW.trod_struct hu h
  obtain ⟨y0, g0⟩ := some_of hxl (hf 0 f0 rfl) (by show 0 < 6; omega)
  rw [t0, o0, s1] at g0
  obtain ⟨u0, e0, b0⟩ := one_u64 (a := a0) g0
  obtain ⟨y1, g1⟩ := some_of hxl (hf 1 f1 rfl) (by show 1 < 6; omega)
  rw [t1, o1, s1] at g1
  obtain ⟨u1, e1, b1⟩ := one_u64 (a := a1) g1
  obtain ⟨y2, g2⟩ := some_of hxl (hf 2 f2 rfl) (by show 2 < 6; omega)
  rw [t2, o2, s1] at g2
  obtain ⟨u2, e2, b2⟩ := one_u64 (a := a2) g2
  obtain ⟨y3, g3⟩ := some_of hxl (hf 3 f3 rfl) (by show 3 < 6; omega)
  rw [t3, o3, s1] at g3
  obtain ⟨u3, e3, b3⟩ := one_u64 (a := a3) g3
  obtain ⟨y4, g4⟩ := some_of hxl (hf 4 f4 rfl) (by show 4 < 6; omega)
  rw [t4, o4, s1] at g4
  obtain ⟨u4, e4, b4⟩ := one_u64 (a := a4) g4
  obtain ⟨y5, g5⟩ := some_of hxl (hf 5 f5 rfl) (by show 5 < 6; omega)
  rw [t5, o5, s2] at g5
  obtain ⟨u5, e5⟩ := one_bool (a := a5) g5
  exact ⟨u0, u1, u2, u3, u4, u5, ⟨e0, e1, e2, e3, e4, e5⟩, b0, b1, b2, b3, b4⟩
theorem list19 {α : Type} {l : List α} (h : l.length = 19) : ∃ a0 a1 a2 a3 a4 a5 a6 a7 a8 a9 a10 a11 a12 a13 a14 a15 a16 a17 a18, l = [a0, a1, a2, a3, a4, a5, a6, a7, a8, a9, a10, a11, a12, a13, a14, a15, a16, a17, a18] := by
  match l, h with
  | [a0, a1, a2, a3, a4, a5, a6, a7, a8, a9, a10, a11, a12, a13, a14, a15, a16, a17, a18], _ => exact ⟨a0, a1, a2, a3, a4, a5, a6, a7, a8, a9, a10, a11, a12, a13, a14, a15, a16, a17, a18, rfl⟩
set_option maxRecDepth 100000 in
/-- a superblock, read -/
theorem super_of {b0 : Nat} {v : Value} {d : DataW H} {p : List MemPlace} (hv : Value.okWide Tryd.prog w .any b0 50 v) (h : DataW.Trod enc Tryd.prog w base (fun _ => true) held 50 v d p) : ∃ s : SU, v = .agg s.cells ∧ s.fits := by
  have c19 : Tryd.prog.cellsOf 50 = 19 := by kernel_rfl
  have s0 : Tryd.prog.cellsOf 24 = 1 := by kernel_rfl
  have s1 : Tryd.prog.cellsOf 3 = 1 := by kernel_rfl
  have s2 : Tryd.prog.cellsOf 3 = 1 := by kernel_rfl
  have s3 : Tryd.prog.cellsOf 46 = 6 := by kernel_rfl
  have s4 : Tryd.prog.cellsOf 22 = 1 := by kernel_rfl
  have s5 : Tryd.prog.cellsOf 22 = 1 := by kernel_rfl
  have s6 : Tryd.prog.cellsOf 22 = 1 := by kernel_rfl
  have s7 : Tryd.prog.cellsOf 3 = 1 := by kernel_rfl
  have s8 : Tryd.prog.cellsOf 48 = 6 := by kernel_rfl
  obtain ⟨f0, f1, f2, f3, f4, f5, f6, f7, f8, hu, ⟨t0, o0⟩, ⟨t1, o1⟩, ⟨t2, o2⟩, ⟨t3, o3⟩, ⟨t4, o4⟩, ⟨t5, o5⟩, ⟨t6, o6⟩, ⟨t7, o7⟩, ⟨t8, o8⟩⟩ := super_fields
  have hv2 := okWide_struct hu hv
  obtain ⟨cs, hv3, hsz⟩ := hv2
  subst hv3
  obtain ⟨fuel, hf0⟩ := h
  have hf0 : DataW.trod enc Tryd.prog w base (fun _ => true) held fuel 50 cs.toList = some (d, p) := by simpa [Value.cells] using hf0
  obtain ⟨xs, n, _, _, _, hxl, hf⟩ := DataW.trod_struct hu hf0
  rw [c19] at hsz
  obtain ⟨a0, a1, a2, a3, a4, a5, a6, a7, a8, a9, a10, a11, a12, a13, a14, a15, a16, a17, a18, hL⟩ := list19 (l := cs.toList) (by simpa using hsz)
  rw [hL] at hf
  obtain rfl : cs = #[a0, a1, a2, a3, a4, a5, a6, a7, a8, a9, a10, a11, a12, a13, a14, a15, a16, a17, a18] := by rw [← Array.toArray_toList (xs := cs), hL]
  obtain ⟨y0, g0⟩ := some_of hxl (hf 0 f0 rfl) (by show 0 < 9; omega)
  rw [t0, o0, s0] at g0
  obtain ⟨u0, e0, b0⟩ := one_u64 (a := a0) g0
  obtain ⟨y1, g1⟩ := some_of hxl (hf 1 f1 rfl) (by show 1 < 9; omega)
  rw [t1, o1, s1] at g1
  obtain ⟨u1, e1⟩ := one_int (a := a1) g1
  obtain ⟨y2, g2⟩ := some_of hxl (hf 2 f2 rfl) (by show 2 < 9; omega)
  rw [t2, o2, s2] at g2
  obtain ⟨u2, e2⟩ := one_int (a := a2) g2
  obtain ⟨y3, g3⟩ := some_of hxl (hf 3 f3 rfl) (by show 3 < 9; omega)
  rw [t3, o3, s3] at g3
  obtain ⟨u3, u4, u5, u6, u7, u8, ⟨e3, e4, e5, e6, e7, e8⟩, b3, b4, b5, b6, b7, b8⟩ := six_u32 (a0 := a3) (a1 := a4) (a2 := a5) (a3 := a6) (a4 := a7) (a5 := a8) g3
  obtain ⟨y4, g4⟩ := some_of hxl (hf 4 f4 rfl) (by show 4 < 9; omega)
  rw [t4, o4, s4] at g4
  obtain ⟨u9, e9, b9⟩ := one_u32 (a := a9) g4
  obtain ⟨y5, g5⟩ := some_of hxl (hf 5 f5 rfl) (by show 5 < 9; omega)
  rw [t5, o5, s5] at g5
  obtain ⟨u10, e10, b10⟩ := one_u32 (a := a10) g5
  obtain ⟨y6, g6⟩ := some_of hxl (hf 6 f6 rfl) (by show 6 < 9; omega)
  rw [t6, o6, s6] at g6
  obtain ⟨u11, e11, b11⟩ := one_u32 (a := a11) g6
  obtain ⟨y7, g7⟩ := some_of hxl (hf 7 f7 rfl) (by show 7 < 9; omega)
  rw [t7, o7, s7] at g7
  obtain ⟨u12, e12⟩ := one_int (a := a12) g7
  obtain ⟨y8, g8⟩ := some_of hxl (hf 8 f8 rfl) (by show 8 < 9; omega)
  rw [t8, o8, s8] at g8
  obtain ⟨u13, u14, u15, u16, u17, u18, ⟨e13, e14, e15, e16, e17, e18⟩, b13, b14, b15, b16, b17⟩ := state_of (a0 := a13) (a1 := a14) (a2 := a15) (a3 := a16) (a4 := a17) (a5 := a18) g8
  subst e0 e1 e2 e3 e4 e5 e6 e7 e8 e9 e10 e11 e12 e13 e14 e15 e16 e17 e18
  exact ⟨⟨u0, u1, u2, u3, u4, u5, u6, u7, u8, u9, u10, u11, u12, u13, u14, u15, u16, u17, u18⟩, rfl, ⟨b0, ⟨b3, b4, b5, b6, b7, b8, b9, b10, b11⟩, ⟨b13, b14, b15, b16, b17⟩⟩⟩
end
end Go.Proofs.YtojbajbghldoeaaDoor
end

section
/- Super without a disk, or with a short one. -/
set_option linter.unusedVariables false
namespace Go.Proofs.YtojbajbghldoeaaDoor.Q
open Go.RowKit

theorem sectors_nil (w : World) : Calls Tryd.prog 62 #[.pointer none] w fun e w' => e = .returned (.int .i64 0) ∧ w' = w := by
  go_enter Tryd.func62, Tryd.ntmps62
  go_wp2_with (go_at_call 66; refine (none_nil _).mono ?_; rintro e w' ⟨rfl, rfl⟩)
  go_ret
  exact ⟨rfl, rfl⟩
set_option maxRecDepth 100000 in
set_option maxHeartbeats 4000000 in
theorem read_nil (w : World) (k : Int) : Calls Tryd.prog 31 #[.pointer none, .int .i64 k] w fun e w' => e = .returned (.tuple #[.agg (cells8 noughts).toArray, .int .i64 1]) ∧ Below w.heap.size w w' := by
  have hz := blk_zero
  have hcs := cells8_size noughts
  have HP := Lib.hid (fun (W : World) => place_nil W k (sectors_nil W))
  have HB := Lib.hid ((Below.refl _ w).alloc (Nat.le_refl _) (.cells (cells8 noughts).toArray 29))
  have HNEW := Lib.hid (heap_alloc_new w (.cells (cells8 noughts).toArray 29))
  go_enter Tryd.func31, Tryd.ntmps31
  go_wp2_with (first
    | (go_at_call 58; (with_reducible refine (HP.out _).mono ?_); rintro e w1 ⟨rfl, rfl⟩)
    | refine wpList_store_row rfl 29 (.tmp 4) (.tmp 16) rfl w.heap.size (cells8 noughts).toArray rfl rfl 29 (cells8 noughts).toArray HNEW.out (by rw [blk_sz _ noughts_len]; simp) rfl (all_oneCell_toArray (cells8_one _)) ?_
    | fail)
  exact bodyPost_ret (results_cell_tmp rfl _ _ w.heap.size 29 (cells8 noughts).toArray (0, 0) _ (.int .i64 1) rfl rfl (setRow_heap _ _ _ _ _ _ HNEW.out) blk_u rfl (by rw [blk_sz _ noughts_len]; simp)) rfl ⟨rfl, below_setRow HB.out (Nat.le_refl _) _⟩
set_option maxRecDepth 100000 in
set_option maxHeartbeats 4000000 in
theorem write_nil (w : World) (k : Int) (l : List UInt8) (hl : l.length = 256) : Calls Tryd.prog 30 #[.pointer none, .int .i64 k, .agg (cells8 l).toArray] w fun e w' => e = .returned (.int .i64 1) ∧ Below w.heap.size w w' := by
  have hcs := cells8_size l
  have HP := Lib.hid (fun (W : World) => place_nil W k (sectors_nil W))
  have HB := Lib.hid ((Below.refl _ w).alloc (Nat.le_refl _) (.cells (cells8 l).toArray 29))
  go_enter Tryd.func30, Tryd.ntmps30
  go_wp2_with (first
    | (go_at_call 58; (with_reducible refine (HP.out _).mono ?_); rintro e w1 ⟨rfl, rfl⟩)
    | fail)
  go_ret
  exact ⟨rfl, HB.out⟩
set_option maxRecDepth 100000 in
set_option maxHeartbeats 4000000 in
theorem save_nil (w : World) (s : SU) : Calls Tryd.prog 33 #[.pointer none, .agg s.cells] w fun e w' => e = .returned (.int .i64 1) ∧ Below w.heap.size w w' := by
  have HB := Lib.hid ((Below.refl _ w).alloc (Nat.le_refl _) (.cells s.cells 50))
  have hs : s.cells.size = 19 := rfl
  obtain ⟨cs, hcs⟩ : ∃ cs, s.cells = cs := ⟨_, rfl⟩
  rw [hcs] at HB hs ⊢
  clear hcs
  go_enter Tryd.func33, Tryd.ntmps33
  go_wp2_with (first
    | (go_at_call 62; (with_reducible refine (sectors_nil _).mono ?_); rintro e w1 ⟨rfl, rfl⟩)
    | fail)
  go_ret
  exact ⟨rfl, HB.out⟩
set_option maxRecDepth 100000 in
set_option maxHeartbeats 4000000 in
theorem save_bad {w : World} {F : Nat → Prop} {b : Nat} {d : RD} (hT : Tabs w) (hW : Wids w) (h : PD w F b d) (s : SU) (hf : s.fits) (hm : s.may = false) :
    Calls Tryd.prog 33 #[.pointer (some ⟨b, 0, none⟩), .agg s.cells] w (PDone w F b 2 d) := by
  have HTW : Hid (∀ W, Below w.heap.size w W → Tabs W ∧ Wids W) := Lib.hid (fun W hb => ⟨hT.below hb hT.size, hW.below hb hW.size⟩)
  have HH := Lib.hid h
  have n0 : ((d.s.length : Int) == 0) = false := by have := h.n0; rw [beq_eq_false_iff_ne]; omega
  have HSEC := Lib.hid (fun (W : World) (hb : Below w.heap.size w W) => pd_sectors (h.below hb))
  have HBL := Lib.hid (fun (W : World) (hb : Below w.heap.size w W) => SU.block W (HTW.out W hb).1 (HTW.out W hb).2 s hf)
  have HSL := Lib.hid (fun (W : World) => slotOf_any W s hf)
  have hz2 := blk_zero
  have hsc : s.cells.size = 19 := rfl
  have hbl : s.blk.length = 256 := blkB_len _ _ s.img_len
  have hst := fun w => store_blk w noughts s.blk noughts_len hbl
  have hbc : (cells8 s.blk).length = 256 := by rw [cells8_length, hbl]
  have HIM := Lib.hid s.img_len
  have e1 : s.err = 2 := by rw [SU.err, hm]; rfl
  rw [e1] at HBL
  have HBA := Lib.hid ((Below.refl _ w).alloc (Nat.le_refl _) (.cells s.cells 50))
  have HRG : Hid (∀ W, Below (w.alloc (.cells s.cells 50)).heap.size (w.alloc (.cells s.cells 50)) W → W.rangeAt w.heap.size 0 s.cells.toList) := Lib.hid (fun W hb j u hu => by
    rw [Joins.cell_of_block ((hb.block _ (by simp)).trans (heap_alloc_new w _)), Nat.zero_add, ← Array.getElem?_toList]; exact hu)
  obtain ⟨cl, hcl⟩ : ∃ cl : List Value, s.cells = cl.toArray := ⟨s.cells.toList, by simp⟩
  rw [hcl] at HBL HSL HBA hsc HRG ⊢
  rw [List.toList_toArray] at HRG
  have hsc' : cl.length = 19 := by simpa using hsc
  have hinf : (Tryd.prog.info? 50).map (·.size) = some cl.length := by rw [hsc']; kernel_rfl
  clear hT hW h hf hm e1 hcl HSL
  generalize s.blk = l at *
  go_enter Tryd.func33, Tryd.ntmps33
  go_wp2_with (first
    | (go_at_call 62; (with_reducible refine (HSEC.out _ HBA.out).mono ?_); rintro e w1 ⟨rfl, rfl⟩)
    | refine wpList_load_mid rfl 50 (.tmp 3) rfl w.heap.size 0 rfl cl _ (HRG.out _ (by with_reducible first | exact Below.refl _ _ | exact HB2.out)) Tryd.underlying50 rfl hinf ?_
    | (go_at_call 24; (with_reducible refine (HBL.out _ HBA.out).mono ?_); rintro e w2 ⟨rfl, hb2⟩; have HB2 := Lib.hid (hb2.alloc hb2.size (.cells (cells8 l).toArray 29)); clear hb2)
    | fail)
  go_ret
  exact PDone.same HH.out (HBA.out.trans (HB2.out.mono (by simp)))
set_option maxRecDepth 100000 in
set_option maxHeartbeats 4000000 in
theorem load_nil (w : World) : Calls Tryd.prog 36 #[.pointer none] w fun e w' => e = .returned (.tuple #[.agg zeroSC, .int .i64 1]) ∧ Below w.heap.size w w' := by
  have hzs := sup_zero
  have hz2 := blk_zero
  have hnc : (cells8 noughts).length = 256 := by rw [cells8_length, noughts_len]
  have hst := fun w => store_blk w noughts noughts noughts_len noughts_len
  have HL0 : Hid (LL w ((w.alloc (.cells zeroSC 50)).alloc (.cells zeroSC 50)) zeroSU) := by
    have hn := heap_alloc_new (w.alloc (.cells zeroSC 50)) (.cells zeroSC 50)
    rw [World.size_alloc] at hn
    exact Lib.hid ⟨(Below.heap_alloc _ _ _ (by simp)).trans (heap_alloc_new w _), hn, (((Below.refl _ w).alloc (Nat.le_refl _) _).alloc (by simp) _)⟩
  go_enter Tryd.func36, Tryd.ntmps36
  go_wp2_with fail
  go_loopw [9] (fun j wr => j = .int .i64 0 ∧ Hid (LL w wr zeroSU)) (fun j _ => 0)
  case atStart => exact ⟨rfl, HL0.out⟩
  case round =>
    obtain ⟨rfl, HLL⟩ := hrel
    go_wp2_with (first
      | (go_at_call 31; (with_reducible refine (read_nil _ _).mono ?_); rintro e w1 ⟨rfl, hb1⟩; have HL1 := Lib.hid ((HLL.out.below hb1).below ((Below.refl _ w1).alloc (Nat.le_refl _) (.cells (cells8 noughts).toArray 29))); clear hb1)
      | refine wpList_store_row rfl 50 (.tmp 2) (.tmp 20) rfl w.heap.size zeroSC rfl rfl 50 zeroSC HL1.out.n (sup_info zeroSU) rfl (by simp [zeroSC, Value.oneCell']) ?_
      | fail)
    exact bodyPost_ret (results_cell_tmp rfl _ _ w.heap.size 50 zeroSC (0, 0) _ (.int .i64 1) rfl rfl (setRow_heap _ _ _ _ _ _ HL1.out.n) Tryd.underlying50 rfl (sup_info zeroSU)) rfl ⟨rfl, below_setRow HL1.out.bel (Nat.le_refl _) _⟩
theorem short_blk : blkAt (newD 7) 0 = noughts := by
  have h : ∀ i, i < 7 → (lastD (newD 7) i).1 = List.replicate 64 0 := fun i hi => by
    have e : lastD (newD 7) i = 0 := by
      show ((List.replicate 7 [(0 : SB)]).getD i []).getLastD 0 = 0
      rw [List.getD_eq_getElem?_getD, List.getElem?_replicate, if_pos hi]
      rfl
    rw [e]
    rfl
  rw [blkAt_last _ _ (by simp [newD]), h _ (by omega), h _ (by omega), h _ (by omega), h _ (by omega), List.replicate_append_replicate, List.replicate_append_replicate, List.replicate_append_replicate]
  rfl
set_option maxRecDepth 100000 in
set_option maxHeartbeats 4000000 in
theorem load_7 {w : World} {F : Nat → Prop} {b : Nat} (hT : Tabs w) (hW : Wids w) (h : PD w F b (newD 7)) :
    Calls Tryd.prog 36 #[.pointer (some ⟨b, 0, none⟩)] w fun e w' => e = .returned (.tuple #[.agg zeroSC, .int .i64 2]) ∧ Below w.heap.size w w' := by
  have HTW : Hid (∀ W, Below w.heap.size w W → Tabs W ∧ Wids W) := Lib.hid (fun W hb => ⟨hT.below hb hT.size, hW.below hb hW.size⟩)
  have hl7 : (newD 7).s.length = 7 := by simp [newD]
  have HR0 : Hid (∀ W, Below w.heap.size w W → Calls Tryd.prog 31 #[.pointer (some ⟨b, 0, none⟩), .int .i64 0] W fun e w' => e = .returned (.tuple #[.agg (cells8 noughts).toArray, .int .i64 0]) ∧ Below W.heap.size W w') := Lib.hid (fun W hb => by
    have := read_any' (h.below hb) 0 ⟨by omega, by rw [hl7]; decide⟩
    rw [short_blk] at this
    exact this)
  have HR1 : Hid (∀ W, Below w.heap.size w W → Calls Tryd.prog 31 #[.pointer (some ⟨b, 0, none⟩), .int .i64 1] W fun e w' => e = .returned (.tuple #[.agg (cells8 noughts).toArray, .int .i64 2]) ∧ Below W.heap.size W w') := Lib.hid (fun W hb => read_out (h.below hb) 1 (fun hk => by have := hk.2; rw [hl7] at this; omega))
  have HOF : Hid (∀ W, Below w.heap.size w W → Calls Tryd.prog 26 #[.agg (cells8 noughts).toArray] W fun e w' => e = .returned (.tuple #[.agg zeroSC, .int .i64 4]) ∧ Below W.heap.size W w') := Lib.hid (fun W hb => by
    have := sof_any W (HTW.out W hb).1 (HTW.out W hb).2 noughts noughts_len
    rw [ofB_noughts] at this
    exact this)
  have hzs := sup_zero
  have hz2 := blk_zero
  have hnc : (cells8 noughts).length = 256 := by rw [cells8_length, noughts_len]
  have hst := fun w => store_blk w noughts noughts noughts_len noughts_len
  have hVst := fun w => store_sup w zeroSC rfl (by simp [zeroSC, Value.oneCell'])
  have hVs : zeroSC.size = 19 := rfl
  have HG : Hid (∀ (w1 W : World), Below (w1.alloc (.cells (cells8 noughts).toArray 29)).heap.size (w1.alloc (.cells (cells8 noughts).toArray 29)) W → W.rangeAt w1.heap.size 0 (cells8 noughts)) := Lib.hid (fun w1 W hb j u hu => by
    rw [Joins.cell_of_block ((hb.block _ (by simp)).trans (heap_alloc_new w1 _)), List.getElem?_toArray, Nat.zero_add]; exact hu)
  have HL0 : Hid (LL w ((w.alloc (.cells zeroSC 50)).alloc (.cells zeroSC 50)) zeroSU) := by
    have hn := heap_alloc_new (w.alloc (.cells zeroSC 50)) (.cells zeroSC 50)
    rw [World.size_alloc] at hn
    exact Lib.hid ⟨(Below.heap_alloc _ _ _ (by simp)).trans (heap_alloc_new w _), hn, (((Below.refl _ w).alloc (Nat.le_refl _) _).alloc (by simp) _)⟩
  clear hT hW h hl7
  go_enter Tryd.func36, Tryd.ntmps36
  go_wp2_with fail
  go_loopw [9] (fun j wr => ∃ i : Nat, i ≤ 1 ∧ j = .int .i64 (i : Int) ∧ Hid (LL w wr zeroSU)) (fun j _ => 2 - (intOf j).toNat)
  case atStart => exact ⟨0, by omega, rfl, HL0.out⟩
  case round =>
    obtain ⟨i, hi, rfl, HLL⟩ := hrel
    by_cases h0 : i = 0
    · subst h0
      go_wp2_with (first
        | (go_at_call 31; (with_reducible refine (HR0.out _ HLL.out.bel).mono ?_); rintro e w1 ⟨rfl, hb1⟩; have HB1 := Lib.hid (hb1.alloc hb1.size (.cells (cells8 noughts).toArray 29)); clear hb1)
        | refine wpList_load_mid rfl 29 (.tmp 6) rfl w1.heap.size 0 rfl (cells8 noughts) _ (HG.out _ _ (Below.refl _ _)) blk_u rfl (blk_sz noughts noughts_len) ?_
        | (go_at_call 26; (with_reducible refine (HOF.out _ (HLL.out.below HB1.out).bel).mono ?_); rintro e w2 ⟨rfl, hb2⟩; have HB2 := Lib.hid hb2; clear hb2)
        | fail)
      exact ⟨⟨1, by omega, rfl, (HLL.out.below HB1.out).below (HB2.out.alloc HB2.out.size _)⟩, by simp [intOf]⟩
    · obtain rfl : i = 1 := by omega
      go_wp2_with (first
        | (go_at_call 31; (with_reducible refine (HR1.out _ HLL.out.bel).mono ?_); rintro e w1 ⟨rfl, hb1⟩; have HL1 := Lib.hid ((HLL.out.below hb1).below ((Below.refl _ w1).alloc (Nat.le_refl _) (.cells (cells8 noughts).toArray 29))); clear hb1)
        | refine wpList_store_row rfl 50 (.tmp 2) (.tmp 20) rfl w.heap.size zeroSC rfl rfl 50 zeroSC HL1.out.n (sup_info zeroSU) rfl (by simp [zeroSC, Value.oneCell']) ?_
        | fail)
      exact bodyPost_ret (results_cell_tmp rfl _ _ w.heap.size 50 zeroSC (0, 0) _ (.int .i64 2) rfl rfl (setRow_heap _ _ _ _ _ _ HL1.out.n) Tryd.underlying50 rfl (sup_info zeroSU)) rfl ⟨rfl, below_setRow HL1.out.bel (Nat.le_refl _) _⟩
end Go.Proofs.YtojbajbghldoeaaDoor.Q
end

section
/- SuperNil, walked. -/
set_option linter.unusedVariables false
namespace Go.Proofs.YtojbajbghldoeaaDoor.Q
open Go.RowKit

def nd7 : RD := newD 7
set_option maxRecDepth 100000 in
set_option maxHeartbeats 8000000 in
theorem nil_law (w : World) (hT : Tabs w) (hW : Wids w) : Calls Tryd.prog 8 #[] w fun e w' => e = .returned (.bool true) ∧ Below w.heap.size w w' := by
  have HTW : Hid (∀ W, Below w.heap.size w W → Tabs W ∧ Wids W) := Lib.hid (fun W hb => ⟨hT.below hb hT.size, hW.below hb hW.size⟩)
  have HN : Hid (∀ W, Below w.heap.size w W → Calls Tryd.prog 29 #[.int .i64 7] W fun e w' => ∃ b, e = .returned (.tuple #[.pointer (some ⟨b, 0, none⟩), .int .i64 0]) ∧ Hid (KS w w' b nd7)) := Lib.hid (fun W hb => KS.new 7 w W hb (by omega))
  have HLD : Hid (∀ (b : Nat) (W : World), KS w W b nd7 → Calls Tryd.prog 36 #[.pointer (some ⟨b, 0, none⟩)] W fun e w' => e = .returned (.tuple #[.agg zeroSC, .int .i64 2]) ∧ Hid (KS w w' b nd7)) := Lib.hid (fun b W h => by
    have h0 := h
    obtain ⟨F, h1, h2, h3⟩ := h
    exact (load_7 (HTW.out W h3).1 (HTW.out W h3).2 h1).mono fun e w' hp => ⟨hp.1, h0.below hp.2⟩)
  have HSV : Hid (∀ (b : Nat) (W : World), KS w W b nd7 → Calls Tryd.prog 33 #[.pointer (some ⟨b, 0, none⟩), .agg zeroSC] W fun e w' => e = .returned (.int .i64 2) ∧ Hid (KS w w' b nd7)) := Lib.hid (fun b W h => by
    obtain ⟨F, h1, h2, h3⟩ := h
    have hm : zeroSU.may = false := mayS_no (fun h => by have := h.2.2.1.1; simp [zeroSU] at this)
    exact (save_bad (HTW.out W h3).1 (HTW.out W h3).2 h1 zeroSU zeroSU_fits hm).mono fun e w' hp => ⟨hp.1, KS.done h3 h2 hp⟩)
  have HO1 : Hid (∀ W, Calls Tryd.prog 32 #[.int .u64 1] W fun e w' => e = .returned (.agg (someU 1).cells) ∧ Below W.heap.size W w') := Lib.hid (fun W => some_any W 1)
  have HSN : Hid (∀ W, Calls Tryd.prog 33 #[.pointer none, .agg (someU 1).cells] W fun e w' => e = .returned (.int .i64 1) ∧ Below W.heap.size W w') := Lib.hid (fun W => save_nil W (someU 1))
  have HWN : Hid (∀ W, Calls Tryd.prog 30 #[.pointer none, .int .i64 0, .agg (cells8 noughts).toArray] W fun e w' => e = .returned (.int .i64 1) ∧ Below W.heap.size W w') := Lib.hid (fun W => write_nil W 0 noughts noughts_len)
  have HKN : Hid (∀ W, Below w.heap.size w W → Calls Tryd.prog 28 #[] W fun e w' => e = .returned (.bool true) ∧ Below w.heap.size w w') := Lib.hid (fun W hb => known_any w W hb hT hW)
  obtain ⟨c1, hc1⟩ : ∃ c, (someU 1).cells = c := ⟨_, rfl⟩
  rw [hc1] at HO1 HSN
  have hzs := sup_zero
  have hz2 := blk_zero
  have hnc : (cells8 noughts).length = 256 := by rw [cells8_length, noughts_len]
  have hst := fun w => store_blk w noughts noughts noughts_len noughts_len
  have hVst := fun w => store_sup w zeroSC rfl (by simp [zeroSC, Value.oneCell'])
  have hVs : zeroSC.size = 19 := rfl
  clear hT hW hc1
  go_enter Tryd.func8, Tryd.ntmps8
  go_wp2_with (first
    | (go_at_call 36; first
        | ((with_reducible refine (load_nil _).mono ?_); rintro e w1 ⟨rfl, hb1⟩; have HB1 := Lib.hid (hb1.alloc hb1.size (.cells zeroSC 50)); clear hb1)
        | ((with_reducible refine (HLD.out _ _ HK3.out).mono ?_); rintro e w4 ⟨rfl, hk4⟩; have HK4 := Lib.hid (hk4.out.below ((Below.refl _ w4).alloc (Nat.le_refl _) (.cells zeroSC 50))); clear hk4))
    | (go_at_call 31; (with_reducible refine (read_nil _ _).mono ?_); rintro e w2 ⟨rfl, hb2⟩; have HB2 := Lib.hid ((HB1.out.trans (hb2.mono HB1.out.size)).alloc (Nat.le_trans HB1.out.size hb2.size) (.cells (cells8 noughts).toArray 29)); clear hb2)
    | (go_at_call 29; (with_reducible refine (HN.out _ HB2.out).mono ?_); rintro e w3 ⟨b, rfl, hk3⟩; have HK3 := Lib.hid hk3.out; clear hk3)
    | (go_at_call 30; (with_reducible refine (HWN.out _).mono ?_); rintro e w5 ⟨rfl, hb5⟩; have HK5 := Lib.hid (HK4.out.below hb5); clear hb5)
    | (go_at_call 32; (with_reducible refine (HO1.out _).mono ?_); rintro e w6 ⟨rfl, hb6⟩; have HK6 := Lib.hid (HK5.out.below hb6); clear hb6)
    | (go_at_call 33; first
        | ((with_reducible refine (HSN.out _).mono ?_); rintro e w7 ⟨rfl, hb7⟩; have HK7 := Lib.hid (HK6.out.below hb7); clear hb7)
        | ((with_reducible refine (HSV.out _ _ HK7.out).mono ?_); rintro e w8 ⟨rfl, hk8⟩; have HK8 := Lib.hid hk8.out; clear hk8))
    | (go_at_call 28; (with_reducible refine (HKN.out _ HK8.out.b).mono ?_); rintro e w9 ⟨rfl, hb9⟩; have HB9 := Lib.hid hb9; clear hb9)
    | fail)
  go_ret
  exact ⟨rfl, HB9.out⟩
end Go.Proofs.YtojbajbghldoeaaDoor.Q
end

section
/- From what a row of super's lists to what the walks ask. -/
namespace Go.Proofs.YtojbajbghldoeaaDoor
open Go.RowKit Go.ChangeShapes Go.WideShapes Go.Deep Go.WideMaps Go.WideElems

def laidS : List (String × DataW Unit) := [("math/bits.deBruijn32tab", Rows.laid_math_bits_deBruijn32tab), ("math/bits.deBruijn64tab", Rows.laid_math_bits_deBruijn64tab), ("voile/super.widths", Rows.laid_voile_super_widths)]
theorem door_metS (os : Os) (args : Array Value) : laidMetH Tryd.prog laidS ((World.doorLaid Tryd.prog 400 os).forCall (fun _ _ => 0) ⟨#[], args, []⟩).memory :=
  laidMetH_of_parts3 (fuel := 8) (laidMet_of_run' 8 (by kernel_rfl) (by kernel_rfl)) (by kernel_rfl) (by kernel_rfl)
theorem gTabS : Tryd.prog.globalNamed "math/bits.deBruijn64tab" = some 2 := by kernel_rfl
theorem tTabS : (Tryd.prog.globals[2]?).map (·.type) = some 113 := by kernel_rfl
theorem gWid : Tryd.prog.globalNamed "voile/super.widths" = some 0 := by kernel_rfl
theorem tWid : (Tryd.prog.globals[0]?).map (·.type) = some 102 := by kernel_rfl
def widZ : List Int := [8, 4, 4, 4, 4, 4, 4, 4, 4, 4, 4, 4, 4, 8, 8, 8, 8, 8, 1]
theorem widZ_at : ∀ i, i < 19 → widZ.getD i 0 = ((widL.getD i 0 : Nat) : Int) := by decide
theorem tabs_ofS {W : World} (h : laidMetH Tryd.prog laidS W) : Tabs W ∧ Wids W := by
  rw [MakeChecks.laidMetH_plain _ _ _ (by kernel_rfl)] at h
  obtain ⟨ps, ⟨g0, t0, cs0, f0, p0, q0, hg0, ht0, hv0, hd0, ⟨g1, t1, cs1, f1, p1, q1, hg1, ht1, hv1, hd1, ⟨g2, t2, cs2, f2, p2, q2, hg2, ht2, hv2, hd2, _, _⟩, _⟩, _⟩, _, _⟩ := h
  obtain rfl := Option.some.inj (gTabS.symm.trans hg1)
  obtain rfl := Option.some.inj (tTabS.symm.trans ht1)
  obtain rfl := Option.some.inj (gWid.symm.trans hg2)
  obtain rfl := Option.some.inj (tWid.symm.trans ht2)
  have e : (Rows.laid_math_bits_deBruijn64tab : DataW Unit) = Lib.tabData .u8 db64 := rfl
  rw [e] at hd1
  have hcs := Lib.cells_of_tab Tryd.underlying113 Tryd.underlying5 (by kernel_rfl) (by kernel_rfl) hd1
  have hT : Lib.TabIs Tryd.prog W "math/bits.deBruijn64tab" .u8 db64 := by
    unfold Lib.TabIs
    rw [hv1, ← hcs]
  have e2 : (Rows.laid_voile_super_widths : DataW Unit) = Lib.tabData .i64 widZ := rfl
  rw [e2] at hd2
  have hcs2 := Lib.cells_of_tab Tryd.underlying102 Tryd.underlying3 (by kernel_rfl) (by kernel_rfl) hd2
  have hT2 : Lib.TabIs Tryd.prog W "voile/super.widths" .i64 widZ := by
    unfold Lib.TabIs
    rw [hv2, ← hcs2]
  refine ⟨fun i hi => hT.cell gTabS i (by simpa [db64] using hi), fun i hi => ?_⟩
  rw [hT2.cell gWid i (by simpa [widZ] using hi), widZ_at i hi]
end Go.Proofs.YtojbajbghldoeaaDoor
end
