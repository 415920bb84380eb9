/- The walk of the law CommandMeans. -/
import Derived.Test.YtpkbkliblbbdcaaDm
set_option linter.unusedVariables false
namespace Go.Proofs.Ytpkbkliblbbdcaa
open Go.RowKit
set_option maxRecDepth 20000

/-- bytes read as an operation -/
theorem cof_is (x : List UInt8) {A : Option Addr} {cap : Nat} {w : World} (hs : Shows w w.heap.size A x.length (cells8 x)) (hc : x.length ≤ cap) (hcm : cap ≤ 9223372036854775807) :
    Calls Try.prog 19 #[.slice A x.length cap] w fun e w' => ∃ ob A2 c2 eb, e = .returned (.tuple #[.agg #[.int .i64 ob.k, .int .u64 (ob.v : Int), .int .u64 (ob.t : Int), .int .i64 ob.s, .int .i64 ob.a, .int .i64 ob.c, .slice A2 ob.d.length c2], .int .i64 eb]) ∧ Hid ((opOf x = none → eb = 4) ∧ (∀ d, opOf x = some d → eb = 0 ∧ ob = d) ∧ Shows w' w'.heap.size A2 ob.d.length (cells8 ob.d) ∧ ob.d.length ≤ c2 ∧ c2 ≤ 9223372036854775807 ∧ Below w.heap.size w w') := by
  refine (cof_any x A cap w hs hc hcm).mono ?_
  rintro e w' ⟨A2, c2, u, rfl, hu, H⟩
  have hu2 : u = .int .i64 (if (opOf x).isSome then 0 else 4) := hu
  subst hu2
  refine ⟨(opOf x).getD (zeroO 0), A2, c2, _, rfl, fun h => by rw [h]; rfl, fun d h => ⟨by rw [h]; rfl, by rw [h]; rfl⟩, H.out.1, H.out.2.1, H.out.2.2.1, H.out.2.2.2⟩
/-- bytes read as an answer -/
theorem aof_is (x : List UInt8) {A : Option Addr} {cap : Nat} {w : World} (hs : Shows w w.heap.size A x.length (cells8 x)) (hc : x.length ≤ cap) (hcm : cap ≤ 9223372036854775807) :
    Calls Try.prog 21 #[.slice A x.length cap] w fun e w' => ∃ ob A2 c2 eb, e = .returned (.tuple #[.agg #[.int .i64 ob.k, .int .i64 ob.s, .slice A2 ob.d.length c2], .int .i64 eb]) ∧ Hid ((ansOf x = none → eb = 4) ∧ (∀ d, ansOf x = some d → eb = 0 ∧ ob = d) ∧ Shows w' w'.heap.size A2 ob.d.length (cells8 ob.d) ∧ ob.d.length ≤ c2 ∧ c2 ≤ 9223372036854775807 ∧ Below w.heap.size w w') := by
  refine (ansOf_any A cap x w hs hc hcm).mono ?_
  rintro e w' ⟨A2, c2, u, rfl, hu, H⟩
  have hu2 : u = .int .i64 (if (ansOf x).isSome then 0 else 4) := hu
  subst hu2
  refine ⟨(ansOf x).getD ⟨0, 0, []⟩, A2, c2, _, rfl, fun h => by rw [h]; rfl, fun d h => ⟨by rw [h]; rfl, by rw [h]; rfl⟩, H.out.1, H.out.2.1, H.out.2.2.1, H.out.2.2.2⟩

theorem Packed.means {w w' : World} {r : Option (List UInt8)} {e : Ending} (h : Packed w r e w') : ∃ A n c eb, e = .returned (.tuple #[.slice A n c, .int .i64 eb]) ∧ Hid ((r = none → eb = 2) ∧ (∀ x, r = some x → eb = 0 ∧ n = x.length ∧ n ≤ c ∧ c ≤ 9223372036854775807 ∧ Shows w' w'.heap.size A n (cells8 x)) ∧ Below w.heap.size w w') := by
  cases r with
  | none => exact ⟨none, 0, 0, 2, h.1, fun _ => rfl, fun x hx => (by cases hx), h.2⟩
  | some l =>
    obtain ⟨A, c, rfl, ho, hb, h1, h2⟩ := packed_ok h
    refine ⟨A, l.length, c, 0, rfl, fun hx => (by cases hx), fun x hx => ?_, hb⟩
    obtain rfl := Option.some.inj hx
    exact ⟨rfl, rfl, h1, h2, Shows.owned ho⟩

/-- the three boxes -/
structure TM (w wr : World) (o p : OP) (a : AN) (A B C : Option Addr) (ca cb cc : Nat) : Prop where
  bo : Box wr w.heap.size o A ca
  bp : Box wr (w.heap.size + 1) p B cb
  ba : BoxA wr (w.heap.size + 1 + 1) a C cc
  bel : Below w.heap.size w wr
theorem TM.on {w wr w' : World} {o p : OP} {a : AN} {A B C : Option Addr} {ca cb cc : Nat} (h : TM w wr o p a A B C ca cb cc) (hb : Below wr.heap.size wr w') : TM w w' o p a A B C ca cb cc :=
  ⟨h.bo.below hb (Array.getElem?_eq_some_iff.1 h.bo).1, h.bp.below hb (Array.getElem?_eq_some_iff.1 h.bp).1, h.ba.below hb (Array.getElem?_eq_some_iff.1 h.ba).1, h.bel.trans (hb.mono h.bel.size)⟩
theorem TM.new (w : World) (o p : OP) (a : AN) (A B C : Option Addr) (ca cb cc : Nat) : TM w (((w.alloc (.cells #[.int .i64 o.k, .int .u64 (o.v : Int), .int .u64 (o.t : Int), .int .i64 o.s, .int .i64 o.a, .int .i64 o.c, .slice A o.d.length ca] 26)).alloc (.cells #[.int .i64 p.k, .int .u64 (p.v : Int), .int .u64 (p.t : Int), .int .i64 p.s, .int .i64 p.a, .int .i64 p.c, .slice B p.d.length cb] 26)).alloc (.cells #[.int .i64 a.k, .int .i64 a.s, .slice C a.d.length cc] 41)) o p a A B C ca cb cc := by
  have h1 := heap_alloc_new (w.alloc (.cells #[.int .i64 o.k, .int .u64 (o.v : Int), .int .u64 (o.t : Int), .int .i64 o.s, .int .i64 o.a, .int .i64 o.c, .slice A o.d.length ca] 26)) (.cells #[.int .i64 p.k, .int .u64 (p.v : Int), .int .u64 (p.t : Int), .int .i64 p.s, .int .i64 p.a, .int .i64 p.c, .slice B p.d.length cb] 26)
  have h2 := heap_alloc_new ((w.alloc (.cells #[.int .i64 o.k, .int .u64 (o.v : Int), .int .u64 (o.t : Int), .int .i64 o.s, .int .i64 o.a, .int .i64 o.c, .slice A o.d.length ca] 26)).alloc (.cells #[.int .i64 p.k, .int .u64 (p.v : Int), .int .u64 (p.t : Int), .int .i64 p.s, .int .i64 p.a, .int .i64 p.c, .slice B p.d.length cb] 26)) (.cells #[.int .i64 a.k, .int .i64 a.s, .slice C a.d.length cc] 41)
  rw [World.size_alloc] at h1
  rw [World.size_alloc, World.size_alloc] at h2
  exact ⟨(Below.heap_alloc _ _ _ (by simp; omega)).trans ((Below.heap_alloc _ _ _ (by simp)).trans (heap_alloc_new _ _)), (Below.heap_alloc _ _ _ (by simp)).trans h1, h2, (below2 w _ _).alloc (below2 w _ _).size _⟩

set_option maxHeartbeats 16000000 in
theorem means_main (o p : OP) (a : AN) (l m : List UInt8) (A B C D E : Option Addr) (ca cb cc cl cm : Nat) (w : World) (hfo : o.fit) (hfp : p.fit) (hd : o.d.length ≤ 9000) (hp : p.d.length ≤ 9000) (ha : a.d.length ≤ 70000) (hl : l.length ≤ 9000) (hm : m.length ≤ 9000)
    (hso : Shows w w.heap.size A o.d.length (cells8 o.d)) (hco : o.d.length ≤ ca) (hsp : Shows w w.heap.size B p.d.length (cells8 p.d)) (hcp : p.d.length ≤ cb) (hsa : Shows w w.heap.size C a.d.length (cells8 a.d)) (hca : a.d.length ≤ cc)
    (hsl : Shows w w.heap.size D l.length (cells8 l)) (hcl : l.length ≤ cl) (hclm : cl ≤ 9223372036854775807) (hsm : Shows w w.heap.size E m.length (cells8 m)) (hcm : m.length ≤ cm) (hcmm : cm ≤ 9223372036854775807) :
    Calls Try.prog 7 #[.agg #[.int .i64 o.k, .int .u64 (o.v : Int), .int .u64 (o.t : Int), .int .i64 o.s, .int .i64 o.a, .int .i64 o.c, .slice A o.d.length ca], .agg #[.int .i64 p.k, .int .u64 (p.v : Int), .int .u64 (p.t : Int), .int .i64 p.s, .int .i64 p.a, .int .i64 p.c, .slice B p.d.length cb], .agg #[.int .i64 a.k, .int .i64 a.s, .slice C a.d.length cc], .slice D l.length cl, .slice E m.length cm] w fun e w' => e = .returned (.bool true) ∧ Below w.heap.size w w' := by
  have HM1 := Lib.hid (much_any o.k o.v o.t o.s o.a o.c o.d A ca)
  have HM2 := Lib.hid (much_any p.k p.v p.t p.s p.a p.c p.d B cb)
  rw [dec_f (by omega)] at HM1 HM2
  have HBO : Hid (∀ W, Shows W W.heap.size A o.d.length (cells8 o.d) → Calls Try.prog 10 #[.agg #[.int .i64 o.k, .int .u64 (o.v : Int), .int .u64 (o.t : Int), .int .i64 o.s, .int .i64 o.a, .int .i64 o.c, .slice A o.d.length ca]] W (Packed W (BYO o))) := fun W hS => bytesO_any o.k o.v o.t o.s o.a o.c o.d A ca W hfo.1 hfo.2.1 (by omega) hco hS
  have HBP : Hid (∀ W, Shows W W.heap.size B p.d.length (cells8 p.d) → Calls Try.prog 10 #[.agg #[.int .i64 p.k, .int .u64 (p.v : Int), .int .u64 (p.t : Int), .int .i64 p.s, .int .i64 p.a, .int .i64 p.c, .slice B p.d.length cb]] W (Packed W (BYO p))) := fun W hS => bytesO_any p.k p.v p.t p.s p.a p.c p.d B cb W hfp.1 hfp.2.1 (by omega) hcp hS
  have HBA : Hid (∀ W, Shows W W.heap.size C a.d.length (cells8 a.d) → Calls Try.prog 24 #[.agg #[.int .i64 a.k, .int .i64 a.s, .slice C a.d.length cc]] W (Packed W (BYA a))) := fun W hS => bytesA_any a.k a.s a.d C cc W (by omega) hca hS
  have HXO := Lib.hid (fun x (h : BYO o = some x) => opOf_BO h)
  have HXI := Lib.hid (fun x y (h : BYO o = some x) (h2 : BYO p = some y) => BO_inj h h2)
  have HXA := Lib.hid (fun x (h : BYA a = some x) => ansOf_BA h)
  have HPL := Lib.hid (fun d (h : opOf l = some d) => pack_opOf h)
  have HPM := Lib.hid (fun d (h : ansOf m = some d) => pack_ansOf h)
  have HDL := Lib.hid (fun W hS => cof_is l (A := D) (cap := cl) (w := W) hS hcl hclm)
  have HDM := Lib.hid (fun W hS => aof_is m (A := E) (cap := cm) (w := W) hS hcm hcmm)
  have HBD : Hid (∀ (d : OP) (A2 : Option Addr) (c2 : Nat) (W : World), d.fit → d.d.length ≤ 16777216 → d.d.length ≤ c2 → Shows W W.heap.size A2 d.d.length (cells8 d.d) → Calls Try.prog 10 #[.agg #[.int .i64 d.k, .int .u64 (d.v : Int), .int .u64 (d.t : Int), .int .i64 d.s, .int .i64 d.a, .int .i64 d.c, .slice A2 d.d.length c2]] W (Packed W (BYO d))) := fun d A2 c2 W h1 h2 h3 hS => bytesO_any d.k d.v d.t d.s d.a d.c d.d A2 c2 W h1.1 h1.2.1 h2 h3 hS
  have HBE : Hid (∀ (d : AN) (A2 : Option Addr) (c2 : Nat) (W : World), d.d.length ≤ 16777216 → d.d.length ≤ c2 → Shows W W.heap.size A2 d.d.length (cells8 d.d) → Calls Try.prog 24 #[.agg #[.int .i64 d.k, .int .i64 d.s, .slice A2 d.d.length c2]] W (Packed W (BYA d))) := fun d A2 c2 W h2 h3 hS => bytesA_any d.k d.s d.d A2 c2 W h2 h3 hS
  have HSO := Lib.hid hso
  have HSP := Lib.hid hsp
  have HSA := Lib.hid hsa
  have HSL := Lib.hid hsl
  have HSM := Lib.hid hsm
  have hd1 : ¬ (70000 : Int) < (a.d.length : Int) := by omega
  have hd2 : ¬ (9000 : Int) < (l.length : Int) := by omega
  have hd3 : ¬ (9000 : Int) < (m.length : Int) := by omega
  have HT0 := Lib.hid (TM.new w o p a A B C ca cb cc)
  generalize BYO o = ro at *
  generalize BYO p = rp at *
  generalize BYA a = ra at *
  clear hso hsp hsa hsl hsm hfo hfp hd hp ha hl hm hco hcp hca hcl hclm hcm hcmm
  go_enter Try.func7, Try.ntmps7
  go_wp2_with fail
  refine (known_any _).mono ?_
  rintro e w1 ⟨rfl, hb1⟩
  have HT1 := Lib.hid (HT0.out.on hb1)
  obtain ⟨l0, l1, l2, l3, l4, l5, l6⟩ := HT1.out.bo.cells
  clear hb1 HT0
  go_wp2_with fail
  refine (HM1.out _).mono ?_
  rintro e w2 ⟨rfl, hb2⟩
  have HT2 := Lib.hid (HT1.out.on hb2)
  clear l0 l1 l2 l3 l4 l5 l6 hb2 HT1
  obtain ⟨l0, l1, l2, l3, l4, l5, l6⟩ := HT2.out.bp.cells
  go_wp2_with fail
  refine (HM2.out _).mono ?_
  rintro e w3 ⟨rfl, hb3⟩
  have HT3 := Lib.hid (HT2.out.on hb3)
  clear l0 l1 l2 l3 l4 l5 l6 hb3 HT2
  obtain ⟨l0, l1, l2, l3, l4, l5, l6⟩ := HT3.out.bo.cells
  obtain ⟨n0, n1, n2⟩ := HT3.out.ba.cells
  go_wp2_with fail
  refine (HBO.out _ (HSO.out.on HT3.out.bel)).mono ?_
  intro e w4 hpk
  obtain ⟨Ab, nb, c4, eb, rfl, HPB⟩ := hpk.means
  have HT4 := Lib.hid (HT3.out.on HPB.out.2.2)
  clear l0 l1 l2 l3 l4 l5 l6 n0 n1 n2 hd1 hd2 hd3 hpk HT3
  obtain ⟨l0, l1, l2, l3, l4, l5, l6⟩ := HT4.out.bp.cells
  go_wp2_with fail
  refine (HBP.out _ (HSP.out.on HT4.out.bel)).mono ?_
  intro e w5 hpk
  obtain ⟨Ay, ny, cy, ey, rfl, HPC⟩ := hpk.means
  have HT5 := Lib.hid (HT4.out.on HPC.out.2.2)
  have HX5 : Hid (∀ x, ro = some x → eb = 0 ∧ nb = x.length ∧ nb ≤ c4 ∧ c4 ≤ 9223372036854775807 ∧ Shows w5 w5.heap.size Ab nb (cells8 x)) := fun x hx => by
    obtain ⟨h1, h2, h3, h4, h5⟩ := HPB.out.2.1 x hx
    exact ⟨h1, h2, h3, h4, h5.on HPC.out.2.2⟩
  have HX4 : Hid (ro = none → eb = 2) := HPB.out.1
  clear l0 l1 l2 l3 l4 l5 l6 hpk HT4 HPB
  go_upto_if 65 with (first | (go_at_call 17; refine (num_any _ _).mono ?_; rintro e w' ⟨rfl, rfl⟩) | fail)
  go_cut [] (fun wx => Hid (TM w wx o p a A B C ca cb cc))
  case first =>
    cases ro with
    | none =>
      obtain rfl := HX4.out rfl
      go_wp2_with fail
      go_meet
      exact HT5
    | some x =>
      obtain ⟨rfl, rfl, hx1, hx2, hx3⟩ := HX5.out x rfl
      have hox := HXO.out x rfl
      have HXS := Lib.hid hx3
      have HOF := Lib.hid (fun W hS => cof_is x (A := Ab) (cap := c4) (w := W) hS hx1 hx2)
      have HOX := Lib.hid hox
      clear hx1 hx2 hx3 hox HX4 HX5
      go_wp2_with fail
      refine (HOF.out _ HXS.out).mono ?_
      rintro e w6 ⟨ob, A6, c6, e6, rfl, H6⟩
      obtain ⟨rfl, rfl⟩ := H6.out.2.1 _ HOX.out
      have hb67 : Below w6.heap.size w6 (w6.alloc (.cells #[.int .i64 ob.k, .int .u64 (ob.v : Int), .int .u64 (ob.t : Int), .int .i64 ob.s, .int .i64 ob.a, .int .i64 ob.c, .slice A6 ob.d.length c6] 26)) := (Below.refl w6.heap.size w6).alloc (Nat.le_refl _) _
      have hb57 : Below w5.heap.size w5 (w6.alloc (.cells #[.int .i64 ob.k, .int .u64 (ob.v : Int), .int .u64 (ob.t : Int), .int .i64 ob.s, .int .i64 ob.a, .int .i64 ob.c, .slice A6 ob.d.length c6] 26)) := H6.out.2.2.2.2.2.trans (hb67.mono H6.out.2.2.2.2.2.size)
      have HT7 := Lib.hid (HT5.out.on hb57)
      have HB7 : Hid (Box (w6.alloc (.cells #[.int .i64 ob.k, .int .u64 (ob.v : Int), .int .u64 (ob.t : Int), .int .i64 ob.s, .int .i64 ob.a, .int .i64 ob.c, .slice A6 ob.d.length c6] 26)) w6.heap.size ob A6 c6) := heap_alloc_new _ _
      have HS7 := Lib.hid (H6.out.2.2.1.on hb67)
      have HX7 := Lib.hid (HXS.out.on hb57)
      have HY7 : Hid (∀ y, rp = some y → ey = 0 ∧ ny = y.length ∧ Shows (w6.alloc (.cells #[.int .i64 ob.k, .int .u64 (ob.v : Int), .int .u64 (ob.t : Int), .int .i64 ob.s, .int .i64 ob.a, .int .i64 ob.c, .slice A6 ob.d.length c6] 26)) (w6.alloc (.cells #[.int .i64 ob.k, .int .u64 (ob.v : Int), .int .u64 (ob.t : Int), .int .i64 ob.s, .int .i64 ob.a, .int .i64 ob.c, .slice A6 ob.d.length c6] 26)).heap.size Ay ny (cells8 y)) := fun y hy => by
        obtain ⟨h1, h2, h3, h4, h5⟩ := HPC.out.2.1 y hy
        exact ⟨h1, h2, h5.on hb57⟩
      have HY6 : Hid (rp = none → ey = 2) := HPC.out.1
      have HO7 := Lib.hid (HSO.out.on HT7.out.bel)
      have HP7 := Lib.hid (HSP.out.on HT7.out.bel)
      obtain ⟨W, hW⟩ : ∃ W, w6.alloc (.cells #[.int .i64 ob.k, .int .u64 (ob.v : Int), .int .u64 (ob.t : Int), .int .i64 ob.s, .int .i64 ob.a, .int .i64 ob.c, .slice A6 ob.d.length c6] 26) = W := ⟨_, rfl⟩
      rw [hW] at HT7 HB7 HS7 HX7 HY7 HO7 HP7
      have HWE := Lib.hid hW
      clear hb67 hb57 hW HT5 HXS HOF HPC HOX HBO HBP HBA HBD HBE HDL HDM HPL HPM HXA
      go_upto_region 9 with fail
      rw [HWE.out]
      generalize w6.heap.size = g15 at *
      clear HWE H6
      cases rp with
      | none =>
        obtain rfl := HY6.out rfl
        have HB7d := Lib.hid (fun (w2 : World) (h : Below W.heap.size W w2) => HB7.out.below h (Array.getElem?_eq_some_iff.1 HB7.out).1)
        refine wp_region_noPanic ?_
        refine wp_region_held_drew (S := fun w' => Below W.heap.size W w') (by kernel_rfl) ((Below.refl _ W).drew) (fun hHeld => ?_)
        refine takeN (i := 0) (oi := _) (v := .int .i64 0) 71 rfl rfl (by kernel_rfl) (by kernel_rfl) (by kernel_rfl) (fun _ _ _ h => h) (Or.inl ⟨by rfl, fun w2 hSw => by (go_simp)⟩) hHeld ?_
        try simp only [Act.put, List.setIfInBounds_toArray, List.set_cons_zero, List.set_cons_succ]
        refine wpAnyH_ready (rs := [1]) (by kernel_rfl) (by simp) ?_
        refine AllReadyH.cons rfl (fun K hK => ?_) AllReadyH.nil
        go_simp
        go_wp2_with (first | (go_at_call 17; refine (num_any _ _).mono ?_; rintro e w' ⟨rfl, rfl⟩) | fail)
        refine hK.out _ _ hHeld (fun hHeld => ?_)
        clear hK K
        try simp only [Act.put, List.setIfInBounds_toArray, List.set_cons_zero, List.set_cons_succ]
        refine takeN (i := 2) (oi := _) (v := .bool false) 73 rfl rfl (by kernel_rfl) (by kernel_rfl) (by kernel_rfl) (fun _ _ _ h => h) (Or.inl ⟨by rfl, fun w2 hSw => by (go_simp)⟩) hHeld ?_
        try simp only [Act.put, List.setIfInBounds_toArray, List.set_cons_zero, List.set_cons_succ]
        refine takeN (i := 3) (oi := _) (v := .bool false) 74 rfl rfl (by kernel_rfl) (by kernel_rfl) (by kernel_rfl) (fun _ _ _ h => h) (Or.inl ⟨by rfl, fun w2 hSw => by (go_simp)⟩) hHeld ?_
        try simp only [Act.put, List.setIfInBounds_toArray, List.set_cons_zero, List.set_cons_succ]
        refine takeN (i := 4) (oi := _) (v := .agg #[.int .i64 ob.k, .int .u64 (ob.v : Int), .int .u64 (ob.t : Int), .int .i64 ob.s, .int .i64 ob.a, .int .i64 ob.c, .slice A6 ob.d.length c6]) 75 rfl rfl (by kernel_rfl) (by kernel_rfl) (by kernel_rfl) (fun _ _ _ h => h) (Or.inl ⟨by rfl, fun w2 hSw => by (obtain ⟨q0, q1, q2, q3, q4, q5, q6⟩ := (HB7d.out w2 hSw).cells; go_simp; try rfl)⟩) hHeld ?_
        try simp only [Act.put, List.setIfInBounds_toArray, List.set_cons_zero, List.set_cons_succ]
        refine takeN (i := 5) (oi := _) (v := .agg #[.int .i64 ob.k, .int .u64 (ob.v : Int), .int .u64 (ob.t : Int), .int .i64 ob.s, .int .i64 ob.a, .int .i64 ob.c, .slice A ob.d.length ca]) 76 rfl rfl (by kernel_rfl) (by kernel_rfl) (by kernel_rfl) (fun _ _ _ h => h) (Or.inl ⟨by rfl, fun w2 hSw => by (obtain ⟨q0, q1, q2, q3, q4, q5, q6⟩ := ((HT7.out.on hSw).bo).cells; go_simp; try rfl)⟩) hHeld ?_
        try simp only [Act.put, List.setIfInBounds_toArray, List.set_cons_zero, List.set_cons_succ]
        refine wpAnyH_ready (rs := [6]) (by kernel_rfl) (by simp) ?_
        refine AllReadyH.cons rfl (fun K hK => ?_) AllReadyH.nil
        go_simp
        refine (rsame_any (HS7.out.on hHeld) (HO7.out.on hHeld)).mono ?_
        rintro e w8 ⟨rfl, hb8⟩
        rw [oo_same]
        have hBQ : Below W.heap.size W w8 := hHeld.trans (hb8.mono hHeld.size)
        refine hK.out _ _ hBQ (fun hHeld => ?_)
        clear hBQ hb8
        clear hK K
        try simp only [Act.put, List.setIfInBounds_toArray, List.set_cons_zero, List.set_cons_succ]
        refine takeN (i := 7) (oi := _) (v := .bool false) 78 rfl rfl (by kernel_rfl) (by kernel_rfl) (by kernel_rfl) (fun _ _ _ h => h) (Or.inl ⟨by rfl, fun w2 hSw => by (go_simp)⟩) hHeld ?_
        try simp only [Act.put, List.setIfInBounds_toArray, List.set_cons_zero, List.set_cons_succ]
        refine takeN (i := 8) (oi := _) (v := .bool false) 79 rfl rfl (by kernel_rfl) (by kernel_rfl) (by kernel_rfl) (fun _ _ _ h => h) (Or.inl ⟨by rfl, fun w2 hSw => by (go_simp)⟩) hHeld ?_
        try simp only [Act.put, List.setIfInBounds_toArray, List.set_cons_zero, List.set_cons_succ]
        refine takeN (i := 9) (oi := _) (v := .bool false) 80 rfl rfl (by kernel_rfl) (by kernel_rfl) (by kernel_rfl) (fun _ _ _ h => h) (Or.inl ⟨by rfl, fun w2 hSw => by (go_simp)⟩) hHeld ?_
        try simp only [Act.put, List.setIfInBounds_toArray, List.set_cons_zero, List.set_cons_succ]
        refine takeN (i := 10) (oi := _) (v := .int .i64 2) 81 rfl rfl (by kernel_rfl) (by kernel_rfl) (by kernel_rfl) (fun _ _ _ h => h) (Or.inl ⟨by rfl, fun w2 hSw => by (go_simp)⟩) hHeld ?_
        try simp only [Act.put, List.setIfInBounds_toArray, List.set_cons_zero, List.set_cons_succ]
        refine wpAnyH_ready (rs := [11]) (by kernel_rfl) (by simp) ?_
        refine AllReadyH.cons rfl (fun K hK => ?_) AllReadyH.nil
        go_simp
        go_wp2_with (first | (go_at_call 17; refine (num_any _ _).mono ?_; rintro e w' ⟨rfl, rfl⟩) | fail)
        refine hK.out _ _ hHeld (fun hHeld => ?_)
        clear hK K
        try simp only [Act.put, List.setIfInBounds_toArray, List.set_cons_zero, List.set_cons_succ]
        refine takeN (i := 12) (oi := _) (v := .bool false) 83 rfl rfl (by kernel_rfl) (by kernel_rfl) (by kernel_rfl) (fun _ _ _ h => h) (Or.inl ⟨by rfl, fun w2 hSw => by (go_simp)⟩) hHeld ?_
        try simp only [Act.put, List.setIfInBounds_toArray, List.set_cons_zero, List.set_cons_succ]
        refine takeN (i := 13) (oi := _) (v := .bool false) 84 rfl rfl (by kernel_rfl) (by kernel_rfl) (by kernel_rfl) (fun _ _ _ h => h) (Or.inl ⟨by rfl, fun w2 hSw => by (go_simp)⟩) hHeld ?_
        try simp only [Act.put, List.setIfInBounds_toArray, List.set_cons_zero, List.set_cons_succ]
        refine takeN (i := 14) (oi := _) (v := undef) 85 rfl rfl (by kernel_rfl) (by kernel_rfl) (by kernel_rfl) (fun _ _ _ h => h) (Or.inr ⟨by rfl, rfl⟩) hHeld ?_
        try simp only [Act.put, List.setIfInBounds_toArray, List.set_cons_zero, List.set_cons_succ]
        refine takeN (i := 16) (oi := _) (v := undef) 87 rfl rfl (by kernel_rfl) (by kernel_rfl) (by kernel_rfl) (fun _ _ _ h => h) (Or.inr ⟨by rfl, rfl⟩) hHeld ?_
        try simp only [Act.put, List.setIfInBounds_toArray, List.set_cons_zero, List.set_cons_succ]
        refine takeN (i := 19) (oi := _) (v := undef) 90 rfl rfl (by kernel_rfl) (by kernel_rfl) (by kernel_rfl) (fun _ _ _ h => h) (Or.inr ⟨by rfl, rfl⟩) hHeld ?_
        try simp only [Act.put, List.setIfInBounds_toArray, List.set_cons_zero, List.set_cons_succ]
        refine takeN (i := 20) (oi := _) (v := undef) 91 rfl rfl (by kernel_rfl) (by kernel_rfl) (by kernel_rfl) (fun _ _ _ h => h) (Or.inr ⟨by rfl, rfl⟩) hHeld ?_
        try simp only [Act.put, List.setIfInBounds_toArray, List.set_cons_zero, List.set_cons_succ]
        refine takeN (i := 15) (oi := _) (v := undef) 86 rfl rfl (by kernel_rfl) (by kernel_rfl) (by kernel_rfl) (fun _ _ _ h => h) (Or.inr ⟨by rfl, rfl⟩) hHeld ?_
        try simp only [Act.put, List.setIfInBounds_toArray, List.set_cons_zero, List.set_cons_succ]
        refine takeN (i := 17) (oi := _) (v := undef) 88 rfl rfl (by kernel_rfl) (by kernel_rfl) (by kernel_rfl) (fun _ _ _ h => h) (Or.inr ⟨by rfl, rfl⟩) hHeld ?_
        try simp only [Act.put, List.setIfInBounds_toArray, List.set_cons_zero, List.set_cons_succ]
        refine takeN (i := 18) (oi := _) (v := undef) 89 rfl rfl (by kernel_rfl) (by kernel_rfl) (by kernel_rfl) (fun _ _ _ h => h) (Or.inr ⟨by rfl, rfl⟩) hHeld ?_
        try simp only [Act.put, List.setIfInBounds_toArray, List.set_cons_zero, List.set_cons_succ]
        refine takeN (i := 21) (oi := _) (v := undef) 92 rfl rfl (by kernel_rfl) (by kernel_rfl) (by kernel_rfl) (fun _ _ _ h => h) (Or.inr ⟨by rfl, rfl⟩) hHeld ?_
        try simp only [Act.put, List.setIfInBounds_toArray, List.set_cons_zero, List.set_cons_succ]
        refine takeN (i := 22) (oi := _) (v := undef) 93 rfl rfl (by kernel_rfl) (by kernel_rfl) (by kernel_rfl) (fun _ _ _ h => h) (Or.inr ⟨by rfl, rfl⟩) hHeld ?_
        try simp only [Act.put, List.setIfInBounds_toArray, List.set_cons_zero, List.set_cons_succ]
        refine takeN (i := 23) (oi := _) (v := .bool false) 94 rfl rfl (by kernel_rfl) (by kernel_rfl) (by kernel_rfl) (fun _ _ _ h => h) (Or.inl ⟨by rfl, fun w2 hSw => by (go_simp)⟩) hHeld ?_
        try simp only [Act.put, List.setIfInBounds_toArray, List.set_cons_zero, List.set_cons_succ]
        refine takeN (i := 24) (oi := _) (v := .bool false) 95 rfl rfl (by kernel_rfl) (by kernel_rfl) (by kernel_rfl) (fun _ _ _ h => h) (Or.inl ⟨by rfl, fun w2 hSw => by (go_simp)⟩) hHeld ?_
        try simp only [Act.put, List.setIfInBounds_toArray, List.set_cons_zero, List.set_cons_succ]
        refine wpAnyH_done (by kernel_rfl) ?_ _
        refine NoPanic.normal ?_
        go_wp2_with fail
        go_meet
        exact Lib.hid (HT7.out.on hHeld)
      | some y =>
        obtain ⟨rfl, rfl, hy3⟩ := HY7.out y rfl
        have HYS := Lib.hid hy3
        have HQ : Hid (decide ((⟨ob.k, ob.v, ob.t, ob.s, ob.a, ob.c, ob.d⟩ : OP) = ⟨p.k, p.v, p.t, p.s, p.a, p.c, p.d⟩) = (x == y)) := by
          rw [← ld]
          exact (HXI.out x y rfl rfl).symm
        clear hy3 HY7 HY6
        have HB7d := Lib.hid (fun (w2 : World) (h : Below W.heap.size W w2) => HB7.out.below h (Array.getElem?_eq_some_iff.1 HB7.out).1)
        refine wp_region_noPanic ?_
        refine wp_region_held_drew (S := fun w' => Below W.heap.size W w') (by kernel_rfl) ((Below.refl _ W).drew) (fun hHeld => ?_)
        refine takeN (i := 0) (oi := _) (v := .int .i64 0) 71 rfl rfl (by kernel_rfl) (by kernel_rfl) (by kernel_rfl) (fun _ _ _ h => h) (Or.inl ⟨by rfl, fun w2 hSw => by (go_simp)⟩) hHeld ?_
        try simp only [Act.put, List.setIfInBounds_toArray, List.set_cons_zero, List.set_cons_succ]
        refine wpAnyH_ready (rs := [1]) (by kernel_rfl) (by simp) ?_
        refine AllReadyH.cons rfl (fun K hK => ?_) AllReadyH.nil
        go_simp
        go_wp2_with (first | (go_at_call 17; refine (num_any _ _).mono ?_; rintro e w' ⟨rfl, rfl⟩) | fail)
        refine hK.out _ _ hHeld (fun hHeld => ?_)
        clear hK K
        try simp only [Act.put, List.setIfInBounds_toArray, List.set_cons_zero, List.set_cons_succ]
        refine takeN (i := 2) (oi := _) (v := .bool false) 73 rfl rfl (by kernel_rfl) (by kernel_rfl) (by kernel_rfl) (fun _ _ _ h => h) (Or.inl ⟨by rfl, fun w2 hSw => by (go_simp)⟩) hHeld ?_
        try simp only [Act.put, List.setIfInBounds_toArray, List.set_cons_zero, List.set_cons_succ]
        refine takeN (i := 3) (oi := _) (v := .bool false) 74 rfl rfl (by kernel_rfl) (by kernel_rfl) (by kernel_rfl) (fun _ _ _ h => h) (Or.inl ⟨by rfl, fun w2 hSw => by (go_simp)⟩) hHeld ?_
        try simp only [Act.put, List.setIfInBounds_toArray, List.set_cons_zero, List.set_cons_succ]
        refine takeN (i := 4) (oi := _) (v := .agg #[.int .i64 ob.k, .int .u64 (ob.v : Int), .int .u64 (ob.t : Int), .int .i64 ob.s, .int .i64 ob.a, .int .i64 ob.c, .slice A6 ob.d.length c6]) 75 rfl rfl (by kernel_rfl) (by kernel_rfl) (by kernel_rfl) (fun _ _ _ h => h) (Or.inl ⟨by rfl, fun w2 hSw => by (obtain ⟨q0, q1, q2, q3, q4, q5, q6⟩ := (HB7d.out w2 hSw).cells; go_simp; try rfl)⟩) hHeld ?_
        try simp only [Act.put, List.setIfInBounds_toArray, List.set_cons_zero, List.set_cons_succ]
        refine takeN (i := 5) (oi := _) (v := .agg #[.int .i64 ob.k, .int .u64 (ob.v : Int), .int .u64 (ob.t : Int), .int .i64 ob.s, .int .i64 ob.a, .int .i64 ob.c, .slice A ob.d.length ca]) 76 rfl rfl (by kernel_rfl) (by kernel_rfl) (by kernel_rfl) (fun _ _ _ h => h) (Or.inl ⟨by rfl, fun w2 hSw => by (obtain ⟨q0, q1, q2, q3, q4, q5, q6⟩ := ((HT7.out.on hSw).bo).cells; go_simp; try rfl)⟩) hHeld ?_
        try simp only [Act.put, List.setIfInBounds_toArray, List.set_cons_zero, List.set_cons_succ]
        refine wpAnyH_ready (rs := [6]) (by kernel_rfl) (by simp) ?_
        refine AllReadyH.cons rfl (fun K hK => ?_) AllReadyH.nil
        go_simp
        refine (rsame_any (HS7.out.on hHeld) (HO7.out.on hHeld)).mono ?_
        rintro e w8 ⟨rfl, hb8⟩
        rw [oo_same]
        have hBQ : Below W.heap.size W w8 := hHeld.trans (hb8.mono hHeld.size)
        refine hK.out _ _ hBQ (fun hHeld => ?_)
        clear hBQ hb8
        clear hK K
        try simp only [Act.put, List.setIfInBounds_toArray, List.set_cons_zero, List.set_cons_succ]
        refine takeN (i := 7) (oi := _) (v := .bool false) 78 rfl rfl (by kernel_rfl) (by kernel_rfl) (by kernel_rfl) (fun _ _ _ h => h) (Or.inl ⟨by rfl, fun w2 hSw => by (go_simp)⟩) hHeld ?_
        try simp only [Act.put, List.setIfInBounds_toArray, List.set_cons_zero, List.set_cons_succ]
        refine takeN (i := 8) (oi := _) (v := .bool false) 79 rfl rfl (by kernel_rfl) (by kernel_rfl) (by kernel_rfl) (fun _ _ _ h => h) (Or.inl ⟨by rfl, fun w2 hSw => by (go_simp)⟩) hHeld ?_
        try simp only [Act.put, List.setIfInBounds_toArray, List.set_cons_zero, List.set_cons_succ]
        refine takeN (i := 9) (oi := _) (v := .bool false) 80 rfl rfl (by kernel_rfl) (by kernel_rfl) (by kernel_rfl) (fun _ _ _ h => h) (Or.inl ⟨by rfl, fun w2 hSw => by (go_simp)⟩) hHeld ?_
        try simp only [Act.put, List.setIfInBounds_toArray, List.set_cons_zero, List.set_cons_succ]
        refine takeN (i := 10) (oi := _) (v := .int .i64 0) 81 rfl rfl (by kernel_rfl) (by kernel_rfl) (by kernel_rfl) (fun _ _ _ h => h) (Or.inl ⟨by rfl, fun w2 hSw => by (go_simp)⟩) hHeld ?_
        try simp only [Act.put, List.setIfInBounds_toArray, List.set_cons_zero, List.set_cons_succ]
        refine wpAnyH_ready (rs := [11]) (by kernel_rfl) (by simp) ?_
        refine AllReadyH.cons rfl (fun K hK => ?_) AllReadyH.nil
        go_simp
        go_wp2_with (first | (go_at_call 17; refine (num_any _ _).mono ?_; rintro e w' ⟨rfl, rfl⟩) | fail)
        refine hK.out _ _ hHeld (fun hHeld => ?_)
        clear hK K
        try simp only [Act.put, List.setIfInBounds_toArray, List.set_cons_zero, List.set_cons_succ]
        refine takeN (i := 12) (oi := _) (v := .bool true) 83 rfl rfl (by kernel_rfl) (by kernel_rfl) (by kernel_rfl) (fun _ _ _ h => h) (Or.inl ⟨by rfl, fun w2 hSw => by (go_simp)⟩) hHeld ?_
        try simp only [Act.put, List.setIfInBounds_toArray, List.set_cons_zero, List.set_cons_succ]
        refine takeN (i := 13) (oi := _) (v := .bool true) 84 rfl rfl (by kernel_rfl) (by kernel_rfl) (by kernel_rfl) (fun _ _ _ h => h) (Or.inl ⟨by rfl, fun w2 hSw => by (go_simp)⟩) hHeld ?_
        try simp only [Act.put, List.setIfInBounds_toArray, List.set_cons_zero, List.set_cons_succ]
        refine takeN (i := 14) (oi := _) (v := .slice Ab x.length c4) 85 rfl rfl (by kernel_rfl) (by kernel_rfl) (by kernel_rfl) (fun _ _ _ h => h) (Or.inl ⟨by rfl, fun w2 hSw => by (go_simp)⟩) hHeld ?_
        try simp only [Act.put, List.setIfInBounds_toArray, List.set_cons_zero, List.set_cons_succ]
        refine takeN (i := 16) (oi := _) (v := .slice Ay y.length cy) 87 rfl rfl (by kernel_rfl) (by kernel_rfl) (by kernel_rfl) (fun _ _ _ h => h) (Or.inl ⟨by rfl, fun w2 hSw => by (go_simp)⟩) hHeld ?_
        try simp only [Act.put, List.setIfInBounds_toArray, List.set_cons_zero, List.set_cons_succ]
        refine takeN (i := 19) (oi := _) (v := .agg #[.int .i64 ob.k, .int .u64 (ob.v : Int), .int .u64 (ob.t : Int), .int .i64 ob.s, .int .i64 ob.a, .int .i64 ob.c, .slice A ob.d.length ca]) 90 rfl rfl (by kernel_rfl) (by kernel_rfl) (by kernel_rfl) (fun _ _ _ h => h) (Or.inl ⟨by rfl, fun w2 hSw => by (obtain ⟨q0, q1, q2, q3, q4, q5, q6⟩ := ((HT7.out.on hSw).bo).cells; go_simp; try rfl)⟩) hHeld ?_
        try simp only [Act.put, List.setIfInBounds_toArray, List.set_cons_zero, List.set_cons_succ]
        refine takeN (i := 20) (oi := _) (v := .agg #[.int .i64 p.k, .int .u64 (p.v : Int), .int .u64 (p.t : Int), .int .i64 p.s, .int .i64 p.a, .int .i64 p.c, .slice B p.d.length cb]) 91 rfl rfl (by kernel_rfl) (by kernel_rfl) (by kernel_rfl) (fun _ _ _ h => h) (Or.inl ⟨by rfl, fun w2 hSw => by (obtain ⟨q0, q1, q2, q3, q4, q5, q6⟩ := ((HT7.out.on hSw).bp).cells; go_simp; try rfl)⟩) hHeld ?_
        try simp only [Act.put, List.setIfInBounds_toArray, List.set_cons_zero, List.set_cons_succ]
        refine takeN (i := 15) (oi := _) (v := .string ⟨x.toArray⟩) 86 rfl rfl (by kernel_rfl) (by kernel_rfl) (by kernel_rfl) (fun _ _ _ h => h) (Or.inl ⟨by rfl, fun w2 hSw => by (have hcv := str_shows 24 9 5 Try.underlying24 Try.underlying5 Try.underlying9 (c := c4) (HX7.out.on hSw); go_simp)⟩) hHeld ?_
        try simp only [Act.put, List.setIfInBounds_toArray, List.set_cons_zero, List.set_cons_succ]
        refine takeN (i := 17) (oi := _) (v := .string ⟨y.toArray⟩) 88 rfl rfl (by kernel_rfl) (by kernel_rfl) (by kernel_rfl) (fun _ _ _ h => h) (Or.inl ⟨by rfl, fun w2 hSw => by (have hcv := str_shows 24 9 5 Try.underlying24 Try.underlying5 Try.underlying9 (c := cy) (HYS.out.on hSw); go_simp)⟩) hHeld ?_
        try simp only [Act.put, List.setIfInBounds_toArray, List.set_cons_zero, List.set_cons_succ]
        refine takeN (i := 18) (oi := _) (v := .bool (x == y)) 89 rfl rfl (by kernel_rfl) (by kernel_rfl) (by kernel_rfl) (fun _ _ _ h => h) (Or.inl ⟨by rfl, fun w2 hSw => by (go_simp; try rfl)⟩) hHeld ?_
        try simp only [Act.put, List.setIfInBounds_toArray, List.set_cons_zero, List.set_cons_succ]
        refine wpAnyH_ready (rs := [21]) (by kernel_rfl) (by simp) ?_
        refine AllReadyH.cons rfl (fun K hK => ?_) AllReadyH.nil
        go_simp
        refine (rsame_any (HO7.out.on hHeld) (HP7.out.on hHeld)).mono ?_
        rintro e w9 ⟨rfl, hb9⟩
        rw [HQ.out]
        have hBQ : Below W.heap.size W w9 := hHeld.trans (hb9.mono hHeld.size)
        refine hK.out _ _ hBQ (fun hHeld => ?_)
        clear hBQ hb9
        clear hK K
        try simp only [Act.put, List.setIfInBounds_toArray, List.set_cons_zero, List.set_cons_succ]
        generalize (x == y) = q at *
        cases q
        all_goals
          refine takeN (i := 22) (oi := _) (v := .bool false) 93 rfl rfl (by kernel_rfl) (by kernel_rfl) (by kernel_rfl) (fun _ _ _ h => h) (Or.inl ⟨by rfl, fun w2 hSw => by (go_simp)⟩) hHeld ?_
          try simp only [Act.put, List.setIfInBounds_toArray, List.set_cons_zero, List.set_cons_succ]
          refine takeN (i := 23) (oi := _) (v := .bool false) 94 rfl rfl (by kernel_rfl) (by kernel_rfl) (by kernel_rfl) (fun _ _ _ h => h) (Or.inl ⟨by rfl, fun w2 hSw => by (go_simp)⟩) hHeld ?_
          try simp only [Act.put, List.setIfInBounds_toArray, List.set_cons_zero, List.set_cons_succ]
          refine takeN (i := 24) (oi := _) (v := .bool false) 95 rfl rfl (by kernel_rfl) (by kernel_rfl) (by kernel_rfl) (fun _ _ _ h => h) (Or.inl ⟨by rfl, fun w2 hSw => by (go_simp)⟩) hHeld ?_
          try simp only [Act.put, List.setIfInBounds_toArray, List.set_cons_zero, List.set_cons_succ]
          refine wpAnyH_done (by kernel_rfl) ?_ _
          refine NoPanic.normal ?_
          go_wp2_with fail
          go_meet
          exact Lib.hid (HT7.out.on hHeld)
  case rest =>
    have HT6 := hcut
    clear hcut HT5 HX5 HX4 HPC HBO HBP HXO HXI HM1 HM2
    obtain ⟨n0, n1, n2⟩ := HT6.out.ba.cells
    go_wp2_with fail
    refine (HBA.out _ (HSA.out.on HT6.out.bel)).mono ?_
    intro e w7 hpk
    obtain ⟨Az, nz, cz, ez, rfl, HPZ⟩ := hpk.means
    have HT7 := Lib.hid (HT6.out.on HPZ.out.2.2)
    clear n0 n1 n2 hpk HT6
    go_upto_if 103 with (first | (go_at_call 17; refine (num_any _ _).mono ?_; rintro e w' ⟨rfl, rfl⟩) | fail)
    go_cut [] (fun wx => Hid (TM w wx o p a A B C ca cb cc))
    case first =>
      cases ra with
      | none =>
        obtain rfl := HPZ.out.1 rfl
        go_wp2_with fail
        go_meet
        exact HT7
      | some x =>
        obtain ⟨rfl, rfl, hx1, hx2, hx3⟩ := HPZ.out.2.1 x rfl
        have HXS := Lib.hid hx3
        have HOF := Lib.hid (fun W hS => aof_is x (A := Az) (cap := cz) (w := W) hS hx1 hx2)
        have HOX := Lib.hid (HXA.out x rfl)
        clear hx1 hx2 hx3 HPZ HBA HBD HBE HDL HDM HPL HPM HXA
        go_wp2_with fail
        refine (HOF.out _ HXS.out).mono ?_
        rintro e w8 ⟨ob, A8, c8, e8, rfl, H8⟩
        obtain ⟨rfl, rfl⟩ := H8.out.2.1 _ HOX.out
        have hb89 : Below w8.heap.size w8 (w8.alloc (.cells #[.int .i64 ob.k, .int .i64 ob.s, .slice A8 ob.d.length c8] 41)) := (Below.refl w8.heap.size w8).alloc (Nat.le_refl _) _
        have hb79 : Below w7.heap.size w7 (w8.alloc (.cells #[.int .i64 ob.k, .int .i64 ob.s, .slice A8 ob.d.length c8] 41)) := H8.out.2.2.2.2.2.trans (hb89.mono H8.out.2.2.2.2.2.size)
        have HT9 := Lib.hid (HT7.out.on hb79)
        have HB9 : Hid (BoxA (w8.alloc (.cells #[.int .i64 ob.k, .int .i64 ob.s, .slice A8 ob.d.length c8] 41)) w8.heap.size ob A8 c8) := heap_alloc_new _ _
        have HS9 := Lib.hid (H8.out.2.2.1.on hb89)
        have HA9 := Lib.hid (HSA.out.on HT9.out.bel)
        obtain ⟨W, hW⟩ : ∃ W, w8.alloc (.cells #[.int .i64 ob.k, .int .i64 ob.s, .slice A8 ob.d.length c8] 41) = W := ⟨_, rfl⟩
        rw [hW] at HT9 HB9 HS9 HA9
        have HWE := Lib.hid hW
        clear hb89 hb79 hW HT7 HXS HOF HOX
        go_upto_region 14 with fail
        rw [HWE.out]
        generalize w8.heap.size = g19 at *
        clear HWE H8
        obtain ⟨n0, n1, n2⟩ := HB9.out.cells
        obtain ⟨q0, q1, q2⟩ := HT9.out.ba.cells
        go_wp2_with (first
          | (go_at_call 17; refine (num_any _ _).mono ?_; rintro e w' ⟨rfl, rfl⟩)
          | fail)
        refine (rsameA_any HS9.out HA9.out).mono ?_
        rintro e w10 ⟨rfl, hb10⟩
        rw [aa_same]
        go_wp2_with fail
        go_meet
        exact Lib.hid (HT9.out.on hb10)
    case rest =>
      have HT8 := hcut
      clear hcut HT7 HPZ HBA HXA HSO HSP HSA
      go_wp2_with fail
      refine (HDL.out _ (HSL.out.on HT8.out.bel)).mono ?_
      rintro e w9 ⟨ob, A9, c9, e9, rfl, H9⟩
      have hb9 : Below w9.heap.size w9 (w9.alloc (.cells #[.int .i64 ob.k, .int .u64 (ob.v : Int), .int .u64 (ob.t : Int), .int .i64 ob.s, .int .i64 ob.a, .int .i64 ob.c, .slice A9 ob.d.length c9] 26)) := (Below.refl w9.heap.size w9).alloc (Nat.le_refl _) _
      have hb8 := H9.out.2.2.2.2.2.trans (hb9.mono H9.out.2.2.2.2.2.size)
      have HT9 := Lib.hid (HT8.out.on hb8)
      have HB9 : Hid (Box (w9.alloc (.cells #[.int .i64 ob.k, .int .u64 (ob.v : Int), .int .u64 (ob.t : Int), .int .i64 ob.s, .int .i64 ob.a, .int .i64 ob.c, .slice A9 ob.d.length c9] 26)) w9.heap.size ob A9 c9) := heap_alloc_new _ _
      have HS9 := Lib.hid (H9.out.2.2.1.on hb9)
      obtain ⟨W, hW⟩ : ∃ W, w9.alloc (.cells #[.int .i64 ob.k, .int .u64 (ob.v : Int), .int .u64 (ob.t : Int), .int .i64 ob.s, .int .i64 ob.a, .int .i64 ob.c, .slice A9 ob.d.length c9] 26) = W := ⟨_, rfl⟩
      rw [hW] at HT9 HB9 HS9
      have HWE := Lib.hid hW
      clear hb9 hb8 hW HT8
      go_upto_if 125 with (first | (go_at_call 17; refine (num_any _ _).mono ?_; rintro e w' ⟨rfl, rfl⟩) | fail)
      rw [HWE.out]
      generalize w9.heap.size = g21 at *
      go_cut [] (fun wx => Hid (TM w wx o p a A B C ca cb cc))
      case first =>
        cases hol : opOf l with
        | none =>
          obtain rfl := H9.out.1 hol
          clear hol
          go_wp2_with fail
          go_meet
          exact HT9
        | some d =>
          obtain ⟨rfl, rfl⟩ := H9.out.2.1 d hol
          obtain ⟨hd1, hd2, hd3⟩ := HPL.out _ hol
          have HBY := Lib.hid (HBD.out ob A9 c9 W hd2 hd3 H9.out.2.2.2.1 HS9.out)
          rw [hd1] at HBY
          clear hd1 hd2 hd3 hol HPL HPM HDM HBD HBE
          obtain ⟨l0, l1, l2, l3, l4, l5, l6⟩ := HB9.out.cells
          go_wp2_with fail
          refine HBY.out.mono ?_
          intro e w10 hpk
          obtain ⟨Az, cz, rfl, hown, hb10, _, _⟩ := packed_ok hpk
          have HC1 := str_shows 24 9 5 Try.underlying24 Try.underlying5 Try.underlying9 (c := cz) (Shows.owned hown)
          have HT10 := Lib.hid (HT9.out.on hb10)
          have HC2 := str_shows 24 9 5 Try.underlying24 Try.underlying5 Try.underlying9 (c := cl) (HSL.out.on HT10.out.bel)
          generalize (⟨l.toArray⟩ : ByteArray) = S at HC1 HC2
          clear l0 l1 l2 l3 l4 l5 l6 hpk hown hb10 HB9 HS9 HBY
          go_wp2_with (first | (go_at_call 17; refine (num_any _ _).mono ?_; rintro e w' ⟨rfl, rfl⟩) | fail)
          go_meet
          exact HT10
      case rest =>
        have HT10 := hcut
        clear hcut HT9 HB9 HS9 H9 HWE HPL HBD HDL
        go_wp2_with fail
        refine (HDM.out _ (HSM.out.on HT10.out.bel)).mono ?_
        rintro e w11 ⟨ob2, A11, c11, e11, rfl, H11⟩
        have hb11 : Below w11.heap.size w11 (w11.alloc (.cells #[.int .i64 ob2.k, .int .i64 ob2.s, .slice A11 ob2.d.length c11] 41)) := (Below.refl w11.heap.size w11).alloc (Nat.le_refl _) _
        have hb10 := H11.out.2.2.2.2.2.trans (hb11.mono H11.out.2.2.2.2.2.size)
        have HT11 := Lib.hid (HT10.out.on hb10)
        have HB11 : Hid (BoxA (w11.alloc (.cells #[.int .i64 ob2.k, .int .i64 ob2.s, .slice A11 ob2.d.length c11] 41)) w11.heap.size ob2 A11 c11) := heap_alloc_new _ _
        have HS11 := Lib.hid (H11.out.2.2.1.on hb11)
        obtain ⟨W2, hW⟩ : ∃ W2, w11.alloc (.cells #[.int .i64 ob2.k, .int .i64 ob2.s, .slice A11 ob2.d.length c11] 41) = W2 := ⟨_, rfl⟩
        rw [hW] at HT11 HB11 HS11
        have HWE := Lib.hid hW
        clear hb11 hb10 hW HT10
        go_upto_if 148 with (first | (go_at_call 17; refine (num_any _ _).mono ?_; rintro e w' ⟨rfl, rfl⟩) | fail)
        rw [HWE.out]
        generalize w11.heap.size = g25 at *
        clear HWE
        cases hol : ansOf m with
        | none =>
          obtain rfl := H11.out.1 hol
          clear hol
          go_wp2_with fail
          go_ret
          exact ⟨rfl, HT11.out.bel⟩
        | some d =>
          obtain ⟨rfl, rfl⟩ := H11.out.2.1 d hol
          obtain ⟨hd1, hd3⟩ := HPM.out _ hol
          have HBY := Lib.hid (HBE.out ob2 A11 c11 W2 hd3 H11.out.2.2.2.1 HS11.out)
          rw [hd1] at HBY
          clear hd1 hd3 hol HPM HDM HBE
          obtain ⟨n0, n1, n2⟩ := HB11.out.cells
          go_wp2_with fail
          refine HBY.out.mono ?_
          intro e w12 hpk
          obtain ⟨Az, cz, rfl, hown, hb12, _, _⟩ := packed_ok hpk
          have HC1 := str_shows 24 9 5 Try.underlying24 Try.underlying5 Try.underlying9 (c := cz) (Shows.owned hown)
          have HT12 := Lib.hid (HT11.out.on hb12)
          have HC2 := str_shows 24 9 5 Try.underlying24 Try.underlying5 Try.underlying9 (c := cm) (HSM.out.on HT12.out.bel)
          generalize (⟨m.toArray⟩ : ByteArray) = S at HC1 HC2
          clear n0 n1 n2 hpk hown hb12 HB11 HS11 HBY
          go_wp2_with (first | (go_at_call 17; refine (num_any _ _).mono ?_; rintro e w' ⟨rfl, rfl⟩) | fail)
          go_ret
          exact ⟨rfl, HT12.out.bel⟩

end Go.Proofs.Ytpkbkliblbbdcaa
