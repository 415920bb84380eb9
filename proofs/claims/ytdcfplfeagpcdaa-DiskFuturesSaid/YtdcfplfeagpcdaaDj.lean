/- The document's disk: the step Crash. -/
import Derived.Test.YtdcfplfeagpcdaaDh
import Derived.Test.YtdcfplfeagpcdaaDi
import Derived.Deep.RegionHeldLaw
namespace Go.Proofs.Ytdcfplfeagpcdaa
open Go.RowKit

/-- which version a pick names -/
def pickAt (p : Int) (n : Nat) : Nat := ((p.tmod (n : Int) + (n : Int)).tmod (n : Int)).toNat
theorem pickAt_lt (p : Int) (n : Nat) (h : 0 < n) : pickAt p n < n ∧ ((p.tmod (n : Int) + (n : Int)).tmod (n : Int)) = ((pickAt p n : Nat) : Int) := by
  have h1 : -(n : Int) < p.tmod (n : Int) := by
    have := Int.lt_tmod_of_pos p (show (0 : Int) < (n : Int) by omega)
    omega
  have h2 : 0 ≤ (p.tmod (n : Int) + (n : Int)).tmod (n : Int) := Int.tmod_nonneg _ (by omega)
  have h3 : (p.tmod (n : Int) + (n : Int)).tmod (n : Int) < (n : Int) := Int.tmod_lt_of_pos _ (by omega)
  unfold pickAt
  omega
def pickN (picks : List Int) (j n : Nat) : Nat := if h : j < picks.length then pickAt picks[j] n else 0
theorem pickN_lt (picks : List Int) (j n : Nat) (h : 0 < n) : pickN picks j n < n := by
  unfold pickN
  split
  · exact (pickAt_lt _ n h).1
  · exact h
/-- the sectors, the first j of the open ones settled -/
def crashS (s : List (List UInt8)) (l : List Nat) (picks : List Int) : Nat → List (List UInt8)
  | 0 => s
  | j + 1 =>
    let t := crashS s l picks j
    let past := t.getD (l.getD j 0) []
    t.set (l.getD j 0) [past.getD (pickN picks j past.length) 0]
theorem crashS_len (s : List (List UInt8)) (l : List Nat) (picks : List Int) (j : Nat) : (crashS s l picks j).length = s.length := by
  induction j with
  | zero => rfl
  | succ j ih => simp [crashS, ih]
theorem openL_lt (d : RD) : ∀ k ∈ openL d, k < d.s.length := by
  intro k hk
  simp only [openL, openN, List.mem_filter, List.mem_range] at hk
  exact hk.1
/-- blocks of another type than the disk's lie on -/
theorem kept_type {w w' : World} {base b : Nat} {v : Value} {d : RD} (hr : RDisk w base b v d) (hO : Own2 w w' b v) {k : Nat} {cur : Array Value} {t : TypeId} {fr : Nat × Nat} (hk : w.heap[k]? = some (.cells cur t fr)) (h1 : t ≠ 47) (h2 : t ≠ 44) : w'.heap[k]? = some (.cells cur t fr) := by
  rw [hO.block k (Array.getElem?_eq_some_iff.1 hk).1 ?_ ?_]
  · exact hk
  · intro e; subst e; rw [hr.2.1] at hk; injection hk with hk; injection hk with _ h3; exact h1 h3.symm
  · intro e
    obtain ⟨_, _, xs, ho, _⟩ := hr
    rcases ho.2 with ⟨rfl, _⟩ | ⟨g', cap, c2, rfl, _, hh, _⟩
    · cases e
    · injection e with e
      have e' : g' = k := e
      subst e'
      rw [hh] at hk; injection hk with hk; injection hk with _ h3; exact h2 h3.symm
theorem row_kept {w w' : World} {base b : Nat} {v : Value} {d : RD} (hr : RDisk w base b v d) (hO : Own2 w w' b v) {B n : Nat} {u : Value} {t : TypeId} {xs : List Value} (ho : w.ownsRow B t 1 u n xs) (h1 : t ≠ 47) (h2 : t ≠ 44) : w'.ownsRow B t 1 u n xs :=
  row_on ho (fun _ _ _ hh => kept_type hr hO hh h1 h2)
theorem own_int {w : World} {base n g cap : Nat} {l : List Nat} (h : w.ownsRow base 3 1 (.slice (some ⟨g, 0, none⟩) n cap) n (ints l)) (k : Nat) (hk : k < l.length) : w.cell? ⟨g, k, none⟩ = some (.int .i64 ((l[k]'hk : Nat) : Int)) := by
  have := h.cells (g := g) rfl k (.int .i64 ((l[k]'hk : Nat) : Int)) (by simp [ints, List.getElem?_eq_getElem hk])
  have ha : (⟨g, 0, none⟩ : Addr).add k = ⟨g, k, none⟩ := by
    unfold Addr.add
    by_cases hj0 : k = 0 <;> simp [hj0]
  rw [ha] at this
  exact this
theorem getD_get (t : List (List UInt8)) (k : Nat) (h : k < t.length) : t.getD k [] = t[k] := by simp [List.getD, h]
theorem getB_get (t : List UInt8) (k : Nat) (h : k < t.length) : t.getD k 0 = t[k] := by simp [List.getD, h]
def crashD (d : RD) (picks : List Int) : RD := ⟨crashS d.s (openL d) picks (openL d).length, -1, false⟩
def crashJ (d : RD) (picks : List Int) (j : Nat) : RD := { d with s := crashS d.s (openL d) picks j }

set_option maxRecDepth 10000 in
set_option maxHeartbeats 4000000 in
theorem do_crash_neg (w : World) (base b : Nat) (v : Value) (d : RD) (h : RDisk w base b v d) (x : ST) (A : Option Addr) (cap : Nat) (hk : x.kind = 4) (hbase : base ≤ w.heap.size) (hL : d.s.length ≤ 100000) (B : Nat) (hB0 : B ≤ base) (hp : Shows w B A x.picks.length (nums x.picks)) (hpc : x.picks.length ≤ 1000000) (hth : x.n < 0) :
    Calls Try.prog 25 #[.pointer (some ⟨b, 0, none⟩), .agg (stCells x A cap)] w fun e w' => e = .returned (.int .i64 0) ∧ (∃ v', RDisk w' base b v' (crashD d x.picks) ∧ (v'.ownBlock = v.ownBlock ∨ ∃ k, v'.ownBlock = some k ∧ w.heap.size ≤ k)) ∧ Own2 w w' b v := by
  have hB := Boxed1.new w x A cap
  have hr := h.on hB.below
  have c0 := hB.c0
  have c1 := hB.c1
  have d0 := hr.c0
  have hO := Own2.of_below hB.below b v
  obtain ⟨AS, cS, rfl⟩ := h.form
  have g0 : decide (0 ≤ x.n) = false := by simp; omega
  go_enter Try.func25, Try.ntmps25
  go_wp2_with fail
  go_quiet (fail)
  have hB2 := hB.drewN nq
  have hr2 := h.on hB2.below
  have e0 := hB2.c0
  have e1 := hB2.c1
  have f0 := hr2.c0
  have f1 := hr2.c1
  have f2 := hr2.c2
  have q1 := hr2.fr 1
  have hO2 := Own2.of_below hB2.below b (.slice AS d.s.length cS)
  have HR2 := Lib.hid hr2
  have HO2 := Lib.hid hO2
  rw [hk] at e0
  have e3 := hB2.c3
  have HBX := Lib.hid hB2.box
  generalize (w.alloc (.cells (stCells x A cap) 54)).drewN nq = w1 at *
  clear hB hr c0 c1 d0 hO hB2 hr2 hO2
  have hw1 := HO2.out.size
  have hop := ropen_any w1 base b _ d HR2.out hL
  have HOP := Lib.hid hop
  clear hop
  go_wp2_with fail
  refine HOP.out.mono ?_
  rintro e w2 ⟨u, rfl, hu, hb2⟩
  obtain ⟨AU, cU, hfu⟩ := row_form hu
  subst hfu
  have hr2 := HR2.out.on hb2
  have hO2 := HO2.out.trans (Own2.of_below hb2 b _) (.inl rfl)
  have hbx : w2.heap[w.heap.size]? = some (.cells (stCells x A cap) 54 (0, 0)) := (hb2.block _ (Array.getElem?_eq_some_iff.1 HBX.out).1).trans HBX.out
  have hw2 := hb2.size
  have hoL : (openL d).length ≤ d.s.length := openN_le d _
  clear e0 e1 e3 f0 f1 f2 q1
  go_wp2_with fail
  go_loopw [8] (fun j wr => ∃ i : Nat, i ≤ (openL d).length ∧ j = .int .i64 (i : Int) ∧ RDisk wr base b (.slice AS d.s.length cS) (crashJ d x.picks i) ∧ Own2 w wr b (.slice AS d.s.length cS) ∧ wr.ownsRow w1.heap.size 3 1 (.slice AU (openL d).length cU) (openL d).length (ints (openL d)) ∧ wr.heap[w.heap.size]? = some (.cells (stCells x A cap) 54 (0, 0))) (fun j _ => (openL d).length - (intOf j).toNat)
  case atStart => exact ⟨0, Nat.zero_le _, rfl, hr2, hO2, hu, hbx⟩
  case round =>
    obtain ⟨i, hi, rfl, hr, hO, hur, hbr⟩ := hrel
    clear hr2 hO2 hu hbx
    by_cases hlt : i < (openL d).length
    · obtain ⟨k, hkd⟩ : ∃ k, (openL d)[i]'hlt = k := ⟨_, rfl⟩
      have hkl : k < d.s.length := openL_lt d k (by rw [← hkd]; exact List.getElem_mem _)
      have hDl : (crashJ d x.picks i).s.length = d.s.length := crashS_len _ _ _ _
      have hkD : k < (crashJ d x.picks i).s.length := by rw [hDl]; exact hkl
      have hnext : { crashJ d x.picks i with s := (crashJ d x.picks i).s.set k [((crashJ d x.picks i).s[k]).getD (pickN x.picks i ((crashJ d x.picks i).s[k]).length) 0] } = crashJ d x.picks (i + 1) := by
        have h1 : (openL d).getD i 0 = k := by simp [List.getD, hlt, hkd]
        have h2 : (crashS d.s (openL d) x.picks i).getD k [] = (crashS d.s (openL d) x.picks i)[k]'hkD := getD_get _ k hkD
        simp only [crashJ, crashS, h1, h2]
        rfl
      have HNX := Lib.hid hnext
      have c0 := hr.c0
      obtain ⟨g, cg, gi, ci, hv, hcc, hgb, hcell, _, hL0, hL1, hox⟩ := hr.at_ k hkD
      injection hv with v1 v2 v3
      subst v1
      subst v3
      rcases hur.2 with ⟨_, hz⟩ | ⟨gu, cu, cur, hvu, _, hgu, _⟩
      · omega
      injection hvu with v4 _ v6
      subst v4
      subst v6
      obtain ⟨curi, hgi⟩ : ∃ curi, wr.heap[gi]? = some (.cells curi 5 (0, 0)) := by
        rcases hox.2 with ⟨hz, _⟩ | ⟨g2, c2, cu2, hv2, _, hh, _⟩
        · cases hz
        · injection hv2 with e1
          injection e1 with e1
          injection e1 with e1
          subst e1
          exact ⟨cu2, hh⟩
      have HGU := Lib.hid hgu
      have HGI := Lib.hid hgi
      clear hgu hgi
      have cuc := own_int hur i hlt
      rw [hkd] at cuc
      have hpl := pickN_lt x.picks i _ hL0
      have hby := own_byte hox (pickN x.picks i ((crashJ d x.picks i).s[k]).length) hpl
      have hgd : ((crashJ d x.picks i).s[k]).getD (pickN x.picks i ((crashJ d x.picks i).s[k]).length) 0 = ((crashJ d x.picks i).s[k])[pickN x.picks i ((crashJ d x.picks i).s[k]).length]'hpl := getB_get _ _ hpl
      rw [← hgd] at hby
      have hwr := hO.size
      have HR := Lib.hid hr
      have HUR := Lib.hid hur
      have HBR := Lib.hid hbr
      have hkI : (k : Int) < (d.s.length : Int) := by omega
      have hiI : (i : Int) < ((openL d).length : Int) := by omega
      clear hr hur hox hgd hnext hbr v2 hDl hkd
      generalize hc8 : ((crashJ d x.picks i).s[k]).getD (pickN x.picks i ((crashJ d x.picks i).s[k]).length) 0 = c8 at *
      clear hc8
      generalize hLL : ((crashJ d x.picks i).s[k]).length = L at *
      clear hLL
      go_wp2_with fail
      go_quiet (fail)
      have hb5 := below_drewN (Below.refl wr.heap.size wr) nq
      have cuc5 : (wr.drewN nq).cell? ⟨gu, i, none⟩ = some (.int .i64 (k : Int)) := cuc
      have hby5 : (wr.drewN nq).cell? ⟨gi, pickN x.picks i L, none⟩ = some (.int .u8 (c8.toNat : Int)) := hby
      have bx3 : (wr.drewN nq).cell? ⟨w.heap.size, 3, none⟩ = some (.slice A x.picks.length cap) := by
        show wr.cell? _ = _
        rw [cell_of_row _ _ 3 _ _ _ HBR.out]
        rfl
      have HR5 := Lib.hid (HR.out.on hb5)
      have HO5 := Lib.hid (hO.trans (Own2.of_below hb5 b _) (.inl rfl))
      have HU5 : Hid ((wr.drewN nq).ownsRow w1.heap.size 3 1 (.slice (some ⟨gu, 0, none⟩) (openL d).length cU) (openL d).length (ints (openL d))) := HUR.out
      have HB5 : Hid ((wr.drewN nq).heap[w.heap.size]? = some (.cells (stCells x A cap) 54 (0, 0))) := HBR.out
      have hw5 : w.heap.size ≤ (wr.drewN nq).heap.size := hwr
      have HG5 : Hid ((wr.drewN nq).heap[gu]? = some (.cells cur 3 (0, 0)) ∧ (wr.drewN nq).heap[gi]? = some (.cells curi 5 (0, 0))) := ⟨HGU.out, HGI.out⟩
      clear cuc hby hb5 c0 hcell HR HUR HBR
      generalize wr.drewN nq = w5 at *
      have HGU5 : Hid (w5.heap[gu]? = some (.cells cur 3 (0, 0))) := HG5.out.1
      have HGI5 : Hid (w5.heap[gi]? = some (.cells curi 5 (0, 0))) := HG5.out.2
      have hbd : Below w5.heap.size w5 w5.drew := (Below.refl _ _).drew
      have hrd := HR5.out.on hbd
      have hset := settle_any w5.drew base b _ _ hrd k hkD c8 (by show base ≤ w5.heap.size; omega)
      rw [HNX.out] at hset
      have hset2 : Calls Try.prog 40 #[.pointer (some ⟨b, 0, none⟩), .int .i64 k, .int .u8 (c8.toNat : Int)] w5.drew fun e w' => e = .returned (.tuple #[]) ∧ (w'.cell? ⟨gu, i, none⟩ = some (.int .i64 (k : Int)) ∧ w'.cell? ⟨gi, pickN x.picks i L, none⟩ = some (.int .u8 (c8.toNat : Int))) ∧ Hid (RDisk w' base b (.slice (some ⟨g, 0, none⟩) d.s.length cS) (crashJ d x.picks (i + 1)) ∧ Own2 w w' b (.slice (some ⟨g, 0, none⟩) d.s.length cS) ∧ w'.ownsRow w1.heap.size 3 1 (.slice (some ⟨gu, 0, none⟩) (openL d).length cU) (openL d).length (ints (openL d)) ∧ w'.heap[w.heap.size]? = some (.cells (stCells x A cap) 54 (0, 0))) := by
        refine hset.mono fun e w' ⟨he, h1, h2, h3⟩ => ⟨he, ⟨?_, ?_⟩, h1, (HO5.out.trans (Own2.of_below hbd b _) (.inl rfl)).trans h2 (.inl rfl), row_kept hrd h2 HU5.out (by decide) (by decide), kept_type hrd h2 HB5.out (by decide) (by decide)⟩
        · rw [World.cell?_of_block (a := ⟨gu, i, none⟩) ((kept_type hrd h2 HGU5.out (by decide) (by decide)).trans HGU5.out.symm)]
          exact cuc5
        · rw [World.cell?_of_block (a := ⟨gi, pickN x.picks i L, none⟩) ((h3 gi curi HGI5.out).trans HGI5.out.symm)]
          exact hby5
      have HSET := Lib.hid hset2
      clear hset hset2 hbd hrd
      by_cases hip : i < x.picks.length
      · obtain ⟨pp, hA, hpb, hpx⟩ := (hp.below (HO5.out.below (show B ≤ w.heap.size by omega) (by have := HR5.out.1; omega) (fun q hq => by have e : g = q := Option.some.inj hq; omega))).lies (by omega)
        subst hA
        have hpk := hpx i (.int .i64 x.picks[i]) (by simp [nums, hip])
        have hpe : pickN x.picks i L = pickAt x.picks[i] L := by unfold pickN; rw [dif_pos hip]
        rw [hpe] at hby5 hpl HSET
        have hq := (pickAt_lt x.picks[i] L hL0).2
        have htm1 : -(L : Int) < x.picks[i].tmod (L : Int) := by
          have := Int.lt_tmod_of_pos x.picks[i] (show (0 : Int) < (L : Int) by omega)
          omega
        have htm2 : x.picks[i].tmod (L : Int) < (L : Int) := Int.tmod_lt_of_pos _ (by omega)
        have hipI : decide ((i : Int) < (x.picks.length : Int)) = true := by simp; omega
        have hL00 : ¬ (L : Int) = 0 := by omega
        have hLz : ((L : Int) == 0) = false := by simpa using hL00
        generalize hpkv : x.picks[i] = pk at *
        clear hpkv hpe hpx
        generalize pickAt pk L = at_ at *
        generalize hT : pk.tmod (L : Int) = tm at *
        have hwrap : IntKind.i64.wrap (tm + (L : Int)) = tm + (L : Int) := IntWalk.i64_in _ (by omega)
        go_wp2_with fail
        have hatI : (at_ : Int) < (L : Int) := by omega
        clear htm1 htm2 hwrap hq
        go_region_held_law (fun w' => w'.cell? ⟨gu, i, none⟩ = some (.int .i64 (k : Int)) ∧ w'.cell? ⟨gi, at_, none⟩ = some (.int .u8 (c8.toNat : Int)))
          (first | exact ⟨cuc5, hby5⟩ | assumption)
          (first
            | (go_at_call 40; refine HSET.out.mono ?_; rintro e w7 ⟨rfl, hcc7, HP7⟩))
        obtain ⟨hr7, hO7, hu7, hbx7⟩ := HP7.out
        clear HP7
        go_wp2
        go_roundw
        case rel => exact ⟨i + 1, hlt, by go_num, hr7, hO7, hu7, hbx7⟩
        case measure => simp [intOf]; omega
      · have hp0 : pickN x.picks i L = 0 := by unfold pickN; rw [dif_neg hip]
        rw [hp0] at hby5 hpl HSET
        have hipI : decide ((i : Int) < (x.picks.length : Int)) = false := by simp; omega
        clear hp0
        go_wp2_with fail
        go_region_held_law (fun w' => w'.cell? ⟨gu, i, none⟩ = some (.int .i64 (k : Int)) ∧ w'.cell? ⟨gi, 0, none⟩ = some (.int .u8 (c8.toNat : Int)))
          (first | exact ⟨cuc5, hby5⟩ | assumption)
          (first
            | (go_at_call 40; refine HSET.out.mono ?_; rintro e w7 ⟨rfl, hcc7, HP7⟩))
        obtain ⟨hr7, hO7, hu7, hbx7⟩ := HP7.out
        clear HP7
        go_wp2
        go_roundw
        case rel => exact ⟨i + 1, hlt, by go_num, hr7, hO7, hu7, hbx7⟩
        case measure => simp [intOf]; omega
    · obtain rfl : i = (openL d).length := by omega
      have c0 := hr.c0
      have q1 := hr.fr 1
      have q2 := hr.fr 2
      have c1 := hr.c1
      have c2 := hr.c2
      have h1 := hr.setF 1 (.int .i64 (-1)) { crashJ d x.picks (openL d).length with fuse := -1 } rfl rfl
      have h2 := h1.setF 2 (.bool false) (crashD d x.picks) rfl rfl
      have s2 := h1.c2
      have s3 := h1.fr 2
      have HR := Lib.hid h2
      have HO := Lib.hid ((hO.setB ⟨b, 1, none⟩ rfl (.int .i64 (-1))).setB ⟨b, 2, none⟩ rfl (.bool false))
      clear h1 h2 hr hO hur hbr
      go_wp2
      go_ret
      exact ⟨rfl, ⟨_, HR.out, .inl rfl⟩, HO.out⟩

set_option maxRecDepth 10000 in
set_option maxHeartbeats 4000000 in
theorem do_crash_in (w : World) (base b : Nat) (v : Value) (d : RD) (h : RDisk w base b v d) (x : ST) (A : Option Addr) (cap : Nat) (hk : x.kind = 4) (hbase : base ≤ w.heap.size) (hL : d.s.length ≤ 100000) (B : Nat) (hB0 : B ≤ base) (hp : Shows w B A x.picks.length (nums x.picks)) (hpc : x.picks.length ≤ 1000000) (hth : 0 ≤ x.n ∧ x.n < (d.s.length : Int)) :
    Calls Try.prog 25 #[.pointer (some ⟨b, 0, none⟩), .agg (stCells x A cap)] w fun e w' => e = .returned (.int .i64 0) ∧ (∃ v', RDisk w' base b v' (crashD d x.picks) ∧ (v'.ownBlock = v.ownBlock ∨ ∃ k, v'.ownBlock = some k ∧ w.heap.size ≤ k)) ∧ Own2 w w' b v := by
  have hB := Boxed1.new w x A cap
  have hr := h.on hB.below
  have c0 := hB.c0
  have c1 := hB.c1
  have d0 := hr.c0
  have hO := Own2.of_below hB.below b v
  obtain ⟨AS, cS, rfl⟩ := h.form
  have g0 : decide (0 ≤ x.n) = true := by simp; omega
  have g1 : decide (x.n < (d.s.length : Int)) = true := by simp; omega
  go_enter Try.func25, Try.ntmps25
  go_wp2_with fail
  go_quiet (fail)
  have hB2 := hB.drewN nq
  have hr2 := h.on hB2.below
  have e0 := hB2.c0
  have e1 := hB2.c1
  have f0 := hr2.c0
  have f1 := hr2.c1
  have f2 := hr2.c2
  have q1 := hr2.fr 1
  have hO2 := Own2.of_below hB2.below b (.slice AS d.s.length cS)
  have HR2 := Lib.hid hr2
  have HO2 := Lib.hid hO2
  rw [hk] at e0
  have e3 := hB2.c3
  have HBX := Lib.hid hB2.box
  generalize (w.alloc (.cells (stCells x A cap) 54)).drewN nq = w1 at *
  clear hB hr c0 c1 d0 hO hB2 hr2 hO2
  have hw1 := HO2.out.size
  have hop := ropen_any w1 base b _ d HR2.out hL
  have HOP := Lib.hid hop
  clear hop
  go_wp2_with fail
  refine HOP.out.mono ?_
  rintro e w2 ⟨u, rfl, hu, hb2⟩
  obtain ⟨AU, cU, hfu⟩ := row_form hu
  subst hfu
  have hr2 := HR2.out.on hb2
  have hO2 := HO2.out.trans (Own2.of_below hb2 b _) (.inl rfl)
  have hbx : w2.heap[w.heap.size]? = some (.cells (stCells x A cap) 54 (0, 0)) := (hb2.block _ (Array.getElem?_eq_some_iff.1 HBX.out).1).trans HBX.out
  have hw2 := hb2.size
  have hoL : (openL d).length ≤ d.s.length := openN_le d _
  clear e0 e1 e3 f0 f1 f2 q1
  go_wp2_with fail
  go_loopw [8] (fun j wr => ∃ i : Nat, i ≤ (openL d).length ∧ j = .int .i64 (i : Int) ∧ RDisk wr base b (.slice AS d.s.length cS) (crashJ d x.picks i) ∧ Own2 w wr b (.slice AS d.s.length cS) ∧ wr.ownsRow w1.heap.size 3 1 (.slice AU (openL d).length cU) (openL d).length (ints (openL d)) ∧ wr.heap[w.heap.size]? = some (.cells (stCells x A cap) 54 (0, 0))) (fun j _ => (openL d).length - (intOf j).toNat)
  case atStart => exact ⟨0, Nat.zero_le _, rfl, hr2, hO2, hu, hbx⟩
  case round =>
    obtain ⟨i, hi, rfl, hr, hO, hur, hbr⟩ := hrel
    clear hr2 hO2 hu hbx
    by_cases hlt : i < (openL d).length
    · obtain ⟨k, hkd⟩ : ∃ k, (openL d)[i]'hlt = k := ⟨_, rfl⟩
      have hkl : k < d.s.length := openL_lt d k (by rw [← hkd]; exact List.getElem_mem _)
      have hDl : (crashJ d x.picks i).s.length = d.s.length := crashS_len _ _ _ _
      have hkD : k < (crashJ d x.picks i).s.length := by rw [hDl]; exact hkl
      have hnext : { crashJ d x.picks i with s := (crashJ d x.picks i).s.set k [((crashJ d x.picks i).s[k]).getD (pickN x.picks i ((crashJ d x.picks i).s[k]).length) 0] } = crashJ d x.picks (i + 1) := by
        have h1 : (openL d).getD i 0 = k := by simp [List.getD, hlt, hkd]
        have h2 : (crashS d.s (openL d) x.picks i).getD k [] = (crashS d.s (openL d) x.picks i)[k]'hkD := getD_get _ k hkD
        simp only [crashJ, crashS, h1, h2]
        rfl
      have HNX := Lib.hid hnext
      have c0 := hr.c0
      obtain ⟨g, cg, gi, ci, hv, hcc, hgb, hcell, _, hL0, hL1, hox⟩ := hr.at_ k hkD
      injection hv with v1 v2 v3
      subst v1
      subst v3
      rcases hur.2 with ⟨_, hz⟩ | ⟨gu, cu, cur, hvu, _, hgu, _⟩
      · omega
      injection hvu with v4 _ v6
      subst v4
      subst v6
      obtain ⟨curi, hgi⟩ : ∃ curi, wr.heap[gi]? = some (.cells curi 5 (0, 0)) := by
        rcases hox.2 with ⟨hz, _⟩ | ⟨g2, c2, cu2, hv2, _, hh, _⟩
        · cases hz
        · injection hv2 with e1
          injection e1 with e1
          injection e1 with e1
          subst e1
          exact ⟨cu2, hh⟩
      have HGU := Lib.hid hgu
      have HGI := Lib.hid hgi
      clear hgu hgi
      have cuc := own_int hur i hlt
      rw [hkd] at cuc
      have hpl := pickN_lt x.picks i _ hL0
      have hby := own_byte hox (pickN x.picks i ((crashJ d x.picks i).s[k]).length) hpl
      have hgd : ((crashJ d x.picks i).s[k]).getD (pickN x.picks i ((crashJ d x.picks i).s[k]).length) 0 = ((crashJ d x.picks i).s[k])[pickN x.picks i ((crashJ d x.picks i).s[k]).length]'hpl := getB_get _ _ hpl
      rw [← hgd] at hby
      have hwr := hO.size
      have HR := Lib.hid hr
      have HUR := Lib.hid hur
      have HBR := Lib.hid hbr
      have hkI : (k : Int) < (d.s.length : Int) := by omega
      have hiI : (i : Int) < ((openL d).length : Int) := by omega
      clear hr hur hox hgd hnext hbr v2 hDl hkd
      generalize hc8 : ((crashJ d x.picks i).s[k]).getD (pickN x.picks i ((crashJ d x.picks i).s[k]).length) 0 = c8 at *
      clear hc8
      generalize hLL : ((crashJ d x.picks i).s[k]).length = L at *
      clear hLL
      go_wp2_with fail
      go_quiet (fail)
      have hb5 := below_drewN (Below.refl wr.heap.size wr) nq
      have cuc5 : (wr.drewN nq).cell? ⟨gu, i, none⟩ = some (.int .i64 (k : Int)) := cuc
      have hby5 : (wr.drewN nq).cell? ⟨gi, pickN x.picks i L, none⟩ = some (.int .u8 (c8.toNat : Int)) := hby
      have bx3 : (wr.drewN nq).cell? ⟨w.heap.size, 3, none⟩ = some (.slice A x.picks.length cap) := by
        show wr.cell? _ = _
        rw [cell_of_row _ _ 3 _ _ _ HBR.out]
        rfl
      have HR5 := Lib.hid (HR.out.on hb5)
      have HO5 := Lib.hid (hO.trans (Own2.of_below hb5 b _) (.inl rfl))
      have HU5 : Hid ((wr.drewN nq).ownsRow w1.heap.size 3 1 (.slice (some ⟨gu, 0, none⟩) (openL d).length cU) (openL d).length (ints (openL d))) := HUR.out
      have HB5 : Hid ((wr.drewN nq).heap[w.heap.size]? = some (.cells (stCells x A cap) 54 (0, 0))) := HBR.out
      have hw5 : w.heap.size ≤ (wr.drewN nq).heap.size := hwr
      have HG5 : Hid ((wr.drewN nq).heap[gu]? = some (.cells cur 3 (0, 0)) ∧ (wr.drewN nq).heap[gi]? = some (.cells curi 5 (0, 0))) := ⟨HGU.out, HGI.out⟩
      clear cuc hby hb5 c0 hcell HR HUR HBR
      generalize wr.drewN nq = w5 at *
      have HGU5 : Hid (w5.heap[gu]? = some (.cells cur 3 (0, 0))) := HG5.out.1
      have HGI5 : Hid (w5.heap[gi]? = some (.cells curi 5 (0, 0))) := HG5.out.2
      have hbd : Below w5.heap.size w5 w5.drew := (Below.refl _ _).drew
      have hrd := HR5.out.on hbd
      have hset := settle_any w5.drew base b _ _ hrd k hkD c8 (by show base ≤ w5.heap.size; omega)
      rw [HNX.out] at hset
      have hset2 : Calls Try.prog 40 #[.pointer (some ⟨b, 0, none⟩), .int .i64 k, .int .u8 (c8.toNat : Int)] w5.drew fun e w' => e = .returned (.tuple #[]) ∧ (w'.cell? ⟨gu, i, none⟩ = some (.int .i64 (k : Int)) ∧ w'.cell? ⟨gi, pickN x.picks i L, none⟩ = some (.int .u8 (c8.toNat : Int))) ∧ Hid (RDisk w' base b (.slice (some ⟨g, 0, none⟩) d.s.length cS) (crashJ d x.picks (i + 1)) ∧ Own2 w w' b (.slice (some ⟨g, 0, none⟩) d.s.length cS) ∧ w'.ownsRow w1.heap.size 3 1 (.slice (some ⟨gu, 0, none⟩) (openL d).length cU) (openL d).length (ints (openL d)) ∧ w'.heap[w.heap.size]? = some (.cells (stCells x A cap) 54 (0, 0))) := by
        refine hset.mono fun e w' ⟨he, h1, h2, h3⟩ => ⟨he, ⟨?_, ?_⟩, h1, (HO5.out.trans (Own2.of_below hbd b _) (.inl rfl)).trans h2 (.inl rfl), row_kept hrd h2 HU5.out (by decide) (by decide), kept_type hrd h2 HB5.out (by decide) (by decide)⟩
        · rw [World.cell?_of_block (a := ⟨gu, i, none⟩) ((kept_type hrd h2 HGU5.out (by decide) (by decide)).trans HGU5.out.symm)]
          exact cuc5
        · rw [World.cell?_of_block (a := ⟨gi, pickN x.picks i L, none⟩) ((h3 gi curi HGI5.out).trans HGI5.out.symm)]
          exact hby5
      have HSET := Lib.hid hset2
      clear hset hset2 hbd hrd
      by_cases hip : i < x.picks.length
      · obtain ⟨pp, hA, hpb, hpx⟩ := (hp.below (HO5.out.below (show B ≤ w.heap.size by omega) (by have := HR5.out.1; omega) (fun q hq => by have e : g = q := Option.some.inj hq; omega))).lies (by omega)
        subst hA
        have hpk := hpx i (.int .i64 x.picks[i]) (by simp [nums, hip])
        have hpe : pickN x.picks i L = pickAt x.picks[i] L := by unfold pickN; rw [dif_pos hip]
        rw [hpe] at hby5 hpl HSET
        have hq := (pickAt_lt x.picks[i] L hL0).2
        have htm1 : -(L : Int) < x.picks[i].tmod (L : Int) := by
          have := Int.lt_tmod_of_pos x.picks[i] (show (0 : Int) < (L : Int) by omega)
          omega
        have htm2 : x.picks[i].tmod (L : Int) < (L : Int) := Int.tmod_lt_of_pos _ (by omega)
        have hipI : decide ((i : Int) < (x.picks.length : Int)) = true := by simp; omega
        have hL00 : ¬ (L : Int) = 0 := by omega
        have hLz : ((L : Int) == 0) = false := by simpa using hL00
        generalize hpkv : x.picks[i] = pk at *
        clear hpkv hpe hpx
        generalize pickAt pk L = at_ at *
        generalize hT : pk.tmod (L : Int) = tm at *
        have hwrap : IntKind.i64.wrap (tm + (L : Int)) = tm + (L : Int) := IntWalk.i64_in _ (by omega)
        go_wp2_with fail
        have hatI : (at_ : Int) < (L : Int) := by omega
        clear htm1 htm2 hwrap hq
        go_region_held_law (fun w' => w'.cell? ⟨gu, i, none⟩ = some (.int .i64 (k : Int)) ∧ w'.cell? ⟨gi, at_, none⟩ = some (.int .u8 (c8.toNat : Int)))
          (first | exact ⟨cuc5, hby5⟩ | assumption)
          (first
            | (go_at_call 40; refine HSET.out.mono ?_; rintro e w7 ⟨rfl, hcc7, HP7⟩))
        obtain ⟨hr7, hO7, hu7, hbx7⟩ := HP7.out
        clear HP7
        go_wp2
        go_roundw
        case rel => exact ⟨i + 1, hlt, by go_num, hr7, hO7, hu7, hbx7⟩
        case measure => simp [intOf]; omega
      · have hp0 : pickN x.picks i L = 0 := by unfold pickN; rw [dif_neg hip]
        rw [hp0] at hby5 hpl HSET
        have hipI : decide ((i : Int) < (x.picks.length : Int)) = false := by simp; omega
        clear hp0
        go_wp2_with fail
        go_region_held_law (fun w' => w'.cell? ⟨gu, i, none⟩ = some (.int .i64 (k : Int)) ∧ w'.cell? ⟨gi, 0, none⟩ = some (.int .u8 (c8.toNat : Int)))
          (first | exact ⟨cuc5, hby5⟩ | assumption)
          (first
            | (go_at_call 40; refine HSET.out.mono ?_; rintro e w7 ⟨rfl, hcc7, HP7⟩))
        obtain ⟨hr7, hO7, hu7, hbx7⟩ := HP7.out
        clear HP7
        go_wp2
        go_roundw
        case rel => exact ⟨i + 1, hlt, by go_num, hr7, hO7, hu7, hbx7⟩
        case measure => simp [intOf]; omega
    · obtain rfl : i = (openL d).length := by omega
      have c0 := hr.c0
      have q1 := hr.fr 1
      have q2 := hr.fr 2
      have c1 := hr.c1
      have c2 := hr.c2
      have h1 := hr.setF 1 (.int .i64 (-1)) { crashJ d x.picks (openL d).length with fuse := -1 } rfl rfl
      have h2 := h1.setF 2 (.bool false) (crashD d x.picks) rfl rfl
      have s2 := h1.c2
      have s3 := h1.fr 2
      have HR := Lib.hid h2
      have HO := Lib.hid ((hO.setB ⟨b, 1, none⟩ rfl (.int .i64 (-1))).setB ⟨b, 2, none⟩ rfl (.bool false))
      clear h1 h2 hr hO hur hbr
      go_wp2
      go_ret
      exact ⟨rfl, ⟨_, HR.out, .inl rfl⟩, HO.out⟩

set_option maxRecDepth 10000 in
set_option maxHeartbeats 4000000 in
theorem do_crash_out (w : World) (base b : Nat) (v : Value) (d : RD) (h : RDisk w base b v d) (x : ST) (A : Option Addr) (cap : Nat) (hk : x.kind = 4) (hbase : base ≤ w.heap.size) (hL : d.s.length ≤ 100000) (B : Nat) (hB0 : B ≤ base) (hp : Shows w B A x.picks.length (nums x.picks)) (hpc : x.picks.length ≤ 1000000) (hth : (d.s.length : Int) ≤ x.n) :
    Calls Try.prog 25 #[.pointer (some ⟨b, 0, none⟩), .agg (stCells x A cap)] w fun e w' => e = .returned (.int .i64 0) ∧ (∃ v', RDisk w' base b v' (crashD d x.picks) ∧ (v'.ownBlock = v.ownBlock ∨ ∃ k, v'.ownBlock = some k ∧ w.heap.size ≤ k)) ∧ Own2 w w' b v := by
  have hB := Boxed1.new w x A cap
  have hr := h.on hB.below
  have c0 := hB.c0
  have c1 := hB.c1
  have d0 := hr.c0
  have hO := Own2.of_below hB.below b v
  obtain ⟨AS, cS, rfl⟩ := h.form
  have g0 : decide (0 ≤ x.n) = true := by simp; omega
  have g1 : decide (x.n < (d.s.length : Int)) = false := by simp; omega
  go_enter Try.func25, Try.ntmps25
  go_wp2_with fail
  go_quiet (fail)
  have hB2 := hB.drewN nq
  have hr2 := h.on hB2.below
  have e0 := hB2.c0
  have e1 := hB2.c1
  have f0 := hr2.c0
  have f1 := hr2.c1
  have f2 := hr2.c2
  have q1 := hr2.fr 1
  have hO2 := Own2.of_below hB2.below b (.slice AS d.s.length cS)
  have HR2 := Lib.hid hr2
  have HO2 := Lib.hid hO2
  rw [hk] at e0
  have e3 := hB2.c3
  have HBX := Lib.hid hB2.box
  generalize (w.alloc (.cells (stCells x A cap) 54)).drewN nq = w1 at *
  clear hB hr c0 c1 d0 hO hB2 hr2 hO2
  have hw1 := HO2.out.size
  have hop := ropen_any w1 base b _ d HR2.out hL
  have HOP := Lib.hid hop
  clear hop
  go_wp2_with fail
  refine HOP.out.mono ?_
  rintro e w2 ⟨u, rfl, hu, hb2⟩
  obtain ⟨AU, cU, hfu⟩ := row_form hu
  subst hfu
  have hr2 := HR2.out.on hb2
  have hO2 := HO2.out.trans (Own2.of_below hb2 b _) (.inl rfl)
  have hbx : w2.heap[w.heap.size]? = some (.cells (stCells x A cap) 54 (0, 0)) := (hb2.block _ (Array.getElem?_eq_some_iff.1 HBX.out).1).trans HBX.out
  have hw2 := hb2.size
  have hoL : (openL d).length ≤ d.s.length := openN_le d _
  clear e0 e1 e3 f0 f1 f2 q1
  go_wp2_with fail
  go_loopw [8] (fun j wr => ∃ i : Nat, i ≤ (openL d).length ∧ j = .int .i64 (i : Int) ∧ RDisk wr base b (.slice AS d.s.length cS) (crashJ d x.picks i) ∧ Own2 w wr b (.slice AS d.s.length cS) ∧ wr.ownsRow w1.heap.size 3 1 (.slice AU (openL d).length cU) (openL d).length (ints (openL d)) ∧ wr.heap[w.heap.size]? = some (.cells (stCells x A cap) 54 (0, 0))) (fun j _ => (openL d).length - (intOf j).toNat)
  case atStart => exact ⟨0, Nat.zero_le _, rfl, hr2, hO2, hu, hbx⟩
  case round =>
    obtain ⟨i, hi, rfl, hr, hO, hur, hbr⟩ := hrel
    clear hr2 hO2 hu hbx
    by_cases hlt : i < (openL d).length
    · obtain ⟨k, hkd⟩ : ∃ k, (openL d)[i]'hlt = k := ⟨_, rfl⟩
      have hkl : k < d.s.length := openL_lt d k (by rw [← hkd]; exact List.getElem_mem _)
      have hDl : (crashJ d x.picks i).s.length = d.s.length := crashS_len _ _ _ _
      have hkD : k < (crashJ d x.picks i).s.length := by rw [hDl]; exact hkl
      have hnext : { crashJ d x.picks i with s := (crashJ d x.picks i).s.set k [((crashJ d x.picks i).s[k]).getD (pickN x.picks i ((crashJ d x.picks i).s[k]).length) 0] } = crashJ d x.picks (i + 1) := by
        have h1 : (openL d).getD i 0 = k := by simp [List.getD, hlt, hkd]
        have h2 : (crashS d.s (openL d) x.picks i).getD k [] = (crashS d.s (openL d) x.picks i)[k]'hkD := getD_get _ k hkD
        simp only [crashJ, crashS, h1, h2]
        rfl
      have HNX := Lib.hid hnext
      have c0 := hr.c0
      obtain ⟨g, cg, gi, ci, hv, hcc, hgb, hcell, _, hL0, hL1, hox⟩ := hr.at_ k hkD
      injection hv with v1 v2 v3
      subst v1
      subst v3
      rcases hur.2 with ⟨_, hz⟩ | ⟨gu, cu, cur, hvu, _, hgu, _⟩
      · omega
      injection hvu with v4 _ v6
      subst v4
      subst v6
      obtain ⟨curi, hgi⟩ : ∃ curi, wr.heap[gi]? = some (.cells curi 5 (0, 0)) := by
        rcases hox.2 with ⟨hz, _⟩ | ⟨g2, c2, cu2, hv2, _, hh, _⟩
        · cases hz
        · injection hv2 with e1
          injection e1 with e1
          injection e1 with e1
          subst e1
          exact ⟨cu2, hh⟩
      have HGU := Lib.hid hgu
      have HGI := Lib.hid hgi
      clear hgu hgi
      have cuc := own_int hur i hlt
      rw [hkd] at cuc
      have hpl := pickN_lt x.picks i _ hL0
      have hby := own_byte hox (pickN x.picks i ((crashJ d x.picks i).s[k]).length) hpl
      have hgd : ((crashJ d x.picks i).s[k]).getD (pickN x.picks i ((crashJ d x.picks i).s[k]).length) 0 = ((crashJ d x.picks i).s[k])[pickN x.picks i ((crashJ d x.picks i).s[k]).length]'hpl := getB_get _ _ hpl
      rw [← hgd] at hby
      have hwr := hO.size
      have HR := Lib.hid hr
      have HUR := Lib.hid hur
      have HBR := Lib.hid hbr
      have hkI : (k : Int) < (d.s.length : Int) := by omega
      have hiI : (i : Int) < ((openL d).length : Int) := by omega
      clear hr hur hox hgd hnext hbr v2 hDl hkd
      generalize hc8 : ((crashJ d x.picks i).s[k]).getD (pickN x.picks i ((crashJ d x.picks i).s[k]).length) 0 = c8 at *
      clear hc8
      generalize hLL : ((crashJ d x.picks i).s[k]).length = L at *
      clear hLL
      go_wp2_with fail
      go_quiet (fail)
      have hb5 := below_drewN (Below.refl wr.heap.size wr) nq
      have cuc5 : (wr.drewN nq).cell? ⟨gu, i, none⟩ = some (.int .i64 (k : Int)) := cuc
      have hby5 : (wr.drewN nq).cell? ⟨gi, pickN x.picks i L, none⟩ = some (.int .u8 (c8.toNat : Int)) := hby
      have bx3 : (wr.drewN nq).cell? ⟨w.heap.size, 3, none⟩ = some (.slice A x.picks.length cap) := by
        show wr.cell? _ = _
        rw [cell_of_row _ _ 3 _ _ _ HBR.out]
        rfl
      have HR5 := Lib.hid (HR.out.on hb5)
      have HO5 := Lib.hid (hO.trans (Own2.of_below hb5 b _) (.inl rfl))
      have HU5 : Hid ((wr.drewN nq).ownsRow w1.heap.size 3 1 (.slice (some ⟨gu, 0, none⟩) (openL d).length cU) (openL d).length (ints (openL d))) := HUR.out
      have HB5 : Hid ((wr.drewN nq).heap[w.heap.size]? = some (.cells (stCells x A cap) 54 (0, 0))) := HBR.out
      have hw5 : w.heap.size ≤ (wr.drewN nq).heap.size := hwr
      have HG5 : Hid ((wr.drewN nq).heap[gu]? = some (.cells cur 3 (0, 0)) ∧ (wr.drewN nq).heap[gi]? = some (.cells curi 5 (0, 0))) := ⟨HGU.out, HGI.out⟩
      clear cuc hby hb5 c0 hcell HR HUR HBR
      generalize wr.drewN nq = w5 at *
      have HGU5 : Hid (w5.heap[gu]? = some (.cells cur 3 (0, 0))) := HG5.out.1
      have HGI5 : Hid (w5.heap[gi]? = some (.cells curi 5 (0, 0))) := HG5.out.2
      have hbd : Below w5.heap.size w5 w5.drew := (Below.refl _ _).drew
      have hrd := HR5.out.on hbd
      have hset := settle_any w5.drew base b _ _ hrd k hkD c8 (by show base ≤ w5.heap.size; omega)
      rw [HNX.out] at hset
      have hset2 : Calls Try.prog 40 #[.pointer (some ⟨b, 0, none⟩), .int .i64 k, .int .u8 (c8.toNat : Int)] w5.drew fun e w' => e = .returned (.tuple #[]) ∧ (w'.cell? ⟨gu, i, none⟩ = some (.int .i64 (k : Int)) ∧ w'.cell? ⟨gi, pickN x.picks i L, none⟩ = some (.int .u8 (c8.toNat : Int))) ∧ Hid (RDisk w' base b (.slice (some ⟨g, 0, none⟩) d.s.length cS) (crashJ d x.picks (i + 1)) ∧ Own2 w w' b (.slice (some ⟨g, 0, none⟩) d.s.length cS) ∧ w'.ownsRow w1.heap.size 3 1 (.slice (some ⟨gu, 0, none⟩) (openL d).length cU) (openL d).length (ints (openL d)) ∧ w'.heap[w.heap.size]? = some (.cells (stCells x A cap) 54 (0, 0))) := by
        refine hset.mono fun e w' ⟨he, h1, h2, h3⟩ => ⟨he, ⟨?_, ?_⟩, h1, (HO5.out.trans (Own2.of_below hbd b _) (.inl rfl)).trans h2 (.inl rfl), row_kept hrd h2 HU5.out (by decide) (by decide), kept_type hrd h2 HB5.out (by decide) (by decide)⟩
        · rw [World.cell?_of_block (a := ⟨gu, i, none⟩) ((kept_type hrd h2 HGU5.out (by decide) (by decide)).trans HGU5.out.symm)]
          exact cuc5
        · rw [World.cell?_of_block (a := ⟨gi, pickN x.picks i L, none⟩) ((h3 gi curi HGI5.out).trans HGI5.out.symm)]
          exact hby5
      have HSET := Lib.hid hset2
      clear hset hset2 hbd hrd
      by_cases hip : i < x.picks.length
      · obtain ⟨pp, hA, hpb, hpx⟩ := (hp.below (HO5.out.below (show B ≤ w.heap.size by omega) (by have := HR5.out.1; omega) (fun q hq => by have e : g = q := Option.some.inj hq; omega))).lies (by omega)
        subst hA
        have hpk := hpx i (.int .i64 x.picks[i]) (by simp [nums, hip])
        have hpe : pickN x.picks i L = pickAt x.picks[i] L := by unfold pickN; rw [dif_pos hip]
        rw [hpe] at hby5 hpl HSET
        have hq := (pickAt_lt x.picks[i] L hL0).2
        have htm1 : -(L : Int) < x.picks[i].tmod (L : Int) := by
          have := Int.lt_tmod_of_pos x.picks[i] (show (0 : Int) < (L : Int) by omega)
          omega
        have htm2 : x.picks[i].tmod (L : Int) < (L : Int) := Int.tmod_lt_of_pos _ (by omega)
        have hipI : decide ((i : Int) < (x.picks.length : Int)) = true := by simp; omega
        have hL00 : ¬ (L : Int) = 0 := by omega
        have hLz : ((L : Int) == 0) = false := by simpa using hL00
        generalize hpkv : x.picks[i] = pk at *
        clear hpkv hpe hpx
        generalize pickAt pk L = at_ at *
        generalize hT : pk.tmod (L : Int) = tm at *
        have hwrap : IntKind.i64.wrap (tm + (L : Int)) = tm + (L : Int) := IntWalk.i64_in _ (by omega)
        go_wp2_with fail
        have hatI : (at_ : Int) < (L : Int) := by omega
        clear htm1 htm2 hwrap hq
        go_region_held_law (fun w' => w'.cell? ⟨gu, i, none⟩ = some (.int .i64 (k : Int)) ∧ w'.cell? ⟨gi, at_, none⟩ = some (.int .u8 (c8.toNat : Int)))
          (first | exact ⟨cuc5, hby5⟩ | assumption)
          (first
            | (go_at_call 40; refine HSET.out.mono ?_; rintro e w7 ⟨rfl, hcc7, HP7⟩))
        obtain ⟨hr7, hO7, hu7, hbx7⟩ := HP7.out
        clear HP7
        go_wp2
        go_roundw
        case rel => exact ⟨i + 1, hlt, by go_num, hr7, hO7, hu7, hbx7⟩
        case measure => simp [intOf]; omega
      · have hp0 : pickN x.picks i L = 0 := by unfold pickN; rw [dif_neg hip]
        rw [hp0] at hby5 hpl HSET
        have hipI : decide ((i : Int) < (x.picks.length : Int)) = false := by simp; omega
        clear hp0
        go_wp2_with fail
        go_region_held_law (fun w' => w'.cell? ⟨gu, i, none⟩ = some (.int .i64 (k : Int)) ∧ w'.cell? ⟨gi, 0, none⟩ = some (.int .u8 (c8.toNat : Int)))
          (first | exact ⟨cuc5, hby5⟩ | assumption)
          (first
            | (go_at_call 40; refine HSET.out.mono ?_; rintro e w7 ⟨rfl, hcc7, HP7⟩))
        obtain ⟨hr7, hO7, hu7, hbx7⟩ := HP7.out
        clear HP7
        go_wp2
        go_roundw
        case rel => exact ⟨i + 1, hlt, by go_num, hr7, hO7, hu7, hbx7⟩
        case measure => simp [intOf]; omega
    · obtain rfl : i = (openL d).length := by omega
      have c0 := hr.c0
      have q1 := hr.fr 1
      have q2 := hr.fr 2
      have c1 := hr.c1
      have c2 := hr.c2
      have h1 := hr.setF 1 (.int .i64 (-1)) { crashJ d x.picks (openL d).length with fuse := -1 } rfl rfl
      have h2 := h1.setF 2 (.bool false) (crashD d x.picks) rfl rfl
      have s2 := h1.c2
      have s3 := h1.fr 2
      have HR := Lib.hid h2
      have HO := Lib.hid ((hO.setB ⟨b, 1, none⟩ rfl (.int .i64 (-1))).setB ⟨b, 2, none⟩ rfl (.bool false))
      clear h1 h2 hr hO hur hbr
      go_wp2
      go_ret
      exact ⟨rfl, ⟨_, HR.out, .inl rfl⟩, HO.out⟩
end Go.Proofs.Ytdcfplfeagpcdaa
