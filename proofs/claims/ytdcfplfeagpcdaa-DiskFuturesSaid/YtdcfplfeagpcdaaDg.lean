/- The document's disk: the steps Grow and Flush. -/
import Derived.Test.YtdcfplfeagpcdaaDf
namespace Go.Proofs.Ytdcfplfeagpcdaa
open Go.RowKit

theorem below_drewN {B : Nat} {a w : World} (h : Below B a w) (n : Nat) : Below B a (w.drewN n) := ⟨h.os, h.tape, h.output, h.size, h.block⟩
/-- each of the first i sectors settled -/
def setN (s : List (List UInt8)) (i : Nat) : List (List UInt8) := (s.take i).map (fun l => [l.getLastD 0]) ++ s.drop i
theorem setN_len (s : List (List UInt8)) (i : Nat) : (setN s i).length = s.length := by simp [setN]; omega
theorem setN_get (s : List (List UInt8)) (i : Nat) (h : i < s.length) : (setN s i)[i]'(by rw [setN_len]; exact h) = s[i] := by
  unfold setN
  rw [List.getElem_append_right (by simp; omega)]
  simp [Nat.min_eq_left (Nat.le_of_lt h)]
theorem setN_set (s : List (List UInt8)) (i : Nat) (h : i < s.length) : (setN s i).set i [s[i].getLastD 0] = setN s (i + 1) := by
  unfold setN
  rw [List.set_append_right _ _ (by simp; omega), List.take_succ_eq_append_getElem h, List.map_append, List.length_map, List.length_take, Nat.min_eq_left (Nat.le_of_lt h), Nat.sub_self, List.drop_eq_getElem_cons h, List.set_cons_zero, List.append_assoc]
  rfl
theorem setN_all (s : List (List UInt8)) : setN s s.length = s.map fun l => [l.getLastD 0] := by simp [setN]
def flushD (d : RD) : RD := { d with s := d.s.map fun l => [l.getLastD 0] }

set_option maxRecDepth 10000 in
set_option maxHeartbeats 4000000 in
theorem do_grow_neg (w : World) (base b : Nat) (v : Value) (d : RD) (h : RDisk w base b v d) (x : ST) (A : Option Addr) (cap : Nat) (hk : x.kind = 5) (hth : x.n < 0) :
    Calls Try.prog 25 #[.pointer (some ⟨b, 0, none⟩), .agg (stCells x A cap)] w fun e w' => e = .returned (.int .i64 2) ∧ (∃ v', RDisk w' base b v' d ∧ (v'.ownBlock = v.ownBlock ∨ ∃ k, v'.ownBlock = some k ∧ w.heap.size ≤ k)) ∧ Own2 w w' b v := by
  have hB := Boxed1.new w x A cap
  have hr := h.on hB.below
  have c0 := hB.c0
  have c1 := hB.c1
  have d0 := hr.c0
  have hO := Own2.of_below hB.below b v
  obtain ⟨AS, cS, rfl⟩ := h.form
  have g0 : decide (0 ≤ x.n) = false := by simp; omega
  go_enter Try.func25, Try.ntmps25
  go_wp2_with fail
  go_quiet (fail)
  have hB2 := hB.drewN nq
  have hr2 := h.on hB2.below
  have e0 := hB2.c0
  have e1 := hB2.c1
  have f0 := hr2.c0
  have f1 := hr2.c1
  have f2 := hr2.c2
  have q1 := hr2.fr 1
  have hO2 := Own2.of_below hB2.below b (.slice AS d.s.length cS)
  have HR2 := Lib.hid hr2
  have HO2 := Lib.hid hO2
  clear hB hr c0 c1 d0 hO hB2 hr2 hO2
  rw [hk] at e0
  have t1 : decide (x.n < (d.s.length : Int)) = true := by simp; omega
  generalize (w.alloc (.cells (stCells x A cap) 54)).drewN nq = w1 at *
  go_wp2_with fail
  go_quiet (fail)
  have HR3 := Lib.hid (HR2.out.on (below_drewN (Below.refl _ _) nq))
  have HO3 := Lib.hid (HO2.out.trans (Own2.of_below (below_drewN (Below.refl w1.heap.size w1) nq) b _) (.inl rfl))
  go_wp2
  go_ret
  exact ⟨rfl, ⟨_, HR3.out, .inl rfl⟩, HO3.out⟩

set_option maxRecDepth 10000 in
set_option maxHeartbeats 4000000 in
theorem do_grow_in (w : World) (base b : Nat) (v : Value) (d : RD) (h : RDisk w base b v d) (x : ST) (A : Option Addr) (cap : Nat) (hk : x.kind = 5) (hth : 0 ≤ x.n ∧ x.n < (d.s.length : Int)) :
    Calls Try.prog 25 #[.pointer (some ⟨b, 0, none⟩), .agg (stCells x A cap)] w fun e w' => e = .returned (.int .i64 2) ∧ (∃ v', RDisk w' base b v' d ∧ (v'.ownBlock = v.ownBlock ∨ ∃ k, v'.ownBlock = some k ∧ w.heap.size ≤ k)) ∧ Own2 w w' b v := by
  have hB := Boxed1.new w x A cap
  have hr := h.on hB.below
  have c0 := hB.c0
  have c1 := hB.c1
  have d0 := hr.c0
  have hO := Own2.of_below hB.below b v
  obtain ⟨AS, cS, rfl⟩ := h.form
  have g0 : decide (0 ≤ x.n) = true := by simp; omega
  have g1 : decide (x.n < (d.s.length : Int)) = true := by simp; omega
  go_enter Try.func25, Try.ntmps25
  go_wp2_with fail
  go_quiet (fail)
  have hB2 := hB.drewN nq
  have hr2 := h.on hB2.below
  have e0 := hB2.c0
  have e1 := hB2.c1
  have f0 := hr2.c0
  have f1 := hr2.c1
  have f2 := hr2.c2
  have q1 := hr2.fr 1
  have hO2 := Own2.of_below hB2.below b (.slice AS d.s.length cS)
  have HR2 := Lib.hid hr2
  have HO2 := Lib.hid hO2
  clear hB hr c0 c1 d0 hO hB2 hr2 hO2
  rw [hk] at e0
  have t1 : decide (x.n < (d.s.length : Int)) = true := by simp; omega
  generalize (w.alloc (.cells (stCells x A cap) 54)).drewN nq = w1 at *
  go_wp2_with fail
  go_quiet (fail)
  have HR3 := Lib.hid (HR2.out.on (below_drewN (Below.refl _ _) nq))
  have HO3 := Lib.hid (HO2.out.trans (Own2.of_below (below_drewN (Below.refl w1.heap.size w1) nq) b _) (.inl rfl))
  go_wp2
  go_ret
  exact ⟨rfl, ⟨_, HR3.out, .inl rfl⟩, HO3.out⟩

set_option maxRecDepth 10000 in
set_option maxHeartbeats 4000000 in
theorem do_grow_big_out (w : World) (base b : Nat) (v : Value) (d : RD) (h : RDisk w base b v d) (x : ST) (A : Option Addr) (cap : Nat) (hk : x.kind = 5) (hbig : 8192 < x.n) (hth : (d.s.length : Int) ≤ x.n) :
    Calls Try.prog 25 #[.pointer (some ⟨b, 0, none⟩), .agg (stCells x A cap)] w fun e w' => e = .returned (.int .i64 2) ∧ (∃ v', RDisk w' base b v' d ∧ (v'.ownBlock = v.ownBlock ∨ ∃ k, v'.ownBlock = some k ∧ w.heap.size ≤ k)) ∧ Own2 w w' b v := by
  have hB := Boxed1.new w x A cap
  have hr := h.on hB.below
  have c0 := hB.c0
  have c1 := hB.c1
  have d0 := hr.c0
  have hO := Own2.of_below hB.below b v
  obtain ⟨AS, cS, rfl⟩ := h.form
  have g0 : decide (0 ≤ x.n) = true := by simp; omega
  have g1 : decide (x.n < (d.s.length : Int)) = false := by simp; omega
  go_enter Try.func25, Try.ntmps25
  go_wp2_with fail
  go_quiet (fail)
  have hB2 := hB.drewN nq
  have hr2 := h.on hB2.below
  have e0 := hB2.c0
  have e1 := hB2.c1
  have f0 := hr2.c0
  have f1 := hr2.c1
  have f2 := hr2.c2
  have q1 := hr2.fr 1
  have hO2 := Own2.of_below hB2.below b (.slice AS d.s.length cS)
  have HR2 := Lib.hid hr2
  have HO2 := Lib.hid hO2
  clear hB hr c0 c1 d0 hO hB2 hr2 hO2
  rw [hk] at e0
  have t2 : decide (8192 < x.n) = true := by simp; omega
  generalize (w.alloc (.cells (stCells x A cap) 54)).drewN nq = w1 at *
  go_wp2_with fail
  go_quiet (fail)
  have HR3 := Lib.hid (HR2.out.on (below_drewN (Below.refl _ _) nq))
  have HO3 := Lib.hid (HO2.out.trans (Own2.of_below (below_drewN (Below.refl w1.heap.size w1) nq) b _) (.inl rfl))
  go_wp2
  go_ret
  exact ⟨rfl, ⟨_, HR3.out, .inl rfl⟩, HO3.out⟩

set_option maxRecDepth 10000 in
set_option maxHeartbeats 4000000 in
theorem do_grow_dead_out (w : World) (base b : Nat) (v : Value) (d : RD) (h : RDisk w base b v d) (x : ST) (A : Option Addr) (cap : Nat) (hk : x.kind = 5) (hbig : x.n ≤ 8192) (hd : d.dead = true) (hth : (d.s.length : Int) ≤ x.n) :
    Calls Try.prog 25 #[.pointer (some ⟨b, 0, none⟩), .agg (stCells x A cap)] w fun e w' => e = .returned (.int .i64 10) ∧ (∃ v', RDisk w' base b v' d ∧ (v'.ownBlock = v.ownBlock ∨ ∃ k, v'.ownBlock = some k ∧ w.heap.size ≤ k)) ∧ Own2 w w' b v := by
  have hB := Boxed1.new w x A cap
  have hr := h.on hB.below
  have c0 := hB.c0
  have c1 := hB.c1
  have d0 := hr.c0
  have hO := Own2.of_below hB.below b v
  obtain ⟨AS, cS, rfl⟩ := h.form
  have g0 : decide (0 ≤ x.n) = true := by simp; omega
  have g1 : decide (x.n < (d.s.length : Int)) = false := by simp; omega
  go_enter Try.func25, Try.ntmps25
  go_wp2_with fail
  go_quiet (fail)
  have hB2 := hB.drewN nq
  have hr2 := h.on hB2.below
  have e0 := hB2.c0
  have e1 := hB2.c1
  have f0 := hr2.c0
  have f1 := hr2.c1
  have f2 := hr2.c2
  have q1 := hr2.fr 1
  have hO2 := Own2.of_below hB2.below b (.slice AS d.s.length cS)
  have HR2 := Lib.hid hr2
  have HO2 := Lib.hid hO2
  clear hB hr c0 c1 d0 hO hB2 hr2 hO2
  rw [hk] at e0
  rw [hd] at f2
  have t2 : decide (8192 < x.n) = false := by simp; omega
  generalize (w.alloc (.cells (stCells x A cap) 54)).drewN nq = w1 at *
  have hw1 := HO2.out.size
  go_wp2_with fail
  go_quiet (fail)
  have hb3 := below_drewN (Below.refl w1.heap.size w1) nq
  have hr3 := HR2.out.on hb3
  have HO3 := Lib.hid (HO2.out.trans (Own2.of_below hb3 b _) (.inl rfl))
  have i2 := hr3.c2
  rw [hd] at i2
  have i1 : (w1.drewN nq).cell? ⟨w.heap.size, 1, none⟩ = some (.int .i64 x.n) := e1
  have hw3 := hb3.size
  have HR3 := Lib.hid hr3
  clear hb3 hr3
  generalize w1.drewN nq = w3 at *
  go_wp2
  go_ret
  exact ⟨rfl, ⟨_, HR3.out, .inl rfl⟩, HO3.out⟩

set_option maxRecDepth 10000 in
set_option maxHeartbeats 4000000 in
theorem do_grow_more_out (w : World) (base b : Nat) (v : Value) (d : RD) (h : RDisk w base b v d) (x : ST) (A : Option Addr) (cap : Nat) (hk : x.kind = 5) (hbig : x.n ≤ 8192) (hd : d.dead = false) (hbase : base ≤ w.heap.size) (hth : (d.s.length : Int) ≤ x.n) :
    Calls Try.prog 25 #[.pointer (some ⟨b, 0, none⟩), .agg (stCells x A cap)] w fun e w' => e = .returned (.int .i64 0) ∧ (∃ v', RDisk w' base b v' (moreD d (x.n.toNat - d.s.length)) ∧ (v'.ownBlock = v.ownBlock ∨ ∃ k, v'.ownBlock = some k ∧ w.heap.size ≤ k)) ∧ Own2 w w' b v := by
  have hB := Boxed1.new w x A cap
  have hr := h.on hB.below
  have c0 := hB.c0
  have c1 := hB.c1
  have d0 := hr.c0
  have hO := Own2.of_below hB.below b v
  obtain ⟨AS, cS, rfl⟩ := h.form
  have g0 : decide (0 ≤ x.n) = true := by simp; omega
  have g1 : decide (x.n < (d.s.length : Int)) = false := by simp; omega
  go_enter Try.func25, Try.ntmps25
  go_wp2_with fail
  go_quiet (fail)
  have hB2 := hB.drewN nq
  have hr2 := h.on hB2.below
  have e0 := hB2.c0
  have e1 := hB2.c1
  have f0 := hr2.c0
  have f1 := hr2.c1
  have f2 := hr2.c2
  have q1 := hr2.fr 1
  have hO2 := Own2.of_below hB2.below b (.slice AS d.s.length cS)
  have HR2 := Lib.hid hr2
  have HO2 := Lib.hid hO2
  clear hB hr c0 c1 d0 hO hB2 hr2 hO2
  rw [hk] at e0
  rw [hd] at f2
  have t2 : decide (8192 < x.n) = false := by simp; omega
  generalize (w.alloc (.cells (stCells x A cap) 54)).drewN nq = w1 at *
  have hw1 := HO2.out.size
  go_wp2_with fail
  go_quiet (fail)
  have hb3 := below_drewN (Below.refl w1.heap.size w1) nq
  have hr3 := HR2.out.on hb3
  have HO3 := Lib.hid (HO2.out.trans (Own2.of_below hb3 b _) (.inl rfl))
  have i2 := hr3.c2
  rw [hd] at i2
  have i1 : (w1.drewN nq).cell? ⟨w.heap.size, 1, none⟩ = some (.int .i64 x.n) := e1
  have hw3 := hb3.size
  have HR3 := Lib.hid hr3
  clear hb3 hr3
  generalize w1.drewN nq = w3 at *
  obtain ⟨n, hn⟩ := Int.eq_ofNat_of_zero_le (show 0 ≤ x.n by omega)
  have hm := more_any w3 base b _ d HR3.out n (by omega) (by omega)
  rw [← hn] at hm
  have HM := Lib.hid hm
  have hnt : x.n.toNat = n := by omega
  have HNT := Lib.hid hnt
  clear hm hnt hn
  go_wp2_with (go_at_call 41; refine HM.out.mono ?_; rintro e w5 ⟨rfl, v5, hr5, hO5, hv5, hk5⟩)
  go_ret
  refine ⟨rfl, ⟨v5, by rw [HNT.out]; exact hr5, ?_⟩, HO3.out.trans hO5 (.inl rfl)⟩
  rcases hv5 with e | ⟨k, e, hk⟩
  · exact .inl e
  · exact .inr ⟨k, e, by omega⟩
end Go.Proofs.Ytdcfplfeagpcdaa
