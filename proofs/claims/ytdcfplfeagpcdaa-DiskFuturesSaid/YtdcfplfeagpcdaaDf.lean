/- The document's disk: a step, its memory; the steps Fuse and Read. -/
import Derived.Test.YtdcfplfeagpcdaaDe
namespace Go.Proofs.Ytdcfplfeagpcdaa
open Go.RowKit

/-- a step -/
structure ST where
  kind : Int
  n : Int
  fill : UInt8
  picks : List Int
/-- its cells, with its picks' slice -/
def stCells (x : ST) (A : Option Addr) (cap : Nat) : Array Value := #[.int .i64 x.kind, .int .i64 x.n, .int .u8 (x.fill.toNat : Int), .slice A x.picks.length cap]
/-- the numbers' bounds -/
def ST.ok (x : ST) : Prop := -9223372036854775808 ≤ x.n ∧ x.n ≤ 9223372036854775807

/-- the world in which a step is looked at: its box laid behind the others, some orders drawn -/
structure Boxed1 (w w1 : World) (x : ST) (A : Option Addr) (cap : Nat) : Prop where
  below : Below w.heap.size w w1
  box : w1.heap[w.heap.size]? = some (.cells (stCells x A cap) 54 (0, 0))
theorem Boxed1.c0 {w w1 : World} {x : ST} {A : Option Addr} {cap : Nat} (h : Boxed1 w w1 x A cap) : w1.cell? ⟨w.heap.size, 0, none⟩ = some (.int .i64 x.kind) := by rw [cell_of_row _ _ 0 _ _ _ h.box]; rfl
theorem Boxed1.c1 {w w1 : World} {x : ST} {A : Option Addr} {cap : Nat} (h : Boxed1 w w1 x A cap) : w1.cell? ⟨w.heap.size, 1, none⟩ = some (.int .i64 x.n) := by rw [cell_of_row _ _ 1 _ _ _ h.box]; rfl
theorem Boxed1.c2 {w w1 : World} {x : ST} {A : Option Addr} {cap : Nat} (h : Boxed1 w w1 x A cap) : w1.cell? ⟨w.heap.size, 2, none⟩ = some (.int .u8 (x.fill.toNat : Int)) := by rw [cell_of_row _ _ 2 _ _ _ h.box]; rfl
theorem Boxed1.c3 {w w1 : World} {x : ST} {A : Option Addr} {cap : Nat} (h : Boxed1 w w1 x A cap) : w1.cell? ⟨w.heap.size, 3, none⟩ = some (.slice A x.picks.length cap) := by rw [cell_of_row _ _ 3 _ _ _ h.box]; rfl
theorem Boxed1.new (w : World) (x : ST) (A : Option Addr) (cap : Nat) : Boxed1 w (w.alloc (.cells (stCells x A cap) 54)) x A cap := ⟨(Below.refl _ _).alloc (Nat.le_refl _) _, heap_alloc_new w _⟩
theorem Boxed1.drewN {w w1 : World} {x : ST} {A : Option Addr} {cap : Nat} (h : Boxed1 w w1 x A cap) (k : Nat) : Boxed1 w (w1.drewN k) x A cap := ⟨⟨h.below.os, h.below.tape, h.below.output, h.below.size, h.below.block⟩, h.box⟩

def fuseD (d : RD) (n : Int) : RD := { d with fuse := n }

set_option maxRecDepth 10000 in
set_option maxHeartbeats 4000000 in
theorem do_none_neg (w : World) (base b : Nat) (v : Value) (d : RD) (h : RDisk w base b v d) (x : ST) (A : Option Addr) (cap : Nat) (k1 : (x.kind == 1) = false) (k2 : (x.kind == 2) = false) (k3 : (x.kind == 3) = false) (k4 : (x.kind == 4) = false) (k5 : (x.kind == 5) = false) (k6 : (x.kind == 6) = false) (hth : x.n < 0) :
    Calls Try.prog 25 #[.pointer (some ⟨b, 0, none⟩), .agg (stCells x A cap)] w fun e w' => e = .returned (.int .i64 0) ∧ (∃ v', RDisk w' base b v' d ∧ (v'.ownBlock = v.ownBlock ∨ ∃ k, v'.ownBlock = some k ∧ w.heap.size ≤ k)) ∧ Own2 w w' b v := by
  have hB := Boxed1.new w x A cap
  have hr := h.on hB.below
  have c0 := hB.c0
  have c1 := hB.c1
  have d0 := hr.c0
  have hO := Own2.of_below hB.below b v
  obtain ⟨AS, cS, rfl⟩ := h.form
  have g0 : decide (0 ≤ x.n) = false := by simp; omega
  go_enter Try.func25, Try.ntmps25
  go_wp2_with fail
  go_quiet (fail)
  have hB2 := hB.drewN nq
  have hr2 := h.on hB2.below
  have e0 := hB2.c0
  have e1 := hB2.c1
  have f0 := hr2.c0
  have f1 := hr2.c1
  have f2 := hr2.c2
  have q1 := hr2.fr 1
  have hO2 := Own2.of_below hB2.below b (.slice AS d.s.length cS)
  have HR2 := Lib.hid hr2
  have HO2 := Lib.hid hO2
  clear hB hr c0 c1 d0 hO hB2 hr2 hO2
  generalize (w.alloc (.cells (stCells x A cap) 54)).drewN nq = w1 at *
  go_wp2
  go_ret
  exact ⟨rfl, ⟨_, HR2.out, .inl rfl⟩, HO2.out⟩

set_option maxRecDepth 10000 in
set_option maxHeartbeats 4000000 in
theorem do_fuse_neg (w : World) (base b : Nat) (v : Value) (d : RD) (h : RDisk w base b v d) (x : ST) (A : Option Addr) (cap : Nat) (hk : x.kind = 3) (hth : x.n < 0) :
    Calls Try.prog 25 #[.pointer (some ⟨b, 0, none⟩), .agg (stCells x A cap)] w fun e w' => e = .returned (.int .i64 2) ∧ (∃ v', RDisk w' base b v' d ∧ (v'.ownBlock = v.ownBlock ∨ ∃ k, v'.ownBlock = some k ∧ w.heap.size ≤ k)) ∧ Own2 w w' b v := by
  have hB := Boxed1.new w x A cap
  have hr := h.on hB.below
  have c0 := hB.c0
  have c1 := hB.c1
  have d0 := hr.c0
  have hO := Own2.of_below hB.below b v
  obtain ⟨AS, cS, rfl⟩ := h.form
  have g0 : decide (0 ≤ x.n) = false := by simp; omega
  go_enter Try.func25, Try.ntmps25
  go_wp2_with fail
  go_quiet (fail)
  have hB2 := hB.drewN nq
  have hr2 := h.on hB2.below
  have e0 := hB2.c0
  have e1 := hB2.c1
  have f0 := hr2.c0
  have f1 := hr2.c1
  have f2 := hr2.c2
  have q1 := hr2.fr 1
  have hO2 := Own2.of_below hB2.below b (.slice AS d.s.length cS)
  have HR2 := Lib.hid hr2
  have HO2 := Lib.hid hO2
  clear hB hr c0 c1 d0 hO hB2 hr2 hO2
  rw [hk] at e0
  have t1 : decide (x.n < 0) = true := by simp; omega
  generalize (w.alloc (.cells (stCells x A cap) 54)).drewN nq = w1 at *
  go_wp2
  go_ret
  exact ⟨rfl, ⟨_, HR2.out, .inl rfl⟩, HO2.out⟩

set_option maxRecDepth 10000 in
set_option maxHeartbeats 4000000 in
theorem do_read_neg (w : World) (base b : Nat) (v : Value) (d : RD) (h : RDisk w base b v d) (x : ST) (A : Option Addr) (cap : Nat) (hk : x.kind = 6) (hth : x.n < 0) :
    Calls Try.prog 25 #[.pointer (some ⟨b, 0, none⟩), .agg (stCells x A cap)] w fun e w' => e = .returned (.int .i64 2) ∧ (∃ v', RDisk w' base b v' d ∧ (v'.ownBlock = v.ownBlock ∨ ∃ k, v'.ownBlock = some k ∧ w.heap.size ≤ k)) ∧ Own2 w w' b v := by
  have hB := Boxed1.new w x A cap
  have hr := h.on hB.below
  have c0 := hB.c0
  have c1 := hB.c1
  have d0 := hr.c0
  have hO := Own2.of_below hB.below b v
  obtain ⟨AS, cS, rfl⟩ := h.form
  have g0 : decide (0 ≤ x.n) = false := by simp; omega
  go_enter Try.func25, Try.ntmps25
  go_wp2_with fail
  go_quiet (fail)
  have hB2 := hB.drewN nq
  have hr2 := h.on hB2.below
  have e0 := hB2.c0
  have e1 := hB2.c1
  have f0 := hr2.c0
  have f1 := hr2.c1
  have f2 := hr2.c2
  have q1 := hr2.fr 1
  have hO2 := Own2.of_below hB2.below b (.slice AS d.s.length cS)
  have HR2 := Lib.hid hr2
  have HO2 := Lib.hid hO2
  clear hB hr c0 c1 d0 hO hB2 hr2 hO2
  rw [hk] at e0
  generalize (w.alloc (.cells (stCells x A cap) 54)).drewN nq = w1 at *
  go_wp2
  go_ret
  exact ⟨rfl, ⟨_, HR2.out, .inl rfl⟩, HO2.out⟩

set_option maxRecDepth 10000 in
set_option maxHeartbeats 4000000 in
theorem do_none_in (w : World) (base b : Nat) (v : Value) (d : RD) (h : RDisk w base b v d) (x : ST) (A : Option Addr) (cap : Nat) (k1 : (x.kind == 1) = false) (k2 : (x.kind == 2) = false) (k3 : (x.kind == 3) = false) (k4 : (x.kind == 4) = false) (k5 : (x.kind == 5) = false) (k6 : (x.kind == 6) = false) (hth : 0 ≤ x.n ∧ x.n < (d.s.length : Int)) :
    Calls Try.prog 25 #[.pointer (some ⟨b, 0, none⟩), .agg (stCells x A cap)] w fun e w' => e = .returned (.int .i64 0) ∧ (∃ v', RDisk w' base b v' d ∧ (v'.ownBlock = v.ownBlock ∨ ∃ k, v'.ownBlock = some k ∧ w.heap.size ≤ k)) ∧ Own2 w w' b v := by
  have hB := Boxed1.new w x A cap
  have hr := h.on hB.below
  have c0 := hB.c0
  have c1 := hB.c1
  have d0 := hr.c0
  have hO := Own2.of_below hB.below b v
  obtain ⟨AS, cS, rfl⟩ := h.form
  have g0 : decide (0 ≤ x.n) = true := by simp; omega
  have g1 : decide (x.n < (d.s.length : Int)) = true := by simp; omega
  go_enter Try.func25, Try.ntmps25
  go_wp2_with fail
  go_quiet (fail)
  have hB2 := hB.drewN nq
  have hr2 := h.on hB2.below
  have e0 := hB2.c0
  have e1 := hB2.c1
  have f0 := hr2.c0
  have f1 := hr2.c1
  have f2 := hr2.c2
  have q1 := hr2.fr 1
  have hO2 := Own2.of_below hB2.below b (.slice AS d.s.length cS)
  have HR2 := Lib.hid hr2
  have HO2 := Lib.hid hO2
  clear hB hr c0 c1 d0 hO hB2 hr2 hO2
  generalize (w.alloc (.cells (stCells x A cap) 54)).drewN nq = w1 at *
  go_wp2
  go_ret
  exact ⟨rfl, ⟨_, HR2.out, .inl rfl⟩, HO2.out⟩

set_option maxRecDepth 10000 in
set_option maxHeartbeats 4000000 in
theorem do_fuse_in (w : World) (base b : Nat) (v : Value) (d : RD) (h : RDisk w base b v d) (x : ST) (A : Option Addr) (cap : Nat) (hk : x.kind = 3) (hth : 0 ≤ x.n ∧ x.n < (d.s.length : Int)) :
    Calls Try.prog 25 #[.pointer (some ⟨b, 0, none⟩), .agg (stCells x A cap)] w fun e w' => e = .returned (.int .i64 0) ∧ (∃ v', RDisk w' base b v' (fuseD d x.n) ∧ (v'.ownBlock = v.ownBlock ∨ ∃ k, v'.ownBlock = some k ∧ w.heap.size ≤ k)) ∧ Own2 w w' b v := by
  have hB := Boxed1.new w x A cap
  have hr := h.on hB.below
  have c0 := hB.c0
  have c1 := hB.c1
  have d0 := hr.c0
  have hO := Own2.of_below hB.below b v
  obtain ⟨AS, cS, rfl⟩ := h.form
  have g0 : decide (0 ≤ x.n) = true := by simp; omega
  have g1 : decide (x.n < (d.s.length : Int)) = true := by simp; omega
  go_enter Try.func25, Try.ntmps25
  go_wp2_with fail
  go_quiet (fail)
  have hB2 := hB.drewN nq
  have hr2 := h.on hB2.below
  have e0 := hB2.c0
  have e1 := hB2.c1
  have f0 := hr2.c0
  have f1 := hr2.c1
  have f2 := hr2.c2
  have q1 := hr2.fr 1
  have hO2 := Own2.of_below hB2.below b (.slice AS d.s.length cS)
  have HR2 := Lib.hid hr2
  have HO2 := Lib.hid hO2
  clear hB hr c0 c1 d0 hO hB2 hr2 hO2
  rw [hk] at e0
  have t1 : decide (x.n < 0) = false := by simp; omega
  generalize (w.alloc (.cells (stCells x A cap) 54)).drewN nq = w1 at *
  have hset := HR2.out.setF 1 (.int .i64 x.n) (fuseD d x.n) rfl rfl
  have HSET := Lib.hid hset
  clear hset
  go_wp2
  go_ret
  exact ⟨rfl, ⟨_, HSET.out, .inl rfl⟩, HO2.out.setB _ rfl _⟩

set_option maxRecDepth 10000 in
set_option maxHeartbeats 4000000 in
theorem do_read_in (w : World) (base b : Nat) (v : Value) (d : RD) (h : RDisk w base b v d) (x : ST) (A : Option Addr) (cap : Nat) (hk : x.kind = 6) (hth : 0 ≤ x.n ∧ x.n < (d.s.length : Int)) :
    Calls Try.prog 25 #[.pointer (some ⟨b, 0, none⟩), .agg (stCells x A cap)] w fun e w' => e = .returned (.int .i64 0) ∧ (∃ v', RDisk w' base b v' d ∧ (v'.ownBlock = v.ownBlock ∨ ∃ k, v'.ownBlock = some k ∧ w.heap.size ≤ k)) ∧ Own2 w w' b v := by
  have hB := Boxed1.new w x A cap
  have hr := h.on hB.below
  have c0 := hB.c0
  have c1 := hB.c1
  have d0 := hr.c0
  have hO := Own2.of_below hB.below b v
  obtain ⟨AS, cS, rfl⟩ := h.form
  have g0 : decide (0 ≤ x.n) = true := by simp; omega
  have g1 : decide (x.n < (d.s.length : Int)) = true := by simp; omega
  go_enter Try.func25, Try.ntmps25
  go_wp2_with fail
  go_quiet (fail)
  have hB2 := hB.drewN nq
  have hr2 := h.on hB2.below
  have e0 := hB2.c0
  have e1 := hB2.c1
  have f0 := hr2.c0
  have f1 := hr2.c1
  have f2 := hr2.c2
  have q1 := hr2.fr 1
  have hO2 := Own2.of_below hB2.below b (.slice AS d.s.length cS)
  have HR2 := Lib.hid hr2
  have HO2 := Lib.hid hO2
  clear hB hr c0 c1 d0 hO hB2 hr2 hO2
  rw [hk] at e0
  generalize (w.alloc (.cells (stCells x A cap) 54)).drewN nq = w1 at *
  go_wp2
  go_ret
  exact ⟨rfl, ⟨_, HR2.out, .inl rfl⟩, HO2.out⟩

set_option maxRecDepth 10000 in
set_option maxHeartbeats 4000000 in
theorem do_none_out (w : World) (base b : Nat) (v : Value) (d : RD) (h : RDisk w base b v d) (x : ST) (A : Option Addr) (cap : Nat) (k1 : (x.kind == 1) = false) (k2 : (x.kind == 2) = false) (k3 : (x.kind == 3) = false) (k4 : (x.kind == 4) = false) (k5 : (x.kind == 5) = false) (k6 : (x.kind == 6) = false) (hth : (d.s.length : Int) ≤ x.n) :
    Calls Try.prog 25 #[.pointer (some ⟨b, 0, none⟩), .agg (stCells x A cap)] w fun e w' => e = .returned (.int .i64 0) ∧ (∃ v', RDisk w' base b v' d ∧ (v'.ownBlock = v.ownBlock ∨ ∃ k, v'.ownBlock = some k ∧ w.heap.size ≤ k)) ∧ Own2 w w' b v := by
  have hB := Boxed1.new w x A cap
  have hr := h.on hB.below
  have c0 := hB.c0
  have c1 := hB.c1
  have d0 := hr.c0
  have hO := Own2.of_below hB.below b v
  obtain ⟨AS, cS, rfl⟩ := h.form
  have g0 : decide (0 ≤ x.n) = true := by simp; omega
  have g1 : decide (x.n < (d.s.length : Int)) = false := by simp; omega
  go_enter Try.func25, Try.ntmps25
  go_wp2_with fail
  go_quiet (fail)
  have hB2 := hB.drewN nq
  have hr2 := h.on hB2.below
  have e0 := hB2.c0
  have e1 := hB2.c1
  have f0 := hr2.c0
  have f1 := hr2.c1
  have f2 := hr2.c2
  have q1 := hr2.fr 1
  have hO2 := Own2.of_below hB2.below b (.slice AS d.s.length cS)
  have HR2 := Lib.hid hr2
  have HO2 := Lib.hid hO2
  clear hB hr c0 c1 d0 hO hB2 hr2 hO2
  generalize (w.alloc (.cells (stCells x A cap) 54)).drewN nq = w1 at *
  go_wp2
  go_ret
  exact ⟨rfl, ⟨_, HR2.out, .inl rfl⟩, HO2.out⟩

set_option maxRecDepth 10000 in
set_option maxHeartbeats 4000000 in
theorem do_fuse_out (w : World) (base b : Nat) (v : Value) (d : RD) (h : RDisk w base b v d) (x : ST) (A : Option Addr) (cap : Nat) (hk : x.kind = 3) (hth : (d.s.length : Int) ≤ x.n) :
    Calls Try.prog 25 #[.pointer (some ⟨b, 0, none⟩), .agg (stCells x A cap)] w fun e w' => e = .returned (.int .i64 0) ∧ (∃ v', RDisk w' base b v' (fuseD d x.n) ∧ (v'.ownBlock = v.ownBlock ∨ ∃ k, v'.ownBlock = some k ∧ w.heap.size ≤ k)) ∧ Own2 w w' b v := by
  have hB := Boxed1.new w x A cap
  have hr := h.on hB.below
  have c0 := hB.c0
  have c1 := hB.c1
  have d0 := hr.c0
  have hO := Own2.of_below hB.below b v
  obtain ⟨AS, cS, rfl⟩ := h.form
  have g0 : decide (0 ≤ x.n) = true := by simp; omega
  have g1 : decide (x.n < (d.s.length : Int)) = false := by simp; omega
  go_enter Try.func25, Try.ntmps25
  go_wp2_with fail
  go_quiet (fail)
  have hB2 := hB.drewN nq
  have hr2 := h.on hB2.below
  have e0 := hB2.c0
  have e1 := hB2.c1
  have f0 := hr2.c0
  have f1 := hr2.c1
  have f2 := hr2.c2
  have q1 := hr2.fr 1
  have hO2 := Own2.of_below hB2.below b (.slice AS d.s.length cS)
  have HR2 := Lib.hid hr2
  have HO2 := Lib.hid hO2
  clear hB hr c0 c1 d0 hO hB2 hr2 hO2
  rw [hk] at e0
  have t1 : decide (x.n < 0) = false := by simp; omega
  generalize (w.alloc (.cells (stCells x A cap) 54)).drewN nq = w1 at *
  have hset := HR2.out.setF 1 (.int .i64 x.n) (fuseD d x.n) rfl rfl
  have HSET := Lib.hid hset
  clear hset
  go_wp2
  go_ret
  exact ⟨rfl, ⟨_, HSET.out, .inl rfl⟩, HO2.out.setB _ rfl _⟩

set_option maxRecDepth 10000 in
set_option maxHeartbeats 4000000 in
theorem do_read_out (w : World) (base b : Nat) (v : Value) (d : RD) (h : RDisk w base b v d) (x : ST) (A : Option Addr) (cap : Nat) (hk : x.kind = 6) (hth : (d.s.length : Int) ≤ x.n) :
    Calls Try.prog 25 #[.pointer (some ⟨b, 0, none⟩), .agg (stCells x A cap)] w fun e w' => e = .returned (.int .i64 2) ∧ (∃ v', RDisk w' base b v' d ∧ (v'.ownBlock = v.ownBlock ∨ ∃ k, v'.ownBlock = some k ∧ w.heap.size ≤ k)) ∧ Own2 w w' b v := by
  have hB := Boxed1.new w x A cap
  have hr := h.on hB.below
  have c0 := hB.c0
  have c1 := hB.c1
  have d0 := hr.c0
  have hO := Own2.of_below hB.below b v
  obtain ⟨AS, cS, rfl⟩ := h.form
  have g0 : decide (0 ≤ x.n) = true := by simp; omega
  have g1 : decide (x.n < (d.s.length : Int)) = false := by simp; omega
  go_enter Try.func25, Try.ntmps25
  go_wp2_with fail
  go_quiet (fail)
  have hB2 := hB.drewN nq
  have hr2 := h.on hB2.below
  have e0 := hB2.c0
  have e1 := hB2.c1
  have f0 := hr2.c0
  have f1 := hr2.c1
  have f2 := hr2.c2
  have q1 := hr2.fr 1
  have hO2 := Own2.of_below hB2.below b (.slice AS d.s.length cS)
  have HR2 := Lib.hid hr2
  have HO2 := Lib.hid hO2
  clear hB hr c0 c1 d0 hO hB2 hr2 hO2
  rw [hk] at e0
  generalize (w.alloc (.cells (stCells x A cap) 54)).drewN nq = w1 at *
  go_wp2
  go_ret
  exact ⟨rfl, ⟨_, HR2.out, .inl rfl⟩, HO2.out⟩
end Go.Proofs.Ytdcfplfeagpcdaa
