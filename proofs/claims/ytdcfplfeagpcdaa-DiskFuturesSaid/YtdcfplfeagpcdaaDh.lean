/- The document's disk: the step Flush. -/
import Derived.Test.YtdcfplfeagpcdaaDg
namespace Go.Proofs.Ytdcfplfeagpcdaa
open Go.RowKit

theorem movesD_s (d : RD) : (movesD d).s = d.s := by unfold movesD; split; rfl; split <;> rfl
def setD (d : RD) (i : Nat) : RD := { d with s := setN d.s i }
theorem setD_zero (d : RD) : setD d 0 = d := by simp [setD, setN]
theorem setD_all (d : RD) : setD d d.s.length = flushD d := by simp [setD, setN_all, flushD]
theorem setD_next (d : RD) (i : Nat) (h : i < d.s.length) : { setD d i with s := (setD d i).s.set i [d.s[i].getLastD 0] } = setD d (i + 1) := by simp only [setD, setN_set d.s i h]

set_option maxRecDepth 10000 in
set_option maxHeartbeats 4000000 in
theorem do_flush_no_neg (w : World) (base b : Nat) (v : Value) (d : RD) (h : RDisk w base b v d) (x : ST) (A : Option Addr) (cap : Nat) (hk : x.kind = 2) (hf : -1 ≤ d.fuse ∧ d.fuse ≤ 9223372036854775807) (hm : movesB d = false) (hth : x.n < 0) :
    Calls Try.prog 25 #[.pointer (some ⟨b, 0, none⟩), .agg (stCells x A cap)] w fun e w' => e = .returned (.int .i64 10) ∧ (∃ v', RDisk w' base b v' (movesD d) ∧ (v'.ownBlock = v.ownBlock ∨ ∃ k, v'.ownBlock = some k ∧ w.heap.size ≤ k)) ∧ Own2 w w' b v := by
  have hB := Boxed1.new w x A cap
  have hr := h.on hB.below
  have c0 := hB.c0
  have c1 := hB.c1
  have d0 := hr.c0
  have hO := Own2.of_below hB.below b v
  obtain ⟨AS, cS, rfl⟩ := h.form
  have g0 : decide (0 ≤ x.n) = false := by simp; omega
  go_enter Try.func25, Try.ntmps25
  go_wp2_with fail
  go_quiet (fail)
  have hB2 := hB.drewN nq
  have hr2 := h.on hB2.below
  have e0 := hB2.c0
  have e1 := hB2.c1
  have f0 := hr2.c0
  have f1 := hr2.c1
  have f2 := hr2.c2
  have q1 := hr2.fr 1
  have hO2 := Own2.of_below hB2.below b (.slice AS d.s.length cS)
  have HR2 := Lib.hid hr2
  have HO2 := Lib.hid hO2
  clear hB hr c0 c1 d0 hO hB2 hr2 hO2
  rw [hk] at e0
  generalize (w.alloc (.cells (stCells x A cap) 54)).drewN nq = w1 at *
  have hmv := moves_any w1 base b _ d HR2.out hf
  rw [hm] at hmv
  have HMV := Lib.hid hmv
  clear hmv hm
  go_wp2_with (go_at_call 39; refine HMV.out.mono ?_; rintro e w2 ⟨rfl, hr3, hO3⟩)
  go_ret
  exact ⟨rfl, ⟨_, hr3, .inl rfl⟩, HO2.out.trans hO3 (.inl rfl)⟩

set_option maxRecDepth 10000 in
set_option maxHeartbeats 4000000 in
theorem do_flush_neg (w : World) (base b : Nat) (v : Value) (d : RD) (h : RDisk w base b v d) (x : ST) (A : Option Addr) (cap : Nat) (hk : x.kind = 2) (hf : -1 ≤ d.fuse ∧ d.fuse ≤ 9223372036854775807) (hbase : base ≤ w.heap.size) (hL : d.s.length ≤ 100000) (hm : movesB d = true) (hth : x.n < 0) :
    Calls Try.prog 25 #[.pointer (some ⟨b, 0, none⟩), .agg (stCells x A cap)] w fun e w' => e = .returned (.int .i64 0) ∧ (∃ v', RDisk w' base b v' (flushD (movesD d)) ∧ (v'.ownBlock = v.ownBlock ∨ ∃ k, v'.ownBlock = some k ∧ w.heap.size ≤ k)) ∧ Own2 w w' b v := by
  have hB := Boxed1.new w x A cap
  have hr := h.on hB.below
  have c0 := hB.c0
  have c1 := hB.c1
  have d0 := hr.c0
  have hO := Own2.of_below hB.below b v
  obtain ⟨AS, cS, rfl⟩ := h.form
  have g0 : decide (0 ≤ x.n) = false := by simp; omega
  go_enter Try.func25, Try.ntmps25
  go_wp2_with fail
  go_quiet (fail)
  have hB2 := hB.drewN nq
  have hr2 := h.on hB2.below
  have e0 := hB2.c0
  have e1 := hB2.c1
  have f0 := hr2.c0
  have f1 := hr2.c1
  have f2 := hr2.c2
  have q1 := hr2.fr 1
  have hO2 := Own2.of_below hB2.below b (.slice AS d.s.length cS)
  have HR2 := Lib.hid hr2
  have HO2 := Lib.hid hO2
  clear hB hr c0 c1 d0 hO hB2 hr2 hO2
  rw [hk] at e0
  generalize (w.alloc (.cells (stCells x A cap) 54)).drewN nq = w1 at *
  have hw1 := HO2.out.size
  have hmv := moves_any w1 base b _ d HR2.out hf
  rw [hm] at hmv
  have HMV := Lib.hid hmv
  clear hmv hm
  go_wp2_with fail
  refine HMV.out.mono ?_
  rintro e w2 ⟨rfl, hr3, hO3⟩
  have hO23 := HO2.out.trans hO3 (.inl rfl)
  have hsl : (movesD d).s.length = d.s.length := by rw [movesD_s]
  have hw2 := hO3.size
  clear f0 f1 f2 q1 e0 e1 hO3
  generalize hd1 : movesD d = d1 at *
  have HD1 := Lib.hid hd1
  clear hd1
  go_wp2_with fail
  go_loopw [6] (fun j wr => ∃ i : Nat, i ≤ d1.s.length ∧ j = .int .i64 (i : Int) ∧ RDisk wr base b (.slice AS d.s.length cS) (setD d1 i) ∧ Own2 w wr b (.slice AS d.s.length cS)) (fun j _ => d1.s.length - (intOf j).toNat)
  case atStart => exact ⟨0, Nat.zero_le _, rfl, by rw [setD_zero]; exact hr3, hO23⟩
  case round =>
    obtain ⟨i, hi, rfl, hr, hO⟩ := hrel
    clear hr3 hO23
    have c0 := hr.c0
    have hwr := hO.size
    by_cases hlt : i < d1.s.length
    · have hli : i < (setD d1 i).s.length := by show i < (setN d1.s i).length; rw [setN_len]; exact hlt
      have hnow := now_any wr base b _ _ hr i hli
      have hgi : (setD d1 i).s[i] = d1.s[i] := setN_get d1.s i hlt
      rw [hgi] at hnow
      have HNOW := Lib.hid hnow
      have HNX := Lib.hid (setD_next d1 i hlt)
      have hil : i < d.s.length := by omega
      have HR := Lib.hid hr
      clear hnow hgi hr
      generalize d1.s[i].getLastD 0 = c at *
      go_wp2_with fail
      refine HNOW.out.mono ?_
      rintro e w5 ⟨rfl, k, rfl⟩
      have hb5 := below_drewN (Below.refl wr.heap.size wr) k
      have hset := settle_any (wr.drewN k) base b _ _ (HR.out.on hb5) i hli c (by show base ≤ wr.heap.size; omega)
      rw [HNX.out] at hset
      have HSE := Lib.hid hset
      have hO5 := hO.trans (Own2.of_below hb5 b _) (.inl rfl)
      clear hset hb5 c0 HNOW
      generalize wr.drewN k = w6 at *
      go_wp2_with fail
      refine HSE.out.mono ?_
      rintro e w7 ⟨rfl, hr7, hO7, hk7⟩
      go_wp2
      go_roundw
      case rel => exact ⟨i + 1, hlt, by go_num, hr7, hO5.trans hO7 (.inl rfl)⟩
      case measure => simp [intOf]; omega
    · obtain rfl : i = d1.s.length := by omega
      rw [setD_all] at hr
      have HR := Lib.hid hr
      clear hr
      go_wp2
      go_ret
      exact ⟨rfl, ⟨_, by rw [HD1.out]; exact HR.out, .inl rfl⟩, hO⟩

set_option maxRecDepth 10000 in
set_option maxHeartbeats 4000000 in
theorem do_flush_no_in (w : World) (base b : Nat) (v : Value) (d : RD) (h : RDisk w base b v d) (x : ST) (A : Option Addr) (cap : Nat) (hk : x.kind = 2) (hf : -1 ≤ d.fuse ∧ d.fuse ≤ 9223372036854775807) (hm : movesB d = false) (hth : 0 ≤ x.n ∧ x.n < (d.s.length : Int)) :
    Calls Try.prog 25 #[.pointer (some ⟨b, 0, none⟩), .agg (stCells x A cap)] w fun e w' => e = .returned (.int .i64 10) ∧ (∃ v', RDisk w' base b v' (movesD d) ∧ (v'.ownBlock = v.ownBlock ∨ ∃ k, v'.ownBlock = some k ∧ w.heap.size ≤ k)) ∧ Own2 w w' b v := by
  have hB := Boxed1.new w x A cap
  have hr := h.on hB.below
  have c0 := hB.c0
  have c1 := hB.c1
  have d0 := hr.c0
  have hO := Own2.of_below hB.below b v
  obtain ⟨AS, cS, rfl⟩ := h.form
  have g0 : decide (0 ≤ x.n) = true := by simp; omega
  have g1 : decide (x.n < (d.s.length : Int)) = true := by simp; omega
  go_enter Try.func25, Try.ntmps25
  go_wp2_with fail
  go_quiet (fail)
  have hB2 := hB.drewN nq
  have hr2 := h.on hB2.below
  have e0 := hB2.c0
  have e1 := hB2.c1
  have f0 := hr2.c0
  have f1 := hr2.c1
  have f2 := hr2.c2
  have q1 := hr2.fr 1
  have hO2 := Own2.of_below hB2.below b (.slice AS d.s.length cS)
  have HR2 := Lib.hid hr2
  have HO2 := Lib.hid hO2
  clear hB hr c0 c1 d0 hO hB2 hr2 hO2
  rw [hk] at e0
  generalize (w.alloc (.cells (stCells x A cap) 54)).drewN nq = w1 at *
  have hmv := moves_any w1 base b _ d HR2.out hf
  rw [hm] at hmv
  have HMV := Lib.hid hmv
  clear hmv hm
  go_wp2_with (go_at_call 39; refine HMV.out.mono ?_; rintro e w2 ⟨rfl, hr3, hO3⟩)
  go_ret
  exact ⟨rfl, ⟨_, hr3, .inl rfl⟩, HO2.out.trans hO3 (.inl rfl)⟩

set_option maxRecDepth 10000 in
set_option maxHeartbeats 4000000 in
theorem do_flush_in (w : World) (base b : Nat) (v : Value) (d : RD) (h : RDisk w base b v d) (x : ST) (A : Option Addr) (cap : Nat) (hk : x.kind = 2) (hf : -1 ≤ d.fuse ∧ d.fuse ≤ 9223372036854775807) (hbase : base ≤ w.heap.size) (hL : d.s.length ≤ 100000) (hm : movesB d = true) (hth : 0 ≤ x.n ∧ x.n < (d.s.length : Int)) :
    Calls Try.prog 25 #[.pointer (some ⟨b, 0, none⟩), .agg (stCells x A cap)] w fun e w' => e = .returned (.int .i64 0) ∧ (∃ v', RDisk w' base b v' (flushD (movesD d)) ∧ (v'.ownBlock = v.ownBlock ∨ ∃ k, v'.ownBlock = some k ∧ w.heap.size ≤ k)) ∧ Own2 w w' b v := by
  have hB := Boxed1.new w x A cap
  have hr := h.on hB.below
  have c0 := hB.c0
  have c1 := hB.c1
  have d0 := hr.c0
  have hO := Own2.of_below hB.below b v
  obtain ⟨AS, cS, rfl⟩ := h.form
  have g0 : decide (0 ≤ x.n) = true := by simp; omega
  have g1 : decide (x.n < (d.s.length : Int)) = true := by simp; omega
  go_enter Try.func25, Try.ntmps25
  go_wp2_with fail
  go_quiet (fail)
  have hB2 := hB.drewN nq
  have hr2 := h.on hB2.below
  have e0 := hB2.c0
  have e1 := hB2.c1
  have f0 := hr2.c0
  have f1 := hr2.c1
  have f2 := hr2.c2
  have q1 := hr2.fr 1
  have hO2 := Own2.of_below hB2.below b (.slice AS d.s.length cS)
  have HR2 := Lib.hid hr2
  have HO2 := Lib.hid hO2
  clear hB hr c0 c1 d0 hO hB2 hr2 hO2
  rw [hk] at e0
  generalize (w.alloc (.cells (stCells x A cap) 54)).drewN nq = w1 at *
  have hw1 := HO2.out.size
  have hmv := moves_any w1 base b _ d HR2.out hf
  rw [hm] at hmv
  have HMV := Lib.hid hmv
  clear hmv hm
  go_wp2_with fail
  refine HMV.out.mono ?_
  rintro e w2 ⟨rfl, hr3, hO3⟩
  have hO23 := HO2.out.trans hO3 (.inl rfl)
  have hsl : (movesD d).s.length = d.s.length := by rw [movesD_s]
  have hw2 := hO3.size
  clear f0 f1 f2 q1 e0 e1 hO3
  generalize hd1 : movesD d = d1 at *
  have HD1 := Lib.hid hd1
  clear hd1
  go_wp2_with fail
  go_loopw [6] (fun j wr => ∃ i : Nat, i ≤ d1.s.length ∧ j = .int .i64 (i : Int) ∧ RDisk wr base b (.slice AS d.s.length cS) (setD d1 i) ∧ Own2 w wr b (.slice AS d.s.length cS)) (fun j _ => d1.s.length - (intOf j).toNat)
  case atStart => exact ⟨0, Nat.zero_le _, rfl, by rw [setD_zero]; exact hr3, hO23⟩
  case round =>
    obtain ⟨i, hi, rfl, hr, hO⟩ := hrel
    clear hr3 hO23
    have c0 := hr.c0
    have hwr := hO.size
    by_cases hlt : i < d1.s.length
    · have hli : i < (setD d1 i).s.length := by show i < (setN d1.s i).length; rw [setN_len]; exact hlt
      have hnow := now_any wr base b _ _ hr i hli
      have hgi : (setD d1 i).s[i] = d1.s[i] := setN_get d1.s i hlt
      rw [hgi] at hnow
      have HNOW := Lib.hid hnow
      have HNX := Lib.hid (setD_next d1 i hlt)
      have hil : i < d.s.length := by omega
      have HR := Lib.hid hr
      clear hnow hgi hr
      generalize d1.s[i].getLastD 0 = c at *
      go_wp2_with fail
      refine HNOW.out.mono ?_
      rintro e w5 ⟨rfl, k, rfl⟩
      have hb5 := below_drewN (Below.refl wr.heap.size wr) k
      have hset := settle_any (wr.drewN k) base b _ _ (HR.out.on hb5) i hli c (by show base ≤ wr.heap.size; omega)
      rw [HNX.out] at hset
      have HSE := Lib.hid hset
      have hO5 := hO.trans (Own2.of_below hb5 b _) (.inl rfl)
      clear hset hb5 c0 HNOW
      generalize wr.drewN k = w6 at *
      go_wp2_with fail
      refine HSE.out.mono ?_
      rintro e w7 ⟨rfl, hr7, hO7, hk7⟩
      go_wp2
      go_roundw
      case rel => exact ⟨i + 1, hlt, by go_num, hr7, hO5.trans hO7 (.inl rfl)⟩
      case measure => simp [intOf]; omega
    · obtain rfl : i = d1.s.length := by omega
      rw [setD_all] at hr
      have HR := Lib.hid hr
      clear hr
      go_wp2
      go_ret
      exact ⟨rfl, ⟨_, by rw [HD1.out]; exact HR.out, .inl rfl⟩, hO⟩

set_option maxRecDepth 10000 in
set_option maxHeartbeats 4000000 in
theorem do_flush_no_out (w : World) (base b : Nat) (v : Value) (d : RD) (h : RDisk w base b v d) (x : ST) (A : Option Addr) (cap : Nat) (hk : x.kind = 2) (hf : -1 ≤ d.fuse ∧ d.fuse ≤ 9223372036854775807) (hm : movesB d = false) (hth : (d.s.length : Int) ≤ x.n) :
    Calls Try.prog 25 #[.pointer (some ⟨b, 0, none⟩), .agg (stCells x A cap)] w fun e w' => e = .returned (.int .i64 10) ∧ (∃ v', RDisk w' base b v' (movesD d) ∧ (v'.ownBlock = v.ownBlock ∨ ∃ k, v'.ownBlock = some k ∧ w.heap.size ≤ k)) ∧ Own2 w w' b v := by
  have hB := Boxed1.new w x A cap
  have hr := h.on hB.below
  have c0 := hB.c0
  have c1 := hB.c1
  have d0 := hr.c0
  have hO := Own2.of_below hB.below b v
  obtain ⟨AS, cS, rfl⟩ := h.form
  have g0 : decide (0 ≤ x.n) = true := by simp; omega
  have g1 : decide (x.n < (d.s.length : Int)) = false := by simp; omega
  go_enter Try.func25, Try.ntmps25
  go_wp2_with fail
  go_quiet (fail)
  have hB2 := hB.drewN nq
  have hr2 := h.on hB2.below
  have e0 := hB2.c0
  have e1 := hB2.c1
  have f0 := hr2.c0
  have f1 := hr2.c1
  have f2 := hr2.c2
  have q1 := hr2.fr 1
  have hO2 := Own2.of_below hB2.below b (.slice AS d.s.length cS)
  have HR2 := Lib.hid hr2
  have HO2 := Lib.hid hO2
  clear hB hr c0 c1 d0 hO hB2 hr2 hO2
  rw [hk] at e0
  generalize (w.alloc (.cells (stCells x A cap) 54)).drewN nq = w1 at *
  have hmv := moves_any w1 base b _ d HR2.out hf
  rw [hm] at hmv
  have HMV := Lib.hid hmv
  clear hmv hm
  go_wp2_with (go_at_call 39; refine HMV.out.mono ?_; rintro e w2 ⟨rfl, hr3, hO3⟩)
  go_ret
  exact ⟨rfl, ⟨_, hr3, .inl rfl⟩, HO2.out.trans hO3 (.inl rfl)⟩

set_option maxRecDepth 10000 in
set_option maxHeartbeats 4000000 in
theorem do_flush_out (w : World) (base b : Nat) (v : Value) (d : RD) (h : RDisk w base b v d) (x : ST) (A : Option Addr) (cap : Nat) (hk : x.kind = 2) (hf : -1 ≤ d.fuse ∧ d.fuse ≤ 9223372036854775807) (hbase : base ≤ w.heap.size) (hL : d.s.length ≤ 100000) (hm : movesB d = true) (hth : (d.s.length : Int) ≤ x.n) :
    Calls Try.prog 25 #[.pointer (some ⟨b, 0, none⟩), .agg (stCells x A cap)] w fun e w' => e = .returned (.int .i64 0) ∧ (∃ v', RDisk w' base b v' (flushD (movesD d)) ∧ (v'.ownBlock = v.ownBlock ∨ ∃ k, v'.ownBlock = some k ∧ w.heap.size ≤ k)) ∧ Own2 w w' b v := by
  have hB := Boxed1.new w x A cap
  have hr := h.on hB.below
  have c0 := hB.c0
  have c1 := hB.c1
  have d0 := hr.c0
  have hO := Own2.of_below hB.below b v
  obtain ⟨AS, cS, rfl⟩ := h.form
  have g0 : decide (0 ≤ x.n) = true := by simp; omega
  have g1 : decide (x.n < (d.s.length : Int)) = false := by simp; omega
  go_enter Try.func25, Try.ntmps25
  go_wp2_with fail
  go_quiet (fail)
  have hB2 := hB.drewN nq
  have hr2 := h.on hB2.below
  have e0 := hB2.c0
  have e1 := hB2.c1
  have f0 := hr2.c0
  have f1 := hr2.c1
  have f2 := hr2.c2
  have q1 := hr2.fr 1
  have hO2 := Own2.of_below hB2.below b (.slice AS d.s.length cS)
  have HR2 := Lib.hid hr2
  have HO2 := Lib.hid hO2
  clear hB hr c0 c1 d0 hO hB2 hr2 hO2
  rw [hk] at e0
  generalize (w.alloc (.cells (stCells x A cap) 54)).drewN nq = w1 at *
  have hw1 := HO2.out.size
  have hmv := moves_any w1 base b _ d HR2.out hf
  rw [hm] at hmv
  have HMV := Lib.hid hmv
  clear hmv hm
  go_wp2_with fail
  refine HMV.out.mono ?_
  rintro e w2 ⟨rfl, hr3, hO3⟩
  have hO23 := HO2.out.trans hO3 (.inl rfl)
  have hsl : (movesD d).s.length = d.s.length := by rw [movesD_s]
  have hw2 := hO3.size
  clear f0 f1 f2 q1 e0 e1 hO3
  generalize hd1 : movesD d = d1 at *
  have HD1 := Lib.hid hd1
  clear hd1
  go_wp2_with fail
  go_loopw [6] (fun j wr => ∃ i : Nat, i ≤ d1.s.length ∧ j = .int .i64 (i : Int) ∧ RDisk wr base b (.slice AS d.s.length cS) (setD d1 i) ∧ Own2 w wr b (.slice AS d.s.length cS)) (fun j _ => d1.s.length - (intOf j).toNat)
  case atStart => exact ⟨0, Nat.zero_le _, rfl, by rw [setD_zero]; exact hr3, hO23⟩
  case round =>
    obtain ⟨i, hi, rfl, hr, hO⟩ := hrel
    clear hr3 hO23
    have c0 := hr.c0
    have hwr := hO.size
    by_cases hlt : i < d1.s.length
    · have hli : i < (setD d1 i).s.length := by show i < (setN d1.s i).length; rw [setN_len]; exact hlt
      have hnow := now_any wr base b _ _ hr i hli
      have hgi : (setD d1 i).s[i] = d1.s[i] := setN_get d1.s i hlt
      rw [hgi] at hnow
      have HNOW := Lib.hid hnow
      have HNX := Lib.hid (setD_next d1 i hlt)
      have hil : i < d.s.length := by omega
      have HR := Lib.hid hr
      clear hnow hgi hr
      generalize d1.s[i].getLastD 0 = c at *
      go_wp2_with fail
      refine HNOW.out.mono ?_
      rintro e w5 ⟨rfl, k, rfl⟩
      have hb5 := below_drewN (Below.refl wr.heap.size wr) k
      have hset := settle_any (wr.drewN k) base b _ _ (HR.out.on hb5) i hli c (by show base ≤ wr.heap.size; omega)
      rw [HNX.out] at hset
      have HSE := Lib.hid hset
      have hO5 := hO.trans (Own2.of_below hb5 b _) (.inl rfl)
      clear hset hb5 c0 HNOW
      generalize wr.drewN k = w6 at *
      go_wp2_with fail
      refine HSE.out.mono ?_
      rintro e w7 ⟨rfl, hr7, hO7, hk7⟩
      go_wp2
      go_roundw
      case rel => exact ⟨i + 1, hlt, by go_num, hr7, hO5.trans hO7 (.inl rfl)⟩
      case measure => simp [intOf]; omega
    · obtain rfl : i = d1.s.length := by omega
      rw [setD_all] at hr
      have HR := Lib.hid hr
      clear hr
      go_wp2
      go_ret
      exact ⟨rfl, ⟨_, by rw [HD1.out]; exact HR.out, .inl rfl⟩, hO⟩
end Go.Proofs.Ytdcfplfeagpcdaa
