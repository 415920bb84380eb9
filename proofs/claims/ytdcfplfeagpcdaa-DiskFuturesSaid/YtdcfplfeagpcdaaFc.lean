/- The law's step on the program's disk. -/
import Derived.Test.YtdcfplfeagpcdaaFb
set_option linter.unusedVariables false
namespace Go.Proofs.Ytdcfplfeagpcdaa
open Go.RowKit

theorem num_any (n : Int) (w : World) : Calls Try.prog 19 #[.int .i64 n] w fun e w' => e = .returned (.int .i64 n) ∧ w = w' := by
  go_enter Try.func19, Try.ntmps19
  go_wp2
  go_ret
  exact ⟨rfl, rfl⟩
theorem PDone.behind {w wb : World} {F : Nat → Prop} {b : Nat} {er : Int} {d' : RD} {e : Ending} {w' : World} (hb : Below w.heap.size w wb) (h : PDone wb F b er d' e w') : PDone w F b er d' e w' := by
  obtain ⟨he, F', h1, h2, h3⟩ := h
  exact ⟨he, F', h1, fun k hk => (h2 k hk).imp_right (fun h => Nat.le_trans hb.size h), (Stays.of_below hb F).trans h3 (fun _ hk => .inl hk)⟩
theorem full_sec (c : UInt8) (w : World) : Calls Try.prog 24 #[.int .u8 (c.toNat : Int)] w fun e w' => e = .returned (.agg (sec c).toArray) ∧ Below w.heap.size w w' := full_any c w
theorem kind_not {w : World} {F : Nat → Prop} {b : Nat} {d : RD} (h : PD w F b d) {k : Nat} {cs : Array Value} {t : TypeId} {fr : Nat × Nat} (hk : w.heap[k]? = some (.cells cs t fr)) (h1 : t ≠ 70) (h2 : t ≠ 38) : ¬ F k := fun hF => PKind.not hk h1 h2 (h.kind hF)

set_option maxRecDepth 10000 in
set_option maxHeartbeats 1000000 in
theorem pdo_write (w : World) (F : Nat → Prop) (b : Nat) (d : RD) (h : PD w F b d) (x : ST) (A : Option Addr) (cap : Nat) (hk : x.kind = 1) (hl : ∀ i (hi : i < d.s.length), d.s[i].length < 1000000) :
    Calls Try.prog 21 #[.pointer (some ⟨b, 0, none⟩), .agg (stCells x A cap)] w (PDone w F b (wrR d x.n) (wrD d x.n x.fill)) := by
  have hB := Boxed1.new w x A cap
  have c0 := hB.c0
  rw [hk] at c0
  have HB := Lib.hid hB
  have H := Lib.hid h
  clear hB h
  go_enter Try.func21, Try.ntmps21
  go_wp2
  generalize w.alloc (.cells (stCells x A cap) 54) = w1 at *
  have hbx := HB.out.box
  have hxlt := (Array.getElem?_eq_some_iff.1 hbx).1
  have hkeep : ∀ W : World, W.heap[w.heap.size]? = w1.heap[w.heap.size]? → W.cell? ⟨w.heap.size, 1, none⟩ = some (.int .i64 x.n) ∧ W.cell? ⟨w.heap.size, 2, none⟩ = some (.int .u8 (x.fill.toNat : Int)) := fun W e1 =>
    ⟨by rw [World.cell?_of_block (a := ⟨w.heap.size, 1, none⟩) e1]; exact HB.out.c1, by rw [World.cell?_of_block (a := ⟨w.heap.size, 2, none⟩) e1]; exact HB.out.c2⟩
  have hbd : Below w1.heap.size w1 w1.drew := (Below.refl _ _).drew
  have HS0 := Lib.hid (hkeep w1.drew rfl)
  have HFU := Lib.hid (fun (W : World) (hW : Below w1.heap.size w1 W) => (full_sec x.fill W).mono (R' := fun e w' => e = .returned (.agg (sec x.fill).toArray) ∧ (w'.cell? ⟨w.heap.size, 1, none⟩ = some (.int .i64 x.n) ∧ w'.cell? ⟨w.heap.size, 2, none⟩ = some (.int .u8 (x.fill.toNat : Int))) ∧ Hid (Below w1.heap.size w1 w')) (fun e w' ⟨he, hb⟩ =>
    ⟨he, hkeep w' ((hb.block _ (Nat.lt_of_lt_of_le hxlt hW.size)).trans (hW.block _ hxlt)), hW.trans (hb.mono hW.size)⟩))
  have HWR := Lib.hid (fun (W : World) (hW : Below w1.heap.size w1 W) => (pd_write W F b d ((H.out.below HB.out.below).below hW) x.n x.fill hl).mono (R' := fun e w' => e = .returned (.int .i64 (wrR d x.n)) ∧ (w'.cell? ⟨w.heap.size, 1, none⟩ = some (.int .i64 x.n) ∧ w'.cell? ⟨w.heap.size, 2, none⟩ = some (.int .u8 (x.fill.toNat : Int))) ∧ Hid (PDone w F b (wrR d x.n) (wrD d x.n x.fill) (.returned (.int .i64 (wrR d x.n))) w')) (fun e w' hp =>
    ⟨hp.1, hkeep w' (by
      obtain ⟨_, F', _, _, hS⟩ := hp
      have hbW : W.heap[w.heap.size]? = w1.heap[w.heap.size]? := hW.block _ hxlt
      rw [hS.block _ (Nat.lt_of_lt_of_le hxlt hW.size) (kind_not ((H.out.below HB.out.below).below hW) (hbW.trans hbx) (by decide) (by decide)), hbW]), by
      have h2 := hp.behind (HB.out.below.trans (hW.mono HB.out.below.size))
      rw [hp.1] at h2
      exact h2⟩))
  have HBD := Lib.hid hbd
  clear hbx hkeep hbd c0
  go_region_held_law (fun w' => w'.cell? ⟨w.heap.size, 1, none⟩ = some (.int .i64 x.n) ∧ w'.cell? ⟨w.heap.size, 2, none⟩ = some (.int .u8 (x.fill.toNat : Int)))
    (first | with_reducible exact HS0.out | with_reducible exact hSb | with_reducible exact hSa)
    (first
      | (go_at_call 24; (with_reducible refine (HFU.out _ HBD.out).mono ?_); rintro e wa ⟨rfl, hSa, hba⟩)
      | (go_at_call 23; (with_reducible refine (HWR.out _ hba.out).mono ?_); rintro e wb ⟨rfl, hSb, HP⟩)
      | (go_at_call 19; (with_reducible refine (num_any _ _).mono ?_); rintro e wc ⟨rfl, rfl⟩))
  go_wp2
  go_ret
  exact HP.out
theorem nums_one (l : List Int) : ∀ u ∈ nums l, u.oneCell' = true := by
  intro u hu
  simp only [nums, List.mem_map] at hu
  obtain ⟨b, _, rfl⟩ := hu
  rfl

set_option maxRecDepth 10000 in
set_option maxHeartbeats 1000000 in
theorem pdo_flush (w : World) (F : Nat → Prop) (b : Nat) (d : RD) (h : PD w F b d) (x : ST) (A : Option Addr) (cap : Nat) (hk : x.kind = 2) :
    Calls Try.prog 21 #[.pointer (some ⟨b, 0, none⟩), .agg (stCells x A cap)] w (PDone w F b (flR d) (flD d)) := by
  have hB := Boxed1.new w x A cap
  have c0 := hB.c0
  have c1 := hB.c1
  have c3 := hB.c3
  rw [hk] at c0
  have HB := Lib.hid hB
  have H := Lib.hid h
  clear hB h
  have HC := Lib.hid (pd_flush _ F b d (H.out.below HB.out.below))
  go_enter Try.func21, Try.ntmps21
  go_wp2_with (first
    | (go_at_call 22; (with_reducible refine HC.out.mono ?_); rintro e w2 hp; have HP := Lib.hid hp; obtain ⟨rfl, _⟩ := hp)
    | (go_at_call 19; (with_reducible refine (num_any _ _).mono ?_); rintro e wc ⟨rfl, rfl⟩))
  go_ret
  exact PDone.behind HB.out.below HP.out

set_option maxRecDepth 10000 in
set_option maxHeartbeats 1000000 in
theorem pdo_fuse (w : World) (F : Nat → Prop) (b : Nat) (d : RD) (h : PD w F b d) (x : ST) (A : Option Addr) (cap : Nat) (hk : x.kind = 3) (hn : x.n ≤ 9223372036854775807) :
    Calls Try.prog 21 #[.pointer (some ⟨b, 0, none⟩), .agg (stCells x A cap)] w (PDone w F b (fuR x.n) (fuD d x.n)) := by
  have hB := Boxed1.new w x A cap
  have c0 := hB.c0
  have c1 := hB.c1
  have c3 := hB.c3
  rw [hk] at c0
  have HB := Lib.hid hB
  have H := Lib.hid h
  clear hB h
  have HC := Lib.hid (pd_fuse _ F b d (H.out.below HB.out.below) x.n hn)
  go_enter Try.func21, Try.ntmps21
  go_wp2_with (first
    | (go_at_call 20; (with_reducible refine HC.out.mono ?_); rintro e w2 hp; have HP := Lib.hid hp; obtain ⟨rfl, _⟩ := hp)
    | (go_at_call 19; (with_reducible refine (num_any _ _).mono ?_); rintro e wc ⟨rfl, rfl⟩))
  go_ret
  exact PDone.behind HB.out.below HP.out

set_option maxRecDepth 10000 in
set_option maxHeartbeats 1000000 in
theorem pdo_grow (w : World) (F : Nat → Prop) (b : Nat) (d : RD) (h : PD w F b d) (x : ST) (A : Option Addr) (cap : Nat) (hk : x.kind = 5) :
    Calls Try.prog 21 #[.pointer (some ⟨b, 0, none⟩), .agg (stCells x A cap)] w (PDone w F b (grR d x.n) (grD d x.n)) := by
  have hB := Boxed1.new w x A cap
  have c0 := hB.c0
  have c1 := hB.c1
  have c3 := hB.c3
  rw [hk] at c0
  have HB := Lib.hid hB
  have H := Lib.hid h
  clear hB h
  have HC := Lib.hid (pd_grow _ F b d (H.out.below HB.out.below) x.n)
  go_enter Try.func21, Try.ntmps21
  go_wp2_with (first
    | (go_at_call 37; (with_reducible refine HC.out.mono ?_); rintro e w2 hp; have HP := Lib.hid hp; obtain ⟨rfl, _⟩ := hp)
    | (go_at_call 19; (with_reducible refine (num_any _ _).mono ?_); rintro e wc ⟨rfl, rfl⟩))
  go_ret
  exact PDone.behind HB.out.below HP.out

set_option maxRecDepth 10000 in
set_option maxHeartbeats 1000000 in
theorem pdo_none (w : World) (F : Nat → Prop) (b : Nat) (d : RD) (h : PD w F b d) (x : ST) (A : Option Addr) (cap : Nat) (k1 : (x.kind == 1) = false) (k2 : (x.kind == 2) = false) (k3 : (x.kind == 3) = false) (k4 : (x.kind == 4) = false) (k5 : (x.kind == 5) = false) (k6 : (x.kind == 6) = false) :
    Calls Try.prog 21 #[.pointer (some ⟨b, 0, none⟩), .agg (stCells x A cap)] w (PDone w F b 0 d) := by
  have hB := Boxed1.new w x A cap
  have c0 := hB.c0
  have c1 := hB.c1
  have c3 := hB.c3
  have HB := Lib.hid hB
  have H := Lib.hid h
  clear hB h
  go_enter Try.func21, Try.ntmps21
  go_wp2
  go_ret
  exact PDone.same H.out HB.out.below

set_option maxRecDepth 10000 in
set_option maxHeartbeats 1000000 in
theorem pdo_read (w : World) (F : Nat → Prop) (b : Nat) (d : RD) (h : PD w F b d) (x : ST) (A : Option Addr) (cap : Nat) (hk : x.kind = 6) :
    Calls Try.prog 21 #[.pointer (some ⟨b, 0, none⟩), .agg (stCells x A cap)] w (PDone w F b (rdR d x.n) d) := by
  have hB := Boxed1.new w x A cap
  have c0 := hB.c0
  have c1 := hB.c1
  have c3 := hB.c3
  rw [hk] at c0
  have HB := Lib.hid hB
  have H := Lib.hid h
  clear hB h
  have hzv := zero_sector
  have HC := Lib.hid (pd_read _ F b d (H.out.below HB.out.below) x.n)
  go_enter Try.func21, Try.ntmps21
  go_wp2_with (first
    | (go_at_call 16; (with_reducible refine HC.out.mono ?_); rintro e w2 ⟨rfl, hb2⟩)
    | refine wpList_store_row rfl 38 (.tmp 5) (.tmp 53) rfl w2.heap.size (sec (rdC d x.n)).toArray rfl rfl 38 (cells8 (fullN 0 0)).toArray (heap_alloc_new w2 _) (by rw [sector_sz (rdC d x.n)]; simp) (by rw [size8, fullN_len 0 0 (by omega), List.size_toArray, sec_len]) (all_oneCell_toArray (sec_one _)) ?_
    | (go_at_call 19; (with_reducible refine (num_any _ _).mono ?_); rintro e wc ⟨rfl, rfl⟩))
  go_ret
  have hb3 := HB.out.below.trans (hb2.mono HB.out.below.size)
  exact PDone.same H.out (below_setRow (hb3.alloc hb3.size _) hb3.size _)

set_option maxRecDepth 10000 in
set_option maxHeartbeats 1000000 in
theorem pdo_crash (w : World) (F : Nat → Prop) (b : Nat) (d : RD) (h : PD w F b d) (x : ST) (A : Option Addr) (cap : Nat) (hk : x.kind = 4) (B : Nat) (hp : Shows w w.heap.size A x.picks.length (nums x.picks)) (hpc : x.picks.length ≤ 1000000) :
    Calls Try.prog 21 #[.pointer (some ⟨b, 0, none⟩), .agg (stCells x A cap)] w (PDone w F b 0 (crashD d x.picks)) := by
  have hB := Boxed1.new w x A cap
  have c0 := hB.c0
  have c1 := hB.c1
  have c3 := hB.c3
  rw [hk] at c0
  have HB := Lib.hid hB
  have H := Lib.hid h
  clear hB h
  obtain ⟨i0, hi, hz0, hz1, hz2⟩ := info_parts int_info
  have hsw := (hp.below HB.out.below).wide HB.out.below.size
  go_enter Try.func21, Try.ntmps21
  go_wp2_with (first
    | (at_builtin; refine wpList_append_shows _ rfl (.const (.slice none 0 0)) (.tmp 35) 23 rfl w.heap.size 3 i0 (.int .i64 0) 8 Try.underlying23 hi hz0 hz1 hz2 rfl (.slice none 0 0) 0 [] rfl (World.ownsRow_nil _ _ _ _) _ A x.picks.length cap (nums x.picks) rfl hsw (nums_one _) (by unfold maxLen; omega) (by omega) HB.out.below.size ?_; intro v2 w2 hown2 hg2; rw [Nat.zero_add, List.nil_append] at hown2; obtain ⟨A2, c2, rfl⟩ := row_form hown2)
    | fail)
  have hb2 : Below w.heap.size w w2 := HB.out.below.trans ((hg2.below_from (Nat.le_refl _) (fun k hk => by cases hk)).mono HB.out.below.size)
  have hc := pd_crash w2 F b d (H.out.below hb2) A2 c2 x.picks (Shows.owned hown2) hpc (fun p hA h0 hF => by
    have h1 := H.out.lt hF
    have h2 := (hown2.lt p.block (by rw [hA]; rfl)).1
    omega)
  refine hc.mono ?_
  intro e w3 hp3
  have HP := Lib.hid hp3
  have HB2 := Lib.hid hb2
  obtain ⟨rfl, _⟩ := hp3
  clear hc hb2 hown2 hg2 hsw
  go_wp2_with (first
    | (go_at_call 19; (with_reducible refine (num_any _ _).mono ?_); rintro e wc ⟨rfl, rfl⟩))
  go_ret
  exact PDone.behind HB2.out HP.out

theorem pdo_all (w : World) (F : Nat → Prop) (b : Nat) (d : RD) (h : PD w F b d) (x : ST) (A : Option Addr) (cap : Nat) (hn : x.n ≤ 9223372036854775807) (hl : ∀ i (hi : i < d.s.length), d.s[i].length < 1000000) (hp : Shows w w.heap.size A x.picks.length (nums x.picks)) (hpc : x.picks.length ≤ 1000000) :
    Calls Try.prog 21 #[.pointer (some ⟨b, 0, none⟩), .agg (stCells x A cap)] w (PDone w F b (stR d x) (stD d x)) := by
  unfold stR stD
  by_cases k1 : x.kind = 1
  · rw [if_pos k1, if_pos k1]; exact pdo_write w F b d h x A cap k1 hl
  rw [if_neg k1, if_neg k1]
  by_cases k2 : x.kind = 2
  · rw [if_pos k2, if_pos k2]; exact pdo_flush w F b d h x A cap k2
  rw [if_neg k2, if_neg k2]
  by_cases k3 : x.kind = 3
  · rw [if_pos k3, if_pos k3]; exact pdo_fuse w F b d h x A cap k3 hn
  rw [if_neg k3, if_neg k3]
  by_cases k4 : x.kind = 4
  · rw [if_pos k4, if_pos k4]; exact pdo_crash w F b d h x A cap k4 w.heap.size hp hpc
  rw [if_neg k4, if_neg k4]
  by_cases k5 : x.kind = 5
  · rw [if_pos k5, if_pos k5]; exact pdo_grow w F b d h x A cap k5
  rw [if_neg k5, if_neg k5]
  by_cases k6 : x.kind = 6
  · rw [if_pos k6]; exact pdo_read w F b d h x A cap k6
  rw [if_neg k6]
  exact pdo_none w F b d h x A cap (bool_ne k1) (bool_ne k2) (bool_ne k3) (bool_ne k4) (bool_ne k5) (bool_ne k6)
end Go.Proofs.Ytdcfplfeagpcdaa
