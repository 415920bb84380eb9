/- DiskFutures, walked. -/
import Derived.Test.YtdcfplfeagpcdaaHc
import Derived.Test.YtdcfplfeagpcdaaGn
import Derived.Deep.DeepCutAuto
import Derived.Deep.CutBlock
set_option linter.unusedVariables false
namespace Go.Proofs.Ytdcfplfeagpcdaa
open Go.RowKit

theorem BB.ropen {w W : World} {b br : Nat} {d2 : RD} (h : BB w W b br d2 d2) : Calls Try.prog 9 #[.pointer (some ⟨br, 0, none⟩)] W fun e w' => ∃ u, e = .returned u ∧ w'.ownsRow w.heap.size 3 1 u (openL d2).length (ints (openL d2)) ∧ Below W.heap.size W w' := by
  obtain ⟨F, v, h1, h2, h3, h4⟩ := h
  refine (ropen_any W _ br v d2 h3 (by have := h1.n1; omega)).mono fun e w' ⟨u, he, hu, hb⟩ => ⟨u, he, own_low hu h4.size, hb⟩

theorem nums_zeros (picks : List Int) (z : Nat) : nums picks ++ List.replicate z (Value.int .i64 0) = nums (picks ++ List.replicate z 0) := by simp [nums]
structure SX (w W : World) (b br ba bb bc : Nat) (d da db dc : RD) (U : Value) (qx qy : Nat) (x y : UInt8) (g i c : Nat) (AX : Option Addr) (cX : Nat) (ps : List UInt8) : Prop where
  ff : FF w W b br ba bb bc d da db dc U
  bx : W.heap[qx]? = some (.cells (sec x).toArray 38 (0, 0))
  bY : W.heap[qy]? = some (.cells (sec y).toArray 38 (0, 0))
  r0 : W.cell? ⟨br, 0, none⟩ = some (.slice (some ⟨g, 0, none⟩) d.s.length c)
  r1 : W.cell? ⟨g, i, none⟩ = some (.slice AX ps.length cX)
  sh : Shows W W.heap.size AX ps.length (cells8 ps)
  lbr : br < W.heap.size
  lg : g < W.heap.size
theorem SX.below {w W W' : World} {b br ba bb bc : Nat} {d da db dc : RD} {U : Value} {qx qy : Nat} {x y : UInt8} {g i c : Nat} {AX : Option Addr} {cX : Nat} {ps : List UInt8} (h : SX w W b br ba bb bc d da db dc U qx qy x y g i c AX cX ps) (hb : Below W.heap.size W W') : SX w W' b br ba bb bc d da db dc U qx qy x y g i c AX cX ps :=
  ⟨h.ff.below hb, (hb.block qx (Array.getElem?_eq_some_iff.1 h.bx).1).trans h.bx, (hb.block qy (Array.getElem?_eq_some_iff.1 h.bY).1).trans h.bY, (hb.cell h.lbr).trans h.r0, (hb.cell h.lg).trans h.r1, (h.sh.below hb).wide hb.size, Nat.lt_of_lt_of_le h.lbr hb.size, Nat.lt_of_lt_of_le h.lg hb.size⟩
theorem drop_one (picks : List Int) (k : Nat) : ∀ u ∈ (nums picks).drop k, u.oneCell' = true := by
  intro u hu
  have := List.mem_of_mem_drop hu
  simp only [nums, List.mem_map] at this
  obtain ⟨b, _, rfl⟩ := this
  rfl
theorem FF.crashRow {w W2 : World} {b br ba bb bc : Nat} {d da db dc : RD} {U v : Value} {n : Nat} (picks : List Int) (h : FF w W2 b br ba bb bc d da db dc U) (hown : W2.ownsRow w.heap.size 3 1 v n (nums picks)) (hn : picks.length = n) (hpc : picks.length ≤ 1000000) :
    ∃ A c, v = .slice A n c ∧ Calls Try.prog 11 #[.pointer (some ⟨ba, 0, none⟩), .slice A n c] W2 fun e w' => e = .returned (.int .i64 0) ∧ FF w w' b br ba bb bc d (crashD da picks) db dc U := by
  subst hn
  obtain ⟨A, c, rfl⟩ := row_form hown
  have hsh := Shows.owned hown
  refine ⟨A, c, rfl, h.crash A c picks hsh hpc (fun p hA h0 => .inr ?_)⟩
  subst hA
  exact own_int_k hown p.block rfl

set_option maxRecDepth 10000 in
set_option maxHeartbeats 4000000 in
theorem futures_law (w : World) (n : Int) (A : Option Addr) (cap : Nat) (l : List ST) (hv : SRow w w.heap.size A l) (hl : ∀ s ∈ l, s.ok) (hlen : l.length ≤ 9223372036854775807) (P : Option Addr) (pc : Nat) (picks : List Int) (hp : Shows w w.heap.size P picks.length (nums picks)) (hpl : picks.length ≤ pc) (hpc : pc ≤ 9223372036854775807) (pick : Int) :
    Calls Try.prog 3 #[.int .i64 n, .slice A l.length cap, .slice P picks.length pc, .int .i64 pick] w fun e w' => e = .returned (.bool true) ∧ Below w.heap.size w w' := by
  have hK := Lib.hid (known_b w w (Below.refl _ _))
  have hM : Hid (Calls Try.prog 6 #[.slice A l.length cap, .int .i64 40] w fun e w' => e = .returned (.bool (muchS l 40)) ∧ w = w') := much_any A cap l 40 w w.heap.size hv hlen
  by_cases c1 : n < 1
  · skip
    clear hv hp hl
    go_enter Try.func3, Try.ntmps3
    go_wp2_with (first
      | (go_at_call 7; (with_reducible refine hK.out.mono ?_); rintro e w1 ⟨rfl, hb1⟩)
      | (go_at_call 6; (with_reducible refine hM.out.mono ?_); rintro e wc ⟨rfl, rfl⟩)
      | fail)
    go_ret
    exact ⟨rfl, hb1⟩
  have c1' : 1 ≤ n := by omega
  by_cases c2 : 12 < n
  · skip
    clear hv hp hl
    go_enter Try.func3, Try.ntmps3
    go_wp2_with (first
      | (go_at_call 7; (with_reducible refine hK.out.mono ?_); rintro e w1 ⟨rfl, hb1⟩)
      | (go_at_call 6; (with_reducible refine hM.out.mono ?_); rintro e wc ⟨rfl, rfl⟩)
      | fail)
    go_ret
    exact ⟨rfl, hb1⟩
  have c2' : n ≤ 12 := by omega
  by_cases c3 : muchS l 40 = true
  · rw [c3] at hM
    clear hv hp hl
    go_enter Try.func3, Try.ntmps3
    go_wp2_with (first
      | (go_at_call 7; (with_reducible refine hK.out.mono ?_); rintro e w1 ⟨rfl, hb1⟩)
      | (go_at_call 6; (with_reducible refine hM.out.mono ?_); rintro e wc ⟨rfl, rfl⟩)
      | fail)
    go_ret
    exact ⟨rfl, hb1⟩
  obtain ⟨hl40, hbad⟩ := muchS_no (by simpa using c3)
  rw [show muchS l 40 = false by simpa using c3] at hM
  by_cases c5 : 30 < picks.length
  · have c5I : (30 : Int) < (picks.length : Int) := by omega
    clear hv hp hl
    go_enter Try.func3, Try.ntmps3
    go_wp2_with (first
      | (go_at_call 7; (with_reducible refine hK.out.mono ?_); rintro e w1 ⟨rfl, hb1⟩)
      | (go_at_call 6; (with_reducible refine hM.out.mono ?_); rintro e wc ⟨rfl, rfl⟩)
      | fail)
    go_ret
    exact ⟨rfl, hb1⟩
  have c5I : (picks.length : Int) ≤ 30 := by omega
  obtain ⟨m, rfl⟩ := Int.eq_ofNat_of_zero_le (show 0 ≤ n by omega)
  have hm12 : 1 ≤ m ∧ m ≤ 8192 := by omega
  have HPR := Lib.hid (pair_any w m A cap l hm12 hv hl (by omega) hbad)
  have HFI := Lib.hid (runD_fine m hm12 l hl l.length (Nat.le_refl _))
  have HP5 := Lib.hid (show picks.length ≤ 1000000 by omega)
  have HP := Lib.hid hp
  have HPL := Lib.hid (show picks.length ≤ 30 by omega)
  rw [List.take_length] at HFI
  generalize runD (newD m) l = d at *
  clear hv hp hl hbad c1 c2 c3 c5
  go_enter Try.func3, Try.ntmps3
  go_upto_region 11 with (first
    | (go_at_call 6; (with_reducible refine hM.out.mono ?_); rintro e wc ⟨rfl, rfl⟩)
    | (go_at_call 8; (with_reducible refine HPR.out.mono ?_); rintro e w2 ⟨b, br, rfl, h2⟩)
    | (go_at_call 9; (with_reducible refine h2.ropen.mono ?_); rintro e w3 ⟨U, rfl, hU, hb3⟩; have h3 := h2.below hb3; obtain ⟨AU, cU, rfl⟩ := row_form hU; obtain ⟨F3, hF3⟩ := h3.pd)
    | (go_at_call 10; (with_reducible refine (pd_copy (hF3.below (hb4.trans (hb5.mono hb4.size)))).mono ?_); rintro e w6 ⟨bc, FC, rfl, hFC, hFC0, hb6⟩)
    | (go_at_call 10; (with_reducible refine (pd_copy (hF3.below hb4)).mono ?_); rintro e w5 ⟨bb, FB, rfl, hFB, hFB0, hb5⟩)
    | (go_at_call 10; (with_reducible refine (pd_copy hF3).mono ?_); rintro e w4 ⟨ba, FA, rfl, hFA, hFA0, hb4⟩)
    | (go_at_call 11; have hff := FF.start h3 hU hFA hFA0 hb4 hFB hFB0 hb5 hFC hFC0 hb6; (with_reducible refine (hff.crash P pc picks ((HP.out.below hff.low).wide hff.low.size) HP5.out (fun p hA h0 => .inl (by obtain ⟨p', u, e, hb, _⟩ := HP.out.cell h0; rw [hA] at e; injection e with e; subst e; exact hb))).mono ?_); rintro e w7 ⟨rfl, h7⟩)
    | fail)
  have H7 := Lib.hid h7
  clear h2 hb3 h3 hU hF3 hFA hFA0 hb4 hFB hFB0 hb5 hFC hFC0 hb6 hff h7 HPR hM
  obtain ⟨i0, hi0, hz0, hz1, hz2⟩ := info_parts int_info
  go_cut [] (fun wx => Hid (FF w wx b br ba bb bc d (crashD d picks) (crashD d (pick :: picks.drop 1)) d (.slice AU (openL d).length cU)))
  case first =>
    obtain ⟨k, hmn, hk1, hk2, hkd⟩ : ∃ k : Nat, min (1 : Int) (picks.length : Int) = (k : Int) ∧ k ≤ picks.length ∧ k ≤ 1 ∧ picks.drop k = picks.drop 1 := ⟨min 1 picks.length, by omega, by omega, by omega, by cases picks <;> simp⟩
    have hkI : (k : Int) ≤ (picks.length : Int) := by omega
    have hkp : (k : Int) ≤ (pc : Int) := by omega
    by_cases hq : pc = k
    · subst hq
      have hd0 : picks.drop 1 = [] := by rw [← hkd]; exact List.drop_of_length_le (by omega)
      have HB7 := Lib.hid ((Below.refl w7.heap.size w7).alloc (Nat.le_refl _) (.cells #[.int .i64 pick] 3))
      go_wp2_with (first
        | (at_builtin; refine wpList_append_shows _ rfl (.tmp 67) (.tmp 72) 23 rfl w7.heap.size 3 i0 (.int .i64 0) 8 Try.underlying23 hi0 hz0 hz1 hz2 rfl _ 1 [.int .i64 pick] rfl (World.ownsRow_lit w7 #[.int .i64 pick] 1 (Nat.le_refl _) (by unfold maxLen; omega) rfl) w.heap.size _ 0 _ [] rfl (Shows.empty _ _ _) (by simp) (by have := HPL.out; unfold maxLen; omega) (by have := HPL.out; omega) (by simp) ?_; intro v1 w8 hown1 hg1; have hb8 := HB7.out.grown hg1.by_ HB7.out.size (by intro k hk; have := Option.some.inj hk; simp at this; omega); have hff := (H7.out.below hb8).swapAB; rw [show ([Value.int .i64 pick] ++ []) = nums (pick :: picks.drop 1) by rw [hd0]; rfl] at hown1; obtain ⟨A1, c1, rfl, hcr⟩ := hff.crashRow (pick :: picks.drop 1) (own_low hown1 H7.out.low.size) (by rw [hd0]; rfl) (by rw [hd0]; simp))
        | (go_at_call 11; (with_reducible refine hcr.mono ?_); rintro e w9 ⟨rfl, h9⟩; have H9 := Lib.hid h9.swapAB)
        | fail)
      go_meet
      exact H9
    · have hqb : (pc == k) = false := by simpa using hq
      have HB7 := Lib.hid ((Below.refl w7.heap.size w7).alloc (Nat.le_refl _) (.cells #[.int .i64 pick] 3))
      have hfr := HP.out.from_ (k := k) (cap := pc) hk1 hpl
      rw [if_neg hq] at hfr
      have HFR := Lib.hid (hfr.below (H7.out.low.alloc H7.out.low.size (.cells #[.int .i64 pick] 3)))
      clear hfr
      go_wp2_with (first
        | (at_builtin; refine wpList_append_shows _ rfl (.tmp 67) (.tmp 72) 23 rfl w7.heap.size 3 i0 (.int .i64 0) 8 Try.underlying23 hi0 hz0 hz1 hz2 rfl _ 1 [.int .i64 pick] rfl (World.ownsRow_lit w7 #[.int .i64 pick] 1 (Nat.le_refl _) (by unfold maxLen; omega) rfl) w.heap.size _ _ _ ((nums picks).drop k) rfl HFR.out (drop_one picks k) (by have := HPL.out; unfold maxLen; omega) (by have := HPL.out; omega) (by simp) ?_; intro v1 w8 hown1 hg1; have hb8 := HB7.out.grown hg1.by_ HB7.out.size (by intro k hk; have := Option.some.inj hk; simp at this; omega); have hff := (H7.out.below hb8).swapAB; rw [show ([Value.int .i64 pick] ++ (nums picks).drop k) = nums (pick :: picks.drop 1) by rw [← hkd]; simp [nums, List.map_drop]] at hown1; obtain ⟨A1, c1, rfl, hcr⟩ := hff.crashRow (pick :: picks.drop 1) (own_low hown1 H7.out.low.size) (by rw [← hkd]; simp; omega) (by have := HPL.out; simp; omega))
        | (go_at_call 11; (with_reducible refine hcr.mono ?_); rintro e w9 ⟨rfl, h9⟩; have H9 := Lib.hid h9.swapAB)
        | fail)
      go_meet
      exact H9
  case rest =>
    have H8 := hcut
    clear hcut H7
    have hop : (openL d).length ≤ 8192 := Nat.le_trans (openN_le d _) HFI.out.n1
    have hopI : ((openL d).length : Int) ≤ 8192 := by omega
    obtain ⟨z, hmx, hz⟩ : ∃ z : Nat, max (((openL d).length : Int) - (picks.length : Int)) 0 = (z : Int) ∧ z ≤ 8192 := ⟨(openL d).length - picks.length, by omega, by omega⟩
    have HPW := Lib.hid (HP.out.below H8.out.low)
    go_upto_region 12 with fail
    go_cut [] (fun wx => Hid (FF w wx b br ba bb bc d (crashD d picks) (crashD d (pick :: picks.drop 1)) (crashD d (picks ++ List.replicate z 0)) (.slice AU (openL d).length cU)))
    case first =>
      go_wp2_with (first
        | (at_builtin; refine wpList_append_shows _ rfl (.const (.slice none 0 0)) (.tmp 76) 23 rfl wc.heap.size 3 i0 (.int .i64 0) 8 Try.underlying23 hi0 hz0 hz1 hz2 rfl (.slice none 0 0) 0 [] rfl ⟨rfl, .inl ⟨rfl, rfl⟩⟩ w.heap.size P picks.length pc (nums picks) rfl HPW.out (nums_one _) (by have := HPL.out; unfold maxLen; omega) (by have := HPL.out; omega) (Nat.le_refl _) ?_; intro v1 w8 hown1 hg1; simp only [Nat.zero_add, List.nil_append] at hown1; obtain ⟨A1, c1, rfl⟩ := row_form hown1; obtain ⟨v2, w10, hzr, hown2, hg2⟩ := append_zeros w8 wc.heap.size A1 picks.length c1 (nums picks) 23 hown1 z (by omega) (by have := HPL.out; omega) hg1.by_.size)
        | (at_builtin; refine Lib.wpList_append_run _ rfl _ _ _ _ rfl _ _ rfl rfl _ _ hzr ?_; have hb8 := (Below.refl wc.heap.size wc).grown hg1.by_ (Nat.le_refl _) (by simp [Value.ownBlock]); have hb10 := hb8.grown hg2 hb8.size (fun k hk => (hown1.lt k hk).1); have hff := (H8.out.below hb10).swapAC; rw [nums_zeros] at hown2; obtain ⟨A2, c2, rfl, hcr⟩ := hff.crashRow (picks ++ List.replicate z 0) (own_low hown2 H8.out.low.size) (by simp) (by have := HPL.out; simp; omega))
        | (go_at_call 11; (with_reducible refine hcr.mono ?_); rintro e w9 ⟨rfl, h9⟩; have H9 := Lib.hid h9.swapAC)
        | fail)
      go_meet
      exact H9
    case rest =>
      have H9 := hcut
      rw [crash_zeros] at H9
      clear hcut H8 HPW hmx
      have hpos : ∀ i, i < d.s.length → 0 < (pastN d i).length := fun i hi => by
        obtain ⟨_, _, _, _, _, _, _, _, _, _, h⟩ := H9.out.past i hi
        exact h
      have HOA := Lib.hid (crash_open d picks hpos)
      have HOB := Lib.hid (crash_open d (pick :: picks.drop 1) hpos)
      clear hpos
      go_upto_block 0 with (first
        | (go_at_call 12; (with_reducible refine (H9.out.sameAC rfl).mono ?_); rintro e w11 ⟨rfl, h11⟩)
        | (go_at_call 13; (with_reducible refine (h12.swapAB.openA HOB.out).mono ?_); rintro e w13 ⟨A2, c2, rfl, h13⟩)
        | (go_at_call 13; (with_reducible refine (h11.openA HOA.out).mono ?_); rintro e w12 ⟨A1, c1, rfl, h12⟩)
        | (go_at_call 14; (with_reducible refine h13.swapAB.shows.mono ?_); rintro e w14 ⟨rfl, h14⟩)
        | fail)
      have H14 := Lib.hid h14
      clear h11 h12 h13 h14 HOA HOB H9
      have HSE : Hid (∀ W, FF w W b br ba bb bc d (crashD d picks) (crashD d (pick :: picks.drop 1)) (crashD d picks) (.slice AU (openL d).length cU) → Calls Try.prog 15 #[.pointer (some ⟨ba, 0, none⟩)] W fun e w' => e = .returned (.int .i64 (d.s.length : Int)) ∧ w' = W) := fun W h => h.sectors.mono fun e w' hp => ⟨by rw [hp.1, crash_len], hp.2⟩
      go_wp2_with fail
      go_loopw [15, 16, 17, 18, 19] (fun j x1 f1 x2 f2 wr => ∃ i : Nat, i ≤ d.s.length ∧ j = .int .i64 (i : Int) ∧ Hid (FF w wr b br ba bb bc d (crashD d picks) (crashD d (pick :: picks.drop 1)) (crashD d picks) (.slice AU (openL d).length cU))) (fun j _ _ _ _ _ => d.s.length - (intOf j).toNat)
      case atStart => exact ⟨0, Nat.zero_le _, rfl, H14⟩
      case round =>
        obtain ⟨i, hi, rfl, HR⟩ := hrel
        rename_i wr
        by_cases hlt : i < d.s.length
        · have hltI : (i : Int) < (d.s.length : Int) := by omega
          have hn8 : d.s.length ≤ 8192 := HFI.out.n1
          obtain ⟨g, c, AX, cX, r0, r1, hsh, lbr, lg, hle, hpos⟩ := HR.out.past i hlt
          obtain ⟨x, hx, ex⟩ := crash_mem d picks i hlt hpos
          obtain ⟨y, hy, ey⟩ := crash_mem d (pick :: picks.drop 1) i hlt hpos
          have hother := crash_other d pick picks i
          rw [ex, ey] at hother
          have HOT := Lib.hid hother
          have HXM := Lib.hid hx
          have HYM := Lib.hid hy
          have HLE := Lib.hid hle
          have HSX0 := Lib.hid (show _ ∧ _ ∧ _ ∧ _ ∧ _ from ⟨r0, r1, hsh, lbr, lg⟩)
          have HRA : Hid (∀ W, FF w W b br ba bb bc d (crashD d picks) (crashD d (pick :: picks.drop 1)) (crashD d picks) (.slice AU (openL d).length cU) → Calls Try.prog 16 #[.pointer (some ⟨ba, 0, none⟩), .int .i64 (i : Int)] W fun e w' => e = .returned (.tuple #[.agg (sec x).toArray, .int .i64 0]) ∧ Below W.heap.size W w') := fun W h => (h.read (i : Int)).mono fun e w' hp => ⟨by rw [hp.1, rd_crash d picks i hlt x ex, rr_crash d picks i hlt], hp.2⟩
          have HRB : Hid (∀ W, FF w W b br ba bb bc d (crashD d picks) (crashD d (pick :: picks.drop 1)) (crashD d picks) (.slice AU (openL d).length cU) → Calls Try.prog 16 #[.pointer (some ⟨bb, 0, none⟩), .int .i64 (i : Int)] W fun e w' => e = .returned (.tuple #[.agg (sec y).toArray, .int .i64 0]) ∧ Below W.heap.size W w') := fun W h => (h.swapAB.read (i : Int)).mono fun e w' hp => ⟨by rw [hp.1, rd_crash d (pick :: picks.drop 1) i hlt y ey, rr_crash d (pick :: picks.drop 1) i hlt], hp.2⟩
          have hzv := zero_sector
          clear hother hx hy hle hpos ex ey r0 r1 hsh lbr lg
          generalize pastN d i = ps at *
          go_upto_region 20 with (first
            | (go_at_call 15; (with_reducible refine (HSE.out _ HR.out).mono ?_); rintro e wz ⟨rfl, rfl⟩)
            | (go_at_call 16; (with_reducible refine (HRB.out _ hffa).mono ?_); rintro e w13 ⟨rfl, hb13⟩)
            | (go_at_call 16; (with_reducible refine (HRA.out _ HR.out).mono ?_); rintro e w11 ⟨rfl, hb11⟩; have hffa : FF w (w11.alloc (.cells (sec x).toArray 38)) b br ba bb bc d (crashD d picks) (crashD d (pick :: picks.drop 1)) (crashD d picks) (.slice AU (openL d).length cU) := (HR.out.below hb11).below ((Below.refl _ _).alloc (Nat.le_refl _) _))
            | (refine wpList_store_row rfl 38 (.tmp 16) (.tmp 116) rfl w11.heap.size (sec x).toArray rfl rfl 38 (cells8 (fullN 0 0)).toArray (heap_alloc_new w11 _) (by rw [sector_sz x]; simp) (by rw [size8, fullN_len 0 0 (by omega), List.size_toArray, sec_len]) (all_oneCell_toArray (sec_one _)) ?_; rw [World.setRow_alloc_new])
            | (refine wpList_store_row rfl 38 (.tmp 18) (.tmp 122) rfl w13.heap.size (sec y).toArray rfl rfl 38 (cells8 (fullN 0 0)).toArray (heap_alloc_new w13 _) (by rw [sector_sz y]; simp) (by rw [size8, fullN_len 0 0 (by omega), List.size_toArray, sec_len]) (all_oneCell_toArray (sec_one _)) ?_; rw [World.setRow_alloc_new])
            | fail)
          obtain ⟨r0, r1, hsh, lbr, lg⟩ := HSX0.out
          have hbt1 := hb11.alloc hb11.size (.cells (sec x).toArray 38)
          have hbt2 := hbt1.trans (hb13.mono hbt1.size)
          have hbt := hbt2.alloc hbt2.size (.cells (sec y).toArray 38)
          have HSX : Hid (SX w (w13.alloc (.cells (sec y).toArray 38)) b br ba bb bc d (crashD d picks) (crashD d (pick :: picks.drop 1)) (crashD d picks) (.slice AU (openL d).length cU) w11.heap.size w13.heap.size x y g i c AX cX ps) :=
            ⟨(hffa.below hb13).below ((Below.refl _ _).alloc (Nat.le_refl _) _), (Below.heap_alloc w13 _ w11.heap.size (by have := hb13.size; simp at this; omega)).trans ((hb13.block w11.heap.size (by simp)).trans (heap_alloc_new w11 _)), heap_alloc_new w13 _, (hbt.cell lbr).trans r0, (hbt.cell lg).trans r1, (hsh.below hbt).wide hbt.size, Nat.lt_of_lt_of_le lbr hbt.size, Nat.lt_of_lt_of_le lg hbt.size⟩
          clear r0 r1 hsh lbr lg hbt1 hbt2 hbt hb11 hb13 hffa HSX0 HRA HRB hzv HR
          generalize w13.alloc (.cells (sec y).toArray 38) = w15 at *
          generalize w13.heap.size = qy at *
          generalize w11.heap.size = qx at *
          have HD := Lib.hid (HSX.out.below (Below.refl _ _).drew)
          have HAX : Hid (∀ W, SX w W b br ba bb bc d (crashD d picks) (crashD d (pick :: picks.drop 1)) (crashD d picks) (.slice AU (openL d).length cU) qx qy x y g i c AX cX ps → Calls Try.prog 17 #[.slice AX ps.length cX, .agg (sec x).toArray] W fun e w' => e = .returned (.bool true) ∧ SX w w' b br ba bb bc d (crashD d picks) (crashD d (pick :: picks.drop 1)) (crashD d picks) (.slice AU (openL d).length cU) qx qy x y g i c AX cX ps) := fun W h => (among_any W W.heap.size AX cX ps h.sh (Nat.le_refl _) HLE.out x HXM.out).mono fun e w' hp => ⟨hp.1, h.below hp.2⟩
          have HAY : Hid (∀ W, SX w W b br ba bb bc d (crashD d picks) (crashD d (pick :: picks.drop 1)) (crashD d picks) (.slice AU (openL d).length cU) qx qy x y g i c AX cX ps → Calls Try.prog 17 #[.slice AX ps.length cX, .agg (sec y).toArray] W fun e w' => e = .returned (.bool true) ∧ SX w w' b br ba bb bc d (crashD d picks) (crashD d (pick :: picks.drop 1)) (crashD d picks) (.slice AU (openL d).length cU) qx qy x y g i c AX cX ps) := fun W h => (among_any W W.heap.size AX cX ps h.sh (Nat.le_refl _) HLE.out y HYM.out).mono fun e w' hp => ⟨hp.1, h.below hp.2⟩
          by_cases hxy : x = y
          · have n0 : ∀ w : World, (binOp .neq 38 (.agg (sec x).toArray) (.agg (sec y).toArray)).run Try.prog w = .ok (.bool false) w := fun w => by rw [neq_sec, hxy]; simp
            clear hxy HOT
            refine wp_region_noPanic ?_
            refine wp_region_held_drew (S := fun W => SX w W b br ba bb bc d (crashD d picks) (crashD d (pick :: picks.drop 1)) (crashD d picks) (.slice AU (openL d).length cU) qx qy x y g i c AX cX ps) (by kernel_rfl) (HD.out) (fun hHeld => ?_)
            refine takeN (i := 0) (oi := _) 124 rfl rfl (by kernel_rfl) (by kernel_rfl) (by kernel_rfl) (fun _ _ _ h => h) (yieldsIf_load_mid (by rfl) 38 (.tmp 16) rfl qx 0 rfl (sec x) _ (fun w h => box_range h.bx) sector_u rfl (sector_sz x)) hHeld ?_
            try simp only [Act.put, List.setIfInBounds_toArray, List.set_cons_zero, List.set_cons_succ]
            refine takeN (i := 1) (oi := _) 125 rfl rfl (by kernel_rfl) (by kernel_rfl) (by kernel_rfl) (fun _ _ _ h => h) (yieldsIf_load_mid (by rfl) 38 (.tmp 18) rfl qy 0 rfl (sec y) _ (fun w h => box_range h.bY) sector_u rfl (sector_sz y)) hHeld ?_
            try simp only [Act.put, List.setIfInBounds_toArray, List.set_cons_zero, List.set_cons_succ]
            refine takeN (i := 2) (oi := _) (v := .bool false) 126 rfl rfl (by kernel_rfl) (by kernel_rfl) (by kernel_rfl) (fun _ _ _ h => h) (Or.inl ⟨by rfl, fun w hSw => by go_simp⟩) hHeld ?_
            try simp only [Act.put, List.setIfInBounds_toArray, List.set_cons_zero, List.set_cons_succ]
            refine takeN (i := 3) (oi := _) (v := .bool false) 127 rfl rfl (by kernel_rfl) (by kernel_rfl) (by kernel_rfl) (fun _ _ _ h => h) (Or.inl ⟨by rfl, fun w hSw => by go_simp⟩) hHeld ?_
            try simp only [Act.put, List.setIfInBounds_toArray, List.set_cons_zero, List.set_cons_succ]
            refine takeN (i := 4) (oi := _) (v := undef) 128 rfl rfl (by kernel_rfl) (by kernel_rfl) (by kernel_rfl) (fun _ _ _ h => h) (Or.inr ⟨by rfl, rfl⟩) hHeld ?_
            try simp only [Act.put, List.setIfInBounds_toArray, List.set_cons_zero, List.set_cons_succ]
            refine takeN (i := 5) (oi := _) (v := undef) 129 rfl rfl (by kernel_rfl) (by kernel_rfl) (by kernel_rfl) (fun _ _ _ h => h) (Or.inr ⟨by rfl, rfl⟩) hHeld ?_
            try simp only [Act.put, List.setIfInBounds_toArray, List.set_cons_zero, List.set_cons_succ]
            refine takeN (i := 6) (oi := _) (v := undef) 130 rfl rfl (by kernel_rfl) (by kernel_rfl) (by kernel_rfl) (fun _ _ _ h => h) (Or.inr ⟨by rfl, rfl⟩) hHeld ?_
            try simp only [Act.put, List.setIfInBounds_toArray, List.set_cons_zero, List.set_cons_succ]
            refine takeN (i := 7) (oi := _) (v := undef) 131 rfl rfl (by kernel_rfl) (by kernel_rfl) (by kernel_rfl) (fun _ _ _ h => h) (Or.inr ⟨by rfl, rfl⟩) hHeld ?_
            try simp only [Act.put, List.setIfInBounds_toArray, List.set_cons_zero, List.set_cons_succ]
            refine takeN (i := 8) (oi := _) (v := undef) 132 rfl rfl (by kernel_rfl) (by kernel_rfl) (by kernel_rfl) (fun _ _ _ h => h) (Or.inr ⟨by rfl, rfl⟩) hHeld ?_
            try simp only [Act.put, List.setIfInBounds_toArray, List.set_cons_zero, List.set_cons_succ]
            refine takeN (i := 9) (oi := _) (v := undef) 133 rfl rfl (by kernel_rfl) (by kernel_rfl) (by kernel_rfl) (fun _ _ _ h => h) (Or.inr ⟨by rfl, rfl⟩) hHeld ?_
            try simp only [Act.put, List.setIfInBounds_toArray, List.set_cons_zero, List.set_cons_succ]
            refine takeN (i := 10) (oi := _) (v := undef) 134 rfl rfl (by kernel_rfl) (by kernel_rfl) (by kernel_rfl) (fun _ _ _ h => h) (Or.inr ⟨by rfl, rfl⟩) hHeld ?_
            try simp only [Act.put, List.setIfInBounds_toArray, List.set_cons_zero, List.set_cons_succ]
            refine takeN (i := 11) (oi := _) (v := undef) 135 rfl rfl (by kernel_rfl) (by kernel_rfl) (by kernel_rfl) (fun _ _ _ h => h) (Or.inr ⟨by rfl, rfl⟩) hHeld ?_
            try simp only [Act.put, List.setIfInBounds_toArray, List.set_cons_zero, List.set_cons_succ]
            refine takeN (i := 12) (oi := _) (v := undef) 136 rfl rfl (by kernel_rfl) (by kernel_rfl) (by kernel_rfl) (fun _ _ _ h => h) (Or.inr ⟨by rfl, rfl⟩) hHeld ?_
            try simp only [Act.put, List.setIfInBounds_toArray, List.set_cons_zero, List.set_cons_succ]
            refine takeN (i := 13) (oi := _) (v := undef) 137 rfl rfl (by kernel_rfl) (by kernel_rfl) (by kernel_rfl) (fun _ _ _ h => h) (Or.inr ⟨by rfl, rfl⟩) hHeld ?_
            try simp only [Act.put, List.setIfInBounds_toArray, List.set_cons_zero, List.set_cons_succ]
            refine takeN (i := 14) (oi := _) (v := .bool false) 138 rfl rfl (by kernel_rfl) (by kernel_rfl) (by kernel_rfl) (fun _ _ _ h => h) (Or.inl ⟨by rfl, fun w hSw => by go_simp⟩) hHeld ?_
            try simp only [Act.put, List.setIfInBounds_toArray, List.set_cons_zero, List.set_cons_succ]
            refine takeN (i := 15) (oi := _) (v := .bool false) 139 rfl rfl (by kernel_rfl) (by kernel_rfl) (by kernel_rfl) (fun _ _ _ h => h) (Or.inl ⟨by rfl, fun w hSw => by go_simp⟩) hHeld ?_
            try simp only [Act.put, List.setIfInBounds_toArray, List.set_cons_zero, List.set_cons_succ]
            refine takeN (i := 16) (oi := _) (v := .pointer (some ⟨br, 0, none⟩)) 140 rfl rfl (by kernel_rfl) (by kernel_rfl) (by kernel_rfl) (fun _ _ _ h => h) (Or.inl ⟨by rfl, fun w hSw => by go_simp⟩) hHeld ?_
            try simp only [Act.put, List.setIfInBounds_toArray, List.set_cons_zero, List.set_cons_succ]
            refine takeN (i := 17) (oi := _) (v := .pointer (some ⟨br, 0, none⟩)) 141 rfl rfl (by kernel_rfl) (by kernel_rfl) (by kernel_rfl) (fun _ _ _ h => h) (Or.inl ⟨by rfl, fun w hSw => by go_simp⟩) hHeld ?_
            try simp only [Act.put, List.setIfInBounds_toArray, List.set_cons_zero, List.set_cons_succ]
            refine takeN (i := 18) (oi := _) (v := .pointer (some ⟨br, 0, none⟩)) 142 rfl rfl (by kernel_rfl) (by kernel_rfl) (by kernel_rfl) (fun _ _ _ h => h) (Or.inl ⟨by rfl, fun w hSw => by go_simp⟩) hHeld ?_
            try simp only [Act.put, List.setIfInBounds_toArray, List.set_cons_zero, List.set_cons_succ]
            refine takeN (i := 19) (oi := _) (v := .slice (some ⟨g, 0, none⟩) d.s.length c) 143 rfl rfl (by kernel_rfl) (by kernel_rfl) (by kernel_rfl) (fun _ _ _ h => h) (Or.inl ⟨by rfl, fun w hSw => by have hf := hSw.r0; go_simp⟩) hHeld ?_
            try simp only [Act.put, List.setIfInBounds_toArray, List.set_cons_zero, List.set_cons_succ]
            refine takeN (i := 20) (oi := _) (v := .int .i64 (i : Int)) 144 rfl rfl (by kernel_rfl) (by kernel_rfl) (by kernel_rfl) (fun _ _ _ h => h) (Or.inl ⟨by rfl, fun w hSw => by go_simp⟩) hHeld ?_
            try simp only [Act.put, List.setIfInBounds_toArray, List.set_cons_zero, List.set_cons_succ]
            refine takeN (i := 21) (oi := _) (v := .pointer (some ⟨g, i, none⟩)) 145 rfl rfl (by kernel_rfl) (by kernel_rfl) (by kernel_rfl) (fun _ _ _ h => h) (Or.inl ⟨by rfl, fun w hSw => by go_simp⟩) hHeld ?_
            try simp only [Act.put, List.setIfInBounds_toArray, List.set_cons_zero, List.set_cons_succ]
            refine takeN (i := 22) (oi := _) (v := .pointer (some ⟨g, i, none⟩)) 146 rfl rfl (by kernel_rfl) (by kernel_rfl) (by kernel_rfl) (fun _ _ _ h => h) (Or.inl ⟨by rfl, fun w hSw => by go_simp⟩) hHeld ?_
            try simp only [Act.put, List.setIfInBounds_toArray, List.set_cons_zero, List.set_cons_succ]
            refine takeN (i := 23) (oi := _) (v := .slice AX ps.length cX) 147 rfl rfl (by kernel_rfl) (by kernel_rfl) (by kernel_rfl) (fun _ _ _ h => h) (Or.inl ⟨by rfl, fun w hSw => by have hf := hSw.r1; go_simp⟩) hHeld ?_
            try simp only [Act.put, List.setIfInBounds_toArray, List.set_cons_zero, List.set_cons_succ]
            refine takeN (i := 24) (oi := _) 148 rfl rfl (by kernel_rfl) (by kernel_rfl) (by kernel_rfl) (fun _ _ _ h => h) (yieldsIf_load_mid (by rfl) 38 (.tmp 16) rfl qx 0 rfl (sec x) _ (fun w h => box_range h.bx) sector_u rfl (sector_sz x)) hHeld ?_
            try simp only [Act.put, List.setIfInBounds_toArray, List.set_cons_zero, List.set_cons_succ]
            refine wpAnyH_ready (rs := [25]) (by kernel_rfl) (by simp) ?_
            refine AllReadyH.cons rfl (fun K hK => ?_) AllReadyH.nil
            go_simp
            go_wp2_with (first
              | (go_at_call 17; (with_reducible refine (HAX.out _ hHeld).mono ?_); rintro e wa ⟨rfl, hSa⟩)
              | fail)
            refine hK.out _ _ hSa (fun hHeld => ?_)
            clear hK K hSa
            try simp only [Act.put, List.setIfInBounds_toArray, List.set_cons_zero, List.set_cons_succ]
            refine takeN (i := 26) (oi := _) (v := .bool false) 150 rfl rfl (by kernel_rfl) (by kernel_rfl) (by kernel_rfl) (fun _ _ _ h => h) (Or.inl ⟨by rfl, fun w hSw => by go_simp⟩) hHeld ?_
            try simp only [Act.put, List.setIfInBounds_toArray, List.set_cons_zero, List.set_cons_succ]
            refine takeN (i := 27) (oi := _) (v := .bool false) 151 rfl rfl (by kernel_rfl) (by kernel_rfl) (by kernel_rfl) (fun _ _ _ h => h) (Or.inl ⟨by rfl, fun w hSw => by go_simp⟩) hHeld ?_
            try simp only [Act.put, List.setIfInBounds_toArray, List.set_cons_zero, List.set_cons_succ]
            refine takeN (i := 28) (oi := _) (v := .bool false) 152 rfl rfl (by kernel_rfl) (by kernel_rfl) (by kernel_rfl) (fun _ _ _ h => h) (Or.inl ⟨by rfl, fun w hSw => by go_simp⟩) hHeld ?_
            try simp only [Act.put, List.setIfInBounds_toArray, List.set_cons_zero, List.set_cons_succ]
            refine takeN (i := 29) (oi := _) (v := .pointer (some ⟨br, 0, none⟩)) 153 rfl rfl (by kernel_rfl) (by kernel_rfl) (by kernel_rfl) (fun _ _ _ h => h) (Or.inl ⟨by rfl, fun w hSw => by go_simp⟩) hHeld ?_
            try simp only [Act.put, List.setIfInBounds_toArray, List.set_cons_zero, List.set_cons_succ]
            refine takeN (i := 30) (oi := _) (v := .pointer (some ⟨br, 0, none⟩)) 154 rfl rfl (by kernel_rfl) (by kernel_rfl) (by kernel_rfl) (fun _ _ _ h => h) (Or.inl ⟨by rfl, fun w hSw => by go_simp⟩) hHeld ?_
            try simp only [Act.put, List.setIfInBounds_toArray, List.set_cons_zero, List.set_cons_succ]
            refine takeN (i := 31) (oi := _) (v := .pointer (some ⟨br, 0, none⟩)) 155 rfl rfl (by kernel_rfl) (by kernel_rfl) (by kernel_rfl) (fun _ _ _ h => h) (Or.inl ⟨by rfl, fun w hSw => by go_simp⟩) hHeld ?_
            try simp only [Act.put, List.setIfInBounds_toArray, List.set_cons_zero, List.set_cons_succ]
            refine takeN (i := 32) (oi := _) (v := .slice (some ⟨g, 0, none⟩) d.s.length c) 156 rfl rfl (by kernel_rfl) (by kernel_rfl) (by kernel_rfl) (fun _ _ _ h => h) (Or.inl ⟨by rfl, fun w hSw => by have hf := hSw.r0; go_simp⟩) hHeld ?_
            try simp only [Act.put, List.setIfInBounds_toArray, List.set_cons_zero, List.set_cons_succ]
            refine takeN (i := 33) (oi := _) (v := .int .i64 (i : Int)) 157 rfl rfl (by kernel_rfl) (by kernel_rfl) (by kernel_rfl) (fun _ _ _ h => h) (Or.inl ⟨by rfl, fun w hSw => by go_simp⟩) hHeld ?_
            try simp only [Act.put, List.setIfInBounds_toArray, List.set_cons_zero, List.set_cons_succ]
            refine takeN (i := 34) (oi := _) (v := .pointer (some ⟨g, i, none⟩)) 158 rfl rfl (by kernel_rfl) (by kernel_rfl) (by kernel_rfl) (fun _ _ _ h => h) (Or.inl ⟨by rfl, fun w hSw => by go_simp⟩) hHeld ?_
            try simp only [Act.put, List.setIfInBounds_toArray, List.set_cons_zero, List.set_cons_succ]
            refine takeN (i := 35) (oi := _) (v := .pointer (some ⟨g, i, none⟩)) 159 rfl rfl (by kernel_rfl) (by kernel_rfl) (by kernel_rfl) (fun _ _ _ h => h) (Or.inl ⟨by rfl, fun w hSw => by go_simp⟩) hHeld ?_
            try simp only [Act.put, List.setIfInBounds_toArray, List.set_cons_zero, List.set_cons_succ]
            refine takeN (i := 36) (oi := _) (v := .slice AX ps.length cX) 160 rfl rfl (by kernel_rfl) (by kernel_rfl) (by kernel_rfl) (fun _ _ _ h => h) (Or.inl ⟨by rfl, fun w hSw => by have hf := hSw.r1; go_simp⟩) hHeld ?_
            try simp only [Act.put, List.setIfInBounds_toArray, List.set_cons_zero, List.set_cons_succ]
            refine takeN (i := 37) (oi := _) 161 rfl rfl (by kernel_rfl) (by kernel_rfl) (by kernel_rfl) (fun _ _ _ h => h) (yieldsIf_load_mid (by rfl) 38 (.tmp 18) rfl qy 0 rfl (sec y) _ (fun w h => box_range h.bY) sector_u rfl (sector_sz y)) hHeld ?_
            try simp only [Act.put, List.setIfInBounds_toArray, List.set_cons_zero, List.set_cons_succ]
            refine wpAnyH_ready (rs := [38]) (by kernel_rfl) (by simp) ?_
            refine AllReadyH.cons rfl (fun K hK => ?_) AllReadyH.nil
            go_simp
            go_wp2_with (first
              | (go_at_call 17; (with_reducible refine (HAY.out _ hHeld).mono ?_); rintro e wa ⟨rfl, hSa⟩)
              | fail)
            refine hK.out _ _ hSa (fun hHeld => ?_)
            clear hK K hSa
            try simp only [Act.put, List.setIfInBounds_toArray, List.set_cons_zero, List.set_cons_succ]
            refine takeN (i := 39) (oi := _) (v := .bool false) 163 rfl rfl (by kernel_rfl) (by kernel_rfl) (by kernel_rfl) (fun _ _ _ h => h) (Or.inl ⟨by rfl, fun w hSw => by go_simp⟩) hHeld ?_
            try simp only [Act.put, List.setIfInBounds_toArray, List.set_cons_zero, List.set_cons_succ]
            refine takeN (i := 40) (oi := _) (v := .bool false) 164 rfl rfl (by kernel_rfl) (by kernel_rfl) (by kernel_rfl) (fun _ _ _ h => h) (Or.inl ⟨by rfl, fun w hSw => by go_simp⟩) hHeld ?_
            try simp only [Act.put, List.setIfInBounds_toArray, List.set_cons_zero, List.set_cons_succ]
            refine wpAnyH_done (by kernel_rfl) ?_ _
            refine NoPanic.normal ?_
            have HNX := Lib.hid hHeld.ff
            clear hHeld
            go_wp2_with fail
            go_roundw
            case rel => exact ⟨i + 1, hlt, by go_num, HNX⟩
            case measure => simp [intOf]; omega
          · have n0 : ∀ w : World, (binOp .neq 38 (.agg (sec x).toArray) (.agg (sec y).toArray)).run Try.prog w = .ok (.bool true) w := fun w => by rw [neq_sec, beq_false_of_ne hxy]; rfl
            have ho : ¬ (openL d = [] ∨ (openL d).getD 0 0 ≠ i) := fun h => hxy (by have := HOT.out h; injection this with h1 h2; exact h1.symm)
            have ho1 : 0 < (openL d).length := List.length_pos_iff.2 (fun h => ho (.inl h))
            have ho2 : (openL d).getD 0 0 = i := by
              rcases Nat.decEq ((openL d).getD 0 0) i with h | h
              · exact absurd (.inr h) ho
              · exact h
            obtain ⟨gU, cU', eU, hfst⟩ := HSX.out.ff.first ho1
            injection eU with eU1 eU2 eU3
            subst eU1
            subst eU3
            rw [ho2] at hfst
            have HFST := Lib.hid hfst
            have hlb : (((openL d).length : Int) == 0) = false := by rw [beq_eq_false_iff_ne]; omega
            have hl0 : (0 : Int) < ((openL d).length : Int) := by omega
            have hne : ¬ openL d = [] := fun h => ho (.inl h)
            clear hxy HOT ho ho1 ho2 eU2 hfst
            refine wp_region_noPanic ?_
            refine wp_region_held_drew (S := fun W => SX w W b br ba bb bc d (crashD d picks) (crashD d (pick :: picks.drop 1)) (crashD d picks) (.slice (some ⟨gU, 0, none⟩) (openL d).length cU) qx qy x y g i c AX cX ps) (by kernel_rfl) (HD.out) (fun hHeld => ?_)
            refine takeN (i := 0) (oi := _) 124 rfl rfl (by kernel_rfl) (by kernel_rfl) (by kernel_rfl) (fun _ _ _ h => h) (yieldsIf_load_mid (by rfl) 38 (.tmp 16) rfl qx 0 rfl (sec x) _ (fun w h => box_range h.bx) sector_u rfl (sector_sz x)) hHeld ?_
            try simp only [Act.put, List.setIfInBounds_toArray, List.set_cons_zero, List.set_cons_succ]
            refine takeN (i := 1) (oi := _) 125 rfl rfl (by kernel_rfl) (by kernel_rfl) (by kernel_rfl) (fun _ _ _ h => h) (yieldsIf_load_mid (by rfl) 38 (.tmp 18) rfl qy 0 rfl (sec y) _ (fun w h => box_range h.bY) sector_u rfl (sector_sz y)) hHeld ?_
            try simp only [Act.put, List.setIfInBounds_toArray, List.set_cons_zero, List.set_cons_succ]
            refine takeN (i := 2) (oi := _) (v := .bool true) 126 rfl rfl (by kernel_rfl) (by kernel_rfl) (by kernel_rfl) (fun _ _ _ h => h) (Or.inl ⟨by rfl, fun w hSw => by go_simp⟩) hHeld ?_
            try simp only [Act.put, List.setIfInBounds_toArray, List.set_cons_zero, List.set_cons_succ]
            refine takeN (i := 3) (oi := _) (v := .bool true) 127 rfl rfl (by kernel_rfl) (by kernel_rfl) (by kernel_rfl) (fun _ _ _ h => h) (Or.inl ⟨by rfl, fun w hSw => by go_simp⟩) hHeld ?_
            try simp only [Act.put, List.setIfInBounds_toArray, List.set_cons_zero, List.set_cons_succ]
            refine takeN (i := 4) (oi := _) (v := .slice (some ⟨gU, 0, none⟩) (openL d).length cU) 128 rfl rfl (by kernel_rfl) (by kernel_rfl) (by kernel_rfl) (fun _ _ _ h => h) (Or.inl ⟨by rfl, fun w hSw => by go_simp⟩) hHeld ?_
            try simp only [Act.put, List.setIfInBounds_toArray, List.set_cons_zero, List.set_cons_succ]
            refine takeN (i := 5) (oi := _) (v := .int .i64 ((openL d).length : Int)) 129 rfl rfl (by kernel_rfl) (by kernel_rfl) (by kernel_rfl) (fun _ _ _ h => h) (Or.inl ⟨by rfl, fun w hSw => by go_simp⟩) hHeld ?_
            try simp only [Act.put, List.setIfInBounds_toArray, List.set_cons_zero, List.set_cons_succ]
            refine takeN (i := 6) (oi := _) (v := .bool false) 130 rfl rfl (by kernel_rfl) (by kernel_rfl) (by kernel_rfl) (fun _ _ _ h => h) (Or.inl ⟨by rfl, fun w hSw => by go_simp⟩) hHeld ?_
            try simp only [Act.put, List.setIfInBounds_toArray, List.set_cons_zero, List.set_cons_succ]
            refine takeN (i := 7) (oi := _) (v := .bool false) 131 rfl rfl (by kernel_rfl) (by kernel_rfl) (by kernel_rfl) (fun _ _ _ h => h) (Or.inl ⟨by rfl, fun w hSw => by go_simp⟩) hHeld ?_
            try simp only [Act.put, List.setIfInBounds_toArray, List.set_cons_zero, List.set_cons_succ]
            refine takeN (i := 8) (oi := _) (v := .int .i64 (i : Int)) 132 rfl rfl (by kernel_rfl) (by kernel_rfl) (by kernel_rfl) (fun _ _ _ h => h) (Or.inl ⟨by rfl, fun w hSw => by go_simp⟩) hHeld ?_
            try simp only [Act.put, List.setIfInBounds_toArray, List.set_cons_zero, List.set_cons_succ]
            refine takeN (i := 9) (oi := _) (v := .slice (some ⟨gU, 0, none⟩) (openL d).length cU) 133 rfl rfl (by kernel_rfl) (by kernel_rfl) (by kernel_rfl) (fun _ _ _ h => h) (Or.inl ⟨by rfl, fun w hSw => by go_simp⟩) hHeld ?_
            try simp only [Act.put, List.setIfInBounds_toArray, List.set_cons_zero, List.set_cons_succ]
            refine takeN (i := 10) (oi := _) (v := .pointer (some ⟨gU, 0, none⟩)) 134 rfl rfl (by kernel_rfl) (by kernel_rfl) (by kernel_rfl) (fun _ _ _ h => h) (Or.inl ⟨by rfl, fun w hSw => by go_simp⟩) hHeld ?_
            try simp only [Act.put, List.setIfInBounds_toArray, List.set_cons_zero, List.set_cons_succ]
            refine takeN (i := 11) (oi := _) (v := .int .i64 (i : Int)) 135 rfl rfl (by kernel_rfl) (by kernel_rfl) (by kernel_rfl) (fun _ _ _ h => h) (Or.inl ⟨by rfl, fun w hSw => by have hf := HFST.out w hSw.ff; go_simp⟩) hHeld ?_
            try simp only [Act.put, List.setIfInBounds_toArray, List.set_cons_zero, List.set_cons_succ]
            refine takeN (i := 12) (oi := _) (v := .bool false) 136 rfl rfl (by kernel_rfl) (by kernel_rfl) (by kernel_rfl) (fun _ _ _ h => h) (Or.inl ⟨by rfl, fun w hSw => by go_simp⟩) hHeld ?_
            try simp only [Act.put, List.setIfInBounds_toArray, List.set_cons_zero, List.set_cons_succ]
            refine takeN (i := 13) (oi := _) (v := .bool false) 137 rfl rfl (by kernel_rfl) (by kernel_rfl) (by kernel_rfl) (fun _ _ _ h => h) (Or.inl ⟨by rfl, fun w hSw => by go_simp⟩) hHeld ?_
            try simp only [Act.put, List.setIfInBounds_toArray, List.set_cons_zero, List.set_cons_succ]
            refine takeN (i := 14) (oi := _) (v := .bool false) 138 rfl rfl (by kernel_rfl) (by kernel_rfl) (by kernel_rfl) (fun _ _ _ h => h) (Or.inl ⟨by rfl, fun w hSw => by go_simp⟩) hHeld ?_
            try simp only [Act.put, List.setIfInBounds_toArray, List.set_cons_zero, List.set_cons_succ]
            refine takeN (i := 15) (oi := _) (v := .bool false) 139 rfl rfl (by kernel_rfl) (by kernel_rfl) (by kernel_rfl) (fun _ _ _ h => h) (Or.inl ⟨by rfl, fun w hSw => by go_simp⟩) hHeld ?_
            try simp only [Act.put, List.setIfInBounds_toArray, List.set_cons_zero, List.set_cons_succ]
            refine takeN (i := 16) (oi := _) (v := .pointer (some ⟨br, 0, none⟩)) 140 rfl rfl (by kernel_rfl) (by kernel_rfl) (by kernel_rfl) (fun _ _ _ h => h) (Or.inl ⟨by rfl, fun w hSw => by go_simp⟩) hHeld ?_
            try simp only [Act.put, List.setIfInBounds_toArray, List.set_cons_zero, List.set_cons_succ]
            refine takeN (i := 17) (oi := _) (v := .pointer (some ⟨br, 0, none⟩)) 141 rfl rfl (by kernel_rfl) (by kernel_rfl) (by kernel_rfl) (fun _ _ _ h => h) (Or.inl ⟨by rfl, fun w hSw => by go_simp⟩) hHeld ?_
            try simp only [Act.put, List.setIfInBounds_toArray, List.set_cons_zero, List.set_cons_succ]
            refine takeN (i := 18) (oi := _) (v := .pointer (some ⟨br, 0, none⟩)) 142 rfl rfl (by kernel_rfl) (by kernel_rfl) (by kernel_rfl) (fun _ _ _ h => h) (Or.inl ⟨by rfl, fun w hSw => by go_simp⟩) hHeld ?_
            try simp only [Act.put, List.setIfInBounds_toArray, List.set_cons_zero, List.set_cons_succ]
            refine takeN (i := 19) (oi := _) (v := .slice (some ⟨g, 0, none⟩) d.s.length c) 143 rfl rfl (by kernel_rfl) (by kernel_rfl) (by kernel_rfl) (fun _ _ _ h => h) (Or.inl ⟨by rfl, fun w hSw => by have hf := hSw.r0; go_simp⟩) hHeld ?_
            try simp only [Act.put, List.setIfInBounds_toArray, List.set_cons_zero, List.set_cons_succ]
            refine takeN (i := 20) (oi := _) (v := .int .i64 (i : Int)) 144 rfl rfl (by kernel_rfl) (by kernel_rfl) (by kernel_rfl) (fun _ _ _ h => h) (Or.inl ⟨by rfl, fun w hSw => by go_simp⟩) hHeld ?_
            try simp only [Act.put, List.setIfInBounds_toArray, List.set_cons_zero, List.set_cons_succ]
            refine takeN (i := 21) (oi := _) (v := .pointer (some ⟨g, i, none⟩)) 145 rfl rfl (by kernel_rfl) (by kernel_rfl) (by kernel_rfl) (fun _ _ _ h => h) (Or.inl ⟨by rfl, fun w hSw => by go_simp⟩) hHeld ?_
            try simp only [Act.put, List.setIfInBounds_toArray, List.set_cons_zero, List.set_cons_succ]
            refine takeN (i := 22) (oi := _) (v := .pointer (some ⟨g, i, none⟩)) 146 rfl rfl (by kernel_rfl) (by kernel_rfl) (by kernel_rfl) (fun _ _ _ h => h) (Or.inl ⟨by rfl, fun w hSw => by go_simp⟩) hHeld ?_
            try simp only [Act.put, List.setIfInBounds_toArray, List.set_cons_zero, List.set_cons_succ]
            refine takeN (i := 23) (oi := _) (v := .slice AX ps.length cX) 147 rfl rfl (by kernel_rfl) (by kernel_rfl) (by kernel_rfl) (fun _ _ _ h => h) (Or.inl ⟨by rfl, fun w hSw => by have hf := hSw.r1; go_simp⟩) hHeld ?_
            try simp only [Act.put, List.setIfInBounds_toArray, List.set_cons_zero, List.set_cons_succ]
            refine takeN (i := 24) (oi := _) 148 rfl rfl (by kernel_rfl) (by kernel_rfl) (by kernel_rfl) (fun _ _ _ h => h) (yieldsIf_load_mid (by rfl) 38 (.tmp 16) rfl qx 0 rfl (sec x) _ (fun w h => box_range h.bx) sector_u rfl (sector_sz x)) hHeld ?_
            try simp only [Act.put, List.setIfInBounds_toArray, List.set_cons_zero, List.set_cons_succ]
            refine wpAnyH_ready (rs := [25]) (by kernel_rfl) (by simp) ?_
            refine AllReadyH.cons rfl (fun K hK => ?_) AllReadyH.nil
            go_simp
            go_wp2_with (first
              | (go_at_call 17; (with_reducible refine (HAX.out _ hHeld).mono ?_); rintro e wa ⟨rfl, hSa⟩)
              | fail)
            refine hK.out _ _ hSa (fun hHeld => ?_)
            clear hK K hSa
            try simp only [Act.put, List.setIfInBounds_toArray, List.set_cons_zero, List.set_cons_succ]
            refine takeN (i := 26) (oi := _) (v := .bool false) 150 rfl rfl (by kernel_rfl) (by kernel_rfl) (by kernel_rfl) (fun _ _ _ h => h) (Or.inl ⟨by rfl, fun w hSw => by go_simp⟩) hHeld ?_
            try simp only [Act.put, List.setIfInBounds_toArray, List.set_cons_zero, List.set_cons_succ]
            refine takeN (i := 27) (oi := _) (v := .bool false) 151 rfl rfl (by kernel_rfl) (by kernel_rfl) (by kernel_rfl) (fun _ _ _ h => h) (Or.inl ⟨by rfl, fun w hSw => by go_simp⟩) hHeld ?_
            try simp only [Act.put, List.setIfInBounds_toArray, List.set_cons_zero, List.set_cons_succ]
            refine takeN (i := 28) (oi := _) (v := .bool false) 152 rfl rfl (by kernel_rfl) (by kernel_rfl) (by kernel_rfl) (fun _ _ _ h => h) (Or.inl ⟨by rfl, fun w hSw => by go_simp⟩) hHeld ?_
            try simp only [Act.put, List.setIfInBounds_toArray, List.set_cons_zero, List.set_cons_succ]
            refine takeN (i := 29) (oi := _) (v := .pointer (some ⟨br, 0, none⟩)) 153 rfl rfl (by kernel_rfl) (by kernel_rfl) (by kernel_rfl) (fun _ _ _ h => h) (Or.inl ⟨by rfl, fun w hSw => by go_simp⟩) hHeld ?_
            try simp only [Act.put, List.setIfInBounds_toArray, List.set_cons_zero, List.set_cons_succ]
            refine takeN (i := 30) (oi := _) (v := .pointer (some ⟨br, 0, none⟩)) 154 rfl rfl (by kernel_rfl) (by kernel_rfl) (by kernel_rfl) (fun _ _ _ h => h) (Or.inl ⟨by rfl, fun w hSw => by go_simp⟩) hHeld ?_
            try simp only [Act.put, List.setIfInBounds_toArray, List.set_cons_zero, List.set_cons_succ]
            refine takeN (i := 31) (oi := _) (v := .pointer (some ⟨br, 0, none⟩)) 155 rfl rfl (by kernel_rfl) (by kernel_rfl) (by kernel_rfl) (fun _ _ _ h => h) (Or.inl ⟨by rfl, fun w hSw => by go_simp⟩) hHeld ?_
            try simp only [Act.put, List.setIfInBounds_toArray, List.set_cons_zero, List.set_cons_succ]
            refine takeN (i := 32) (oi := _) (v := .slice (some ⟨g, 0, none⟩) d.s.length c) 156 rfl rfl (by kernel_rfl) (by kernel_rfl) (by kernel_rfl) (fun _ _ _ h => h) (Or.inl ⟨by rfl, fun w hSw => by have hf := hSw.r0; go_simp⟩) hHeld ?_
            try simp only [Act.put, List.setIfInBounds_toArray, List.set_cons_zero, List.set_cons_succ]
            refine takeN (i := 33) (oi := _) (v := .int .i64 (i : Int)) 157 rfl rfl (by kernel_rfl) (by kernel_rfl) (by kernel_rfl) (fun _ _ _ h => h) (Or.inl ⟨by rfl, fun w hSw => by go_simp⟩) hHeld ?_
            try simp only [Act.put, List.setIfInBounds_toArray, List.set_cons_zero, List.set_cons_succ]
            refine takeN (i := 34) (oi := _) (v := .pointer (some ⟨g, i, none⟩)) 158 rfl rfl (by kernel_rfl) (by kernel_rfl) (by kernel_rfl) (fun _ _ _ h => h) (Or.inl ⟨by rfl, fun w hSw => by go_simp⟩) hHeld ?_
            try simp only [Act.put, List.setIfInBounds_toArray, List.set_cons_zero, List.set_cons_succ]
            refine takeN (i := 35) (oi := _) (v := .pointer (some ⟨g, i, none⟩)) 159 rfl rfl (by kernel_rfl) (by kernel_rfl) (by kernel_rfl) (fun _ _ _ h => h) (Or.inl ⟨by rfl, fun w hSw => by go_simp⟩) hHeld ?_
            try simp only [Act.put, List.setIfInBounds_toArray, List.set_cons_zero, List.set_cons_succ]
            refine takeN (i := 36) (oi := _) (v := .slice AX ps.length cX) 160 rfl rfl (by kernel_rfl) (by kernel_rfl) (by kernel_rfl) (fun _ _ _ h => h) (Or.inl ⟨by rfl, fun w hSw => by have hf := hSw.r1; go_simp⟩) hHeld ?_
            try simp only [Act.put, List.setIfInBounds_toArray, List.set_cons_zero, List.set_cons_succ]
            refine takeN (i := 37) (oi := _) 161 rfl rfl (by kernel_rfl) (by kernel_rfl) (by kernel_rfl) (fun _ _ _ h => h) (yieldsIf_load_mid (by rfl) 38 (.tmp 18) rfl qy 0 rfl (sec y) _ (fun w h => box_range h.bY) sector_u rfl (sector_sz y)) hHeld ?_
            try simp only [Act.put, List.setIfInBounds_toArray, List.set_cons_zero, List.set_cons_succ]
            refine wpAnyH_ready (rs := [38]) (by kernel_rfl) (by simp) ?_
            refine AllReadyH.cons rfl (fun K hK => ?_) AllReadyH.nil
            go_simp
            go_wp2_with (first
              | (go_at_call 17; (with_reducible refine (HAY.out _ hHeld).mono ?_); rintro e wa ⟨rfl, hSa⟩)
              | fail)
            refine hK.out _ _ hSa (fun hHeld => ?_)
            clear hK K hSa
            try simp only [Act.put, List.setIfInBounds_toArray, List.set_cons_zero, List.set_cons_succ]
            refine takeN (i := 39) (oi := _) (v := .bool false) 163 rfl rfl (by kernel_rfl) (by kernel_rfl) (by kernel_rfl) (fun _ _ _ h => h) (Or.inl ⟨by rfl, fun w hSw => by go_simp⟩) hHeld ?_
            try simp only [Act.put, List.setIfInBounds_toArray, List.set_cons_zero, List.set_cons_succ]
            refine takeN (i := 40) (oi := _) (v := .bool false) 164 rfl rfl (by kernel_rfl) (by kernel_rfl) (by kernel_rfl) (fun _ _ _ h => h) (Or.inl ⟨by rfl, fun w hSw => by go_simp⟩) hHeld ?_
            try simp only [Act.put, List.setIfInBounds_toArray, List.set_cons_zero, List.set_cons_succ]
            refine wpAnyH_done (by kernel_rfl) ?_ _
            refine NoPanic.normal ?_
            have HNX := Lib.hid hHeld.ff
            clear hHeld
            go_wp2_with fail
            go_roundw
            case rel => exact ⟨i + 1, hlt, by go_num, HNX⟩
            case measure => simp [intOf]; omega
        · have hltI : ¬ (i : Int) < (d.s.length : Int) := by omega
          have HKN := Lib.hid (known_b w wr HR.out.low)
          go_wp2_with (first
            | (go_at_call 15; (with_reducible refine (HSE.out _ HR.out).mono ?_); rintro e wz ⟨rfl, rfl⟩)
            | (go_at_call 7; (with_reducible refine HKN.out.mono ?_); rintro e wz ⟨rfl, hbz⟩)
            | fail)
          go_ret
          exact ⟨rfl, hbz⟩
end Go.Proofs.Ytdcfplfeagpcdaa
