/- PageParts, walked. -/
import Derived.Test.YtojbajbghldoeaaPf
set_option linter.unusedVariables false
namespace Go.Proofs.Ytojbajbghldoeaa
open Go.RowKit

theorem Shows.on {w w' : World} {A : Option Addr} {n : Nat} {xs : List Value} (h : Shows w w.heap.size A n xs) (hb : Below w.heap.size w w') : Shows w' w'.heap.size A n xs := (h.below hb).wide hb.size
theorem pp_info : (Try.prog.info? 22).map (fun i => (i.zero, i.size, i.bytes)) = some (some (.slice none 0 0), 1, 24) := by kernel_rfl
theorem pp_ht : Try.prog.underlying 27 = some (.slice (Try.prog.elem 27)) := by kernel_rfl
theorem pp_sz (w : World) : (sizeOf (Try.prog.elem 27)).run Try.prog w = .ok 1 w := by kernel_rfl
theorem slice_tail (w : World) (p : Addr) (L cap : Nat) (h : 1 ≤ L) : (Instr.sliceAt 27 (.slice (some p) L cap) (some (.int .i64 1)) none none).run Try.prog w = .ok (.slice (cutA p 1 cap) (L - 1) (cap - 1)) w := by
  rw [run_sliceAt_slice w _ _ _ _ _ pp_ht, run_slice_l w _ _ _ _ pp_ht .i64 1 (by omega) (by omega), pp_sz]
  rfl
theorem same_row (w : World) (l : List Nat) (n : Nat) (hl : l.length = n) (hn : n ≤ 2000) (A A' : Option Addr) (c c' : Nat) (hs : Shows w w.heap.size A n (nums16 l)) (hv : Shows w w.heap.size A' n (nums16 l)) :
    Calls Try.prog 6 #[.slice A n c, .slice A' n c'] w fun e w' => e = .returned (.bool true) ∧ Below w.heap.size w w' := by
  subst hl
  exact vsame_ok w l A A' c c' hn hs hv
theorem slV_one (ps : List (Addr × List Nat)) : ∀ u ∈ (ps.map slV).drop 1, u.oneCell' = true := by
  intro u hu
  obtain ⟨p, _, rfl⟩ := List.mem_map.1 (List.mem_of_mem_drop hu)
  rfl
def W8 (w7 : World) : World := (w7.alloc (.cells #[.int .u16 1] 31)).alloc (.cells #[.slice (some ⟨w7.heap.size, 0, none⟩) 1 1] 22)
theorem W8_below (w7 : World) : Below w7.heap.size w7 (W8 w7) := ((Below.refl w7.heap.size w7).alloc (Nat.le_refl _) _).alloc (by simp) _
theorem W8_size (w7 : World) : (W8 w7).heap.size = w7.heap.size + 2 := by simp [W8]
theorem PG.short {w w7 : World} {p0 : Addr} {cL : Nat} {ps : List (Addr × List Nat)} (h : PG w w7 (.slice (some p0) ps.length cL) ps) (h1 : 1 ≤ ps.length) (hc : ps.length ≤ cL) :
    ((w7.alloc (.cells #[.int .u16 1] 31)).alloc (.cells #[.slice (some ⟨w7.heap.size, 0, none⟩) 1 1] 22)).ownsRow w7.heap.size 22 1 (.slice (some ⟨w7.heap.size + 1, 0, none⟩) 1 1) 1 [.slice (some ⟨w7.heap.size, 0, none⟩) 1 1] ∧
    Shows ((w7.alloc (.cells #[.int .u16 1] 31)).alloc (.cells #[.slice (some ⟨w7.heap.size, 0, none⟩) 1 1] 22)) (w7.heap.size + 2) (cutA p0 1 cL) (ps.length - 1) ((ps.map slV).drop 1) := by
  have h3 := heap_alloc_new (w7.alloc (.cells #[.int .u16 1] 31)) (.cells #[.slice (some ⟨w7.heap.size, 0, none⟩) 1 1] 22)
  simp only [World.size_alloc] at h3
  have h8 := h.below (W8_below w7)
  have hs := cutA_shows (l := 1) (m := ps.length - 1) h8.shows (by omega) hc
  rw [List.take_of_length_le (by simp)] at hs
  rw [W8_size] at hs
  exact ⟨⟨rfl, .inr ⟨w7.heap.size + 1, 1, _, rfl, by omega, h3, Nat.le_refl _, by decide, rfl, rfl⟩⟩, hs⟩
theorem PG.short2 {w w7 w9 : World} {v v9 : Value} {ps : List (Addr × List Nat)} {n : Nat} {xs : List Value} (h : PG w w7 v ps)
    (ho : ((w7.alloc (.cells #[.int .u16 1] 31)).alloc (.cells #[.slice (some ⟨w7.heap.size, 0, none⟩) 1 1] 22)).ownsRow w7.heap.size 22 1 (.slice (some ⟨w7.heap.size + 1, 0, none⟩) 1 1) 1 [.slice (some ⟨w7.heap.size, 0, none⟩) 1 1])
    (h9 : w9.ownsRow w7.heap.size 22 1 v9 (1 + n) ([.slice (some ⟨w7.heap.size, 0, none⟩) 1 1] ++ xs)) (hg : Grew ((w7.alloc (.cells #[.int .u16 1] 31)).alloc (.cells #[.slice (some ⟨w7.heap.size, 0, none⟩) 1 1] 22)) w9 (.slice (some ⟨w7.heap.size + 1, 0, none⟩) 1 1) v9) :
    ∃ (p9 : Addr) (c9 : Nat), v9 = .slice (some p9) (1 + n) c9 ∧ w9.cell? p9 = some (.slice (some ⟨w7.heap.size, 0, none⟩) 1 1) ∧ PG w w9 v ps := by
  obtain ⟨A9, c9, rfl, _, _⟩ := own_form4 h9
  obtain ⟨p9, rfl, _, hx⟩ := (Shows.owned h9).lies (by omega)
  have h0 := hx 0 _ (by rw [List.cons_append]; rfl)
  have e0 : p9.add 0 = p9 := by unfold Addr.add; simp
  rw [e0] at h0
  refine ⟨p9, c9, rfl, h0, h.below ((W8_below w7).trans ?_)⟩
  exact hg.below ho (Nat.le_refl _) (by simp; omega)
set_option maxRecDepth 10000 in
set_option maxHeartbeats 2000000 in
theorem parts_long (w : World) (A : Option Addr) (cap n : Nat) (ix wh at_ : Int) (h : 1010 < n) :
    Calls Try.prog 3 #[.slice A n cap, .int .i64 ix, .int .i64 wh, .int .i64 at_] w fun e w' => e = .returned (.bool true) ∧ Below w.heap.size w w' := by
  have hI : (1010 : Int) < (n : Int) := by omega
  clear h
  go_enter Try.func3, Try.ntmps3
  go_wp2_with (first
    | (go_at_call 9; (with_reducible refine (known_any _).mono ?_); rintro e wk ⟨rfl, hwk⟩; subst wk)
    | fail)
  go_ret
  exact ⟨rfl, Below.refl _ _⟩
set_option maxRecDepth 10000 in
set_option maxHeartbeats 8000000 in
theorem parts_law (w : World) (A : Option Addr) (cap : Nat) (l : List Nat) (hf : ∀ k ∈ l, k < 65536) (hc : l.length ≤ cap) (hs : Shows w w.heap.size A l.length (nums16 l)) (ix wh at_ : Int) :
    Calls Try.prog 3 #[.slice A l.length cap, .int .i64 ix, .int .i64 wh, .int .i64 at_] w fun e w' => e = .returned (.bool true) ∧ Below w.heap.size w w' := by
  by_cases h1010 : 1010 < l.length
  · exact parts_long w A cap l.length ix wh at_ h1010
  obtain ⟨i0, hi0, hz0, hz1, hz2⟩ := info_parts pp_info
  have hIb : ¬ (1010 : Int) < (l.length : Int) := by omega
  have hpn := fun W => pages_any W (l.length : Int) (by omega)
  rw [Int.toNat_natCast] at hpn
  have hpm := fun W => pages_any W (-(l.length : Int)) (by omega)
  rw [show (-(l.length : Int)).toNat = 0 by omega, show ((pagesN 0 : Nat) : Int) = 0 from rfl] at hpm
  have HPN := Lib.hid hpn
  have HPM := Lib.hid hpm
  have HRP := Lib.hid (fun W => rpages_any W l.length (by omega))
  have HPT := Lib.hid (part_any w A l cap (by omega) hc hs ix)
  have HPK := Lib.hid (fun W (hb : Below w.heap.size w W) (i : Nat) => part_any W A l cap (by omega) hc (hs.on hb) (i : Int))
  have HRT := Lib.hid (fun W (hb : Below w.heap.size w W) => rpart_any W A l cap (by omega) (hs.on hb) ix)
  have HPL := Lib.hid (partL_length l ix)
  have HS := Lib.hid hs
  have HF := Lib.hid hf
  have HN9 : Hid (pagesN l.length ≤ 9) := by unfold pagesN; exact Lib.hid (by omega)
  clear hs hf hpn hpm
  generalize partL l ix = y at *
  go_enter Try.func3, Try.ntmps3
  go_wp2_with (first
    | (go_at_call 4; first
        | ((with_reducible refine (HPN.out _).mono ?_); rintro e wp ⟨rfl, hwp⟩; subst wp)
        | ((with_reducible refine (HPM.out _).mono ?_); rintro e wp ⟨rfl, hwp⟩; subst wp))
    | (go_at_call 5; (with_reducible refine (HRP.out _).mono ?_); rintro e wp ⟨rfl, hwp⟩; subst wp)
    | (go_at_call 7; (with_reducible refine HPT.out.mono ?_); rintro e w1 ⟨rfl, hq1, hb1, hz3⟩; have HQ1 := Lib.hid hq1; have HB1 := Lib.hid hb1; clear hq1 hb1 hz3)
    | (go_at_call 8; (with_reducible refine (HRT.out _ HB1.out).mono ?_); rintro e w2 ⟨rfl, hq2, hb2⟩; have HB2 := Lib.hid (HB1.out.trans (hb2.mono HB1.out.size)); have hq1 := (HQ1.out.below hb2).shows; rw [HPL.out] at hq1; have HSM := Lib.hid (same_row w2 y 120 HPL.out (by omega) _ _ 120 120 hq1 hq2); clear hq1 hq2 hb2)
    | (go_at_call 6; (with_reducible refine HSM.out.mono ?_); rintro e w3 ⟨rfl, hb3⟩; have HB3 := Lib.hid (HB2.out.trans (hb3.mono HB2.out.size)); clear hb3)
    | fail)
  have H0 : Hid (∃ ps, PG w w3 (.slice none 0 0) ps ∧ ps.map (·.2) = pagesL l 0) := ⟨[], PG.begin_ HB3.out, rfl⟩
  clear HSM HQ1 HB1 HB2 HB3 HPT HRT HPL HPM
  go_loopw [10, 11] (fun v j wr => ∃ i : Nat, i ≤ pagesN l.length ∧ j = .int .i64 (i : Int) ∧ Hid (∃ ps, PG w wr v ps ∧ ps.map (·.2) = pagesL l i)) (fun _ j _ => pagesN l.length - (intOf j).toNat)
  case atStart => exact ⟨0, Nat.zero_le _, rfl, H0⟩
  case round =>
    obtain ⟨i, hi, rfl, HR⟩ := hrel
    obtain ⟨ps, hpg, hps⟩ := HR.out
    clear H0 HR
    have hlen : ps.length = i := by
      have := congrArg List.length hps
      rwa [List.length_map, pagesL_length] at this
    have hn9 := HN9.out
    by_cases hlt : i < pagesN l.length
    · have hltI : (i : Int) < ((pagesN l.length : Nat) : Int) := by omega
      have HP5 := Lib.hid (HPK.out _ hpg.bel i)
      have HPG := Lib.hid hpg
      have HPS : Hid (ps.map (·.2) ++ [partL l (i : Int)] = pagesL l (i + 1)) := by rw [hps, pagesL_succ]; exact Lib.hid rfl
      have HPL := Lib.hid (partL_length l (i : Int))
      clear hpg hps HPK
      generalize partL l (i : Int) = pl at *
      subst hlen
      have hbs := HPG.out.bel.size
      go_wp2_with (first
        | (go_at_call 5; (with_reducible refine (HRP.out _).mono ?_); rintro e wp ⟨rfl, hwp⟩; subst wp)
        | (go_at_call 7; (with_reducible refine HP5.out.mono ?_); rintro e w5 ⟨rfl, hq5, hb5, hz5⟩; have HQ5 := Lib.hid hq5; have HB5 := Lib.hid hb5; have HO5 := Lib.hid ((HPG.out.below hb5).own.alloc (.cells #[.slice (some ⟨wr.heap.size, 0, none⟩) 120 120] 22)); have hs5 := hb5.size; clear hq5 hb5)
        | (at_builtin; refine wpList_append_shows _ rfl (.tmp 58) (.tmp 62) 27 rfl w.heap.size 22 i0 (.slice none 0 0) 24 Try.underlying27 hi0 hz0 hz1 hz2 rfl _ ps.length (ps.map slV) rfl HO5.out (w5.heap.size + 1) (some ⟨w5.heap.size, 0, none⟩) 1 1 [.slice (some ⟨wr.heap.size, 0, none⟩) 120 120] rfl (shows_new w5 #[.slice (some ⟨wr.heap.size, 0, none⟩) 120 120] 22) (by simp [Value.oneCell']) (by unfold maxLen; omega) (by omega) (by simp; omega) ?_; intro v6 w6 hown hg; have HA := Lib.hid (HPG.out.app HQ5.out HPL.out HB5.out _ hown hg); clear hown hg)
        | fail)
      go_roundw
      case rel => exact ⟨ps.length + 1, by omega, by go_num, ⟨_, HA.out, by rw [List.map_append, ← HPS.out]; rfl⟩⟩
      case measure => simp [intOf]; omega
    · obtain rfl : i = pagesN l.length := by omega
      have hltI : ¬ ((pagesN l.length : Nat) : Int) < ((pagesN l.length : Nat) : Int) := by omega
      obtain ⟨AL, cL, hV, hc1, hc2⟩ := own_form4 hpg.own
      subst hV
      have HPG := Lib.hid hpg
      have HLN := Lib.hid hlen
      have HFL := Lib.hid (flat_all l ps hps)
      have HKN := Lib.hid hpg.bel
      clear hpg hps HPK
      by_cases hout : l.length < 1 ∨ 1000 < l.length
      · have HJ := Lib.hid (fun W => join_bad W l.length AL ps.length cL (by omega) (by omega))
        by_cases ho1 : l.length < 1
        · have ho1I : (l.length : Int) < 1 := by omega
          clear hout hc1 hc2 hlen
          go_wp2_with (first
            | (go_at_call 5; (with_reducible refine (HRP.out _).mono ?_); rintro e wp ⟨rfl, hwp⟩; subst wp)
            | (go_at_call 10; (with_reducible refine (HJ.out _).mono ?_); rintro e wj ⟨rfl, hwj⟩; subst wj)
            | (go_at_call 9; (with_reducible refine (known_any _).mono ?_); rintro e wk ⟨rfl, hwk⟩; subst wk)
            | fail)
          go_ret
          exact ⟨rfl, HKN.out⟩
        · have ho1I : ¬ (l.length : Int) < 1 := by omega
          have ho2I : (1000 : Int) < (l.length : Int) := by omega
          clear hout hc1 hc2 hlen
          go_wp2_with (first
            | (go_at_call 5; (with_reducible refine (HRP.out _).mono ?_); rintro e wp ⟨rfl, hwp⟩; subst wp)
            | (go_at_call 10; (with_reducible refine (HJ.out _).mono ?_); rintro e wj ⟨rfl, hwj⟩; subst wj)
            | (go_at_call 9; (with_reducible refine (known_any _).mono ?_); rintro e wk ⟨rfl, hwk⟩; subst wk)
            | fail)
          go_ret
          exact ⟨rfl, HKN.out⟩
      · have ho1I : ¬ (l.length : Int) < 1 := by omega
        have ho2I : ¬ (1000 : Int) < (l.length : Int) := by omega
        have hj := HPG.out.join (n := l.length) (by omega) (by omega) hlen
        rw [HFL.out, List.drop_left, anyN_zero] at hj
        have HJ : Hid (Calls Try.prog 10 #[.int .i64 (l.length : Int), .slice AL ps.length cL] _ fun e w' => ∃ p : Addr, e = .returned (.tuple #[.slice (some p) l.length l.length, .int .i64 0]) ∧ Shows w' w'.heap.size (some p) l.length (nums16 l) ∧ Below _ _ w') := hj.mono fun e w' hp => by
          obtain ⟨h1, p, h2, h3⟩ := hp
          rw [List.take_left] at h3
          exact ⟨p, h2, h3, h1⟩
        have h1m : 1 ≤ ps.length := by have := pages_cover l.length; omega
        obtain ⟨p0, rfl, _, _⟩ := HPG.out.shows.lies (by omega)
        have hsl := fun W => slice_tail W p0 ps.length cL h1m
        have HJ2 := Lib.hid (fun W => join_bad W l.length (cutA p0 1 cL) (ps.length - 1) (cL - 1) (by omega) (by omega))
        clear hout hj hlen
        go_upto_region 20 with (first
          | (go_at_call 5; (with_reducible refine (HRP.out _).mono ?_); rintro e wp ⟨rfl, hwp⟩; subst wp)
          | (go_at_call 10; first
              | ((with_reducible refine HJ.out.mono ?_); rintro e wj ⟨pj, rfl, hsj, hbj⟩; have HGJ := Lib.hid (HPG.out.below hbj); have HSM := Lib.hid (same_row wj l l.length rfl (by omega) (some pj) A l.length cap hsj (HS.out.on HGJ.out.bel)); clear hsj hbj)
              | ((with_reducible refine (HJ2.out _).mono ?_); rintro e wj ⟨rfl, hwj⟩; subst wj)
              | ((with_reducible refine HJ3.out.mono ?_); rintro e wj ⟨rfl, hwj⟩; subst wj))
          | (go_at_call 6; (with_reducible refine HSM.out.mono ?_); rintro e w7 ⟨rfl, hb7⟩; have HG7 := Lib.hid (HGJ.out.below hb7); obtain ⟨ho8, hs8⟩ := HG7.out.short h1m hc1; have HO8 := Lib.hid ho8; have HS8 := Lib.hid hs8; clear hb7 ho8 hs8)
          | (at_builtin; refine wpList_append_shows _ rfl (.tmp 101) (.tmp 103) 27 rfl w7.heap.size 22 i0 (.slice none 0 0) 24 Try.underlying27 hi0 hz0 hz1 hz2 rfl _ 1 [.slice (some ⟨w7.heap.size, 0, none⟩) 1 1] rfl HO8.out (w7.heap.size + 2) (cutA p0 1 cL) (ps.length - 1) (cL - 1) ((ps.map slV).drop 1) rfl HS8.out (slV_one ps) (by unfold maxLen; have := HLN.out; omega) (by have := HLN.out; omega) (by simp; omega) ?_; intro v9 w9 hown hg; obtain ⟨p9, c9, rfl, hc9, hg9⟩ := HG7.out.short2 HO8.out hown hg; have HG9 := Lib.hid hg9; have HJ3 := Lib.hid (join_short w9 l.length p9 ⟨w7.heap.size, 0, none⟩ ps.length c9 1 1 (by omega) (by omega) HLN.out hc9 (by omega)); clear hown hg hc9 hg9)
          | fail)
        clear HJ HJ2 HJ3 HSM HG7 HO8 HS8 HGJ HKN HPG hsl
        by_cases hw0 : wh < 0
        · go_wp2_with (first
            | (go_at_call 9; (with_reducible refine (known_any _).mono ?_); rintro e wk ⟨rfl, hwk⟩; subst wk)
            | fail)
          go_ret
          exact ⟨rfl, HG9.out.bel⟩
        have hw0I : ¬ wh < 0 := hw0
        clear hw0
        by_cases hw1 : (ps.length : Int) ≤ wh
        · go_wp2_with (first
            | (go_at_call 9; (with_reducible refine (known_any _).mono ?_); rintro e wk ⟨rfl, hwk⟩; subst wk)
            | fail)
          go_ret
          exact ⟨rfl, HG9.out.bel⟩
        have hw1I : wh < (ps.length : Int) := by omega
        clear hw1
        by_cases ha0 : at_ < 0
        · go_wp2_with (first
            | (go_at_call 9; (with_reducible refine (known_any _).mono ?_); rintro e wk ⟨rfl, hwk⟩; subst wk)
            | fail)
          go_ret
          exact ⟨rfl, HG9.out.bel⟩
        have ha0I : ¬ at_ < 0 := ha0
        clear ha0
        by_cases ha1 : 119 < at_
        · go_wp2_with (first
            | (go_at_call 9; (with_reducible refine (known_any _).mono ?_); rintro e wk ⟨rfl, hwk⟩; subst wk)
            | fail)
          go_ret
          exact ⟨rfl, HG9.out.bel⟩
        have ha1I : at_ ≤ 119 := by omega
        clear ha1
        obtain ⟨k, rfl⟩ := Int.eq_ofNat_of_zero_le (show 0 ≤ wh by omega)
        obtain ⟨j, rfl⟩ := Int.eq_ofNat_of_zero_le (show 0 ≤ at_ by omega)
        have hk : k < ps.length := by omega
        have hj : j < 120 := by omega
        have hk9 : k ≤ 8 := by have := HLN.out; have := HN9.out; omega
        obtain ⟨p1, b, hA1, hpb, hcell, hH, hl120⟩ := HG9.out.at2 k hk
        injection hA1 with hA1
        subst hA1
        have hck := hH.cell j (by rw [hl120]; exact hj)
        have hfr := hH.frozen j
        have hset := HG9.out.set k hk b j ((ps[k]).2.getD j 0 + 1) hpb
        have hfs := flatP_set ps HG9.out.h120 k j ((ps[k]).2.getD j 0 + 1) ⟨b, 0, none⟩ hk hj
        have hfg : (flatP ps).getD (k * 120 + j) 0 = (ps[k]).2.getD j 0 := by
          have := flat_get (ps.map (·.2)) k j (fun q hq => by obtain ⟨p, hp, rfl⟩ := List.mem_map.1 hq; exact HG9.out.h120 p hp) (by simpa using hk) hj
          rw [flatP, this]
          simp [List.getD, hk]
        rw [HFL.out] at hfs hfg
        have HB9 := Lib.hid HG9.out.bel
        have HSET0 := Lib.hid hset
        have HFS := Lib.hid hfs
        have HFG := Lib.hid hfg
        have HPL2 : Hid (∀ q, (ps.set k (⟨b, 0, none⟩, q)).length = ps.length) := fun q => List.length_set
        clear hset hfs hfg hH hl120 hpb HG9
        generalize (ps[k]).2.getD j 0 = x at *
        by_cases h65 : 65000 < x
        · have h65I : (65000 : Int) < (x : Int) := by omega
          go_wp2_with (first
            | (go_at_call 9; (with_reducible refine (known_any _).mono ?_); rintro e wk ⟨rfl, hwk⟩; subst wk)
            | fail)
          go_ret
          exact ⟨rfl, HB9.out⟩
        have h65I : ¬ (65000 : Int) < (x : Int) := by omega
        have hwx : IntKind.u16.wrap ((x : Int) + 1) = (x : Int) + 1 := by rw [IntKind.wrap_u16]; omega
        have hx1 : ((x + 1 : Nat) : Int) = (x : Int) + 1 := by omega
        have hset := HSET0.out
        rw [hx1] at hset
        generalize hps2 : ps.set k (⟨b, 0, none⟩, (ps[k]).2.set j (x + 1)) = ps2 at *
        have hl2 : ps2.length = ps.length := by rw [← hps2]; exact HPL2.out _
        have HSET := Lib.hid hset
        have HL2 := Lib.hid hl2
        clear hset hps2 hl2 HSET0 HPL2 h65
        have hqI : (k : Int) * 120 + (j : Int) = ((k * 120 + j : Nat) : Int) := by omega
        have hqb : k * 120 + j < 2000 := by omega
        generalize k * 120 + j = q at *
        by_cases hin : q < l.length
        · have hinI : ¬ (l.length : Int) ≤ (q : Int) := by omega
          have hjn : Calls Try.prog 10 #[.int .i64 (l.length : Int), .slice (some p0) ps.length cL] (w9.setCell ⟨b, j, none⟩ (.int .u16 ((x : Int) + 1))) fun e w' => ∃ p : Addr, e = .returned (.tuple #[.slice (some p) l.length l.length, .int .i64 0]) ∧ Shows w' w'.heap.size (some p) l.length (nums16 (l.set (q) (x + 1))) ∧ Below (w9.setCell ⟨b, j, none⟩ (.int .u16 ((x : Int) + 1))).heap.size (w9.setCell ⟨b, j, none⟩ (.int .u16 ((x : Int) + 1))) w' := by
            have h := HSET.out
            rw [← HL2.out] at h
            have h2 := h.join (n := l.length) (by omega) (by omega) (HL2.out.trans HLN.out)
            rw [HFS.out, List.set_append_left _ _ hin, List.drop_left' (by rw [List.length_set]), anyN_zero, HL2.out] at h2
            refine h2.mono fun e w' hp => ?_
            obtain ⟨g1, p, g2, g3⟩ := hp
            rw [List.take_left' (by rw [List.length_set])] at g3
            exact ⟨p, g2, g3, g1⟩
          have HJ := Lib.hid hjn
          have hxl : l.getD (q) 0 = x := by
            have := HFG.out
            rwa [List.getD, List.getElem?_append_left hin] at this
          obtain ⟨pA, rfl, hpAb, hcA⟩ := HS.out.num16 (q) hin
          rw [hxl] at hcA
          have HCA : Hid (∀ W, Below w.heap.size w W → W.cell? (pA.add (q)) = some (.int .u16 (x : Int))) := fun W hb => by rw [hb.cell (by rw [addr_block]; exact hpAb)]; exact hcA
          have HBW := Lib.hid HSET.out.bel
          clear hjn hcA hxl HSET HFS HFG
          go_wp2_with (first
            | (go_at_call 10; (with_reducible refine HJ.out.mono ?_); rintro e w11 ⟨p11, rfl, hs11, hb11⟩; have HS11 := Lib.hid hs11; have HB11 := Lib.hid (HBW.out.trans (hb11.mono HBW.out.size)); clear hs11 hb11)
            | fail)
          obtain ⟨p12, hp12, _, hc12⟩ := (show Shows w11 w11.heap.size (some p11) (l.set (q) (x + 1)).length (nums16 (l.set (q) (x + 1))) by rw [List.length_set]; exact HS11.out).num16 (q) (by rw [List.length_set]; exact hin)
          injection hp12 with hp12
          subst hp12
          have hg1 : (l.set (q) (x + 1)).getD (q) 0 = x + 1 := by simp [List.getD, hin]
          rw [hg1, hx1] at hc12
          have HS0 : Hid (w11.drew.cell? (p11.add (q)) = some (.int .u16 ((x : Int) + 1)) ∧ w11.drew.cell? (pA.add (q)) = some (.int .u16 (x : Int))) := ⟨hc12, HCA.out _ HB11.out.drew⟩
          clear hg1 hc12 HS11 HJ hck hcell hfr
          have hinJ : (q : Int) < (l.length : Int) := by omega
          have hq0 : (0 : Int) ≤ (q : Int) := by omega
          have hwa : IntKind.i64.wrap ((k : Int) * 120) = (k : Int) * 120 := IntWalk.i64_in _ (by omega)
          have hwb : IntKind.i64.wrap (q : Int) = (q : Int) := IntWalk.i64_in _ (by omega)
          first | go_region_held3 (fun w' => w'.cell? (p11.add (q)) = some (.int .u16 ((x : Int) + 1)) ∧ w'.cell? (pA.add (q)) = some (.int .u16 (x : Int)))
            (first | with_reducible exact HS0.out | assumption)
            ((go_at_call 9; (with_reducible refine (known_any _).mono ?_); rintro e wk ⟨rfl, hwk⟩; subst wk)) | fail
          all_goals go_wp2
          all_goals go_ret
          all_goals exact ⟨rfl, HB11.out.drew⟩
        · have hinI : (l.length : Int) ≤ (q : Int) := by omega
          have hjn : Calls Try.prog 10 #[.int .i64 (l.length : Int), .slice (some p0) ps.length cL] (w9.setCell ⟨b, j, none⟩ (.int .u16 ((x : Int) + 1))) fun e w' => e = .returned (.tuple #[.slice none 0 0, .int .i64 4]) ∧ Below (w9.setCell ⟨b, j, none⟩ (.int .u16 ((x : Int) + 1))).heap.size (w9.setCell ⟨b, j, none⟩ (.int .u16 ((x : Int) + 1))) w' := by
            have h := HSET.out
            rw [← HL2.out] at h
            have h2 := h.join (n := l.length) (by omega) (by omega) (HL2.out.trans HLN.out)
            have hkm : q < (l ++ List.replicate (pagesN l.length * 120 - l.length) 0).length := by
              rw [List.length_append, List.length_replicate]
              have := pages_cover l.length
              have := HLN.out
              have hjj : j < 120 := hj
              omega
            have hbad : anyN (((l ++ List.replicate (pagesN l.length * 120 - l.length) 0).set (q) (x + 1)).drop l.length) = true := by
              refine anyN_mem (i := q - l.length) (by rw [List.length_drop, List.length_set]; omega) ?_
              rw [List.getD, List.getElem?_drop, show l.length + (q - l.length) = q by omega, List.getElem?_set, if_pos rfl, if_pos hkm]
              simp
            rw [HFS.out, hbad, HL2.out] at h2
            exact h2.mono fun e w' hp => ⟨hp.2, hp.1⟩
          have HJ := Lib.hid hjn
          have HBW := Lib.hid HSET.out.bel
          clear hjn HSET HFS HFG
          go_wp2_with (first
            | (go_at_call 10; (with_reducible refine HJ.out.mono ?_); rintro e w11 ⟨rfl, hb11⟩; have HB11 := Lib.hid (HBW.out.trans (hb11.mono HBW.out.size)); clear hb11)
            | (go_at_call 9; (with_reducible refine (known_any _).mono ?_); rintro e wk ⟨rfl, hwk⟩; subst wk)
            | fail)
          go_ret
          exact ⟨rfl, HB11.out⟩
end Go.Proofs.Ytojbajbghldoeaa
