/- DiskCommits, walked. -/
import Derived.Test.YtdcfplfeagpcdaaGm
import Derived.Deep.RegionHeld3
import Derived.Deep.OwnRows
import Derived.Deep.DeepCutAuto
set_option linter.unusedVariables false
namespace Go.Proofs.Ytdcfplfeagpcdaa
open Go.RowKit

theorem made_bytes (n : Nat) : madeCells #[.int .u8 0] n = (cells8 (List.replicate n 0)).toArray := by
  apply Array.ext
  · simp [madeCells, cells8]
  · intro i h1 h2
    simp [madeCells, cells8, Nat.mod_one]
theorem byte_info : (Try.prog.info? 5).map (fun i => (i.zero, i.size, i.bytes)) = some (some (.int .u8 0), 1, 1) := by kernel_rfl
theorem make_bytes (n : Nat) (h : n ≤ 100) (w : World) : (Instr.makeSlice 42 (.int .i64 (n : Int)) (.int .i64 (n : Int))).run Try.prog w = .ok (.slice (some ⟨w.heap.size, 0, none⟩) n n) (w.alloc (.cells (cells8 (List.replicate n 0)).toArray 5)) := by
  have := run_make_row' (P := Try.prog) 42 5 (.int .u8 0) 1 Try.underlying42 byte_info rfl .i64 .i64 n (by omega) (by omega) w
  rw [made_bytes] at this
  exact this

theorem takeN {P : Program} {ops : Array Oper} {Q : Exit → Act → World → Prop} {md : Region.Mode} {S : World → Prop} {i : Nat} {oi : Oper} {v : Value} {fuel : Nat} {listed : Array Bool} {a : Act} {w : World} (n : Nat) (hi : ops[i]? = some oi) (hd : oi.dst = some n)
    (hs : Region.noSelect ops = true) (hf : Region.free md ops listed i = true) (hr : (Region.ready md ops listed).contains i = true)
    (hQ : ∀ c a w, Q (.panic c) (a.put (some n) v) w → Q (.panic c) a w) (hy : YieldsIf P ops S oi v a) (hS : S w)
    (h : wpAnyH P md ops Q S fuel (listed.setIfInBounds i true) (a.put (some n) v) w) : wpAnyH P md ops Q S (fuel + 1) listed a w :=
  wpAnyH_take hi hs hf hr (by rw [hd]; exact hQ) hy hS (by rw [hd]; exact h)

/-- with the sector that was read -/
structure KS (w W : World) (b : Nat) (d : RD) (q : Nat) (l : List UInt8) (qs : Nat) (c : UInt8) : Prop where
  kw : KW w W b d q l
  box : W.heap[qs]? = some (.cells (sec c).toArray 38 (0, 0))
theorem KS.below {w W W' : World} {b q qs : Nat} {d : RD} {l : List UInt8} {c : UInt8} (h : KS w W b d q l qs c) (hb : Below W.heap.size W W') : KS w W' b d q l qs c :=
  ⟨h.kw.below hb, (hb.block qs (Array.getElem?_eq_some_iff.1 h.box).1).trans h.box⟩
theorem box_range {W : World} {q : Nat} {c : UInt8} (h : W.heap[q]? = some (.cells (sec c).toArray 38 (0, 0))) : W.rangeAt q 0 (sec c) := fun j u hu => by
  rw [cell_of_row _ _ _ _ _ _ h, Nat.zero_add, List.getElem?_toArray]
  exact hu
theorem KW.ks {w W : World} {b q : Nat} {d : RD} {l : List UInt8} (h : KW w W b d q l) (c : UInt8) : KS w (W.alloc (.cells (sec c).toArray 38)) b d q l W.heap.size c :=
  ⟨h.below ((Below.refl _ _).alloc (Nat.le_refl _) _), heap_alloc_new W _⟩
theorem flD_fine {d : RD} {n : Nat} (h : Fine d n) (hn : 1 ≤ n) : Fine (flD d) (n + 1) := by
  have := h.step hn ⟨2, 0, 0, []⟩ (by decide)
  exact this

set_option maxRecDepth 10000 in
set_option maxHeartbeats 4000000 in
theorem commits_law (w : World) (n : Int) (A : Option Addr) (cap : Nat) (l : List ST) (hv : SRow w w.heap.size A l) (hl : ∀ s ∈ l, s.ok) (hlen : l.length ≤ 9223372036854775807) (last : UInt8) (fuse : Int) (hfz : fuse ≤ 9223372036854775807) (P : Option Addr) (pc : Nat) (picks : List Int) (hp : Shows w w.heap.size P picks.length (nums picks)) :
    Calls Try.prog 4 #[.int .i64 n, .slice A l.length cap, .int .u8 (last.toNat : Int), .int .i64 fuse, .slice P picks.length pc] w fun e w' => e = .returned (.bool true) ∧ Below w.heap.size w w' := by
  have hK := Lib.hid (known_b w w (Below.refl _ _))
  have hM : Hid (∀ W, Below w.heap.size w W → Calls Try.prog 6 #[.slice A l.length cap, .int .i64 30] W fun e w' => e = .returned (.bool (muchS l 30)) ∧ W = w') := fun W hb => much_any A cap l 30 W W.heap.size (hv.on hb) hlen
  by_cases c1 : n < 2
  · skip
    clear hv hp hl
    go_enter Try.func4, Try.ntmps4
    go_wp2_with (first
      | (go_at_call 7; (with_reducible refine hK.out.mono ?_); rintro e w1 ⟨rfl, hb1⟩)
      | (go_at_call 6; (with_reducible refine (hM.out _ hb1).mono ?_); rintro e wc ⟨rfl, rfl⟩)
      | fail)
    go_ret
    exact ⟨rfl, hb1⟩
  have c1' : 2 ≤ n := by omega
  by_cases c2 : 12 < n
  · skip
    clear hv hp hl
    go_enter Try.func4, Try.ntmps4
    go_wp2_with (first
      | (go_at_call 7; (with_reducible refine hK.out.mono ?_); rintro e w1 ⟨rfl, hb1⟩)
      | (go_at_call 6; (with_reducible refine (hM.out _ hb1).mono ?_); rintro e wc ⟨rfl, rfl⟩)
      | fail)
    go_ret
    exact ⟨rfl, hb1⟩
  have c2' : n ≤ 12 := by omega
  by_cases c3 : muchS l 30 = true
  · rw [c3] at hM
    clear hv hp hl
    go_enter Try.func4, Try.ntmps4
    go_wp2_with (first
      | (go_at_call 7; (with_reducible refine hK.out.mono ?_); rintro e w1 ⟨rfl, hb1⟩)
      | (go_at_call 6; (with_reducible refine (hM.out _ hb1).mono ?_); rintro e wc ⟨rfl, rfl⟩)
      | fail)
    go_ret
    exact ⟨rfl, hb1⟩
  obtain ⟨hl30, hbad⟩ := muchS_no (by simpa using c3)
  rw [show muchS l 30 = false by simpa using c3] at hM
  by_cases c4 : fuse < 0
  · skip
    clear hv hp hl
    go_enter Try.func4, Try.ntmps4
    go_wp2_with (first
      | (go_at_call 7; (with_reducible refine hK.out.mono ?_); rintro e w1 ⟨rfl, hb1⟩)
      | (go_at_call 6; (with_reducible refine (hM.out _ hb1).mono ?_); rintro e wc ⟨rfl, rfl⟩)
      | fail)
    go_ret
    exact ⟨rfl, hb1⟩
  have c4' : 0 ≤ fuse := by omega
  by_cases c5 : 1000 < picks.length
  · have c5I : (1000 : Int) < (picks.length : Int) := by omega
    clear hv hp hl
    go_enter Try.func4, Try.ntmps4
    go_wp2_with (first
      | (go_at_call 7; (with_reducible refine hK.out.mono ?_); rintro e w1 ⟨rfl, hb1⟩)
      | (go_at_call 6; (with_reducible refine (hM.out _ hb1).mono ?_); rintro e wc ⟨rfl, rfl⟩)
      | fail)
    go_ret
    exact ⟨rfl, hb1⟩
  have c5I : (picks.length : Int) ≤ 1000 := by omega
  obtain ⟨m, rfl⟩ := Int.eq_ofNat_of_zero_le (show 0 ≤ n by omega)
  have hm12 : 1 ≤ m ∧ m ≤ 8192 := by omega
  have hm2 : 2 ≤ m ∧ m ≤ 12 := by omega
  have HM2 := Lib.hid hm2
  have HP5 := Lib.hid (show picks.length ≤ 1000000 by omega)
  have HV := Lib.hid hv
  have HL := Lib.hid hl
  have HBD := Lib.hid hbad
  have HP := Lib.hid hp
  have HF0 := Lib.hid (Inv.start m fuse hm12 c4' hfz)
  have hmk := make_bytes m (by omega)
  have hfu : fuR fuse = 0 := if_neg (by omega)
  generalize hz : List.replicate m (0 : UInt8) = z at *
  clear hz hv hp hl hbad c1 c2 c3 c4 c5
  go_enter Try.func4, Try.ntmps4
  go_wp2_with (first
    | (go_at_call 7; (with_reducible refine hK.out.mono ?_); rintro e w1 ⟨rfl, hb1⟩)
    | (go_at_call 6; (with_reducible refine (hM.out _ hb1).mono ?_); rintro e wc ⟨rfl, rfl⟩)
    | (go_at_call 18; (with_reducible refine (Kn.new m _ hm12).mono ?_); rintro e w2 ⟨b, rfl, h2⟩)
    | (go_at_call 19; (with_reducible refine (num_any _ _).mono ?_); rintro e wc ⟨rfl, rfl⟩)
    | (go_at_call 20; (with_reducible refine ((h2.kw z).fuse fuse hfz).mono ?_); rintro e w3 ⟨rfl, h3⟩)
    | fail)
  generalize w2.heap.size = q at *
  have H3 := Lib.hid h3
  have HB1 := Lib.hid hb1
  have hs1 := hb1.size
  clear h2 h3 hK hM hmk hfu
  go_wp2
  go_loopw [14, 15, 16] (fun s j x wr => ∃ (i k : Nat) (want : List UInt8) (d : RD), i ≤ l.length ∧ k ≤ i ∧ s = .int .i64 (k : Int) ∧ j = .int .i64 (i : Int) ∧ Hid (Inv m fuse k want d ∧ KW w1 wr b d q want)) (fun _ j _ _ => l.length - (intOf j).toNat)
  case atStart => exact ⟨0, 0, _, _, Nat.zero_le _, Nat.le_refl _, rfl, rfl, HF0.out, H3.out⟩
  case round =>
    obtain ⟨i, k, want, d, hi, hki, rfl, rfl, HB⟩ := hrel
    by_cases hlt : i < l.length
    · obtain ⟨p, rfl, AP, cP, hsp, HAT⟩ := (HV.out.on HB1.out).at2 i hlt
      have hok := HL.out _ (List.getElem_mem hlt)
      have hbd := HBD.out _ (List.getElem_mem hlt)
      have hpc : l[i].picks.length ≤ 1000000 := by
        simp only [badS, Bool.or_eq_false_iff, decide_eq_false_iff_not] at hbd
        omega
      have hiI : (i : Int) < (l.length : Int) := by omega
      have hsc := HAT.out wr HB.out.2.b
      clear hbd
      generalize l[i] = x at *
      obtain ⟨xk, xn, xf, xp⟩ := x
      simp only at hpc hsc hsp
      obtain ⟨s0, s1, s2, s3⟩ := hsc
      by_cases e1 : xk = 1
      · subst e1
        by_cases e2 : 0 < xn
        · by_cases e3 : xn < (m : Int)
          · obtain ⟨j, rfl⟩ := Int.eq_ofNat_of_zero_le (show 0 ≤ xn by omega)
            have hj0 : 0 < j := by omega
            have hjm : j < m := by omega
            have HDO := Lib.hid (HB.out.2.doo ⟨1, (j : Int), xf, xp⟩ AP cP hok HB.out.1.fine (by omega) hsp hpc)
            have HIN := Lib.hid (HB.out.1.step ⟨1, (j : Int), xf, xp⟩ rfl j rfl hj0 hjm (by show (j : Int) ≤ _; omega))
            have HAT' := HAT
            clear hsp hok hpc
            go_wp2_with (first
              | (go_at_call 21; (with_reducible refine HDO.out.mono ?_); rintro e w4 ⟨rfl, h4⟩; have hsc := HAT.out w4 h4.b; obtain ⟨t0, t1, t2, t3⟩ := hsc; have hcl := h4.cell j (by rw [HB.out.1.wl]; exact hjm); have hfz4 := h4.fr j; have H4 := Lib.hid (h4.set j xf); clear h4)
              | fail)
            go_roundw
            case rel => exact ⟨i + 1, k + 1, want.set j xf, stD d ⟨1, (j : Int), xf, xp⟩, hlt, by omega, by go_num, by go_num, HIN.out, H4.out⟩
            case measure => simp [intOf]; omega
          · have e3b : decide (xn < (m : Int)) = false := by simp; omega
            have e3' : ¬ xn < (m : Int) := e3
            clear hsp hok hpc
            go_wp2_with fail
            go_roundw
            case rel => exact ⟨i + 1, k, want, d, hlt, by omega, rfl, by go_num, HB⟩
            case measure => simp [intOf]; omega
        · have e2b : decide (0 < xn) = false := by simp; omega
          clear hsp hok hpc
          go_wp2_with fail
          go_roundw
          case rel => exact ⟨i + 1, k, want, d, hlt, by omega, rfl, by go_num, HB⟩
          case measure => simp [intOf]; omega
      · have e1b : (xk == 1) = false := by simpa using e1
        clear hsp hok hpc
        go_wp2_with fail
        go_roundw
        case rel => exact ⟨i + 1, k, want, d, hlt, by omega, rfl, by go_num, HB⟩
        case measure => simp [intOf]; omega
    · have hiI : ¬ (i : Int) < (l.length : Int) := by omega
      have hfine := HB.out.1.fine
      have F1 := Lib.hid (flD_fine hfine (by omega))
      obtain ⟨hLN, c, hc0, hc1, hc2, hc3⟩ := HB.out.1.last last picks (by omega)
      have hr0 : rdR (endD d last picks) 0 = 0 := by unfold rdR; rw [if_pos ⟨by omega, by omega⟩]
      have hri : ∀ j, j < m → rdR (endD d last picks) (j : Int) = 0 := fun j hj => by unfold rdR; rw [if_pos ⟨by omega, by omega⟩]
      have HRI := Lib.hid hri
      have HC3 := Lib.hid hc3
      have hwl := HB.out.1.wl
      have h1 := HB.out.2.flush
      have HFL := Lib.hid h1
      have HP1 := Lib.hid ((HP.out.below HB1.out).wide hs1)
      have hzv := zero_sector
      clear h1 hfine hLN hri hc3
      go_upto_region 24 with (first
        | (go_at_call 22; (with_reducible refine HFL.out.mono ?_); rintro e w4 ⟨rfl, h4⟩)
        | (go_at_call 24; (with_reducible refine (full_sec last w4).mono ?_); rintro e w5 ⟨rfl, hb5⟩; have h5 := h4.below hb5)
        | (go_at_call 23; (with_reducible refine (h5.write 0 last F1.out (by omega)).mono ?_); rintro e w6 ⟨rfl, h6⟩)
        | (go_at_call 22; (with_reducible refine h6.flush.mono ?_); rintro e w7 ⟨rfl, h7⟩)
        | (go_at_call 11; (with_reducible refine (h7.crash P pc picks HP1.out HP5.out).mono ?_); rintro e w8 ⟨rfl, h8⟩; have hrd := h8.read 0; have h8' : KW w1 w8 b (endD d last picks) q want := h8; rw [show rdC (crashD (flD (wrD (flD d) 0 last)) picks) 0 = c from hc0, show rdR (crashD (flD (wrD (flD d) 0 last)) picks) 0 = 0 from hr0] at hrd)
        | (go_at_call 16; (with_reducible refine hrd.mono ?_); rintro e w9 ⟨rfl, hb9⟩)
        | (refine wpList_store_row rfl 38 (.tmp 17) (.tmp 116) rfl w9.heap.size (sec c).toArray rfl rfl 38 (cells8 (fullN 0 0)).toArray (heap_alloc_new w9 _) (by rw [sector_sz c]; simp) (by rw [size8, fullN_len 0 0 (by omega), List.size_toArray, sec_len]) (all_oneCell_toArray (sec_one _)) ?_; rw [World.setRow_alloc_new])
        | fail)
      have HKS := Lib.hid ((h8'.below hb9).ks c)
      clear h4 h5 h6 h7 h8 h8' hrd hb5 hb9 F1 HFL HP1 hzv hc0 hr0
      generalize endD d last picks = D at *
      generalize w9.alloc (.cells (sec c).toArray 38) = w10 at *
      generalize w9.heap.size = qs at *
      have hk30 : k ≤ 30 := by omega
      go_cut [138] (fun r wx => r = .bool false ∧ Hid (KS w1 wx b D q want qs c))
      case first =>
        have HD := Lib.hid (HKS.out.below (Below.refl _ _).drew)
        have HS0 := Lib.hid (box_range HD.out.box)
        have hu := sector_u
        have z1' : (Try.prog.info? 38).map (·.size) = some (sec c).toArray.size := by rw [sector_sz c]; simp
        have hfull : ∀ (x : UInt8) W, KS w1 W b D q want qs c → Calls Try.prog 24 #[.int .u8 (x.toNat : Int)] W fun e w' => e = .returned (.agg (sec x).toArray) ∧ KS w1 w' b D q want qs c := fun x W h => (full_sec x W).mono fun e w' hp => ⟨hp.1, h.below hp.2⟩
        have HF0 : Hid (∀ W, KS w1 W b D q want qs c → Calls Try.prog 24 #[.int .u8 0] W fun e w' => e = .returned (.agg (sec 0).toArray) ∧ KS w1 w' b D q want qs c) := fun W h => hfull 0 W h
        have HFL := Lib.hid (hfull last)
        clear hfull
        have hw3 : IntKind.i64.wrap ((k : Int) + 3) = (k : Int) + 3 := IntWalk.i64_in _ (by omega)
        by_cases e0 : c = 0
        · have n0 : ∀ w : World, (binOp .neq 38 (.agg (sec c).toArray) (.agg (sec 0).toArray)).run Try.prog w = .ok (.bool false) w := fun w => by rw [neq_sec, e0]; simp
          by_cases f3 : (k : Int) + 3 ≤ fuse
          · have e1 := hc2 f3
            have n1 : ∀ w : World, (binOp .neq 38 (.agg (sec c).toArray) (.agg (sec last).toArray)).run Try.prog w = .ok (.bool false) w := fun w => by rw [neq_sec, e1]; simp
            have f3b : decide ((k : Int) + 3 ≤ fuse) = true := by simpa using f3
            clear e0 e1 hc1 hc2
            refine wp_region_noPanic ?_
            refine wp_region_held_drew (S := fun W => KS w1 W b D q want qs c) (by kernel_rfl) (HD.out) (fun hHeld => ?_)
            refine takeN (i := 0) (oi := _) 118 rfl rfl (by kernel_rfl) (by kernel_rfl) (by kernel_rfl) (fun _ _ _ h => h) (yieldsIf_load_mid (by rfl) 38 (.tmp 17) rfl qs 0 rfl (sec c) _ (fun w h => box_range h.box) sector_u rfl (sector_sz c)) hHeld ?_
            try simp only [Act.put, List.setIfInBounds_toArray, List.set_cons_zero, List.set_cons_succ]
            refine wpAnyH_ready (rs := [1]) (by kernel_rfl) (by simp) ?_
            refine AllReadyH.cons rfl (fun K hK => ?_) AllReadyH.nil
            go_simp
            go_wp2_with (first
              | (go_at_call 24; (with_reducible refine (HF0.out _ hHeld).mono ?_); rintro e wa ⟨rfl, hSa⟩)
              | fail)
            refine hK.out _ _ hSa (fun hHeld => ?_)
            clear hK K hSa
            try simp only [Act.put, List.setIfInBounds_toArray, List.set_cons_zero, List.set_cons_succ]
            refine takeN (i := 2) (oi := _) (v := .bool false) 120 rfl rfl (by kernel_rfl) (by kernel_rfl) (by kernel_rfl) (fun _ _ _ h => h) (Or.inl ⟨by rfl, fun w hSw => by go_simp⟩) hHeld ?_
            try simp only [Act.put, List.setIfInBounds_toArray, List.set_cons_zero, List.set_cons_succ]
            refine takeN (i := 3) (oi := _) (v := .bool false) 121 rfl rfl (by kernel_rfl) (by kernel_rfl) (by kernel_rfl) (fun _ _ _ h => h) (Or.inl ⟨by rfl, fun w hSw => by go_simp⟩) hHeld ?_
            try simp only [Act.put, List.setIfInBounds_toArray, List.set_cons_zero, List.set_cons_succ]
            refine takeN (i := 4) (oi := _) (v := undef) 122 rfl rfl (by kernel_rfl) (by kernel_rfl) (by kernel_rfl) (fun _ _ _ h => h) (Or.inr ⟨by rfl, rfl⟩) hHeld ?_
            try simp only [Act.put, List.setIfInBounds_toArray, List.set_cons_zero, List.set_cons_succ]
            refine takeN (i := 5) (oi := _) (v := undef) 123 rfl rfl (by kernel_rfl) (by kernel_rfl) (by kernel_rfl) (fun _ _ _ h => h) (Or.inr ⟨by rfl, rfl⟩) hHeld ?_
            try simp only [Act.put, List.setIfInBounds_toArray, List.set_cons_zero, List.set_cons_succ]
            refine takeN (i := 6) (oi := _) (v := undef) 124 rfl rfl (by kernel_rfl) (by kernel_rfl) (by kernel_rfl) (fun _ _ _ h => h) (Or.inr ⟨by rfl, rfl⟩) hHeld ?_
            try simp only [Act.put, List.setIfInBounds_toArray, List.set_cons_zero, List.set_cons_succ]
            refine takeN (i := 7) (oi := _) (v := undef) 125 rfl rfl (by kernel_rfl) (by kernel_rfl) (by kernel_rfl) (fun _ _ _ h => h) (Or.inr ⟨by rfl, rfl⟩) hHeld ?_
            try simp only [Act.put, List.setIfInBounds_toArray, List.set_cons_zero, List.set_cons_succ]
            refine takeN (i := 8) (oi := _) (v := .bool false) 126 rfl rfl (by kernel_rfl) (by kernel_rfl) (by kernel_rfl) (fun _ _ _ h => h) (Or.inl ⟨by rfl, fun w hSw => by go_simp⟩) hHeld ?_
            try simp only [Act.put, List.setIfInBounds_toArray, List.set_cons_zero, List.set_cons_succ]
            refine takeN (i := 9) (oi := _) (v := .bool false) 127 rfl rfl (by kernel_rfl) (by kernel_rfl) (by kernel_rfl) (fun _ _ _ h => h) (Or.inl ⟨by rfl, fun w hSw => by go_simp⟩) hHeld ?_
            try simp only [Act.put, List.setIfInBounds_toArray, List.set_cons_zero, List.set_cons_succ]
            refine takeN (i := 10) (oi := _) (v := .int .i64 fuse) 128 rfl rfl (by kernel_rfl) (by kernel_rfl) (by kernel_rfl) (fun _ _ _ h => h) (Or.inl ⟨by rfl, fun w hSw => by go_simp⟩) hHeld ?_
            try simp only [Act.put, List.setIfInBounds_toArray, List.set_cons_zero, List.set_cons_succ]
            refine takeN (i := 11) (oi := _) (v := .int .i64 (k : Int)) 129 rfl rfl (by kernel_rfl) (by kernel_rfl) (by kernel_rfl) (fun _ _ _ h => h) (Or.inl ⟨by rfl, fun w hSw => by go_simp⟩) hHeld ?_
            try simp only [Act.put, List.setIfInBounds_toArray, List.set_cons_zero, List.set_cons_succ]
            refine takeN (i := 12) (oi := _) (v := .int .i64 ((k : Int) + 3)) 130 rfl rfl (by kernel_rfl) (by kernel_rfl) (by kernel_rfl) (fun _ _ _ h => h) (Or.inl ⟨by rfl, fun w hSw => by go_simp⟩) hHeld ?_
            try simp only [Act.put, List.setIfInBounds_toArray, List.set_cons_zero, List.set_cons_succ]
            refine takeN (i := 13) (oi := _) (v := .bool true) 131 rfl rfl (by kernel_rfl) (by kernel_rfl) (by kernel_rfl) (fun _ _ _ h => h) (Or.inl ⟨by rfl, fun w hSw => by go_simp⟩) hHeld ?_
            try simp only [Act.put, List.setIfInBounds_toArray, List.set_cons_zero, List.set_cons_succ]
            refine takeN (i := 14) (oi := _) (v := .bool true) 132 rfl rfl (by kernel_rfl) (by kernel_rfl) (by kernel_rfl) (fun _ _ _ h => h) (Or.inl ⟨by rfl, fun w hSw => by go_simp⟩) hHeld ?_
            try simp only [Act.put, List.setIfInBounds_toArray, List.set_cons_zero, List.set_cons_succ]
            refine takeN (i := 15) (oi := _) 133 rfl rfl (by kernel_rfl) (by kernel_rfl) (by kernel_rfl) (fun _ _ _ h => h) (yieldsIf_load_mid (by rfl) 38 (.tmp 17) rfl qs 0 rfl (sec c) _ (fun w h => box_range h.box) sector_u rfl (sector_sz c)) hHeld ?_
            try simp only [Act.put, List.setIfInBounds_toArray, List.set_cons_zero, List.set_cons_succ]
            refine takeN (i := 16) (oi := _) (v := .int .u8 (last.toNat : Int)) 134 rfl rfl (by kernel_rfl) (by kernel_rfl) (by kernel_rfl) (fun _ _ _ h => h) (Or.inl ⟨by rfl, fun w hSw => by go_simp⟩) hHeld ?_
            try simp only [Act.put, List.setIfInBounds_toArray, List.set_cons_zero, List.set_cons_succ]
            refine wpAnyH_ready (rs := [17]) (by kernel_rfl) (by simp) ?_
            refine AllReadyH.cons rfl (fun K hK => ?_) AllReadyH.nil
            go_simp
            go_wp2_with (first
              | (go_at_call 24; (with_reducible refine (HFL.out _ hHeld).mono ?_); rintro e wa ⟨rfl, hSa⟩)
              | fail)
            refine hK.out _ _ hSa (fun hHeld => ?_)
            clear hK K hSa
            try simp only [Act.put, List.setIfInBounds_toArray, List.set_cons_zero, List.set_cons_succ]
            refine takeN (i := 18) (oi := _) (v := .bool false) 136 rfl rfl (by kernel_rfl) (by kernel_rfl) (by kernel_rfl) (fun _ _ _ h => h) (Or.inl ⟨by rfl, fun w hSw => by go_simp⟩) hHeld ?_
            try simp only [Act.put, List.setIfInBounds_toArray, List.set_cons_zero, List.set_cons_succ]
            refine takeN (i := 19) (oi := _) (v := .bool false) 137 rfl rfl (by kernel_rfl) (by kernel_rfl) (by kernel_rfl) (fun _ _ _ h => h) (Or.inl ⟨by rfl, fun w hSw => by go_simp⟩) hHeld ?_
            try simp only [Act.put, List.setIfInBounds_toArray, List.set_cons_zero, List.set_cons_succ]
            refine takeN (i := 20) (oi := _) (v := .bool false) 138 rfl rfl (by kernel_rfl) (by kernel_rfl) (by kernel_rfl) (fun _ _ _ h => h) (Or.inl ⟨by rfl, fun w hSw => by go_simp⟩) hHeld ?_
            try simp only [Act.put, List.setIfInBounds_toArray, List.set_cons_zero, List.set_cons_succ]
            refine wpAnyH_done (by kernel_rfl) ?_ _
            refine NoPanic.normal ?_
            go_wp2_with fail
            go_meet
            exact ⟨rfl, hHeld⟩
          · have f3b : decide ((k : Int) + 3 ≤ fuse) = false := by simpa using f3
            clear e0 hc1 hc2
            refine wp_region_noPanic ?_
            refine wp_region_held_drew (S := fun W => KS w1 W b D q want qs c) (by kernel_rfl) (HD.out) (fun hHeld => ?_)
            refine takeN (i := 0) (oi := _) 118 rfl rfl (by kernel_rfl) (by kernel_rfl) (by kernel_rfl) (fun _ _ _ h => h) (yieldsIf_load_mid (by rfl) 38 (.tmp 17) rfl qs 0 rfl (sec c) _ (fun w h => box_range h.box) sector_u rfl (sector_sz c)) hHeld ?_
            try simp only [Act.put, List.setIfInBounds_toArray, List.set_cons_zero, List.set_cons_succ]
            refine wpAnyH_ready (rs := [1]) (by kernel_rfl) (by simp) ?_
            refine AllReadyH.cons rfl (fun K hK => ?_) AllReadyH.nil
            go_simp
            go_wp2_with (first
              | (go_at_call 24; (with_reducible refine (HF0.out _ hHeld).mono ?_); rintro e wa ⟨rfl, hSa⟩)
              | fail)
            refine hK.out _ _ hSa (fun hHeld => ?_)
            clear hK K hSa
            try simp only [Act.put, List.setIfInBounds_toArray, List.set_cons_zero, List.set_cons_succ]
            refine takeN (i := 2) (oi := _) (v := .bool false) 120 rfl rfl (by kernel_rfl) (by kernel_rfl) (by kernel_rfl) (fun _ _ _ h => h) (Or.inl ⟨by rfl, fun w hSw => by go_simp⟩) hHeld ?_
            try simp only [Act.put, List.setIfInBounds_toArray, List.set_cons_zero, List.set_cons_succ]
            refine takeN (i := 3) (oi := _) (v := .bool false) 121 rfl rfl (by kernel_rfl) (by kernel_rfl) (by kernel_rfl) (fun _ _ _ h => h) (Or.inl ⟨by rfl, fun w hSw => by go_simp⟩) hHeld ?_
            try simp only [Act.put, List.setIfInBounds_toArray, List.set_cons_zero, List.set_cons_succ]
            refine takeN (i := 4) (oi := _) (v := undef) 122 rfl rfl (by kernel_rfl) (by kernel_rfl) (by kernel_rfl) (fun _ _ _ h => h) (Or.inr ⟨by rfl, rfl⟩) hHeld ?_
            try simp only [Act.put, List.setIfInBounds_toArray, List.set_cons_zero, List.set_cons_succ]
            refine takeN (i := 5) (oi := _) (v := undef) 123 rfl rfl (by kernel_rfl) (by kernel_rfl) (by kernel_rfl) (fun _ _ _ h => h) (Or.inr ⟨by rfl, rfl⟩) hHeld ?_
            try simp only [Act.put, List.setIfInBounds_toArray, List.set_cons_zero, List.set_cons_succ]
            refine takeN (i := 6) (oi := _) (v := undef) 124 rfl rfl (by kernel_rfl) (by kernel_rfl) (by kernel_rfl) (fun _ _ _ h => h) (Or.inr ⟨by rfl, rfl⟩) hHeld ?_
            try simp only [Act.put, List.setIfInBounds_toArray, List.set_cons_zero, List.set_cons_succ]
            refine takeN (i := 7) (oi := _) (v := undef) 125 rfl rfl (by kernel_rfl) (by kernel_rfl) (by kernel_rfl) (fun _ _ _ h => h) (Or.inr ⟨by rfl, rfl⟩) hHeld ?_
            try simp only [Act.put, List.setIfInBounds_toArray, List.set_cons_zero, List.set_cons_succ]
            refine takeN (i := 8) (oi := _) (v := .bool false) 126 rfl rfl (by kernel_rfl) (by kernel_rfl) (by kernel_rfl) (fun _ _ _ h => h) (Or.inl ⟨by rfl, fun w hSw => by go_simp⟩) hHeld ?_
            try simp only [Act.put, List.setIfInBounds_toArray, List.set_cons_zero, List.set_cons_succ]
            refine takeN (i := 9) (oi := _) (v := .bool false) 127 rfl rfl (by kernel_rfl) (by kernel_rfl) (by kernel_rfl) (fun _ _ _ h => h) (Or.inl ⟨by rfl, fun w hSw => by go_simp⟩) hHeld ?_
            try simp only [Act.put, List.setIfInBounds_toArray, List.set_cons_zero, List.set_cons_succ]
            refine takeN (i := 10) (oi := _) (v := .int .i64 fuse) 128 rfl rfl (by kernel_rfl) (by kernel_rfl) (by kernel_rfl) (fun _ _ _ h => h) (Or.inl ⟨by rfl, fun w hSw => by go_simp⟩) hHeld ?_
            try simp only [Act.put, List.setIfInBounds_toArray, List.set_cons_zero, List.set_cons_succ]
            refine takeN (i := 11) (oi := _) (v := .int .i64 (k : Int)) 129 rfl rfl (by kernel_rfl) (by kernel_rfl) (by kernel_rfl) (fun _ _ _ h => h) (Or.inl ⟨by rfl, fun w hSw => by go_simp⟩) hHeld ?_
            try simp only [Act.put, List.setIfInBounds_toArray, List.set_cons_zero, List.set_cons_succ]
            refine takeN (i := 12) (oi := _) (v := .int .i64 ((k : Int) + 3)) 130 rfl rfl (by kernel_rfl) (by kernel_rfl) (by kernel_rfl) (fun _ _ _ h => h) (Or.inl ⟨by rfl, fun w hSw => by go_simp⟩) hHeld ?_
            try simp only [Act.put, List.setIfInBounds_toArray, List.set_cons_zero, List.set_cons_succ]
            refine takeN (i := 13) (oi := _) (v := .bool false) 131 rfl rfl (by kernel_rfl) (by kernel_rfl) (by kernel_rfl) (fun _ _ _ h => h) (Or.inl ⟨by rfl, fun w hSw => by go_simp⟩) hHeld ?_
            try simp only [Act.put, List.setIfInBounds_toArray, List.set_cons_zero, List.set_cons_succ]
            refine takeN (i := 14) (oi := _) (v := .bool false) 132 rfl rfl (by kernel_rfl) (by kernel_rfl) (by kernel_rfl) (fun _ _ _ h => h) (Or.inl ⟨by rfl, fun w hSw => by go_simp⟩) hHeld ?_
            try simp only [Act.put, List.setIfInBounds_toArray, List.set_cons_zero, List.set_cons_succ]
            refine takeN (i := 15) (oi := _) (v := undef) 133 rfl rfl (by kernel_rfl) (by kernel_rfl) (by kernel_rfl) (fun _ _ _ h => h) (Or.inr ⟨by rfl, rfl⟩) hHeld ?_
            try simp only [Act.put, List.setIfInBounds_toArray, List.set_cons_zero, List.set_cons_succ]
            refine takeN (i := 16) (oi := _) (v := undef) 134 rfl rfl (by kernel_rfl) (by kernel_rfl) (by kernel_rfl) (fun _ _ _ h => h) (Or.inr ⟨by rfl, rfl⟩) hHeld ?_
            try simp only [Act.put, List.setIfInBounds_toArray, List.set_cons_zero, List.set_cons_succ]
            refine takeN (i := 17) (oi := _) (v := undef) 135 rfl rfl (by kernel_rfl) (by kernel_rfl) (by kernel_rfl) (fun _ _ _ h => h) (Or.inr ⟨by rfl, rfl⟩) hHeld ?_
            try simp only [Act.put, List.setIfInBounds_toArray, List.set_cons_zero, List.set_cons_succ]
            refine takeN (i := 18) (oi := _) (v := undef) 136 rfl rfl (by kernel_rfl) (by kernel_rfl) (by kernel_rfl) (fun _ _ _ h => h) (Or.inr ⟨by rfl, rfl⟩) hHeld ?_
            try simp only [Act.put, List.setIfInBounds_toArray, List.set_cons_zero, List.set_cons_succ]
            refine takeN (i := 19) (oi := _) (v := .bool false) 137 rfl rfl (by kernel_rfl) (by kernel_rfl) (by kernel_rfl) (fun _ _ _ h => h) (Or.inl ⟨by rfl, fun w hSw => by go_simp⟩) hHeld ?_
            try simp only [Act.put, List.setIfInBounds_toArray, List.set_cons_zero, List.set_cons_succ]
            refine takeN (i := 20) (oi := _) (v := .bool false) 138 rfl rfl (by kernel_rfl) (by kernel_rfl) (by kernel_rfl) (fun _ _ _ h => h) (Or.inl ⟨by rfl, fun w hSw => by go_simp⟩) hHeld ?_
            try simp only [Act.put, List.setIfInBounds_toArray, List.set_cons_zero, List.set_cons_succ]
            refine wpAnyH_done (by kernel_rfl) ?_ _
            refine NoPanic.normal ?_
            go_wp2_with fail
            go_meet
            exact ⟨rfl, hHeld⟩
        · have e1 : c = last := hc1.resolve_left e0
          have n0 : ∀ w : World, (binOp .neq 38 (.agg (sec c).toArray) (.agg (sec 0).toArray)).run Try.prog w = .ok (.bool true) w := fun w => by rw [neq_sec, beq_false_of_ne e0]; rfl
          have n1 : ∀ w : World, (binOp .neq 38 (.agg (sec c).toArray) (.agg (sec last).toArray)).run Try.prog w = .ok (.bool false) w := fun w => by rw [neq_sec, e1]; simp
          clear e1 e0 hc1 hc2
          by_cases f3 : (k : Int) + 3 ≤ fuse
          · have f3b : decide ((k : Int) + 3 ≤ fuse) = true := by simpa using f3
            refine wp_region_noPanic ?_
            refine wp_region_held_drew (S := fun W => KS w1 W b D q want qs c) (by kernel_rfl) (HD.out) (fun hHeld => ?_)
            refine takeN (i := 0) (oi := _) 118 rfl rfl (by kernel_rfl) (by kernel_rfl) (by kernel_rfl) (fun _ _ _ h => h) (yieldsIf_load_mid (by rfl) 38 (.tmp 17) rfl qs 0 rfl (sec c) _ (fun w h => box_range h.box) sector_u rfl (sector_sz c)) hHeld ?_
            try simp only [Act.put, List.setIfInBounds_toArray, List.set_cons_zero, List.set_cons_succ]
            refine wpAnyH_ready (rs := [1]) (by kernel_rfl) (by simp) ?_
            refine AllReadyH.cons rfl (fun K hK => ?_) AllReadyH.nil
            go_simp
            go_wp2_with (first
              | (go_at_call 24; (with_reducible refine (HF0.out _ hHeld).mono ?_); rintro e wa ⟨rfl, hSa⟩)
              | fail)
            refine hK.out _ _ hSa (fun hHeld => ?_)
            clear hK K hSa
            try simp only [Act.put, List.setIfInBounds_toArray, List.set_cons_zero, List.set_cons_succ]
            refine takeN (i := 2) (oi := _) (v := .bool true) 120 rfl rfl (by kernel_rfl) (by kernel_rfl) (by kernel_rfl) (fun _ _ _ h => h) (Or.inl ⟨by rfl, fun w hSw => by go_simp⟩) hHeld ?_
            try simp only [Act.put, List.setIfInBounds_toArray, List.set_cons_zero, List.set_cons_succ]
            refine takeN (i := 3) (oi := _) (v := .bool true) 121 rfl rfl (by kernel_rfl) (by kernel_rfl) (by kernel_rfl) (fun _ _ _ h => h) (Or.inl ⟨by rfl, fun w hSw => by go_simp⟩) hHeld ?_
            try simp only [Act.put, List.setIfInBounds_toArray, List.set_cons_zero, List.set_cons_succ]
            refine takeN (i := 4) (oi := _) 122 rfl rfl (by kernel_rfl) (by kernel_rfl) (by kernel_rfl) (fun _ _ _ h => h) (yieldsIf_load_mid (by rfl) 38 (.tmp 17) rfl qs 0 rfl (sec c) _ (fun w h => box_range h.box) sector_u rfl (sector_sz c)) hHeld ?_
            try simp only [Act.put, List.setIfInBounds_toArray, List.set_cons_zero, List.set_cons_succ]
            refine takeN (i := 5) (oi := _) (v := .int .u8 (last.toNat : Int)) 123 rfl rfl (by kernel_rfl) (by kernel_rfl) (by kernel_rfl) (fun _ _ _ h => h) (Or.inl ⟨by rfl, fun w hSw => by go_simp⟩) hHeld ?_
            try simp only [Act.put, List.setIfInBounds_toArray, List.set_cons_zero, List.set_cons_succ]
            refine wpAnyH_ready (rs := [6]) (by kernel_rfl) (by simp) ?_
            refine AllReadyH.cons rfl (fun K hK => ?_) AllReadyH.nil
            go_simp
            go_wp2_with (first
              | (go_at_call 24; (with_reducible refine (HFL.out _ hHeld).mono ?_); rintro e wa ⟨rfl, hSa⟩)
              | fail)
            refine hK.out _ _ hSa (fun hHeld => ?_)
            clear hK K hSa
            try simp only [Act.put, List.setIfInBounds_toArray, List.set_cons_zero, List.set_cons_succ]
            refine takeN (i := 7) (oi := _) (v := .bool false) 125 rfl rfl (by kernel_rfl) (by kernel_rfl) (by kernel_rfl) (fun _ _ _ h => h) (Or.inl ⟨by rfl, fun w hSw => by go_simp⟩) hHeld ?_
            try simp only [Act.put, List.setIfInBounds_toArray, List.set_cons_zero, List.set_cons_succ]
            refine takeN (i := 8) (oi := _) (v := .bool false) 126 rfl rfl (by kernel_rfl) (by kernel_rfl) (by kernel_rfl) (fun _ _ _ h => h) (Or.inl ⟨by rfl, fun w hSw => by go_simp⟩) hHeld ?_
            try simp only [Act.put, List.setIfInBounds_toArray, List.set_cons_zero, List.set_cons_succ]
            refine takeN (i := 9) (oi := _) (v := .bool false) 127 rfl rfl (by kernel_rfl) (by kernel_rfl) (by kernel_rfl) (fun _ _ _ h => h) (Or.inl ⟨by rfl, fun w hSw => by go_simp⟩) hHeld ?_
            try simp only [Act.put, List.setIfInBounds_toArray, List.set_cons_zero, List.set_cons_succ]
            refine takeN (i := 10) (oi := _) (v := .int .i64 fuse) 128 rfl rfl (by kernel_rfl) (by kernel_rfl) (by kernel_rfl) (fun _ _ _ h => h) (Or.inl ⟨by rfl, fun w hSw => by go_simp⟩) hHeld ?_
            try simp only [Act.put, List.setIfInBounds_toArray, List.set_cons_zero, List.set_cons_succ]
            refine takeN (i := 11) (oi := _) (v := .int .i64 (k : Int)) 129 rfl rfl (by kernel_rfl) (by kernel_rfl) (by kernel_rfl) (fun _ _ _ h => h) (Or.inl ⟨by rfl, fun w hSw => by go_simp⟩) hHeld ?_
            try simp only [Act.put, List.setIfInBounds_toArray, List.set_cons_zero, List.set_cons_succ]
            refine takeN (i := 12) (oi := _) (v := .int .i64 ((k : Int) + 3)) 130 rfl rfl (by kernel_rfl) (by kernel_rfl) (by kernel_rfl) (fun _ _ _ h => h) (Or.inl ⟨by rfl, fun w hSw => by go_simp⟩) hHeld ?_
            try simp only [Act.put, List.setIfInBounds_toArray, List.set_cons_zero, List.set_cons_succ]
            refine takeN (i := 13) (oi := _) (v := .bool true) 131 rfl rfl (by kernel_rfl) (by kernel_rfl) (by kernel_rfl) (fun _ _ _ h => h) (Or.inl ⟨by rfl, fun w hSw => by go_simp⟩) hHeld ?_
            try simp only [Act.put, List.setIfInBounds_toArray, List.set_cons_zero, List.set_cons_succ]
            refine takeN (i := 14) (oi := _) (v := .bool true) 132 rfl rfl (by kernel_rfl) (by kernel_rfl) (by kernel_rfl) (fun _ _ _ h => h) (Or.inl ⟨by rfl, fun w hSw => by go_simp⟩) hHeld ?_
            try simp only [Act.put, List.setIfInBounds_toArray, List.set_cons_zero, List.set_cons_succ]
            refine takeN (i := 15) (oi := _) 133 rfl rfl (by kernel_rfl) (by kernel_rfl) (by kernel_rfl) (fun _ _ _ h => h) (yieldsIf_load_mid (by rfl) 38 (.tmp 17) rfl qs 0 rfl (sec c) _ (fun w h => box_range h.box) sector_u rfl (sector_sz c)) hHeld ?_
            try simp only [Act.put, List.setIfInBounds_toArray, List.set_cons_zero, List.set_cons_succ]
            refine takeN (i := 16) (oi := _) (v := .int .u8 (last.toNat : Int)) 134 rfl rfl (by kernel_rfl) (by kernel_rfl) (by kernel_rfl) (fun _ _ _ h => h) (Or.inl ⟨by rfl, fun w hSw => by go_simp⟩) hHeld ?_
            try simp only [Act.put, List.setIfInBounds_toArray, List.set_cons_zero, List.set_cons_succ]
            refine wpAnyH_ready (rs := [17]) (by kernel_rfl) (by simp) ?_
            refine AllReadyH.cons rfl (fun K hK => ?_) AllReadyH.nil
            go_simp
            go_wp2_with (first
              | (go_at_call 24; (with_reducible refine (HFL.out _ hHeld).mono ?_); rintro e wa ⟨rfl, hSa⟩)
              | fail)
            refine hK.out _ _ hSa (fun hHeld => ?_)
            clear hK K hSa
            try simp only [Act.put, List.setIfInBounds_toArray, List.set_cons_zero, List.set_cons_succ]
            refine takeN (i := 18) (oi := _) (v := .bool false) 136 rfl rfl (by kernel_rfl) (by kernel_rfl) (by kernel_rfl) (fun _ _ _ h => h) (Or.inl ⟨by rfl, fun w hSw => by go_simp⟩) hHeld ?_
            try simp only [Act.put, List.setIfInBounds_toArray, List.set_cons_zero, List.set_cons_succ]
            refine takeN (i := 19) (oi := _) (v := .bool false) 137 rfl rfl (by kernel_rfl) (by kernel_rfl) (by kernel_rfl) (fun _ _ _ h => h) (Or.inl ⟨by rfl, fun w hSw => by go_simp⟩) hHeld ?_
            try simp only [Act.put, List.setIfInBounds_toArray, List.set_cons_zero, List.set_cons_succ]
            refine takeN (i := 20) (oi := _) (v := .bool false) 138 rfl rfl (by kernel_rfl) (by kernel_rfl) (by kernel_rfl) (fun _ _ _ h => h) (Or.inl ⟨by rfl, fun w hSw => by go_simp⟩) hHeld ?_
            try simp only [Act.put, List.setIfInBounds_toArray, List.set_cons_zero, List.set_cons_succ]
            refine wpAnyH_done (by kernel_rfl) ?_ _
            refine NoPanic.normal ?_
            go_wp2_with fail
            go_meet
            exact ⟨rfl, hHeld⟩
          · have f3b : decide ((k : Int) + 3 ≤ fuse) = false := by simpa using f3
            refine wp_region_noPanic ?_
            refine wp_region_held_drew (S := fun W => KS w1 W b D q want qs c) (by kernel_rfl) (HD.out) (fun hHeld => ?_)
            refine takeN (i := 0) (oi := _) 118 rfl rfl (by kernel_rfl) (by kernel_rfl) (by kernel_rfl) (fun _ _ _ h => h) (yieldsIf_load_mid (by rfl) 38 (.tmp 17) rfl qs 0 rfl (sec c) _ (fun w h => box_range h.box) sector_u rfl (sector_sz c)) hHeld ?_
            try simp only [Act.put, List.setIfInBounds_toArray, List.set_cons_zero, List.set_cons_succ]
            refine wpAnyH_ready (rs := [1]) (by kernel_rfl) (by simp) ?_
            refine AllReadyH.cons rfl (fun K hK => ?_) AllReadyH.nil
            go_simp
            go_wp2_with (first
              | (go_at_call 24; (with_reducible refine (HF0.out _ hHeld).mono ?_); rintro e wa ⟨rfl, hSa⟩)
              | fail)
            refine hK.out _ _ hSa (fun hHeld => ?_)
            clear hK K hSa
            try simp only [Act.put, List.setIfInBounds_toArray, List.set_cons_zero, List.set_cons_succ]
            refine takeN (i := 2) (oi := _) (v := .bool true) 120 rfl rfl (by kernel_rfl) (by kernel_rfl) (by kernel_rfl) (fun _ _ _ h => h) (Or.inl ⟨by rfl, fun w hSw => by go_simp⟩) hHeld ?_
            try simp only [Act.put, List.setIfInBounds_toArray, List.set_cons_zero, List.set_cons_succ]
            refine takeN (i := 3) (oi := _) (v := .bool true) 121 rfl rfl (by kernel_rfl) (by kernel_rfl) (by kernel_rfl) (fun _ _ _ h => h) (Or.inl ⟨by rfl, fun w hSw => by go_simp⟩) hHeld ?_
            try simp only [Act.put, List.setIfInBounds_toArray, List.set_cons_zero, List.set_cons_succ]
            refine takeN (i := 4) (oi := _) 122 rfl rfl (by kernel_rfl) (by kernel_rfl) (by kernel_rfl) (fun _ _ _ h => h) (yieldsIf_load_mid (by rfl) 38 (.tmp 17) rfl qs 0 rfl (sec c) _ (fun w h => box_range h.box) sector_u rfl (sector_sz c)) hHeld ?_
            try simp only [Act.put, List.setIfInBounds_toArray, List.set_cons_zero, List.set_cons_succ]
            refine takeN (i := 5) (oi := _) (v := .int .u8 (last.toNat : Int)) 123 rfl rfl (by kernel_rfl) (by kernel_rfl) (by kernel_rfl) (fun _ _ _ h => h) (Or.inl ⟨by rfl, fun w hSw => by go_simp⟩) hHeld ?_
            try simp only [Act.put, List.setIfInBounds_toArray, List.set_cons_zero, List.set_cons_succ]
            refine wpAnyH_ready (rs := [6]) (by kernel_rfl) (by simp) ?_
            refine AllReadyH.cons rfl (fun K hK => ?_) AllReadyH.nil
            go_simp
            go_wp2_with (first
              | (go_at_call 24; (with_reducible refine (HFL.out _ hHeld).mono ?_); rintro e wa ⟨rfl, hSa⟩)
              | fail)
            refine hK.out _ _ hSa (fun hHeld => ?_)
            clear hK K hSa
            try simp only [Act.put, List.setIfInBounds_toArray, List.set_cons_zero, List.set_cons_succ]
            refine takeN (i := 7) (oi := _) (v := .bool false) 125 rfl rfl (by kernel_rfl) (by kernel_rfl) (by kernel_rfl) (fun _ _ _ h => h) (Or.inl ⟨by rfl, fun w hSw => by go_simp⟩) hHeld ?_
            try simp only [Act.put, List.setIfInBounds_toArray, List.set_cons_zero, List.set_cons_succ]
            refine takeN (i := 8) (oi := _) (v := .bool false) 126 rfl rfl (by kernel_rfl) (by kernel_rfl) (by kernel_rfl) (fun _ _ _ h => h) (Or.inl ⟨by rfl, fun w hSw => by go_simp⟩) hHeld ?_
            try simp only [Act.put, List.setIfInBounds_toArray, List.set_cons_zero, List.set_cons_succ]
            refine takeN (i := 9) (oi := _) (v := .bool false) 127 rfl rfl (by kernel_rfl) (by kernel_rfl) (by kernel_rfl) (fun _ _ _ h => h) (Or.inl ⟨by rfl, fun w hSw => by go_simp⟩) hHeld ?_
            try simp only [Act.put, List.setIfInBounds_toArray, List.set_cons_zero, List.set_cons_succ]
            refine takeN (i := 10) (oi := _) (v := .int .i64 fuse) 128 rfl rfl (by kernel_rfl) (by kernel_rfl) (by kernel_rfl) (fun _ _ _ h => h) (Or.inl ⟨by rfl, fun w hSw => by go_simp⟩) hHeld ?_
            try simp only [Act.put, List.setIfInBounds_toArray, List.set_cons_zero, List.set_cons_succ]
            refine takeN (i := 11) (oi := _) (v := .int .i64 (k : Int)) 129 rfl rfl (by kernel_rfl) (by kernel_rfl) (by kernel_rfl) (fun _ _ _ h => h) (Or.inl ⟨by rfl, fun w hSw => by go_simp⟩) hHeld ?_
            try simp only [Act.put, List.setIfInBounds_toArray, List.set_cons_zero, List.set_cons_succ]
            refine takeN (i := 12) (oi := _) (v := .int .i64 ((k : Int) + 3)) 130 rfl rfl (by kernel_rfl) (by kernel_rfl) (by kernel_rfl) (fun _ _ _ h => h) (Or.inl ⟨by rfl, fun w hSw => by go_simp⟩) hHeld ?_
            try simp only [Act.put, List.setIfInBounds_toArray, List.set_cons_zero, List.set_cons_succ]
            refine takeN (i := 13) (oi := _) (v := .bool false) 131 rfl rfl (by kernel_rfl) (by kernel_rfl) (by kernel_rfl) (fun _ _ _ h => h) (Or.inl ⟨by rfl, fun w hSw => by go_simp⟩) hHeld ?_
            try simp only [Act.put, List.setIfInBounds_toArray, List.set_cons_zero, List.set_cons_succ]
            refine takeN (i := 14) (oi := _) (v := .bool false) 132 rfl rfl (by kernel_rfl) (by kernel_rfl) (by kernel_rfl) (fun _ _ _ h => h) (Or.inl ⟨by rfl, fun w hSw => by go_simp⟩) hHeld ?_
            try simp only [Act.put, List.setIfInBounds_toArray, List.set_cons_zero, List.set_cons_succ]
            refine takeN (i := 15) (oi := _) (v := undef) 133 rfl rfl (by kernel_rfl) (by kernel_rfl) (by kernel_rfl) (fun _ _ _ h => h) (Or.inr ⟨by rfl, rfl⟩) hHeld ?_
            try simp only [Act.put, List.setIfInBounds_toArray, List.set_cons_zero, List.set_cons_succ]
            refine takeN (i := 16) (oi := _) (v := undef) 134 rfl rfl (by kernel_rfl) (by kernel_rfl) (by kernel_rfl) (fun _ _ _ h => h) (Or.inr ⟨by rfl, rfl⟩) hHeld ?_
            try simp only [Act.put, List.setIfInBounds_toArray, List.set_cons_zero, List.set_cons_succ]
            refine takeN (i := 17) (oi := _) (v := undef) 135 rfl rfl (by kernel_rfl) (by kernel_rfl) (by kernel_rfl) (fun _ _ _ h => h) (Or.inr ⟨by rfl, rfl⟩) hHeld ?_
            try simp only [Act.put, List.setIfInBounds_toArray, List.set_cons_zero, List.set_cons_succ]
            refine takeN (i := 18) (oi := _) (v := undef) 136 rfl rfl (by kernel_rfl) (by kernel_rfl) (by kernel_rfl) (fun _ _ _ h => h) (Or.inr ⟨by rfl, rfl⟩) hHeld ?_
            try simp only [Act.put, List.setIfInBounds_toArray, List.set_cons_zero, List.set_cons_succ]
            refine takeN (i := 19) (oi := _) (v := .bool false) 137 rfl rfl (by kernel_rfl) (by kernel_rfl) (by kernel_rfl) (fun _ _ _ h => h) (Or.inl ⟨by rfl, fun w hSw => by go_simp⟩) hHeld ?_
            try simp only [Act.put, List.setIfInBounds_toArray, List.set_cons_zero, List.set_cons_succ]
            refine takeN (i := 20) (oi := _) (v := .bool false) 138 rfl rfl (by kernel_rfl) (by kernel_rfl) (by kernel_rfl) (fun _ _ _ h => h) (Or.inl ⟨by rfl, fun w hSw => by go_simp⟩) hHeld ?_
            try simp only [Act.put, List.setIfInBounds_toArray, List.set_cons_zero, List.set_cons_succ]
            refine wpAnyH_done (by kernel_rfl) ?_ _
            refine NoPanic.normal ?_
            go_wp2_with fail
            go_meet
            exact ⟨rfl, hHeld⟩
      case rest =>
        obtain ⟨rfl, HK0⟩ := hcut
        clear HKS
        go_wp2_with fail
        go_loopw [19, 20, 21] (fun j x f wr => ∃ i : Nat, 1 ≤ i ∧ i ≤ m ∧ j = .int .i64 (i : Int) ∧ Hid (KS w1 wr b D q want qs c)) (fun j _ _ _ => m - (intOf j).toNat)
        case atStart => exact ⟨1, Nat.le_refl _, by omega, rfl, HK0⟩
        case round =>
          obtain ⟨i, h1i, him, rfl, HR⟩ := hrel
          rename_i wr
          by_cases hlt2 : i < m
          · have hltI : (i : Int) < (m : Int) := by omega
            have hrd := HR.out.kw.read (i : Int)
            rw [HRI.out i hlt2] at hrd
            have HCX := Lib.hid (fun h => HC3.out h i (by omega) hlt2)
            have hzv := zero_sector
            generalize rdC D (i : Int) = x at *
            have HRD := Lib.hid hrd
            clear hrd
            go_upto_region 30 with (first
              | (go_at_call 16; (with_reducible refine HRD.out.mono ?_); rintro e w11 ⟨rfl, hb11⟩)
              | (refine wpList_store_row rfl 38 (.tmp 20) (.tmp 148) rfl w11.heap.size (sec x).toArray rfl rfl 38 (cells8 (fullN 0 0)).toArray (heap_alloc_new w11 _) (by rw [sector_sz x]; simp) (by rw [size8, fullN_len 0 0 (by omega), List.size_toArray, sec_len]) (all_oneCell_toArray (sec_one _)) ?_; rw [World.setRow_alloc_new])
              | fail)
            have HX : Hid ((KS w1 (w11.alloc (.cells (sec x).toArray 38)) b D q want qs c) ∧ (w11.alloc (.cells (sec x).toArray 38)).heap[w11.heap.size]? = some (.cells (sec x).toArray 38 (0, 0))) := ⟨(HR.out.below hb11).below ((Below.refl _ _).alloc (Nat.le_refl _) _), heap_alloc_new w11 _⟩
            clear hb11 hzv HRD HR
            generalize w11.alloc (.cells (sec x).toArray 38) = w12 at *
            generalize w11.heap.size = qx at *
            have hfull : ∀ (y : UInt8) W, ((KS w1 W b D q want qs c) ∧ W.heap[qx]? = some (.cells (sec x).toArray 38 (0, 0))) → Calls Try.prog 24 #[.int .u8 (y.toNat : Int)] W fun e w' => e = .returned (.agg (sec y).toArray) ∧ ((KS w1 w' b D q want qs c) ∧ w'.heap[qx]? = some (.cells (sec x).toArray 38 (0, 0))) := fun y W h => (full_sec y W).mono fun e w' hp => ⟨hp.1, h.1.below hp.2, (hp.2.block qx (Array.getElem?_eq_some_iff.1 h.2).1).trans h.2⟩
            have HFL := Lib.hid (hfull last)
            have HFW := Lib.hid (hfull (want.getD i 0))
            have HWC := Lib.hid (fun W (h : ((KS w1 W b D q want qs c) ∧ W.heap[qx]? = some (.cells (sec x).toArray 38 (0, 0)))) => h.1.kw.cell i (by rw [hwl]; exact hlt2))
            have HD : Hid ((KS w1 w12.drew b D q want qs c) ∧ w12.drew.heap[qx]? = some (.cells (sec x).toArray 38 (0, 0))) := ⟨HX.out.1.below (Below.refl _ _).drew, HX.out.2⟩
            clear hfull HX
            generalize want.getD i 0 = y at *
            have hw1 : IntKind.i64.wrap ((k : Int) + 1) = (k : Int) + 1 := IntWalk.i64_in _ (by omega)
            by_cases f1 : (k : Int) + 1 ≤ fuse
            · have f1b : decide ((k : Int) + 1 ≤ fuse) = true := by simpa using f1
              have hxy : x = y := HCX.out (.inl f1)
              have n1 : ∀ w : World, (binOp .neq 38 (.agg (sec x).toArray) (.agg (sec y).toArray)).run Try.prog w = .ok (.bool false) w := fun w => by rw [neq_sec, hxy]; simp
              clear hxy HCX
              refine wp_region_noPanic ?_
              refine wp_region_held_drew (S := fun W => (KS w1 W b D q want qs c) ∧ W.heap[qx]? = some (.cells (sec x).toArray 38 (0, 0))) (by kernel_rfl) (HD.out) (fun hHeld => ?_)
              refine takeN (i := 0) (oi := _) (v := .int .i64 0) 150 rfl rfl (by kernel_rfl) (by kernel_rfl) (by kernel_rfl) (fun _ _ _ h => h) (Or.inl ⟨by rfl, fun w hSw => by go_simp⟩) hHeld ?_
              try simp only [Act.put, List.setIfInBounds_toArray, List.set_cons_zero, List.set_cons_succ]
              refine wpAnyH_ready (rs := [1]) (by kernel_rfl) (by simp) ?_
              refine AllReadyH.cons rfl (fun K hK => ?_) AllReadyH.nil
              go_simp
              go_wp2_with (first
                | (go_at_call 19; (with_reducible refine (num_any _ _).mono ?_); rintro e wa ⟨rfl, rfl⟩)
                | fail)
              refine hK.out _ _ hHeld (fun hHeld => ?_)
              clear hK K
              try simp only [Act.put, List.setIfInBounds_toArray, List.set_cons_zero, List.set_cons_succ]
              refine takeN (i := 2) (oi := _) (v := .bool false) 152 rfl rfl (by kernel_rfl) (by kernel_rfl) (by kernel_rfl) (fun _ _ _ h => h) (Or.inl ⟨by rfl, fun w hSw => by go_simp⟩) hHeld ?_
              try simp only [Act.put, List.setIfInBounds_toArray, List.set_cons_zero, List.set_cons_succ]
              refine takeN (i := 3) (oi := _) (v := .bool false) 153 rfl rfl (by kernel_rfl) (by kernel_rfl) (by kernel_rfl) (fun _ _ _ h => h) (Or.inl ⟨by rfl, fun w hSw => by go_simp⟩) hHeld ?_
              try simp only [Act.put, List.setIfInBounds_toArray, List.set_cons_zero, List.set_cons_succ]
              refine takeN (i := 4) (oi := _) (v := .int .i64 fuse) 154 rfl rfl (by kernel_rfl) (by kernel_rfl) (by kernel_rfl) (fun _ _ _ h => h) (Or.inl ⟨by rfl, fun w hSw => by go_simp⟩) hHeld ?_
              try simp only [Act.put, List.setIfInBounds_toArray, List.set_cons_zero, List.set_cons_succ]
              refine takeN (i := 5) (oi := _) (v := .int .i64 (k : Int)) 155 rfl rfl (by kernel_rfl) (by kernel_rfl) (by kernel_rfl) (fun _ _ _ h => h) (Or.inl ⟨by rfl, fun w hSw => by go_simp⟩) hHeld ?_
              try simp only [Act.put, List.setIfInBounds_toArray, List.set_cons_zero, List.set_cons_succ]
              refine takeN (i := 6) (oi := _) (v := .int .i64 ((k : Int) + 1)) 156 rfl rfl (by kernel_rfl) (by kernel_rfl) (by kernel_rfl) (fun _ _ _ h => h) (Or.inl ⟨by rfl, fun w hSw => by go_simp⟩) hHeld ?_
              try simp only [Act.put, List.setIfInBounds_toArray, List.set_cons_zero, List.set_cons_succ]
              refine takeN (i := 7) (oi := _) (v := .bool true) 157 rfl rfl (by kernel_rfl) (by kernel_rfl) (by kernel_rfl) (fun _ _ _ h => h) (Or.inl ⟨by rfl, fun w hSw => by go_simp⟩) hHeld ?_
              try simp only [Act.put, List.setIfInBounds_toArray, List.set_cons_zero, List.set_cons_succ]
              refine takeN (i := 8) (oi := _) (v := .bool true) 158 rfl rfl (by kernel_rfl) (by kernel_rfl) (by kernel_rfl) (fun _ _ _ h => h) (Or.inl ⟨by rfl, fun w hSw => by go_simp⟩) hHeld ?_
              try simp only [Act.put, List.setIfInBounds_toArray, List.set_cons_zero, List.set_cons_succ]
              refine takeN (i := 9) (oi := _) (v := undef) 159 rfl rfl (by kernel_rfl) (by kernel_rfl) (by kernel_rfl) (fun _ _ _ h => h) (Or.inr ⟨by rfl, rfl⟩) hHeld ?_
              try simp only [Act.put, List.setIfInBounds_toArray, List.set_cons_zero, List.set_cons_succ]
              refine takeN (i := 10) (oi := _) (v := undef) 160 rfl rfl (by kernel_rfl) (by kernel_rfl) (by kernel_rfl) (fun _ _ _ h => h) (Or.inr ⟨by rfl, rfl⟩) hHeld ?_
              try simp only [Act.put, List.setIfInBounds_toArray, List.set_cons_zero, List.set_cons_succ]
              refine takeN (i := 11) (oi := _) (v := undef) 161 rfl rfl (by kernel_rfl) (by kernel_rfl) (by kernel_rfl) (fun _ _ _ h => h) (Or.inr ⟨by rfl, rfl⟩) hHeld ?_
              try simp only [Act.put, List.setIfInBounds_toArray, List.set_cons_zero, List.set_cons_succ]
              refine takeN (i := 12) (oi := _) (v := undef) 162 rfl rfl (by kernel_rfl) (by kernel_rfl) (by kernel_rfl) (fun _ _ _ h => h) (Or.inr ⟨by rfl, rfl⟩) hHeld ?_
              try simp only [Act.put, List.setIfInBounds_toArray, List.set_cons_zero, List.set_cons_succ]
              refine takeN (i := 13) (oi := _) (v := undef) 163 rfl rfl (by kernel_rfl) (by kernel_rfl) (by kernel_rfl) (fun _ _ _ h => h) (Or.inr ⟨by rfl, rfl⟩) hHeld ?_
              try simp only [Act.put, List.setIfInBounds_toArray, List.set_cons_zero, List.set_cons_succ]
              refine takeN (i := 14) (oi := _) (v := undef) 164 rfl rfl (by kernel_rfl) (by kernel_rfl) (by kernel_rfl) (fun _ _ _ h => h) (Or.inr ⟨by rfl, rfl⟩) hHeld ?_
              try simp only [Act.put, List.setIfInBounds_toArray, List.set_cons_zero, List.set_cons_succ]
              refine takeN (i := 15) (oi := _) (v := undef) 165 rfl rfl (by kernel_rfl) (by kernel_rfl) (by kernel_rfl) (fun _ _ _ h => h) (Or.inr ⟨by rfl, rfl⟩) hHeld ?_
              try simp only [Act.put, List.setIfInBounds_toArray, List.set_cons_zero, List.set_cons_succ]
              refine takeN (i := 16) (oi := _) (v := undef) 166 rfl rfl (by kernel_rfl) (by kernel_rfl) (by kernel_rfl) (fun _ _ _ h => h) (Or.inr ⟨by rfl, rfl⟩) hHeld ?_
              try simp only [Act.put, List.setIfInBounds_toArray, List.set_cons_zero, List.set_cons_succ]
              refine takeN (i := 17) (oi := _) (v := .bool true) 167 rfl rfl (by kernel_rfl) (by kernel_rfl) (by kernel_rfl) (fun _ _ _ h => h) (Or.inl ⟨by rfl, fun w hSw => by go_simp⟩) hHeld ?_
              try simp only [Act.put, List.setIfInBounds_toArray, List.set_cons_zero, List.set_cons_succ]
              refine takeN (i := 18) (oi := _) (v := .bool true) 168 rfl rfl (by kernel_rfl) (by kernel_rfl) (by kernel_rfl) (fun _ _ _ h => h) (Or.inl ⟨by rfl, fun w hSw => by go_simp⟩) hHeld ?_
              try simp only [Act.put, List.setIfInBounds_toArray, List.set_cons_zero, List.set_cons_succ]
              refine takeN (i := 19) (oi := _) 169 rfl rfl (by kernel_rfl) (by kernel_rfl) (by kernel_rfl) (fun _ _ _ h => h) (yieldsIf_load_mid (by rfl) 38 (.tmp 20) rfl qx 0 rfl (sec x) _ (fun w h => box_range h.2) sector_u rfl (sector_sz x)) hHeld ?_
              try simp only [Act.put, List.setIfInBounds_toArray, List.set_cons_zero, List.set_cons_succ]
              refine takeN (i := 20) (oi := _) (v := .slice (some ⟨q, 0, none⟩) m m) 170 rfl rfl (by kernel_rfl) (by kernel_rfl) (by kernel_rfl) (fun _ _ _ h => h) (Or.inl ⟨by rfl, fun w hSw => by go_simp⟩) hHeld ?_
              try simp only [Act.put, List.setIfInBounds_toArray, List.set_cons_zero, List.set_cons_succ]
              refine takeN (i := 21) (oi := _) (v := .int .i64 (i : Int)) 171 rfl rfl (by kernel_rfl) (by kernel_rfl) (by kernel_rfl) (fun _ _ _ h => h) (Or.inl ⟨by rfl, fun w hSw => by go_simp⟩) hHeld ?_
              try simp only [Act.put, List.setIfInBounds_toArray, List.set_cons_zero, List.set_cons_succ]
              refine takeN (i := 22) (oi := _) (v := .pointer (some ⟨q, i, none⟩)) 172 rfl rfl (by kernel_rfl) (by kernel_rfl) (by kernel_rfl) (fun _ _ _ h => h) (Or.inl ⟨by rfl, fun w hSw => by go_simp⟩) hHeld ?_
              try simp only [Act.put, List.setIfInBounds_toArray, List.set_cons_zero, List.set_cons_succ]
              refine takeN (i := 23) (oi := _) (v := .int .u8 (y.toNat : Int)) 173 rfl rfl (by kernel_rfl) (by kernel_rfl) (by kernel_rfl) (fun _ _ _ h => h) (Or.inl ⟨by rfl, fun w hSw => by have hwc := HWC.out w hSw; go_simp⟩) hHeld ?_
              try simp only [Act.put, List.setIfInBounds_toArray, List.set_cons_zero, List.set_cons_succ]
              refine wpAnyH_ready (rs := [24]) (by kernel_rfl) (by simp) ?_
              refine AllReadyH.cons rfl (fun K hK => ?_) AllReadyH.nil
              go_simp
              go_wp2_with (first
                | (go_at_call 24; (with_reducible refine (HFW.out _ hHeld).mono ?_); rintro e wa ⟨rfl, hSa⟩)
                | fail)
              refine hK.out _ _ hSa (fun hHeld => ?_)
              clear hK K hSa
              try simp only [Act.put, List.setIfInBounds_toArray, List.set_cons_zero, List.set_cons_succ]
              refine takeN (i := 25) (oi := _) (v := .bool false) 175 rfl rfl (by kernel_rfl) (by kernel_rfl) (by kernel_rfl) (fun _ _ _ h => h) (Or.inl ⟨by rfl, fun w hSw => by go_simp⟩) hHeld ?_
              try simp only [Act.put, List.setIfInBounds_toArray, List.set_cons_zero, List.set_cons_succ]
              refine takeN (i := 26) (oi := _) (v := .bool false) 176 rfl rfl (by kernel_rfl) (by kernel_rfl) (by kernel_rfl) (fun _ _ _ h => h) (Or.inl ⟨by rfl, fun w hSw => by go_simp⟩) hHeld ?_
              try simp only [Act.put, List.setIfInBounds_toArray, List.set_cons_zero, List.set_cons_succ]
              refine takeN (i := 27) (oi := _) (v := .bool false) 177 rfl rfl (by kernel_rfl) (by kernel_rfl) (by kernel_rfl) (fun _ _ _ h => h) (Or.inl ⟨by rfl, fun w hSw => by go_simp⟩) hHeld ?_
              try simp only [Act.put, List.setIfInBounds_toArray, List.set_cons_zero, List.set_cons_succ]
              refine wpAnyH_done (by kernel_rfl) ?_ _
              refine NoPanic.normal ?_
              have HNX := Lib.hid hHeld.1
              clear hHeld
              go_wp2_with fail
              go_roundw
              case rel => exact ⟨i + 1, by omega, hlt2, by go_num, HNX⟩
              case measure => simp [intOf]; omega
            · have f1b : decide ((k : Int) + 1 ≤ fuse) = false := by simpa using f1
              by_cases g1 : c = last
              · have q1 : ∀ w : World, (binOp .eql 38 (.agg (sec c).toArray) (.agg (sec last).toArray)).run Try.prog w = .ok (.bool true) w := fun w => by rw [eql_sec, g1]; simp
                by_cases g2 : last = 0
                · have l0 : (((last.toNat : Nat) : Int) != 0) = false := by simp [g2]
                  clear g1 g2 HCX
                  refine wp_region_noPanic ?_
                  refine wp_region_held_drew (S := fun W => (KS w1 W b D q want qs c) ∧ W.heap[qx]? = some (.cells (sec x).toArray 38 (0, 0))) (by kernel_rfl) (HD.out) (fun hHeld => ?_)
                  refine takeN (i := 0) (oi := _) (v := .int .i64 0) 150 rfl rfl (by kernel_rfl) (by kernel_rfl) (by kernel_rfl) (fun _ _ _ h => h) (Or.inl ⟨by rfl, fun w hSw => by go_simp⟩) hHeld ?_
                  try simp only [Act.put, List.setIfInBounds_toArray, List.set_cons_zero, List.set_cons_succ]
                  refine wpAnyH_ready (rs := [1]) (by kernel_rfl) (by simp) ?_
                  refine AllReadyH.cons rfl (fun K hK => ?_) AllReadyH.nil
                  go_simp
                  go_wp2_with (first
                    | (go_at_call 19; (with_reducible refine (num_any _ _).mono ?_); rintro e wa ⟨rfl, rfl⟩)
                    | fail)
                  refine hK.out _ _ hHeld (fun hHeld => ?_)
                  clear hK K
                  try simp only [Act.put, List.setIfInBounds_toArray, List.set_cons_zero, List.set_cons_succ]
                  refine takeN (i := 2) (oi := _) (v := .bool false) 152 rfl rfl (by kernel_rfl) (by kernel_rfl) (by kernel_rfl) (fun _ _ _ h => h) (Or.inl ⟨by rfl, fun w hSw => by go_simp⟩) hHeld ?_
                  try simp only [Act.put, List.setIfInBounds_toArray, List.set_cons_zero, List.set_cons_succ]
                  refine takeN (i := 3) (oi := _) (v := .bool false) 153 rfl rfl (by kernel_rfl) (by kernel_rfl) (by kernel_rfl) (fun _ _ _ h => h) (Or.inl ⟨by rfl, fun w hSw => by go_simp⟩) hHeld ?_
                  try simp only [Act.put, List.setIfInBounds_toArray, List.set_cons_zero, List.set_cons_succ]
                  refine takeN (i := 4) (oi := _) (v := .int .i64 fuse) 154 rfl rfl (by kernel_rfl) (by kernel_rfl) (by kernel_rfl) (fun _ _ _ h => h) (Or.inl ⟨by rfl, fun w hSw => by go_simp⟩) hHeld ?_
                  try simp only [Act.put, List.setIfInBounds_toArray, List.set_cons_zero, List.set_cons_succ]
                  refine takeN (i := 5) (oi := _) (v := .int .i64 (k : Int)) 155 rfl rfl (by kernel_rfl) (by kernel_rfl) (by kernel_rfl) (fun _ _ _ h => h) (Or.inl ⟨by rfl, fun w hSw => by go_simp⟩) hHeld ?_
                  try simp only [Act.put, List.setIfInBounds_toArray, List.set_cons_zero, List.set_cons_succ]
                  refine takeN (i := 6) (oi := _) (v := .int .i64 ((k : Int) + 1)) 156 rfl rfl (by kernel_rfl) (by kernel_rfl) (by kernel_rfl) (fun _ _ _ h => h) (Or.inl ⟨by rfl, fun w hSw => by go_simp⟩) hHeld ?_
                  try simp only [Act.put, List.setIfInBounds_toArray, List.set_cons_zero, List.set_cons_succ]
                  refine takeN (i := 7) (oi := _) (v := .bool false) 157 rfl rfl (by kernel_rfl) (by kernel_rfl) (by kernel_rfl) (fun _ _ _ h => h) (Or.inl ⟨by rfl, fun w hSw => by go_simp⟩) hHeld ?_
                  try simp only [Act.put, List.setIfInBounds_toArray, List.set_cons_zero, List.set_cons_succ]
                  refine takeN (i := 8) (oi := _) (v := .bool false) 158 rfl rfl (by kernel_rfl) (by kernel_rfl) (by kernel_rfl) (fun _ _ _ h => h) (Or.inl ⟨by rfl, fun w hSw => by go_simp⟩) hHeld ?_
                  try simp only [Act.put, List.setIfInBounds_toArray, List.set_cons_zero, List.set_cons_succ]
                  refine takeN (i := 9) (oi := _) 159 rfl rfl (by kernel_rfl) (by kernel_rfl) (by kernel_rfl) (fun _ _ _ h => h) (yieldsIf_load_mid (by rfl) 38 (.tmp 17) rfl qs 0 rfl (sec c) _ (fun w h => box_range h.1.box) sector_u rfl (sector_sz c)) hHeld ?_
                  try simp only [Act.put, List.setIfInBounds_toArray, List.set_cons_zero, List.set_cons_succ]
                  refine takeN (i := 10) (oi := _) (v := .int .u8 (last.toNat : Int)) 160 rfl rfl (by kernel_rfl) (by kernel_rfl) (by kernel_rfl) (fun _ _ _ h => h) (Or.inl ⟨by rfl, fun w hSw => by go_simp⟩) hHeld ?_
                  try simp only [Act.put, List.setIfInBounds_toArray, List.set_cons_zero, List.set_cons_succ]
                  refine wpAnyH_ready (rs := [11]) (by kernel_rfl) (by simp) ?_
                  refine AllReadyH.cons rfl (fun K hK => ?_) AllReadyH.nil
                  go_simp
                  go_wp2_with (first
                    | (go_at_call 24; (with_reducible refine (HFL.out _ hHeld).mono ?_); rintro e wa ⟨rfl, hSa⟩)
                    | fail)
                  refine hK.out _ _ hSa (fun hHeld => ?_)
                  clear hK K hSa
                  try simp only [Act.put, List.setIfInBounds_toArray, List.set_cons_zero, List.set_cons_succ]
                  refine takeN (i := 12) (oi := _) (v := .bool true) 162 rfl rfl (by kernel_rfl) (by kernel_rfl) (by kernel_rfl) (fun _ _ _ h => h) (Or.inl ⟨by rfl, fun w hSw => by go_simp⟩) hHeld ?_
                  try simp only [Act.put, List.setIfInBounds_toArray, List.set_cons_zero, List.set_cons_succ]
                  refine takeN (i := 13) (oi := _) (v := .bool true) 163 rfl rfl (by kernel_rfl) (by kernel_rfl) (by kernel_rfl) (fun _ _ _ h => h) (Or.inl ⟨by rfl, fun w hSw => by go_simp⟩) hHeld ?_
                  try simp only [Act.put, List.setIfInBounds_toArray, List.set_cons_zero, List.set_cons_succ]
                  refine takeN (i := 14) (oi := _) (v := .int .u8 (last.toNat : Int)) 164 rfl rfl (by kernel_rfl) (by kernel_rfl) (by kernel_rfl) (fun _ _ _ h => h) (Or.inl ⟨by rfl, fun w hSw => by go_simp⟩) hHeld ?_
                  try simp only [Act.put, List.setIfInBounds_toArray, List.set_cons_zero, List.set_cons_succ]
                  refine takeN (i := 15) (oi := _) (v := .bool false) 165 rfl rfl (by kernel_rfl) (by kernel_rfl) (by kernel_rfl) (fun _ _ _ h => h) (Or.inl ⟨by rfl, fun w hSw => by go_simp⟩) hHeld ?_
                  try simp only [Act.put, List.setIfInBounds_toArray, List.set_cons_zero, List.set_cons_succ]
                  refine takeN (i := 16) (oi := _) (v := .bool false) 166 rfl rfl (by kernel_rfl) (by kernel_rfl) (by kernel_rfl) (fun _ _ _ h => h) (Or.inl ⟨by rfl, fun w hSw => by go_simp⟩) hHeld ?_
                  try simp only [Act.put, List.setIfInBounds_toArray, List.set_cons_zero, List.set_cons_succ]
                  refine takeN (i := 17) (oi := _) (v := .bool false) 167 rfl rfl (by kernel_rfl) (by kernel_rfl) (by kernel_rfl) (fun _ _ _ h => h) (Or.inl ⟨by rfl, fun w hSw => by go_simp⟩) hHeld ?_
                  try simp only [Act.put, List.setIfInBounds_toArray, List.set_cons_zero, List.set_cons_succ]
                  refine takeN (i := 18) (oi := _) (v := .bool false) 168 rfl rfl (by kernel_rfl) (by kernel_rfl) (by kernel_rfl) (fun _ _ _ h => h) (Or.inl ⟨by rfl, fun w hSw => by go_simp⟩) hHeld ?_
                  try simp only [Act.put, List.setIfInBounds_toArray, List.set_cons_zero, List.set_cons_succ]
                  refine takeN (i := 19) (oi := _) (v := undef) 169 rfl rfl (by kernel_rfl) (by kernel_rfl) (by kernel_rfl) (fun _ _ _ h => h) (Or.inr ⟨by rfl, rfl⟩) hHeld ?_
                  try simp only [Act.put, List.setIfInBounds_toArray, List.set_cons_zero, List.set_cons_succ]
                  refine takeN (i := 20) (oi := _) (v := undef) 170 rfl rfl (by kernel_rfl) (by kernel_rfl) (by kernel_rfl) (fun _ _ _ h => h) (Or.inr ⟨by rfl, rfl⟩) hHeld ?_
                  try simp only [Act.put, List.setIfInBounds_toArray, List.set_cons_zero, List.set_cons_succ]
                  refine takeN (i := 21) (oi := _) (v := undef) 171 rfl rfl (by kernel_rfl) (by kernel_rfl) (by kernel_rfl) (fun _ _ _ h => h) (Or.inr ⟨by rfl, rfl⟩) hHeld ?_
                  try simp only [Act.put, List.setIfInBounds_toArray, List.set_cons_zero, List.set_cons_succ]
                  refine takeN (i := 22) (oi := _) (v := undef) 172 rfl rfl (by kernel_rfl) (by kernel_rfl) (by kernel_rfl) (fun _ _ _ h => h) (Or.inr ⟨by rfl, rfl⟩) hHeld ?_
                  try simp only [Act.put, List.setIfInBounds_toArray, List.set_cons_zero, List.set_cons_succ]
                  refine takeN (i := 23) (oi := _) (v := undef) 173 rfl rfl (by kernel_rfl) (by kernel_rfl) (by kernel_rfl) (fun _ _ _ h => h) (Or.inr ⟨by rfl, rfl⟩) hHeld ?_
                  try simp only [Act.put, List.setIfInBounds_toArray, List.set_cons_zero, List.set_cons_succ]
                  refine takeN (i := 24) (oi := _) (v := undef) 174 rfl rfl (by kernel_rfl) (by kernel_rfl) (by kernel_rfl) (fun _ _ _ h => h) (Or.inr ⟨by rfl, rfl⟩) hHeld ?_
                  try simp only [Act.put, List.setIfInBounds_toArray, List.set_cons_zero, List.set_cons_succ]
                  refine takeN (i := 25) (oi := _) (v := undef) 175 rfl rfl (by kernel_rfl) (by kernel_rfl) (by kernel_rfl) (fun _ _ _ h => h) (Or.inr ⟨by rfl, rfl⟩) hHeld ?_
                  try simp only [Act.put, List.setIfInBounds_toArray, List.set_cons_zero, List.set_cons_succ]
                  refine takeN (i := 26) (oi := _) (v := .bool false) 176 rfl rfl (by kernel_rfl) (by kernel_rfl) (by kernel_rfl) (fun _ _ _ h => h) (Or.inl ⟨by rfl, fun w hSw => by go_simp⟩) hHeld ?_
                  try simp only [Act.put, List.setIfInBounds_toArray, List.set_cons_zero, List.set_cons_succ]
                  refine takeN (i := 27) (oi := _) (v := .bool false) 177 rfl rfl (by kernel_rfl) (by kernel_rfl) (by kernel_rfl) (fun _ _ _ h => h) (Or.inl ⟨by rfl, fun w hSw => by go_simp⟩) hHeld ?_
                  try simp only [Act.put, List.setIfInBounds_toArray, List.set_cons_zero, List.set_cons_succ]
                  refine wpAnyH_done (by kernel_rfl) ?_ _
                  refine NoPanic.normal ?_
                  have HNX := Lib.hid hHeld.1
                  clear hHeld
                  go_wp2_with fail
                  go_roundw
                  case rel => exact ⟨i + 1, by omega, hlt2, by go_num, HNX⟩
                  case measure => simp [intOf]; omega
                · have l0 : (((last.toNat : Nat) : Int) != 0) = true := by
                    have : last.toNat ≠ 0 := fun e => g2 (by rw [← UInt8.toNat_inj]; simpa using e)
                    simp; omega
                  have hxy : x = y := HCX.out (.inr ⟨g1, g2⟩)
                  have n1 : ∀ w : World, (binOp .neq 38 (.agg (sec x).toArray) (.agg (sec y).toArray)).run Try.prog w = .ok (.bool false) w := fun w => by rw [neq_sec, hxy]; simp
                  clear hxy g1 g2 HCX
                  refine wp_region_noPanic ?_
                  refine wp_region_held_drew (S := fun W => (KS w1 W b D q want qs c) ∧ W.heap[qx]? = some (.cells (sec x).toArray 38 (0, 0))) (by kernel_rfl) (HD.out) (fun hHeld => ?_)
                  refine takeN (i := 0) (oi := _) (v := .int .i64 0) 150 rfl rfl (by kernel_rfl) (by kernel_rfl) (by kernel_rfl) (fun _ _ _ h => h) (Or.inl ⟨by rfl, fun w hSw => by go_simp⟩) hHeld ?_
                  try simp only [Act.put, List.setIfInBounds_toArray, List.set_cons_zero, List.set_cons_succ]
                  refine wpAnyH_ready (rs := [1]) (by kernel_rfl) (by simp) ?_
                  refine AllReadyH.cons rfl (fun K hK => ?_) AllReadyH.nil
                  go_simp
                  go_wp2_with (first
                    | (go_at_call 19; (with_reducible refine (num_any _ _).mono ?_); rintro e wa ⟨rfl, rfl⟩)
                    | fail)
                  refine hK.out _ _ hHeld (fun hHeld => ?_)
                  clear hK K
                  try simp only [Act.put, List.setIfInBounds_toArray, List.set_cons_zero, List.set_cons_succ]
                  refine takeN (i := 2) (oi := _) (v := .bool false) 152 rfl rfl (by kernel_rfl) (by kernel_rfl) (by kernel_rfl) (fun _ _ _ h => h) (Or.inl ⟨by rfl, fun w hSw => by go_simp⟩) hHeld ?_
                  try simp only [Act.put, List.setIfInBounds_toArray, List.set_cons_zero, List.set_cons_succ]
                  refine takeN (i := 3) (oi := _) (v := .bool false) 153 rfl rfl (by kernel_rfl) (by kernel_rfl) (by kernel_rfl) (fun _ _ _ h => h) (Or.inl ⟨by rfl, fun w hSw => by go_simp⟩) hHeld ?_
                  try simp only [Act.put, List.setIfInBounds_toArray, List.set_cons_zero, List.set_cons_succ]
                  refine takeN (i := 4) (oi := _) (v := .int .i64 fuse) 154 rfl rfl (by kernel_rfl) (by kernel_rfl) (by kernel_rfl) (fun _ _ _ h => h) (Or.inl ⟨by rfl, fun w hSw => by go_simp⟩) hHeld ?_
                  try simp only [Act.put, List.setIfInBounds_toArray, List.set_cons_zero, List.set_cons_succ]
                  refine takeN (i := 5) (oi := _) (v := .int .i64 (k : Int)) 155 rfl rfl (by kernel_rfl) (by kernel_rfl) (by kernel_rfl) (fun _ _ _ h => h) (Or.inl ⟨by rfl, fun w hSw => by go_simp⟩) hHeld ?_
                  try simp only [Act.put, List.setIfInBounds_toArray, List.set_cons_zero, List.set_cons_succ]
                  refine takeN (i := 6) (oi := _) (v := .int .i64 ((k : Int) + 1)) 156 rfl rfl (by kernel_rfl) (by kernel_rfl) (by kernel_rfl) (fun _ _ _ h => h) (Or.inl ⟨by rfl, fun w hSw => by go_simp⟩) hHeld ?_
                  try simp only [Act.put, List.setIfInBounds_toArray, List.set_cons_zero, List.set_cons_succ]
                  refine takeN (i := 7) (oi := _) (v := .bool false) 157 rfl rfl (by kernel_rfl) (by kernel_rfl) (by kernel_rfl) (fun _ _ _ h => h) (Or.inl ⟨by rfl, fun w hSw => by go_simp⟩) hHeld ?_
                  try simp only [Act.put, List.setIfInBounds_toArray, List.set_cons_zero, List.set_cons_succ]
                  refine takeN (i := 8) (oi := _) (v := .bool false) 158 rfl rfl (by kernel_rfl) (by kernel_rfl) (by kernel_rfl) (fun _ _ _ h => h) (Or.inl ⟨by rfl, fun w hSw => by go_simp⟩) hHeld ?_
                  try simp only [Act.put, List.setIfInBounds_toArray, List.set_cons_zero, List.set_cons_succ]
                  refine takeN (i := 9) (oi := _) 159 rfl rfl (by kernel_rfl) (by kernel_rfl) (by kernel_rfl) (fun _ _ _ h => h) (yieldsIf_load_mid (by rfl) 38 (.tmp 17) rfl qs 0 rfl (sec c) _ (fun w h => box_range h.1.box) sector_u rfl (sector_sz c)) hHeld ?_
                  try simp only [Act.put, List.setIfInBounds_toArray, List.set_cons_zero, List.set_cons_succ]
                  refine takeN (i := 10) (oi := _) (v := .int .u8 (last.toNat : Int)) 160 rfl rfl (by kernel_rfl) (by kernel_rfl) (by kernel_rfl) (fun _ _ _ h => h) (Or.inl ⟨by rfl, fun w hSw => by go_simp⟩) hHeld ?_
                  try simp only [Act.put, List.setIfInBounds_toArray, List.set_cons_zero, List.set_cons_succ]
                  refine wpAnyH_ready (rs := [11]) (by kernel_rfl) (by simp) ?_
                  refine AllReadyH.cons rfl (fun K hK => ?_) AllReadyH.nil
                  go_simp
                  go_wp2_with (first
                    | (go_at_call 24; (with_reducible refine (HFL.out _ hHeld).mono ?_); rintro e wa ⟨rfl, hSa⟩)
                    | fail)
                  refine hK.out _ _ hSa (fun hHeld => ?_)
                  clear hK K hSa
                  try simp only [Act.put, List.setIfInBounds_toArray, List.set_cons_zero, List.set_cons_succ]
                  refine takeN (i := 12) (oi := _) (v := .bool true) 162 rfl rfl (by kernel_rfl) (by kernel_rfl) (by kernel_rfl) (fun _ _ _ h => h) (Or.inl ⟨by rfl, fun w hSw => by go_simp⟩) hHeld ?_
                  try simp only [Act.put, List.setIfInBounds_toArray, List.set_cons_zero, List.set_cons_succ]
                  refine takeN (i := 13) (oi := _) (v := .bool true) 163 rfl rfl (by kernel_rfl) (by kernel_rfl) (by kernel_rfl) (fun _ _ _ h => h) (Or.inl ⟨by rfl, fun w hSw => by go_simp⟩) hHeld ?_
                  try simp only [Act.put, List.setIfInBounds_toArray, List.set_cons_zero, List.set_cons_succ]
                  refine takeN (i := 14) (oi := _) (v := .int .u8 (last.toNat : Int)) 164 rfl rfl (by kernel_rfl) (by kernel_rfl) (by kernel_rfl) (fun _ _ _ h => h) (Or.inl ⟨by rfl, fun w hSw => by go_simp⟩) hHeld ?_
                  try simp only [Act.put, List.setIfInBounds_toArray, List.set_cons_zero, List.set_cons_succ]
                  refine takeN (i := 15) (oi := _) (v := .bool true) 165 rfl rfl (by kernel_rfl) (by kernel_rfl) (by kernel_rfl) (fun _ _ _ h => h) (Or.inl ⟨by rfl, fun w hSw => by go_simp⟩) hHeld ?_
                  try simp only [Act.put, List.setIfInBounds_toArray, List.set_cons_zero, List.set_cons_succ]
                  refine takeN (i := 16) (oi := _) (v := .bool true) 166 rfl rfl (by kernel_rfl) (by kernel_rfl) (by kernel_rfl) (fun _ _ _ h => h) (Or.inl ⟨by rfl, fun w hSw => by go_simp⟩) hHeld ?_
                  try simp only [Act.put, List.setIfInBounds_toArray, List.set_cons_zero, List.set_cons_succ]
                  refine takeN (i := 17) (oi := _) (v := .bool true) 167 rfl rfl (by kernel_rfl) (by kernel_rfl) (by kernel_rfl) (fun _ _ _ h => h) (Or.inl ⟨by rfl, fun w hSw => by go_simp⟩) hHeld ?_
                  try simp only [Act.put, List.setIfInBounds_toArray, List.set_cons_zero, List.set_cons_succ]
                  refine takeN (i := 18) (oi := _) (v := .bool true) 168 rfl rfl (by kernel_rfl) (by kernel_rfl) (by kernel_rfl) (fun _ _ _ h => h) (Or.inl ⟨by rfl, fun w hSw => by go_simp⟩) hHeld ?_
                  try simp only [Act.put, List.setIfInBounds_toArray, List.set_cons_zero, List.set_cons_succ]
                  refine takeN (i := 19) (oi := _) 169 rfl rfl (by kernel_rfl) (by kernel_rfl) (by kernel_rfl) (fun _ _ _ h => h) (yieldsIf_load_mid (by rfl) 38 (.tmp 20) rfl qx 0 rfl (sec x) _ (fun w h => box_range h.2) sector_u rfl (sector_sz x)) hHeld ?_
                  try simp only [Act.put, List.setIfInBounds_toArray, List.set_cons_zero, List.set_cons_succ]
                  refine takeN (i := 20) (oi := _) (v := .slice (some ⟨q, 0, none⟩) m m) 170 rfl rfl (by kernel_rfl) (by kernel_rfl) (by kernel_rfl) (fun _ _ _ h => h) (Or.inl ⟨by rfl, fun w hSw => by go_simp⟩) hHeld ?_
                  try simp only [Act.put, List.setIfInBounds_toArray, List.set_cons_zero, List.set_cons_succ]
                  refine takeN (i := 21) (oi := _) (v := .int .i64 (i : Int)) 171 rfl rfl (by kernel_rfl) (by kernel_rfl) (by kernel_rfl) (fun _ _ _ h => h) (Or.inl ⟨by rfl, fun w hSw => by go_simp⟩) hHeld ?_
                  try simp only [Act.put, List.setIfInBounds_toArray, List.set_cons_zero, List.set_cons_succ]
                  refine takeN (i := 22) (oi := _) (v := .pointer (some ⟨q, i, none⟩)) 172 rfl rfl (by kernel_rfl) (by kernel_rfl) (by kernel_rfl) (fun _ _ _ h => h) (Or.inl ⟨by rfl, fun w hSw => by go_simp⟩) hHeld ?_
                  try simp only [Act.put, List.setIfInBounds_toArray, List.set_cons_zero, List.set_cons_succ]
                  refine takeN (i := 23) (oi := _) (v := .int .u8 (y.toNat : Int)) 173 rfl rfl (by kernel_rfl) (by kernel_rfl) (by kernel_rfl) (fun _ _ _ h => h) (Or.inl ⟨by rfl, fun w hSw => by have hwc := HWC.out w hSw; go_simp⟩) hHeld ?_
                  try simp only [Act.put, List.setIfInBounds_toArray, List.set_cons_zero, List.set_cons_succ]
                  refine wpAnyH_ready (rs := [24]) (by kernel_rfl) (by simp) ?_
                  refine AllReadyH.cons rfl (fun K hK => ?_) AllReadyH.nil
                  go_simp
                  go_wp2_with (first
                    | (go_at_call 24; (with_reducible refine (HFW.out _ hHeld).mono ?_); rintro e wa ⟨rfl, hSa⟩)
                    | fail)
                  refine hK.out _ _ hSa (fun hHeld => ?_)
                  clear hK K hSa
                  try simp only [Act.put, List.setIfInBounds_toArray, List.set_cons_zero, List.set_cons_succ]
                  refine takeN (i := 25) (oi := _) (v := .bool false) 175 rfl rfl (by kernel_rfl) (by kernel_rfl) (by kernel_rfl) (fun _ _ _ h => h) (Or.inl ⟨by rfl, fun w hSw => by go_simp⟩) hHeld ?_
                  try simp only [Act.put, List.setIfInBounds_toArray, List.set_cons_zero, List.set_cons_succ]
                  refine takeN (i := 26) (oi := _) (v := .bool false) 176 rfl rfl (by kernel_rfl) (by kernel_rfl) (by kernel_rfl) (fun _ _ _ h => h) (Or.inl ⟨by rfl, fun w hSw => by go_simp⟩) hHeld ?_
                  try simp only [Act.put, List.setIfInBounds_toArray, List.set_cons_zero, List.set_cons_succ]
                  refine takeN (i := 27) (oi := _) (v := .bool false) 177 rfl rfl (by kernel_rfl) (by kernel_rfl) (by kernel_rfl) (fun _ _ _ h => h) (Or.inl ⟨by rfl, fun w hSw => by go_simp⟩) hHeld ?_
                  try simp only [Act.put, List.setIfInBounds_toArray, List.set_cons_zero, List.set_cons_succ]
                  refine wpAnyH_done (by kernel_rfl) ?_ _
                  refine NoPanic.normal ?_
                  have HNX := Lib.hid hHeld.1
                  clear hHeld
                  go_wp2_with fail
                  go_roundw
                  case rel => exact ⟨i + 1, by omega, hlt2, by go_num, HNX⟩
                  case measure => simp [intOf]; omega
              · have q1 : ∀ w : World, (binOp .eql 38 (.agg (sec c).toArray) (.agg (sec last).toArray)).run Try.prog w = .ok (.bool false) w := fun w => by rw [eql_sec, beq_false_of_ne g1]
                clear g1 HCX
                refine wp_region_noPanic ?_
                refine wp_region_held_drew (S := fun W => (KS w1 W b D q want qs c) ∧ W.heap[qx]? = some (.cells (sec x).toArray 38 (0, 0))) (by kernel_rfl) (HD.out) (fun hHeld => ?_)
                refine takeN (i := 0) (oi := _) (v := .int .i64 0) 150 rfl rfl (by kernel_rfl) (by kernel_rfl) (by kernel_rfl) (fun _ _ _ h => h) (Or.inl ⟨by rfl, fun w hSw => by go_simp⟩) hHeld ?_
                try simp only [Act.put, List.setIfInBounds_toArray, List.set_cons_zero, List.set_cons_succ]
                refine wpAnyH_ready (rs := [1]) (by kernel_rfl) (by simp) ?_
                refine AllReadyH.cons rfl (fun K hK => ?_) AllReadyH.nil
                go_simp
                go_wp2_with (first
                  | (go_at_call 19; (with_reducible refine (num_any _ _).mono ?_); rintro e wa ⟨rfl, rfl⟩)
                  | fail)
                refine hK.out _ _ hHeld (fun hHeld => ?_)
                clear hK K
                try simp only [Act.put, List.setIfInBounds_toArray, List.set_cons_zero, List.set_cons_succ]
                refine takeN (i := 2) (oi := _) (v := .bool false) 152 rfl rfl (by kernel_rfl) (by kernel_rfl) (by kernel_rfl) (fun _ _ _ h => h) (Or.inl ⟨by rfl, fun w hSw => by go_simp⟩) hHeld ?_
                try simp only [Act.put, List.setIfInBounds_toArray, List.set_cons_zero, List.set_cons_succ]
                refine takeN (i := 3) (oi := _) (v := .bool false) 153 rfl rfl (by kernel_rfl) (by kernel_rfl) (by kernel_rfl) (fun _ _ _ h => h) (Or.inl ⟨by rfl, fun w hSw => by go_simp⟩) hHeld ?_
                try simp only [Act.put, List.setIfInBounds_toArray, List.set_cons_zero, List.set_cons_succ]
                refine takeN (i := 4) (oi := _) (v := .int .i64 fuse) 154 rfl rfl (by kernel_rfl) (by kernel_rfl) (by kernel_rfl) (fun _ _ _ h => h) (Or.inl ⟨by rfl, fun w hSw => by go_simp⟩) hHeld ?_
                try simp only [Act.put, List.setIfInBounds_toArray, List.set_cons_zero, List.set_cons_succ]
                refine takeN (i := 5) (oi := _) (v := .int .i64 (k : Int)) 155 rfl rfl (by kernel_rfl) (by kernel_rfl) (by kernel_rfl) (fun _ _ _ h => h) (Or.inl ⟨by rfl, fun w hSw => by go_simp⟩) hHeld ?_
                try simp only [Act.put, List.setIfInBounds_toArray, List.set_cons_zero, List.set_cons_succ]
                refine takeN (i := 6) (oi := _) (v := .int .i64 ((k : Int) + 1)) 156 rfl rfl (by kernel_rfl) (by kernel_rfl) (by kernel_rfl) (fun _ _ _ h => h) (Or.inl ⟨by rfl, fun w hSw => by go_simp⟩) hHeld ?_
                try simp only [Act.put, List.setIfInBounds_toArray, List.set_cons_zero, List.set_cons_succ]
                refine takeN (i := 7) (oi := _) (v := .bool false) 157 rfl rfl (by kernel_rfl) (by kernel_rfl) (by kernel_rfl) (fun _ _ _ h => h) (Or.inl ⟨by rfl, fun w hSw => by go_simp⟩) hHeld ?_
                try simp only [Act.put, List.setIfInBounds_toArray, List.set_cons_zero, List.set_cons_succ]
                refine takeN (i := 8) (oi := _) (v := .bool false) 158 rfl rfl (by kernel_rfl) (by kernel_rfl) (by kernel_rfl) (fun _ _ _ h => h) (Or.inl ⟨by rfl, fun w hSw => by go_simp⟩) hHeld ?_
                try simp only [Act.put, List.setIfInBounds_toArray, List.set_cons_zero, List.set_cons_succ]
                refine takeN (i := 9) (oi := _) 159 rfl rfl (by kernel_rfl) (by kernel_rfl) (by kernel_rfl) (fun _ _ _ h => h) (yieldsIf_load_mid (by rfl) 38 (.tmp 17) rfl qs 0 rfl (sec c) _ (fun w h => box_range h.1.box) sector_u rfl (sector_sz c)) hHeld ?_
                try simp only [Act.put, List.setIfInBounds_toArray, List.set_cons_zero, List.set_cons_succ]
                refine takeN (i := 10) (oi := _) (v := .int .u8 (last.toNat : Int)) 160 rfl rfl (by kernel_rfl) (by kernel_rfl) (by kernel_rfl) (fun _ _ _ h => h) (Or.inl ⟨by rfl, fun w hSw => by go_simp⟩) hHeld ?_
                try simp only [Act.put, List.setIfInBounds_toArray, List.set_cons_zero, List.set_cons_succ]
                refine wpAnyH_ready (rs := [11]) (by kernel_rfl) (by simp) ?_
                refine AllReadyH.cons rfl (fun K hK => ?_) AllReadyH.nil
                go_simp
                go_wp2_with (first
                  | (go_at_call 24; (with_reducible refine (HFL.out _ hHeld).mono ?_); rintro e wa ⟨rfl, hSa⟩)
                  | fail)
                refine hK.out _ _ hSa (fun hHeld => ?_)
                clear hK K hSa
                try simp only [Act.put, List.setIfInBounds_toArray, List.set_cons_zero, List.set_cons_succ]
                refine takeN (i := 12) (oi := _) (v := .bool false) 162 rfl rfl (by kernel_rfl) (by kernel_rfl) (by kernel_rfl) (fun _ _ _ h => h) (Or.inl ⟨by rfl, fun w hSw => by go_simp⟩) hHeld ?_
                try simp only [Act.put, List.setIfInBounds_toArray, List.set_cons_zero, List.set_cons_succ]
                refine takeN (i := 13) (oi := _) (v := .bool false) 163 rfl rfl (by kernel_rfl) (by kernel_rfl) (by kernel_rfl) (fun _ _ _ h => h) (Or.inl ⟨by rfl, fun w hSw => by go_simp⟩) hHeld ?_
                try simp only [Act.put, List.setIfInBounds_toArray, List.set_cons_zero, List.set_cons_succ]
                refine takeN (i := 14) (oi := _) (v := undef) 164 rfl rfl (by kernel_rfl) (by kernel_rfl) (by kernel_rfl) (fun _ _ _ h => h) (Or.inr ⟨by rfl, rfl⟩) hHeld ?_
                try simp only [Act.put, List.setIfInBounds_toArray, List.set_cons_zero, List.set_cons_succ]
                refine takeN (i := 15) (oi := _) (v := undef) 165 rfl rfl (by kernel_rfl) (by kernel_rfl) (by kernel_rfl) (fun _ _ _ h => h) (Or.inr ⟨by rfl, rfl⟩) hHeld ?_
                try simp only [Act.put, List.setIfInBounds_toArray, List.set_cons_zero, List.set_cons_succ]
                refine takeN (i := 16) (oi := _) (v := .bool false) 166 rfl rfl (by kernel_rfl) (by kernel_rfl) (by kernel_rfl) (fun _ _ _ h => h) (Or.inl ⟨by rfl, fun w hSw => by go_simp⟩) hHeld ?_
                try simp only [Act.put, List.setIfInBounds_toArray, List.set_cons_zero, List.set_cons_succ]
                refine takeN (i := 17) (oi := _) (v := .bool false) 167 rfl rfl (by kernel_rfl) (by kernel_rfl) (by kernel_rfl) (fun _ _ _ h => h) (Or.inl ⟨by rfl, fun w hSw => by go_simp⟩) hHeld ?_
                try simp only [Act.put, List.setIfInBounds_toArray, List.set_cons_zero, List.set_cons_succ]
                refine takeN (i := 18) (oi := _) (v := .bool false) 168 rfl rfl (by kernel_rfl) (by kernel_rfl) (by kernel_rfl) (fun _ _ _ h => h) (Or.inl ⟨by rfl, fun w hSw => by go_simp⟩) hHeld ?_
                try simp only [Act.put, List.setIfInBounds_toArray, List.set_cons_zero, List.set_cons_succ]
                refine takeN (i := 19) (oi := _) (v := undef) 169 rfl rfl (by kernel_rfl) (by kernel_rfl) (by kernel_rfl) (fun _ _ _ h => h) (Or.inr ⟨by rfl, rfl⟩) hHeld ?_
                try simp only [Act.put, List.setIfInBounds_toArray, List.set_cons_zero, List.set_cons_succ]
                refine takeN (i := 20) (oi := _) (v := undef) 170 rfl rfl (by kernel_rfl) (by kernel_rfl) (by kernel_rfl) (fun _ _ _ h => h) (Or.inr ⟨by rfl, rfl⟩) hHeld ?_
                try simp only [Act.put, List.setIfInBounds_toArray, List.set_cons_zero, List.set_cons_succ]
                refine takeN (i := 21) (oi := _) (v := undef) 171 rfl rfl (by kernel_rfl) (by kernel_rfl) (by kernel_rfl) (fun _ _ _ h => h) (Or.inr ⟨by rfl, rfl⟩) hHeld ?_
                try simp only [Act.put, List.setIfInBounds_toArray, List.set_cons_zero, List.set_cons_succ]
                refine takeN (i := 22) (oi := _) (v := undef) 172 rfl rfl (by kernel_rfl) (by kernel_rfl) (by kernel_rfl) (fun _ _ _ h => h) (Or.inr ⟨by rfl, rfl⟩) hHeld ?_
                try simp only [Act.put, List.setIfInBounds_toArray, List.set_cons_zero, List.set_cons_succ]
                refine takeN (i := 23) (oi := _) (v := undef) 173 rfl rfl (by kernel_rfl) (by kernel_rfl) (by kernel_rfl) (fun _ _ _ h => h) (Or.inr ⟨by rfl, rfl⟩) hHeld ?_
                try simp only [Act.put, List.setIfInBounds_toArray, List.set_cons_zero, List.set_cons_succ]
                refine takeN (i := 24) (oi := _) (v := undef) 174 rfl rfl (by kernel_rfl) (by kernel_rfl) (by kernel_rfl) (fun _ _ _ h => h) (Or.inr ⟨by rfl, rfl⟩) hHeld ?_
                try simp only [Act.put, List.setIfInBounds_toArray, List.set_cons_zero, List.set_cons_succ]
                refine takeN (i := 25) (oi := _) (v := undef) 175 rfl rfl (by kernel_rfl) (by kernel_rfl) (by kernel_rfl) (fun _ _ _ h => h) (Or.inr ⟨by rfl, rfl⟩) hHeld ?_
                try simp only [Act.put, List.setIfInBounds_toArray, List.set_cons_zero, List.set_cons_succ]
                refine takeN (i := 26) (oi := _) (v := .bool false) 176 rfl rfl (by kernel_rfl) (by kernel_rfl) (by kernel_rfl) (fun _ _ _ h => h) (Or.inl ⟨by rfl, fun w hSw => by go_simp⟩) hHeld ?_
                try simp only [Act.put, List.setIfInBounds_toArray, List.set_cons_zero, List.set_cons_succ]
                refine takeN (i := 27) (oi := _) (v := .bool false) 177 rfl rfl (by kernel_rfl) (by kernel_rfl) (by kernel_rfl) (fun _ _ _ h => h) (Or.inl ⟨by rfl, fun w hSw => by go_simp⟩) hHeld ?_
                try simp only [Act.put, List.setIfInBounds_toArray, List.set_cons_zero, List.set_cons_succ]
                refine wpAnyH_done (by kernel_rfl) ?_ _
                refine NoPanic.normal ?_
                have HNX := Lib.hid hHeld.1
                clear hHeld
                go_wp2_with fail
                go_roundw
                case rel => exact ⟨i + 1, by omega, hlt2, by go_num, HNX⟩
                case measure => simp [intOf]; omega
          · have hltI : ¬ (i : Int) < (m : Int) := by omega
            have hend := HB1.out.trans (HR.out.kw.b.mono hs1)
            go_wp2_with fail
            go_ret
            exact ⟨rfl, hend⟩
end Go.Proofs.Ytdcfplfeagpcdaa
