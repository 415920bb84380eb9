/- The program's disk: Copy. -/
import Derived.Test.YtdcfplfeagpcdaaEn
namespace Go.Proofs.Ytdcfplfeagpcdaa
open Go.RowKit

theorem pcopy_none (w : World) (p : Value) (hp : Calls Try.prog 29 #[p] w fun e w' => e = .returned (.bool true) ∧ w = w') :
    Calls Try.prog 10 #[p] w fun e w' => e = .returned (.pointer none) ∧ w = w' := by
  have HN := Lib.hid hp
  clear hp
  go_enter Try.func10, Try.ntmps10
  go_wp2_with (go_at_call 29; refine HN.out.mono ?_; rintro e w' ⟨rfl, rfl⟩)
  go_ret
  exact ⟨rfl, rfl⟩

/-- the new disk -/
theorem copy_disk {w w8 : World} {m2 n : Nat} {L' : Value} {D2 : DataW Value} {Y : Nat → Value} {d : RD} {gL : Nat} (hw : Below w.heap.size w w8) (hmap : PMap w8 m2 d.s D2 Y) (hL : w8.ownsRow n 38 64 L' d.s.length (secs (d.s.map (·.headD 0)))) (hLb : L'.ownBlock = some gL)
    (hm2 : w.heap.size ≤ m2) (hY : ∀ i, i < d.s.length → ∀ k, (Y i).ownBlock = some k → w.heap.size ≤ k ∧ k < gL) (hgL : w.heap.size ≤ gL) (n0 : 0 < d.s.length) (n1 : d.s.length ≤ 8192) (fz : -1 ≤ d.fuse ∧ d.fuse ≤ 9223372036854775807) :
    ∃ F, PD (w8.alloc (.cells (diskCells L' m2 d) 70)) F w8.heap.size d ∧ (∀ k, F k → w.heap.size ≤ k) ∧ Below w.heap.size w (w8.alloc (.cells (diskCells L' m2 d) 70)) := by
  have hbl := fun k (hk : k < w8.heap.size) => Below.heap_alloc w8 (.cells (diskCells L' m2 d) 70) k hk
  have hL0 : w8.ownsRow 0 38 64 L' (d.s.map (·.headD 0)).length (secs (d.s.map (·.headD 0))) := by
    rw [List.length_map]
    exact ownsRow_base_a hL (Nat.zero_le _)
  have hLR := LRow.of_own hL0 (by rw [List.length_map]; exact n0)
  have hsz := hw.size
  refine ⟨foot w8.heap.size m2 L' Y d.s.length, ⟨L', m2, D2, Y, ⟨heap_alloc_new w8 _, hLR.on (fun k hk => hbl k (hL.lt k hk).2), hmap.on (hbl m2 hmap.own.lt) (fun i hi k hk => hbl k ((hmap.row i hi).lt k hk).2), fun i hi k hk e => ?_, n0, n1, fz⟩, fun k => Iff.rfl⟩, ?_, hw.alloc hsz _⟩
  · rw [hLb] at e
    injection e with e
    have := (hY i hi k hk).2
    omega
  · rintro k (rfl | rfl | hk | ⟨i, hi, hk⟩)
    · exact hsz
    · exact hm2
    · rw [hLb] at hk; injection hk with hk; omega
    · exact (hY i hi k hk).1

theorem copy_put {w4 w5 w6 : World} {m2 r n : Nat} {s : List (List UInt8)} {D2 : DataW Value} {Y : Nat → Value} {left : Lit → Bool} (hP : PMap w4 m2 (partS s left) D2 Y) (i : Nat) (hi : i < s.length) (h1 : 1 < s[i].length) (hl : s[i].length ≤ 1000000) (v : Value) (g : Nat)
    (hrow : w5.ownsRow w4.heap.size 38 64 v (s[i].length - 1) (secs s[i].tail)) (hvg : v.ownBlock = some g) (hgg : w4.heap.size ≤ g) (hb5 : Below w4.heap.size w4 w5) (hown6 : w6.ownsMap Try.prog 3 rawE m2 n (D2.put (key i) (.held v))) (hg6 : w5.grownBy w6 (some m2))
    (hY : ∀ i k, (Y i).ownBlock = some k → r < k) (hr : r < w4.heap.size) :
    PMap w6 m2 (partS s (fun z => left z && !z.sameKey (key i))) (D2.put (key i) (.held v)) (putX Y i v) ∧ (∀ j k, (putX Y i v j).ownBlock = some k → r < k) := by
  have hm2 := hP.own.lt
  have hi' : i < (partS s left).length := by rw [part_len]; exact hi
  refine ⟨?_, fun j k hk => ?_⟩
  · rw [← part_step s left i hi]
    refine hP.puts i hi' s[i] v h1 hl hown6 ?_ (fun j hj hji => ?_) (fun j hj hji k hk => ?_)
    · exact (ownsRow_base_a hrow (Nat.zero_le _)).kept hg6 (.inr (by rw [hvg]; intro e; injection e with e; omega))
    · have h4 := hP.row j hj
      refine rowS_on h4 (fun k hk => ?_)
      have h5 := (h4.lt k hk).2
      have hmk : k ≠ m2 := by
        intro e
        subst e
        obtain ⟨cs, hc⟩ := row_kind h4 hk
        obtain ⟨es, c, hm⟩ := map_kind hP.own
        rw [hm] at hc
        cases hc
      rw [hg6.block k (by have := hb5.size; omega) (fun e => hmk (by injection e))]
      exact hb5.block k h5
    · rw [hvg]
      intro e
      injection e with e
      have := ((hP.row j hj).lt k hk).2
      omega
  · unfold putX at hk
    by_cases e : j = i
    · rw [if_pos e, hvg] at hk
      injection hk with hk
      omega
    · rw [if_neg e] at hk
      exact hY j k hk
theorem row64_form {w : World} {base n : Nat} {e : TypeId} {size : Nat} {v : Value} {xs : List Value} (h : w.ownsRow base e size v n xs) : ∃ A c, v = .slice A n c := by
  rcases h.2 with ⟨rfl, rfl⟩ | ⟨g, cap, cur, rfl, _⟩
  · exact ⟨none, 0, rfl⟩
  · exact ⟨_, cap, rfl⟩
theorem LRow.cells {w : World} {g n cap : Nat} {l : List UInt8} (h : LRow w (.slice (some ⟨g, 0, none⟩) n cap) l) (j : Nat) (u : Value) (hu : (secs l)[j]? = some u) : w.cell? ((⟨g, 0, none⟩ : Addr).add j) = some u := by
  obtain ⟨g', cap', cur, hL, hg, _, _, hs, ht⟩ := h
  injection hL with e1
  injection e1 with e1
  injection e1 with e1
  subst e1
  rw [Addr.add_mid, Nat.zero_add, cell_of_row w g _ _ _ _ hg, ← Array.getElem?_toList]
  rw [← ht, List.getElem?_take] at hu
  split at hu
  · exact hu
  · cases hu

set_option maxRecDepth 10000 in
set_option maxHeartbeats 2000000 in
theorem pcopy_any (w : World) (b m : Nat) (L : Value) (D : DataW Value) (X : Nat → Value) (d : RD) (h : PDisk w b L m D X d) :
    Calls Try.prog 10 #[.pointer (some ⟨b, 0, none⟩)] w fun e w' => ∃ b' F, e = .returned (.pointer (some ⟨b', 0, none⟩)) ∧ PD w' F b' d ∧ (∀ k, F k → w.heap.size ≤ k) ∧ Below w.heap.size w w' := by
  have HN := Lib.hid (none_any w b m L D X d h)
  have c1 := h.c1
  obtain ⟨g, capL, cur, hL, _, hcap, hcm, _⟩ := h.form
  have hmh := run_makeMap_hint
  have hown := h.map.own
  have hb1 := (Below.refl w.heap.size w).alloc (Nat.le_refl _) (.map #[] 0)
  have h1 := h.below hb1
  have hown1 := h1.map.own
  have c11 := h1.c1
  have HB1 := Lib.hid hb1
  have HOWN := Lib.hid hown
  have HOWN1 := Lib.hid hown1
  have H := Lib.hid h
  have HM2 := Lib.hid (World.ownsMap_made w Try.prog 3 rawE)
  clear hown hown1 h h1 hb1
  go_enter Try.func10, Try.ntmps10
  go_wp2_with (first
    | (go_at_call 29; refine HN.out.mono ?_; rintro e w' ⟨rfl, rfl⟩)
    | (at_len; refine wpList_len_own _ rfl (.tmp 11) 65 rfl 3 66 Try.underlying65 rawE m _ D rfl HOWN.out ?_)
    | (at_range; refine wpList_range_own _ rfl (.tmp 17) 65 rfl 3 66 lawI Try.underlying65 rawE m _ D rfl HOWN1.out ?_; intro w3 hrg0 hg0 hs0)
    | fail)
  go_frame
  have hr1 : (w.alloc (.map #[] 0)).heap.size = w.heap.size + 1 := by simp
  have hg3 : Below w.heap.size w w3 := HB1.out.grown hg0 (by rw [hr1]; omega) (fun k hk => by cases hk)
  have hm3 : PMap w3 w.heap.size (partS d.s (Maps.has D)) (.map []) (fun _ => nilS) :=
    PMap.empty (map_on HM2.out (hg0.block w.heap.size (by rw [hr1]; omega) (by simp))) (fun i hi => part_start H.out.map i hi) (Nat.zero_le _)
  have hn1 := H.out.n1
  have HG3 := Lib.hid hg3
  have HM3 := Lib.hid hm3
  have HMAP := Lib.hid H.out.map
  have hmlt : m < w.heap.size := HMAP.out.own.lt
  have hs3 : (w.alloc (.map #[] 0)).heap.size < w3.heap.size := by rw [hs0]; omega
  have hwr : w.heap.size < (w.alloc (.map #[] 0)).heap.size := by rw [hr1]; omega
  clear hg3 hm3 hg0 hs0 hr1 HM2 HB1 HOWN HOWN1 c11 hmh HN c1
  generalize (w.alloc (.map #[] 0)).heap.size = r at *
  subst hL
  go_loopw [4, 5] (fun _ _ wr => ∃ (left : Lit → Bool) (cnt : Nat) (D2 : DataW Value) (Y : Nat → Value), wr.ranges Try.prog 3 rawE m r d.s.length D left cnt ∧ Hid (PMap wr w.heap.size (partS d.s left) D2 Y) ∧ Hid (∀ i k, (Y i).ownBlock = some k → r < k) ∧ Hid (Below w.heap.size w wr))
    (fun _ _ wr => wr.rangeLeft m r)
  case atStart => exact ⟨_, _, _, _, hrg0, HM3, Lib.hid (fun i k hk => by cases hk), HG3⟩
  case round =>
    obtain ⟨left, cnt, D2, Y, hrg, HP, HY, HB⟩ := hrel
    clear hrg0 HM3 HG3
    go_wp2_with (first
      | (at_next; refine wpList_next_ranges _ rfl (.tmp 18) rfl 3 lawI rawE (Value.int .i64) id (fun k kl hk => by obtain ⟨x, hx, _⟩ := Maps.keyOf_i64 Try.underlying3 hk; exact ⟨x, hx⟩) (fun v _ _ => ⟨v, rfl⟩) m r d.s.length D left cnt rfl hrg ?_ ?_)
      | fail)
    · intro hc0 hl0
      have hm8 := HP.out
      rw [part_end d.s left hl0] at hm8
      have hdr := H.out.below HB.out
      have hbd : Below wr.heap.size wr wr.drew := (Below.refl _ _).drew
      have hdd := hdr.below hbd
      have hlm : (d.s.map (·.headD 0)).length = d.s.length := List.length_map ..
      have hcl := clone_any wr.drew ⟨g, 0, none⟩ (d.s.map (·.headD 0)) capL (by rw [hlm]; exact H.out.n0) (by rw [hlm]; omega) (fun j u hu => hdd.last.cells j u hu)
      rw [hlm] at hcl
      have hcall : Calls Try.prog 30 #[.slice (some ⟨g, 0, none⟩) d.s.length capL] wr.drew fun e w' => ∃ v, e = .returned v ∧
          (w'.cell? ⟨b, 0, none⟩ = some (.slice (some ⟨g, 0, none⟩) d.s.length capL) ∧ w'.cell? ⟨b, 2, none⟩ = some (.bool (decide (0 ≤ d.fuse))) ∧ w'.cell? ⟨b, 3, none⟩ = some (.int .i64 (leftN d.fuse)) ∧ w'.cell? ⟨b, 4, none⟩ = some (.bool d.dead)) ∧
          Hid (∀ o, (w'.alloc o).cell? ⟨b, 0, none⟩ = some (.slice (some ⟨g, 0, none⟩) d.s.length capL) ∧ (w'.alloc o).cell? ⟨b, 2, none⟩ = some (.bool (decide (0 ≤ d.fuse))) ∧ (w'.alloc o).cell? ⟨b, 3, none⟩ = some (.int .i64 (leftN d.fuse)) ∧ (w'.alloc o).cell? ⟨b, 4, none⟩ = some (.bool d.dead)) ∧
          (∃ A c, v = .slice A d.s.length c) ∧
          Hid (∃ F, PD (w'.alloc (.cells (diskCells v w.heap.size d) 70)) F w'.heap.size d ∧ (∀ k, F k → w.heap.size ≤ k) ∧ Below w.heap.size w (w'.alloc (.cells (diskCells v w.heap.size d) 70))) := by
        refine hcl.mono fun e w' ⟨v, gv, he, hrow, hvg, hgg, hb⟩ => ⟨v, he, ?_, ?_, row64_form hrow, ?_⟩
        · have h8 := hdd.below hb
          exact ⟨h8.c0, h8.c2, h8.c3, h8.c4⟩
        · intro o
          have h8 := (hdd.below hb).below ((Below.refl _ _).alloc (Nat.le_refl _) o)
          exact ⟨h8.c0, h8.c2, h8.c3, h8.c4⟩
        · have hwb := HB.out.trans ((hbd.trans hb).mono HB.out.size)
          have hms := hm8.own.lt
          refine copy_disk (gL := gv) hwb (hm8.on ((hbd.trans hb).block _ hms) (fun i hi k hk => (hbd.trans hb).block k ((hm8.row i hi).lt k hk).2)) hrow hvg (Nat.le_refl _) (fun i hi k hk => ?_) (by have := HB.out.size; show w.heap.size ≤ gv; have : wr.heap.size ≤ gv := hgg; omega) H.out.n0 hn1 H.out.fz
          have h3 := HY.out i k hk
          have h4 : k < wr.heap.size := ((hm8.row i hi).lt k hk).2
          have h5 : wr.heap.size ≤ gv := hgg
          exact ⟨by omega, by omega⟩
      have HC := Lib.hid hcall
      have hS0 : wr.drew.cell? ⟨b, 0, none⟩ = some (.slice (some ⟨g, 0, none⟩) d.s.length capL) ∧ wr.drew.cell? ⟨b, 2, none⟩ = some (.bool (decide (0 ≤ d.fuse))) ∧ wr.drew.cell? ⟨b, 3, none⟩ = some (.int .i64 (leftN d.fuse)) ∧ wr.drew.cell? ⟨b, 4, none⟩ = some (.bool d.dead) := ⟨hdd.c0, hdd.c2, hdd.c3, hdd.c4⟩
      have HS0 := Lib.hid hS0
      clear hm8 hdr hbd hdd hlm hcl hcall hS0 hrg HP HY HB H HMAP hl0 hc0
      generalize hlf : decide (0 ≤ d.fuse) = lf at *
      generalize hff : leftN d.fuse = ff at *
      have HLF := Lib.hid hlf
      have HFF := Lib.hid hff
      clear hlf hff
      go_wp2_with fail
      go_region_held_law (fun w' => w'.cell? ⟨b, 0, none⟩ = some (.slice (some ⟨g, 0, none⟩) d.s.length capL) ∧ w'.cell? ⟨b, 2, none⟩ = some (.bool lf) ∧ w'.cell? ⟨b, 3, none⟩ = some (.int .i64 ff) ∧ w'.cell? ⟨b, 4, none⟩ = some (.bool d.dead))
        (first | with_reducible exact HS0.out | with_reducible exact hcc8 | exact hco8.out _)
        (first
          | (go_at_call 30; with_reducible refine HC.out.mono ?_; rintro e w8 ⟨v8, rfl, hcc8, hco8, ⟨A8, c8, rfl⟩, HP8⟩))
      have he8 : diskCells (.slice A8 d.s.length c8) w.heap.size d = #[.slice A8 d.s.length c8, .map (some w.heap.size), .bool lf, .int .i64 ff, .bool d.dead] := by
        unfold diskCells
        rw [HLF.out, HFF.out]
      rw [he8] at HP8
      clear he8 hcc8 hco8
      go_wp2
      go_ret
      obtain ⟨F, h1, h2, h3⟩ := HP8.out
      exact ⟨_, F, rfl, h1, h2, h3⟩
    · intro x c kl yd yp w4 cnt2 hkey hlk hv hat hrg2 hlt hg2 hs2 hen
      obtain ⟨x', ex, hkl, _⟩ := Maps.keyOf_i64 Try.underlying3 hkey
      obtain ⟨i, hi, ei⟩ := HMAP.out.dom _ (Maps.has_true_of_atKey hat)
      have hhas := Maps.has_true_of_atKey hat
      have hxx : x = x' := encZ_inj ex
      have hxi : x = (i : Int) := by
        rw [ei] at hkl
        injection hkl with _ e2
        omega
      subst hxx
      subst hxi
      subst ei
      clear ex hkl hkey
      have h1 : 1 < d.s[i].length := by
        rw [HMAP.out.has_ i hi] at hhas
        simpa using hhas
      have hcX : c = X i := by
        have e1 := HMAP.out.at_ i hi
        rw [hat] at e1
        have e2 : some (DataW.held c, ([] : List MemPlace)) = some (yd, yp) := hv
        injection e2 with e2
        injection e2 with e2 _
        rw [← e2] at e1
        injection e1
      have hrow := HMAP.out.row i hi
      rcases hrow.2 with ⟨_, hz⟩ | ⟨gi, ci, cui, hXi, _⟩
      · omega
      rw [hXi] at hcX hrow
      subst hcX
      have hrl := hrg.lt
      have hb4 : Below w.heap.size w w4 := HB.out.grown hg2 HB.out.size (fun k hk => by injection hk with hk; omega)
      have hP4 : PMap w4 w.heap.size (partS d.s left) D2 Y := HP.out.on (hg2.block _ HP.out.own.lt (fun e => by injection e with e; omega)) (fun j hj k hk => hg2.block k ((HP.out.row j hj).lt k hk).2 (fun e => by injection e with e; have := HY.out j k hk; omega))
      have hlt1 : d.s[i].tail.length = d.s[i].length - 1 := List.length_tail
      have hcl := clone_any w4 ⟨gi, 0, none⟩ d.s[i].tail ci (by omega) (by have := (HMAP.out.pos i hi).2; omega) (fun j u hu => by
        rw [hb4.cell (by rw [addr_block]; exact (hrow.lt gi rfl).2)]
        exact hrow.cells rfl j u hu)
      rw [hlt1] at hcl
      have HCL := Lib.hid hcl
      have HP4 := Lib.hid hP4
      have HB4 := Lib.hid hb4
      have HRG2 := Lib.hid hrg2
      have hle := hrg.left_eq
      have HLE := Lib.hid hle
      have hl6 := (HMAP.out.pos i hi).2
      have H1 := Lib.hid h1
      have hr4 : r < w4.heap.size := by rw [hs2]; exact hrl
      have hm4 : d.s.length ≤ 8192 := hn1
      clear hcl hP4 hb4 hrg2 hle hlt1 hrow hXi hg2 hat hhas hlk hrg HP HB hv hs2
      go_wp2_with fail
      refine HCL.out.mono ?_
      rintro e w5 ⟨v5, g5, rfl, hrow5, hvg5, hgg5, hb5⟩
      have hsz5 := hb5.size
      have hown5 := map_on HP4.out.own (hb5.block _ (by omega))
      have HROW5 := Lib.hid hrow5
      have HVG5 := Lib.hid hvg5
      have HB5 := Lib.hid hb5
      have HOWN5 := Lib.hid hown5
      have HLEN : Hid ((partS d.s left).length ≤ 8192) := Lib.hid (by rw [part_len]; exact hn1)
      clear hrow5 hvg5 hb5 hown5
      go_wp2_with (first
        | (at_mapUpdate; refine wpList_mapUpdate_own _ rfl (.tmp 24) (.tmp 25) (.tmp 27) 65 rfl 3 66 lawI Try.underlying65 rawE w.heap.size _ D2 rfl HOWN5.out (by have := HLEN.out; unfold maxLen; omega) _ _ (key i) rfl rfl (key_of i (by omega)) (.held v5) [] rfl ?_; intro w6 hown6 hg6)
        | fail)
      obtain ⟨hP6, hY6⟩ := copy_put HP4.out i hi H1.out hl6 v5 g5 HROW5.out HVG5.out hgg5 HB5.out hown6 hg6 HY.out hr4
      have hg45 : w4.grownBy w5 none := ⟨HB5.out.os, HB5.out.tape, HB5.out.output, HB5.out.size, fun k hk _ => HB5.out.block k hk⟩
      have hr6 := (HRG2.out.kept hg45 (by simp) (by simp)).kept hg6 (fun e => by injection e with e; omega) (fun e => by injection e with e; omega)
      have hB6 := (HB4.out.trans (HB5.out.mono HB4.out.size)).grown hg6 (by omega) (fun k hk => by injection hk with hk; omega)
      go_frame
      go_roundw
      case rel => exact ⟨_, cnt2, _, _, hr6, hP6, hY6, hB6⟩
      case measure => rw [hr6.left_eq, HLE.out]; exact hlt
end Go.Proofs.Ytdcfplfeagpcdaa
