/- The program's disk: Crash. -/
import Derived.Test.YtmfcbndgambfmaaDoorQl
namespace Go.Proofs.YtmfcbndgambfmaaDoor.Q
open Go.RowKit

theorem pickAt_zero (n : Nat) : pickAt 0 n = 0 := by
  unfold pickAt
  rw [Int.zero_tmod, Int.zero_add, Int.tmod_self]
  rfl
theorem pickN_at (picks : List Int) (j n : Nat) : pickN picks j n = pickAt (picks.getD j 0) n := by
  unfold pickN
  by_cases hj : j < picks.length
  · rw [dif_pos hj]; simp [List.getD, hj]
  · rw [dif_neg hj, List.getD, List.getElem?_eq_none (by omega)]
    exact (pickAt_zero n).symm
/-- the sectors, the first j of the open ones with the version that their pick names at their head -/
def crashH (s : List (List SB)) (l : List Nat) (picks : List Int) : Nat → List (List SB)
  | 0 => s
  | j + 1 =>
    let t := crashH s l picks j
    let past := t.getD (l.getD j 0) []
    t.set (l.getD j 0) (past.getD (pickN picks j past.length) 0 :: past.tail)
theorem crashH_len (s : List (List SB)) (l : List Nat) (picks : List Int) (j : Nat) : (crashH s l picks j).length = s.length := by
  induction j with
  | zero => rfl
  | succ j ih => simp [crashH, ih]
theorem getD_set_eq (t : List (List SB)) (k : Nat) (x : List SB) (h : k < t.length) : (t.set k x).getD k [] = x := by simp [List.getD, h]
theorem getD_set_ne' (t : List (List SB)) (k i : Nat) (x : List SB) (h : i ≠ k) : (t.set k x).getD i [] = t.getD i [] := by
  simp only [List.getD]
  rw [List.getElem?_set_ne (fun e => h e.symm)]
theorem crash_rel (s : List (List SB)) (l : List Nat) (picks : List Int) (hn : l.Nodup) (hlt : ∀ k ∈ l, k < s.length) : ∀ j, j ≤ l.length → ∀ i, i < s.length →
    (i ∈ l.take j → ∃ c, (crashS s l picks j).getD i [] = [c] ∧ ((crashH s l picks j).getD i []).headD 0 = c) ∧ (i ∉ l.take j → (crashS s l picks j).getD i [] = s.getD i [] ∧ (crashH s l picks j).getD i [] = s.getD i []) := by
  intro j
  induction j with
  | zero =>
    intro _ i _
    exact ⟨fun h => by simp at h, fun _ => ⟨rfl, rfl⟩⟩
  | succ j ih =>
    intro hj i hi
    have hjl : j < l.length := by omega
    have hget : l.getD j 0 = l[j] := by simp [List.getD, hjl]
    have hk : l[j] < s.length := hlt _ (List.getElem_mem hjl)
    have htake : l.take (j + 1) = l.take j ++ [l[j]] := List.take_succ_eq_append_getElem hjl
    have hnot : l[j] ∉ l.take j := by
      intro hm
      have h1 : (l.take (j + 1)).Nodup := hn.sublist (List.take_sublist _ _)
      rw [htake, List.nodup_append] at h1
      exact h1.2.2 _ hm _ (by simp) rfl
    obtain ⟨_, hk2⟩ := ih (by omega) l[j] hk
    obtain ⟨e1, e2⟩ := hk2 hnot
    rw [htake]
    simp only [List.mem_append, List.mem_singleton]
    by_cases h : i = l[j]
    · rw [h]
      refine ⟨fun _ => ?_, fun h' => absurd (Or.inr rfl) h'⟩
      refine ⟨(s.getD l[j] []).getD (pickN picks j (s.getD l[j] []).length) 0, ?_, ?_⟩
      · simp only [crashS, hget]
        rw [getD_set_eq _ _ _ (by rw [crashS_len]; exact hk), e1]
      · simp only [crashH, hget]
        rw [getD_set_eq _ _ _ (by rw [crashH_len]; exact hk), e2]
        rfl
    · obtain ⟨h1, h2⟩ := ih (by omega) i hi
      simp only [crashS, crashH, hget]
      rw [getD_set_ne' _ _ _ _ h, getD_set_ne' _ _ _ _ h]
      refine ⟨fun hm => h1 (hm.resolve_right h), fun hm => h2 (fun h3 => hm (.inl h3))⟩
theorem crash_end (d : RD) (picks : List Int) (hp : ∀ i (h : i < d.s.length), 0 < d.s[i].length) : (crashH d.s (openL d) picks (openL d).length).map (fun p => [p.headD 0]) = crashS d.s (openL d) picks (openL d).length := by
  have hn : (openL d).Nodup := (openL_lts d).imp (fun h => Nat.ne_of_lt h)
  apply List.ext_getElem (by rw [List.length_map, crashH_len, crashS_len])
  intro i h1 h2
  have hi : i < d.s.length := by rw [crashS_len] at h2; exact h2
  have hH : i < (crashH d.s (openL d) picks (openL d).length).length := by rw [crashH_len]; exact hi
  obtain ⟨ha, hb⟩ := crash_rel d.s (openL d) picks hn (openL_lt d) _ (Nat.le_refl _) i hi
  rw [List.take_length] at ha hb
  rw [getD_get _ i h2, getD_get _ i hH] at ha hb
  rw [List.getElem_map]
  by_cases h : i ∈ openL d
  · obtain ⟨c, e1, e2⟩ := ha h
    rw [e1, e2]
  · obtain ⟨e1, e2⟩ := hb h
    rw [e1, e2, getD_get _ i hi]
    have h3 : ¬ 1 < d.s[i].length := fun h4 => h ((openL_mem d i).2 ⟨hi, h4⟩)
    obtain ⟨x, hx⟩ := List.length_eq_one_iff.1 (show d.s[i].length = 1 by have := hp i hi; omega)
    rw [hx]
    rfl

theorem PDisk.reset {w : World} {b m : Nat} {L : Value} {D : DataW Value} {X : Nat → Value} {d : RD} (h : PDisk w b L m D X d) :
    PDisk (((w.setCell ⟨b, 2, none⟩ (.bool false)).setCell ⟨b, 3, none⟩ (.int .i64 0)).setCell ⟨b, 4, none⟩ (.bool false)) b L m D X { d with fuse := -1, dead := false } := by
  have hb : ∀ k, k ≠ b → (((w.setCell ⟨b, 2, none⟩ (.bool false)).setCell ⟨b, 3, none⟩ (.int .i64 0)).setCell ⟨b, 4, none⟩ (.bool false)).heap[k]? = w.heap[k]? := fun k hk => by
    rw [Below.heap_setCell _ _ _ _ hk, Below.heap_setCell _ _ _ _ hk, Below.heap_setCell _ _ _ _ hk]
  have e1 := Joins.block_setCell h.disk (i := 2) (.bool false)
  have e2 := Joins.block_setCell e1 (i := 3) (.int .i64 0)
  have e3 := Joins.block_setCell e2 (i := 4) (.bool false)
  refine ⟨?_, h.last.on (fun k hk => hb k (fun e => h.b_last (by rw [hk, e]))), h.map.on (hb m h.b_m) (fun j hj k hk => hb k (fun e => h.b_row (h.map.row j hj) (by rw [hk, e]))), h.off, h.n0, h.n1, by show (-1 : Int) ≤ -1 ∧ (-1 : Int) ≤ _; omega⟩
  rw [e3]
  rfl
def hd3 (d : RD) (picks : List Int) (j : Nat) : RD := { d with s := crashH d.s (openL d) picks j }

set_option maxRecDepth 10000 in
set_option maxHeartbeats 2000000 in
theorem pcrash_any (w : World) (b m : Nat) (L : Value) (D : DataW Value) (X : Nat → Value) (d : RD) (h : PDisk w b L m D X d) (A : Option Addr) (cap : Nat) (picks : List Int) (hp : Shows w w.heap.size A picks.length (nums picks)) (hpc : picks.length ≤ 9223372036854775807) (hpk : ∀ p : Addr, A = some p → 0 < picks.length → ¬ foot b m L X d.s.length p.block) :
    Calls Tryd.prog 9 #[.pointer (some ⟨b, 0, none⟩), .slice A picks.length cap] w fun e w' => e = .returned (.int .i64 0) ∧ PDisk w' b L m (.map []) (fun _ => nilS) (crashD d picks) ∧ Stays w w' (fun k => k = b ∨ k = m ∨ L.ownBlock = some k) := by
  have HN := Lib.hid (none_any w b m L D X d h)
  have HO := Lib.hid (popen_any w b m L D X d h)
  have H := Lib.hid h
  obtain ⟨g, capL, cur, hL, _, hcap, hcm, _⟩ := h.form
  have hoL : (openL d).length ≤ d.s.length := openN_le d _
  have hn1 := h.n1
  clear h
  go_enter Tryd.func9, Tryd.ntmps9
  go_wp2_with (first
    | (go_at_call 19; refine HN.out.mono ?_; rintro e w' ⟨rfl, rfl⟩)
    | (go_at_call 20; refine HO.out.mono ?_; rintro e w2 ⟨u, rfl, hu, hb2⟩; obtain ⟨AU, cU, hfu⟩ := row_form hu; subst hfu))
  have hPd2 := H.out.below hb2
  have hS2 := Stays.of_below hb2 (fun k => k = b ∨ k = m ∨ L.ownBlock = some k)
  have HFL : Hid (∀ k, foot b m L X d.s.length k → k < w.heap.size) := Lib.hid (fun k hk => (H.out.kind hk).lt)
  have hw2 := hb2.size
  have HB2 := Lib.hid hb2
  have HPD2 := Lib.hid hPd2
  have HS2 := Lib.hid hS2
  clear hPd2 hS2 hb2
  subst hL
  go_loopw [13] (fun j wr => ∃ i : Nat, i ≤ (openL d).length ∧ j = .int .i64 (i : Int) ∧ Hid (PDisk wr b (.slice (some ⟨g, 0, none⟩) d.s.length capL) m D X (hd3 d picks i)) ∧ Hid (Stays w2 wr (fun k => k = b ∨ k = m ∨ (Value.slice (some ⟨g, 0, none⟩) d.s.length capL).ownBlock = some k)) ∧ Hid (wr.ownsRow w.heap.size 3 1 (.slice AU (openL d).length cU) (openL d).length (ints (openL d)))) (fun j _ => (openL d).length - (intOf j).toNat)
  case atStart => exact ⟨0, Nat.zero_le _, rfl, HPD2, Stays.refl _ _, hu⟩
  case round =>
    obtain ⟨i, hi, rfl, HP, HS, HU⟩ := hrel
    clear hu
    by_cases hlt : i < (openL d).length
    · obtain ⟨k, hkd⟩ : ∃ k, (openL d)[i]'hlt = k := ⟨_, rfl⟩
      have hkl : k < d.s.length := openL_lt d k (by rw [← hkd]; exact List.getElem_mem _)
      have hDl : (hd3 d picks i).s.length = d.s.length := crashH_len _ _ _ _
      have hkD : k < (hd3 d picks i).s.length := by rw [hDl]; exact hkl
      have hP := HP.out
      have hur := HU.out
      rcases hur.2 with ⟨_, hz⟩ | ⟨gu, cu, curu, hvu, hgu0, hgu, _⟩
      · omega
      injection hvu with v4 _ v6
      subst v4
      subst v6
      have cuc := own_int hur i hlt
      rw [hkd] at cuc
      have hkI : (k : Int) < (d.s.length : Int) := by omega
      have hiI : (i : Int) < ((openL d).length : Int) := by omega
      -- what the round's last region leaves, for whatever pick
      have hcall : ∀ pick : Int, pick = picks.getD i 0 → Calls Tryd.prog 21 #[.pointer (some ⟨b, 0, none⟩), .int .i64 (k : Int), .int .i64 pick] wr.drew fun e w' => ∃ c, e = .returned (.agg (sec c).toArray) ∧
          (w'.cell? ⟨b, 0, none⟩ = some (.slice (some ⟨g, 0, none⟩) d.s.length capL) ∧ w'.there g (k * 64) 64) ∧
          ((w'.setCells g (k * 64) (sec c)).cell? ⟨b, 0, none⟩ = some (.slice (some ⟨g, 0, none⟩) d.s.length capL) ∧ (w'.setCells g (k * 64) (sec c)).there g (k * 64) 64) ∧
          Hid (PDisk (w'.setCells g (k * 64) (sec c)) b (.slice (some ⟨g, 0, none⟩) d.s.length capL) m D X (hd3 d picks (i + 1)) ∧ Stays w2 (w'.setCells g (k * 64) (sec c)) (fun k => k = b ∨ k = m ∨ (Value.slice (some ⟨g, 0, none⟩) d.s.length capL).ownBlock = some k) ∧ (w'.setCells g (k * 64) (sec c)).ownsRow w.heap.size 3 1 (.slice (some ⟨gu, 0, none⟩) (openL d).length cU) (openL d).length (ints (openL d))) := by
        intro pick hpick
        have hbd : Below wr.heap.size wr wr.drew := (Below.refl _ _).drew
        have hPd := hP.below hbd
        refine (version_any wr.drew b m _ D X _ hPd k hkD pick).mono fun e w' ⟨he, hb⟩ => ?_
        have hPw := hPd.below hb
        have hthere := hPw.last.there k (by rw [List.length_map]; exact hkD)
        obtain ⟨c, hc⟩ : ∃ c, c = ((hd3 d picks i).s[k]).getD (pickAt pick ((hd3 d picks i).s[k]).length) 0 := ⟨_, rfl⟩
        obtain ⟨hPh, hgh⟩ := hPw.head k hkD c
        refine ⟨c, by rw [he, hc], ⟨hPw.c0, hthere⟩, ⟨hPh.c0, World.there_setCells hthere _ _ _⟩, ?_, ?_, ?_⟩
        · have e : headD (hd3 d picks i) k c = hd3 d picks (i + 1) := by
            have h1 : (openL d).getD i 0 = k := by simp [List.getD, hlt, hkd]
            have h2 : (crashH d.s (openL d) picks i).getD k [] = (hd3 d picks i).s[k] := getD_get _ k hkD
            simp only [headD, hd3, crashH, h1]
            rw [hc, hpick, h2, pickN_at]
          rw [← e]
          exact hPh
        · exact ((HS.out.trans (Stays.of_below (hbd.trans hb) (fun _ => False)) (fun _ hk => hk.elim))).grown hgh (fun k hk => .inl (.inr (.inr hk)))
        · have hgb := hbd.trans hb
          have hg1 : wr.grownBy w' none := ⟨hgb.os, hgb.tape, hgb.output, hgb.size, fun k hk _ => hgb.block k hk⟩
          have hne : gu ≠ g := fun e => by have := HFL.out g (.inr (.inr (.inl rfl))); omega
          exact (hur.kept hg1 (.inr (by simp [Value.ownBlock]))).kept hgh (.inr (by simp [Value.ownBlock]; exact hne))
      have HC := Lib.hid hcall
      have hS0 : wr.drew.cell? ⟨b, 0, none⟩ = some (.slice (some ⟨g, 0, none⟩) d.s.length capL) ∧ wr.drew.there g (k * 64) 64 := ⟨hP.c0, hP.last.there k (by rw [List.length_map]; exact hkD)⟩
      have HS0 := Lib.hid hS0
      have hsz64 := fun c => sector_sz c
      clear hcall hP hur hS0 hkd hDl hkD
      by_cases hip : i < picks.length
      · obtain ⟨pp, hA, hpb, hpx⟩ := hp.lies (by omega)
        subst hA
        have hpk0 := hpx i (.int .i64 picks[i]) (by simp [nums, hip])
        have hpn := hpk pp rfl (by omega)
        have hpr : wr.cell? (pp.add i) = some (.int .i64 picks[i]) := by
          rw [World.cell?_of_block (w := w) ?_]
          · exact hpk0
          · rw [addr_block]
            rw [HS.out.block _ (by omega) (fun hF => hpn (hF.elim (fun e => .inl e) (fun e => e.elim (fun e => .inr (.inl e)) (fun e => .inr (.inr (.inl e))))))]
            exact HB2.out.block _ hpb
        have hpe : picks[i] = picks.getD i 0 := by simp [List.getD, hip]
        have HC2 := Lib.hid (HC.out _ hpe)
        have hipI : decide ((i : Int) < (picks.length : Int)) = true := by simp; omega
        clear hpe hpk0 hpx HC
        generalize picks[i] = pk at *
        go_wp2_with fail
        go_region_held_law (fun w' => w'.cell? ⟨b, 0, none⟩ = some (.slice (some ⟨g, 0, none⟩) d.s.length capL) ∧ w'.there g (k * 64) 64)
          (first | with_reducible exact HS0.out | with_reducible exact hcs7 | with_reducible exact hcc7)
          (first
            | (go_at_call 21; with_reducible refine HC2.out.mono ?_; rintro e w7 ⟨c, rfl, hcc7, hcs7, HP7⟩; have hsz64 := sector_sz c; have hsl := sec_len c; have hs1 := sec_one c))
        obtain ⟨hp7, hS7, hu7⟩ := HP7.out
        clear HP7
        go_wp2
        go_roundw
        case rel => exact ⟨i + 1, hlt, by go_num, hp7, hS7, hu7⟩
        case measure => simp [intOf]; omega
      · have hpe : (0 : Int) = picks.getD i 0 := by rw [List.getD, List.getElem?_eq_none (by omega)]; rfl
        have HC2 := Lib.hid (HC.out _ hpe)
        have hipI : decide ((i : Int) < (picks.length : Int)) = false := by simp; omega
        clear hpe HC
        go_wp2_with fail
        go_region_held_law (fun w' => w'.cell? ⟨b, 0, none⟩ = some (.slice (some ⟨g, 0, none⟩) d.s.length capL) ∧ w'.there g (k * 64) 64)
          (first | with_reducible exact HS0.out | with_reducible exact hcs7 | with_reducible exact hcc7)
          (first
            | (go_at_call 21; with_reducible refine HC2.out.mono ?_; rintro e w7 ⟨c, rfl, hcc7, hcs7, HP7⟩; have hsz64 := sector_sz c; have hsl := sec_len c; have hs1 := sec_one c))
        obtain ⟨hp7, hS7, hu7⟩ := HP7.out
        clear HP7
        go_wp2
        go_roundw
        case rel => exact ⟨i + 1, hlt, by go_num, hp7, hS7, hu7⟩
        case measure => simp [intOf]; omega
    · obtain rfl : i = (openL d).length := by omega
      have hP := HP.out
      have c1 := hP.c1
      obtain ⟨w9, hclr, hown9, hg9⟩ := run_clear hP.map.own 0
      have hend := hP.cleared hown9 hg9
      have hpos := fun i hi => (H.out.map.pos i hi).1
      have hce := crash_end d picks hpos
      have hres := hend.reset
      have d2 := hend.c2
      have d3 := hend.c3
      have d4 := hend.c4
      have f2 := hend.fr 2
      have f3 := hend.fr 3
      have f4 := hend.fr 4
      have hee : { heads (hd3 d picks (openL d).length) with fuse := -1, dead := false } = crashD d picks := by simp only [heads, hd3, crashD, hce]
      rw [hee] at hres
      have hS9 := HS2.out.trans (HS.out.grown hg9 (fun k hk => by injection hk with hk; exact .inl (.inr (.inl hk.symm)))) (fun _ hk => .inl hk)
      have hS10 := ((hS9.set ⟨b, 2, none⟩ (.inl (.inl rfl)) (.bool false)).set ⟨b, 3, none⟩ (.inl (.inl rfl)) (.int .i64 0)).set ⟨b, 4, none⟩ (.inl (.inl rfl)) (.bool false)
      have HCLR := Lib.hid hclr
      have HRES := Lib.hid hres
      have HS10 := Lib.hid hS10
      clear hP hclr hown9 hg9 hend hpos hce hres hee hS9 hS10 HP HS HU HPD2 HS2 HB2 H HN HO
      generalize (heads (hd3 d picks (openL d).length)).dead = dd at *
      generalize (heads (hd3 d picks (openL d).length)).fuse = ff at *
      go_wp2_with (first
        | (refine wpList_builtin_run _ rfl (.tmp 40) 52 rfl _ rfl _ w9 HCLR.out ?_)
        | fail)
      go_ret
      exact ⟨rfl, HRES.out, HS10.out⟩
end Go.Proofs.YtmfcbndgambfmaaDoor.Q
