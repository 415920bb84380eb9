/- The program's disk: Flush. -/
import Derived.Test.YtmfcbndgambfmaaDoorQk
import Derived.Deep.RegionHeldLaw
namespace Go.Proofs.YtmfcbndgambfmaaDoor.Q
open Go.RowKit

def halfS (s : List (List SB)) (left : Lit → Bool) : List (List SB) := s.mapIdx fun i p => if left (key i) = true then p else p.getLastD 0 :: p.tail
theorem half_len (s : List (List SB)) (left : Lit → Bool) : (halfS s left).length = s.length := by simp [halfS]
theorem half_get (s : List (List SB)) (left : Lit → Bool) (i : Nat) (h : i < s.length) : (halfS s left)[i]'(by rw [half_len]; exact h) = if left (key i) = true then s[i] else s[i].getLastD 0 :: s[i].tail := by simp [halfS]
theorem one_last (p : List SB) (h : p.length = 1) : p.getLastD 0 :: p.tail = p := by
  obtain ⟨x, rfl⟩ := List.length_eq_one_iff.1 h
  rfl
theorem half_start {w : World} {m : Nat} {s : List (List SB)} {D : DataW Value} {X : Nat → Value} (h : PMap w m s D X) : halfS s (Maps.has D) = s := by
  apply List.ext_getElem (half_len _ _)
  intro i h1 h2
  rw [half_get s _ i h2, h.has_ i h2]
  by_cases h3 : 1 < s[i].length
  · rw [decide_eq_true h3, if_pos rfl]
  · rw [decide_eq_false h3, if_neg (by simp)]
    exact one_last _ (by have := (h.pos i h2).1; omega)
theorem key_same (i j : Nat) : (key j).sameKey (key i) = decide (j = i) := by
  by_cases h : j = i
  · subst h
    rw [decide_eq_true rfl]
    exact WideAt.sameKey_self (show WideAt.IsKeyLit (key j) from trivial)
  · rw [decide_eq_false h]
    exact Maps.sameKey_ne (fun e => h (key_inj e))
theorem half_step (s : List (List SB)) (left : Lit → Bool) (i : Nat) (hi : i < s.length) (hl : left (key i) = true) : (halfS s left).set i (s[i].getLastD 0 :: ((halfS s left).getD i []).tail) = halfS s (fun z => left z && !z.sameKey (key i)) := by
  have hi' : i < (halfS s left).length := by rw [half_len]; exact hi
  have hg : (halfS s left).getD i [] = s[i] := by
    simp only [List.getD, List.getElem?_eq_getElem hi', Option.getD_some]
    rw [half_get s left i hi, if_pos hl]
  rw [hg]
  apply List.ext_getElem (by rw [List.length_set, half_len, half_len])
  intro j h1 h2
  have hj : j < s.length := by rw [half_len] at h2; exact h2
  rw [half_get s _ j hj]
  rcases set_at _ i j _ h1 hi' with ⟨rfl, e⟩ | ⟨hji, h3, e⟩
  · rw [e, key_same, decide_eq_true rfl]
    simp
  · rw [e, half_get s left j hj, key_same, decide_eq_false hji]
    simp
theorem half_end (d : RD) (left : Lit → Bool) (hl : ∀ kl, left kl = false) : heads { d with s := halfS d.s left } = flushD d := by
  have e : (halfS d.s left).map (fun p => [p.headD 0]) = d.s.map fun p => [p.getLastD 0] := by
    apply List.ext_getElem (by simp [halfS])
    intro i h1 h2
    have hi : i < d.s.length := by simpa using h2
    rw [List.getElem_map, List.getElem_map, half_get d.s left i hi, if_neg (by rw [hl]; simp)]
    rfl
  simp only [heads, flushD, e]

set_option maxHeartbeats 1000000 in
theorem pflush_dead (w : World) (b m : Nat) (L : Value) (D : DataW Value) (X : Nat → Value) (d : RD) (h : PDisk w b L m D X d) (hm : movesB d = false) :
    Calls Tryd.prog 18 #[.pointer (some ⟨b, 0, none⟩)] w fun e w' => e = .returned (.int .i64 10) ∧ PDisk w' b L m D X (movesD d) ∧ Stays w w' (· = b) := by
  have HN := Lib.hid (none_any w b m L D X d h)
  have hs := step_any _ b m L D X d h
  have hse : stepE d = 10 := by unfold stepE; rw [if_neg (by rw [hm]; simp)]
  rw [hse] at hs
  have HS := Lib.hid hs
  clear hs hse hm h
  go_enter Tryd.func18, Tryd.ntmps18
  go_wp2_with (first
    | (go_at_call 19; refine HN.out.mono ?_; rintro e w' ⟨rfl, rfl⟩)
    | (go_at_call 31; refine HS.out.mono ?_; rintro e w' ⟨rfl, h3, _, h5⟩))
  go_ret
  exact ⟨rfl, h3, h5⟩

set_option maxRecDepth 10000 in
set_option maxHeartbeats 1000000 in
theorem pflush_any (w : World) (b m : Nat) (L : Value) (D : DataW Value) (X : Nat → Value) (d : RD) (h : PDisk w b L m D X d) (hm : movesB d = true) :
    Calls Tryd.prog 18 #[.pointer (some ⟨b, 0, none⟩)] w fun e w' => e = .returned (.int .i64 0) ∧ PDisk w' b L m (.map []) (fun _ => nilS) (flushD (movesD d)) ∧ Stays w w' (fun k => k = b ∨ k = m ∨ L.ownBlock = some k) := by
  have HN := Lib.hid (none_any w b m L D X d h)
  have hs := step_any _ b m L D X d h
  have hse : stepE d = 0 := by unfold stepE; rw [if_pos hm]
  rw [hse] at hs
  have HS := Lib.hid hs
  clear hs hse hm h
  go_enter Tryd.func18, Tryd.ntmps18
  go_wp2_with (first
    | (go_at_call 19; refine HN.out.mono ?_; rintro e w' ⟨rfl, rfl⟩)
    | (go_at_call 31; refine HS.out.mono ?_; rintro e w2 ⟨rfl, h3, h4, h5⟩; have c1 := h3.c1)
    | (at_range; refine wpList_range_own _ rfl (.tmp 15) 52 rfl 3 51 lawI Tryd.underlying52 rawE m _ D rfl h3.map.own ?_; intro w3 hrg0 hg0 hs0)
    | fail)
  go_frame
  have hst := half_start h3.map
  have hn1 := h3.n1
  have hg3 := (Below.refl w2.heap.size w2).grown hg0 (Nat.le_refl _) (fun k hk => by cases hk)
  have hd3 := h3.below hg3
  have hfl : ∀ k, foot b m L X (movesD d).s.length k → k < w2.heap.size := fun k hk => (h3.kind hk).lt
  obtain ⟨g, cap, cur, hL, _, hcap, hcm, _⟩ := h3.form
  have hS3 : Stays w w3 (fun k => k = b ∨ k = m ∨ L.ownBlock = some k) := by
    have h1 : Stays w w2 (fun k => k = b ∨ k = m ∨ L.ownBlock = some k) := ⟨h5.os, h5.tape, h5.output, h5.size, fun k hk hF => h5.block k hk (fun e => hF (.inl e))⟩
    exact h1.trans (Stays.of_below hg3 (fun _ => False)) (fun _ hk => hk.elim)
  have HD0 : Hid (PDisk w3 b L m D X { movesD d with s := halfS (movesD d).s (Maps.has D) }) := by
    show PDisk w3 b L m D X { movesD d with s := halfS (movesD d).s (Maps.has D) }
    rw [hst]
    exact hd3
  have HMAP := Lib.hid h3.map
  have HFL := Lib.hid hfl
  have hws := h5.size
  clear hst hd3 hfl hg0 hg3 h4 h5 HN HS c1 h3
  subst hL
  generalize hd1 : movesD d = d1 at *
  have HD1 := Lib.hid hd1
  clear hd1
  go_loopw [4] (fun _ wr => ∃ (left : Lit → Bool) (cnt : Nat), wr.ranges Tryd.prog 3 rawE m w2.heap.size d1.s.length D left cnt ∧ Hid (PDisk wr b (.slice (some ⟨g, 0, none⟩) d1.s.length cap) m D X { d1 with s := halfS d1.s left }) ∧ Stays w wr (fun k => k = b ∨ k = m ∨ (Value.slice (some ⟨g, 0, none⟩) d1.s.length cap).ownBlock = some k))
    (fun _ wr => wr.rangeLeft m w2.heap.size)
  case atStart => exact ⟨_, _, hrg0, HD0, hS3⟩
  case round =>
    obtain ⟨left, cnt, hrg, HP, hS⟩ := hrel
    clear hrg0 HD0 hS3 hs0
    go_wp2_with (first
      | (at_next; refine wpList_next_ranges _ rfl (.tmp 16) rfl 3 lawI rawE (Value.int .i64) id (fun k kl hk => by obtain ⟨x, hx, _⟩ := Maps.keyOf_i64 Tryd.underlying3 hk; exact ⟨x, hx⟩) (fun v _ _ => ⟨v, rfl⟩) m w2.heap.size d1.s.length D left cnt rfl hrg ?_ ?_)
      | fail)
    · intro hc0 hl0
      have hP := HP.out
      have c1 := hP.c1
      obtain ⟨w9, hclr, hown9, hg9⟩ := run_clear hP.map.own 0
      have hend := hP.cleared hown9 hg9
      rw [half_end d1 left hl0] at hend
      have hS9 := hS.grown hg9 (fun k hk => by injection hk with hk; exact .inl (.inr (.inl hk.symm)))
      have HCLR := Lib.hid hclr
      have HEND := Lib.hid hend
      have HS9 := Lib.hid hS9
      clear hP hclr hown9 hg9 hend hS9 hS hl0 hc0 hrg HP
      go_wp2_with (first
        | (refine wpList_builtin_run _ rfl (.tmp 33) 52 rfl _ rfl _ w9 HCLR.out ?_)
        | fail)
      go_ret
      rw [HD1.out]
      exact ⟨rfl, HEND.out, HS9.out⟩
    · intro x c kl yd yp w4 cnt2 hkey hlk hv hat hrg2 hlt hg2 hs2 hen
      obtain ⟨x', ex, hkl, _⟩ := Maps.keyOf_i64 Tryd.underlying3 hkey
      obtain ⟨i, hi, ei⟩ := HMAP.out.dom _ (Maps.has_true_of_atKey hat)
      have hxx : x = x' := encZ_inj ex
      have hxi : x = (i : Int) := by
        rw [ei] at hkl
        injection hkl with _ e2
        omega
      subst hxx
      subst hxi
      subst ei
      clear ex hkl hkey
      have hP := HP.out
      have hi2 : i < (halfS d1.s left).length := by rw [half_len]; exact hi
      have hr4 : ∀ k, foot b m (.slice (some ⟨g, 0, none⟩) d1.s.length cap) X (halfS d1.s left).length k → w4.heap[k]? = wr.heap[k]? := fun k hk => by
        rw [half_len] at hk
        have h1 := HFL.out k hk
        have h2 := hrg.lt
        exact hg2.block k (by omega) (fun e => by injection e with e; omega)
      have hP4 := hP.on hr4
      have hS4 := hS.grown hg2 (fun k hk => by injection hk with hk; exact .inr (by omega))
      have hbd : Below w4.heap.size w4 w4.drew := (Below.refl _ _).drew
      have hPd := hP4.below hbd
      have hlast := last_any w4.drew b m _ D X _ hPd i hi2
      have hgi : (halfS d1.s left)[i] = d1.s[i] := by rw [half_get d1.s left i hi, if_pos hlk]
      have hstep := half_step d1.s left i hi hlk
      have hcall : Calls Tryd.prog 32 #[.pointer (some ⟨b, 0, none⟩), .int .i64 (i : Int)] w4.drew fun e w' => e = .returned (.agg (sec (d1.s[i].getLastD 0)).toArray) ∧
          (w'.cell? ⟨b, 0, none⟩ = some (.slice (some ⟨g, 0, none⟩) d1.s.length cap) ∧ w'.there g (i * 64) 64) ∧
          ((w'.setCells g (i * 64) (sec (d1.s[i].getLastD 0))).cell? ⟨b, 0, none⟩ = some (.slice (some ⟨g, 0, none⟩) d1.s.length cap) ∧ (w'.setCells g (i * 64) (sec (d1.s[i].getLastD 0))).there g (i * 64) 64) ∧
          Hid (∃ cnt3, (w'.setCells g (i * 64) (sec (d1.s[i].getLastD 0))).ranges Tryd.prog 3 rawE m w2.heap.size d1.s.length D (fun z => left z && !z.sameKey (key i)) cnt3 ∧ cnt3 < cnt ∧
            PDisk (w'.setCells g (i * 64) (sec (d1.s[i].getLastD 0))) b (.slice (some ⟨g, 0, none⟩) d1.s.length cap) m D X { d1 with s := halfS d1.s (fun z => left z && !z.sameKey (key i)) } ∧ Stays w (w'.setCells g (i * 64) (sec (d1.s[i].getLastD 0))) (fun k => k = b ∨ k = m ∨ (Value.slice (some ⟨g, 0, none⟩) d1.s.length cap).ownBlock = some k)) := by
        refine hlast.mono fun e w' ⟨he, hb⟩ => ?_
        have hPw := hPd.below hb
        have hthere := hPw.last.there i (by rw [List.length_map]; exact hi2)
        obtain ⟨hPh, hgh⟩ := hPw.head i hi2 (d1.s[i].getLastD 0)
        refine ⟨by rw [he]; show Ending.returned (.agg (sec (((halfS d1.s left)[i]).getLastD 0)).toArray) = _; rw [hgi], ⟨hPw.c0, hthere⟩, ⟨hPh.c0, World.there_setCells hthere _ _ _⟩, cnt2, ?_, hlt, ?_, ?_⟩
        · have hm1 := hrg2.ne
          have hml := hrg2.owns.lt
          have hrl := hrg2.lt
          have hgb : Below w4.drew.heap.size w4 w' := hbd.trans hb
          have hg1 : w4.grownBy w' none := ⟨hgb.os, hgb.tape, hgb.output, hgb.size, fun k hk _ => hgb.block k hk⟩
          have hne : g ≠ w2.heap.size := fun e => by have := HFL.out g (.inr (.inr (.inl rfl))); omega
          have hne2 : m ≠ g := fun e => hP.m_last (by rw [e]; rfl)
          exact (hrg2.kept hg1 (by simp) (by simp)).kept hgh (fun e => hne2 (by injection e)) (fun e => hne (by injection e with e; exact e.symm))
        · have e : headD { d1 with s := halfS d1.s left } i (d1.s[i].getLastD 0) = { d1 with s := halfS d1.s (fun z => left z && !z.sameKey (key i)) } := by simp only [headD, hstep]
          rw [← e]
          exact hPh
        · exact ((hS4.trans (Stays.of_below (hbd.trans hb) (fun _ => False)) (fun _ hk => hk.elim))).grown hgh (fun k hk => .inl (.inr (.inr hk)))
      have HC := Lib.hid hcall
      have hS0 : w4.drew.cell? ⟨b, 0, none⟩ = some (.slice (some ⟨g, 0, none⟩) d1.s.length cap) ∧ w4.drew.there g (i * 64) 64 := ⟨hPd.c0, hPd.last.there i (by rw [List.length_map]; exact hi2)⟩
      have hle := hrg.left_eq
      have HLE := Lib.hid hle
      clear hP hi2 hr4 hP4 hS4 hPd hlast hgi hstep hcall hbd hrg2 hg2 hat hlk hle hS hrg HP hv
      have hsz64 := sector_sz (d1.s[i].getLastD 0)
      have hsl := sec_len (d1.s[i].getLastD 0)
      have hs1 := sec_one (d1.s[i].getLastD 0)
      generalize d1.s[i].getLastD 0 = c0 at *
      go_wp2_with fail
      go_region_held_law (fun w' => w'.cell? ⟨b, 0, none⟩ = some (.slice (some ⟨g, 0, none⟩) d1.s.length cap) ∧ w'.there g (i * 64) 64)
        (first | with_reducible exact hS0 | with_reducible exact hcs7 | with_reducible exact hcc7)
        (first
          | (go_at_call 32; with_reducible refine HC.out.mono ?_; rintro e w7 ⟨rfl, hcc7, hcs7, HP7⟩))
      obtain ⟨cnt3, hr7, hlt7, hp7, hS7⟩ := HP7.out
      clear HP7
      go_wp2
      go_roundw
      case rel => exact ⟨_, cnt3, hr7, hp7, hS7⟩
      case measure => rw [hr7.left_eq, HLE.out]; exact hlt7
end Go.Proofs.YtmfcbndgambfmaaDoor.Q
