/- Join, and what it calls. -/
import Derived.Test.YtojbajbghldoeaaPd
set_option linter.unusedVariables false
namespace Go.Proofs.Ytojbajbghldoeaa
open Go.RowKit

theorem fj_any (w : World) (x : Nat) : Calls Try.prog 13 #[.int .u16 (x : Int)] w fun e w' => e = .returned (.bool (decide (x ≠ 0))) ∧ w' = w := by
  by_cases h : x = 0
  · subst h
    go_enter Try.func13, Try.ntmps13
    go_wp2
    go_ret
    exact ⟨rfl, rfl⟩
  · have hb : ((x : Int) != 0) = true := by simp [h]
    have h2 : decide (x ≠ 0) = true := by simp [h]
    rw [h2]
    clear h h2
    go_enter Try.func13, Try.ntmps13
    go_wp2
    go_ret
    exact ⟨rfl, rfl⟩
theorem anyN_none {l : List Nat} (h : ∀ m, m < l.length → l.getD m 0 = 0) : anyN l = false := by
  unfold anyN
  rw [List.any_eq_false]
  intro x hx
  obtain ⟨i, hi, rfl⟩ := List.getElem_of_mem hx
  have := h i hi
  simpa [List.getD, hi] using this
set_option maxHeartbeats 1000000 in
theorem index_any (w : World) (A : Option Addr) (cap : Nat) (l : List Nat) (hl : l.length ≤ 2000) (hs : Shows w w.heap.size A l.length (nums16 l)) :
    Calls Try.prog 14 #[.slice A l.length cap, .func (.func 13) #[] #[]] w fun e w' => (∃ z : Int, e = .returned (.int .i64 z) ∧ decide (0 ≤ z) = anyN l) ∧ w' = w := by
  have HS := Lib.hid hs
  clear hs
  go_enter Try.func14, Try.ntmps14
  go_wp2
  go_loopw [5, 8] (fun _ j wr => ∃ i : Nat, i ≤ l.length ∧ j = .int .i64 (i : Int) ∧ wr = w ∧ Hid (∀ m, m < i → l.getD m 0 = 0)) (fun _ j _ => l.length - (intOf j).toNat)
  case atStart => exact ⟨0, Nat.zero_le _, rfl, rfl, fun m hm => by omega⟩
  case round =>
    obtain ⟨i, hi, rfl, rfl, HZ⟩ := hrel
    by_cases hlt : i < l.length
    · have hltI : (i : Int) < (l.length : Int) := by omega
      obtain ⟨p, rfl, hp, hck⟩ := HS.out.num16 i hlt
      have HM : Hid (l.getD i 0 ≠ 0 → anyN l = true) := fun h => anyN_mem hlt h
      have HN : Hid (l.getD i 0 = 0 → ∀ m, m < i + 1 → l.getD m 0 = 0) := fun h m hm => by
        rcases Nat.lt_or_ge m i with h1 | h1
        · exact HZ.out m h1
        · obtain rfl : m = i := by omega
          exact h
      generalize l.getD i 0 = x at *
      by_cases hx : x = 0
      · have HF := Lib.hid (fj_any wr x)
        rw [show decide (x ≠ 0) = false by simp [hx]] at HF
        have hn := Lib.hid (HN.out hx)
        clear HN HM hx HZ
        go_wp2_with (first
          | (go_at_call 13; (with_reducible refine HF.out.mono ?_); rintro e w1 ⟨rfl, rfl⟩)
          | fail)
        go_roundw
        case rel => exact ⟨i + 1, hlt, by go_num, by first | rfl | trivial, hn⟩
        case measure => simp [intOf]; omega
      · have HF := Lib.hid (fj_any wr x)
        rw [show decide (x ≠ 0) = true by simp [hx]] at HF
        have hn := Lib.hid (HM.out hx)
        clear HN HM hx HZ
        go_wp2_with (first
          | (go_at_call 13; (with_reducible refine HF.out.mono ?_); rintro e w1 ⟨rfl, rfl⟩)
          | fail)
        go_ret
        exact ⟨⟨(i : Int), rfl, by rw [hn.out]; simp⟩, rfl⟩
    · obtain rfl : i = l.length := by omega
      have hltI : ¬ (l.length : Int) < (l.length : Int) := by omega
      have hn := Lib.hid (anyN_none HZ.out)
      clear HZ
      go_wp2
      go_ret
      exact ⟨⟨-1, rfl, by rw [hn.out]; rfl⟩, rfl⟩
theorem contains_any (w : World) (A : Option Addr) (cap : Nat) (l : List Nat) (hl : l.length ≤ 2000) (hs : Shows w w.heap.size A l.length (nums16 l)) :
    Calls Try.prog 12 #[.slice A l.length cap, .func (.func 13) #[] #[]] w fun e w' => e = .returned (.bool (anyN l)) ∧ w' = w := by
  have HI := Lib.hid (index_any w A cap l hl hs)
  clear hs
  go_enter Try.func12, Try.ntmps12
  go_wp2_with (first
    | (go_at_call 14; (with_reducible refine HI.out.mono ?_); rintro e w1 ⟨⟨z, rfl, hz⟩, rfl⟩; have HZ := Lib.hid hz; clear hz)
    | fail)
  go_ret
  exact ⟨by rw [← HZ.out]; rfl, rfl⟩
/-- a page that was told: where it lies, its counts -/
def slV (p : Addr × List Nat) : Value := .slice (some p.1) 120 120
def flatP (ps : List (Addr × List Nat)) : List Nat := (ps.map (·.2)).flatten
theorem flatP_length (ps : List (Addr × List Nat)) (h : ∀ p ∈ ps, p.2.length = 120) : (flatP ps).length = ps.length * 120 := by
  unfold flatP
  rw [flat_len _ (fun q hq => by obtain ⟨p, hp, rfl⟩ := List.mem_map.1 hq; exact h p hp), List.length_map]
theorem flatP_take (ps : List (Addr × List Nat)) (i : Nat) (hi : i < ps.length) : flatP (ps.take (i + 1)) = flatP (ps.take i) ++ (ps[i]).2 := by
  unfold flatP
  rw [List.take_succ_eq_append_getElem hi, List.map_append, List.flatten_append]
  simp
/-- where a slice lies that is cut at its front -/
def cutA (p : Addr) (l cap : Nat) : Option Addr := if cap = l then some p else some (p.add l)
theorem cutA_shows {w : World} {B L l m cap : Nat} {p : Addr} {xs : List Value} (h : Shows w B (some p) L xs) (hl : l + m ≤ L) (hc : L ≤ cap) : Shows w B (cutA p l cap) m ((xs.drop l).take m) := by
  refine ⟨by rw [List.length_take, List.length_drop, h.len]; omega, fun hp => ?_⟩
  obtain ⟨q, hq, hb, hx⟩ := h.lies (by omega)
  injection hq with hq
  subst hq
  unfold cutA
  rw [if_neg (by omega)]
  refine ⟨p.add l, rfl, by rw [addr_block]; exact hb, fun j u hj => ?_⟩
  rw [addr_twice]
  rw [List.getElem?_take] at hj
  split at hj
  · rw [List.getElem?_drop] at hj
    exact hx _ u hj
  · cases hj
theorem sl_ht : Try.prog.underlying 22 = some (.slice (Try.prog.elem 22)) := by kernel_rfl
theorem sl_sz (w : World) : (sizeOf (Try.prog.elem 22)).run Try.prog w = .ok 1 w := by kernel_rfl
theorem slice_from (w : World) (p : Addr) (L cap n : Nat) (h : n ≤ L) : (Instr.sliceAt 22 (.slice (some p) L cap) (some (.int .i64 (n : Int))) none none).run Try.prog w = .ok (.slice (cutA p n cap) (L - n) (cap - n)) w := by
  rw [run_sliceAt_slice w _ _ _ _ _ sl_ht, run_slice_l w _ _ _ _ sl_ht .i64 (n : Int) (by omega) (by omega), sl_sz]
  simp only [Result.andThen, sliced, Int.toNat_natCast, Nat.mul_one, Option.map_some, cutA]
theorem slice_upto (w : World) (p : Addr) (L cap n : Nat) (h0 : 0 < n) (h : n ≤ cap) : (Instr.sliceAt 22 (.slice (some p) L cap) none (some (.int .i64 (n : Int))) (some (.int .i64 (n : Int)))).run Try.prog w = .ok (.slice (some p) n n) w := by
  rw [run_sliceAt_slice w _ _ _ _ _ sl_ht, run_slice_hm w _ _ _ _ sl_ht .i64 .i64 (n : Int) (n : Int) (by omega) (by omega) (by omega), sl_sz]
  have e : p.add 0 = p := by unfold Addr.add; simp
  simp only [Result.andThen, sliced, Int.toNat_natCast, Nat.zero_mul, Option.map_some, e, if_neg (show ¬ n = 0 by omega), Nat.sub_zero]
/-- while all are joined -/
structure JS (w wr : World) (v : Value) (L : List Nat) : Prop where
  own : wr.ownsRow w.heap.size 31 1 v L.length (nums16 L)
  bel : Below w.heap.size w wr
theorem JS.app {w wr w2 : World} {v v2 : Value} {L m : List Nat} {k : Nat} (h : JS w wr v L) (hk : m.length = k) (ho : w2.ownsRow w.heap.size 31 1 v2 (L.length + k) (nums16 L ++ nums16 m)) (hg : Grew wr w2 v v2) : JS w w2 v2 (L ++ m) := by
  have hb := hg.below h.own (Nat.le_refl _) h.bel.size
  refine ⟨?_, h.bel.trans hb⟩
  rw [List.length_append, hk, nums16_append]
  exact ho
theorem own_form4 {w : World} {base n : Nat} {e : TypeId} {v : Value} {xs : List Value} (h : w.ownsRow base e 1 v n xs) : ∃ A c, v = .slice A n c ∧ n ≤ c ∧ c ≤ maxLen := by
  rcases h.2 with ⟨rfl, rfl⟩ | ⟨g, cap, cur, rfl, _, _, hc, hm, _⟩
  · exact ⟨none, 0, rfl, Nat.le_refl _, Nat.zero_le _⟩
  · exact ⟨_, cap, rfl, hc, hm⟩

/-- of another number, or of pages of another number -/
theorem join_bad (w : World) (n : Nat) (A : Option Addr) (m cap : Nat) (hn1 : n ≤ 1010) (h : n < 1 ∨ 1000 < n ∨ m ≠ pagesN n) :
    Calls Try.prog 10 #[.int .i64 (n : Int), .slice A m cap] w fun e w' => e = .returned (.tuple #[.slice none 0 0, .int .i64 2]) ∧ w' = w := by
  have HP := Lib.hid (pages_any w (n : Int) (by omega))
  by_cases h1 : n < 1
  · have h1I : (n : Int) < 1 := by omega
    clear h
    go_enter Try.func10, Try.ntmps10
    go_wp2
    go_ret2
    exact ⟨rfl, rfl⟩
  have h1I : ¬ (n : Int) < 1 := by omega
  by_cases h2 : 1000 < n
  · have h2I : (1000 : Int) < (n : Int) := by omega
    clear h
    go_enter Try.func10, Try.ntmps10
    go_wp2
    go_ret2
    exact ⟨rfl, rfl⟩
  have h2I : ¬ (1000 : Int) < (n : Int) := by omega
  have h3 : ¬ (m : Int) = ((pagesN n : Nat) : Int) := by omega
  clear h
  go_enter Try.func10, Try.ntmps10
  go_wp2_with (first
    | (go_at_call 4; (with_reducible refine HP.out.mono ?_); rintro e w1 ⟨rfl, rfl⟩; rw [Int.toNat_natCast])
    | fail)
  go_ret2
  exact ⟨rfl, rfl⟩
/-- the first page has another length -/
theorem join_short (w : World) (n : Nat) (p q : Addr) (m cap k c : Nat) (h1 : 1 ≤ n) (h2 : n ≤ 1000) (hm : m = pagesN n) (hc : w.cell? p = some (.slice (some q) k c)) (hk : k ≠ 120) :
    Calls Try.prog 10 #[.int .i64 (n : Int), .slice (some p) m cap] w fun e w' => e = .returned (.tuple #[.slice none 0 0, .int .i64 2]) ∧ w' = w := by
  have HP := Lib.hid (pages_any w (n : Int) (by omega))
  have h1I : ¬ (n : Int) < 1 := by omega
  have h2I : ¬ (1000 : Int) < (n : Int) := by omega
  have h3 : (m : Int) = ((pagesN n : Nat) : Int) := by omega
  have h4 : (0 : Int) < (m : Int) := by subst hm; unfold pagesN; omega
  have h5 : ¬ (k : Int) = 120 := by omega
  have e0 : p.add 0 = p := by unfold Addr.add; simp
  have HC := Lib.hid hc
  clear hk hm hc
  go_enter Try.func10, Try.ntmps10
  go_wp2_with (first
    | (go_at_call 4; (with_reducible refine HP.out.mono ?_); rintro e w1 ⟨rfl, rfl⟩; rw [Int.toNat_natCast]; have hc := HC.out)
    | fail)
  go_loopw [6, 8, 24] (fun v _ j wr => v = .slice none 0 0 ∧ j = .int .i64 0 ∧ wr = w1) (fun _ _ j _ => m - (intOf j).toNat)
  case atStart => exact ⟨rfl, rfl, rfl⟩
  case round =>
    obtain ⟨rfl, rfl, rfl⟩ := hrel
    go_wp2
    go_ret2
    exact ⟨rfl, rfl⟩
/-- what Join answers -/
def JoinAs (w : World) (n : Nat) (bad : Bool) (L : List Nat) (e : Ending) (w' : World) : Prop :=
  Below w.heap.size w w' ∧ match bad with
    | true => e = .returned (.tuple #[.slice none 0 0, .int .i64 4])
    | false => ∃ p : Addr, e = .returned (.tuple #[.slice (some p) n n, .int .i64 0]) ∧ Shows w' w'.heap.size (some p) n (nums16 (L.take n))
set_option maxRecDepth 10000 in
set_option maxHeartbeats 2000000 in
theorem join_any (w : World) (n : Nat) (A : Option Addr) (cap : Nat) (ps : List (Addr × List Nat)) (h1 : 1 ≤ n) (h2 : n ≤ 1000) (hm : ps.length = pagesN n) (hr : Shows w w.heap.size A ps.length (ps.map slV)) (h120 : ∀ p ∈ ps, p.2.length = 120) (hp : ∀ p ∈ ps, Shows w w.heap.size (some p.1) 120 (nums16 p.2)) :
    Calls Try.prog 10 #[.int .i64 (n : Int), .slice A ps.length cap] w (JoinAs w n (anyN ((flatP ps).drop n)) (flatP ps)) := by
  obtain ⟨i0, hi0, hz0, hz1, hz2⟩ := info_parts u16_info
  have HP := Lib.hid (pages_any w (n : Int) (by omega))
  have h1I : ¬ (n : Int) < 1 := by omega
  have h2I : ¬ (1000 : Int) < (n : Int) := by omega
  have h3 : (ps.length : Int) = ((pagesN n : Nat) : Int) := by omega
  have hm9 : ps.length ≤ 9 := by rw [hm]; unfold pagesN; omega
  have hcov : n ≤ ps.length * 120 := by rw [hm]; exact pages_cover n
  have HR := Lib.hid hr
  have HQ := Lib.hid hp
  have H120 := Lib.hid h120
  have HCOV := Lib.hid hcov
  clear hr hp hm hcov h120
  go_enter Try.func10, Try.ntmps10
  go_wp2_with (first
    | (go_at_call 4; (with_reducible refine HP.out.mono ?_); rintro e w1 ⟨rfl, rfl⟩; rw [Int.toNat_natCast])
    | fail)
  go_loopw [6, 8, 24] (fun v _ j wr => ∃ i : Nat, i ≤ ps.length ∧ j = .int .i64 (i : Int) ∧ Hid (JS w1 wr v (flatP (ps.take i)))) (fun _ _ j _ => ps.length - (intOf j).toNat)
  case atStart => exact ⟨0, Nat.zero_le _, rfl, ⟨⟨rfl, .inl ⟨rfl, rfl⟩⟩, Below.refl _ _⟩⟩
  case round =>
    obtain ⟨i, hi, rfl, HJ⟩ := hrel
    have hfl := flatP_length (ps.take i) (fun q hq => H120.out q (List.mem_of_mem_take hq))
    rw [List.length_take, Nat.min_eq_left hi] at hfl
    by_cases hlt : i < ps.length
    · have hltI : (i : Int) < (ps.length : Int) := by omega
      obtain ⟨p, u, rfl, hpb, hu, hck⟩ := (HR.out.below HJ.out.bel).cell hlt
      have hu2 : u = .slice (some (ps[i]'hlt).1) 120 120 := by
        rw [List.getElem?_map, List.getElem?_eq_getElem hlt] at hu
        injection hu with hu
        exact hu.symm
      subst hu2
      have hmem : ps[i]'hlt ∈ ps := List.getElem_mem hlt
      have HSH := Lib.hid ((HQ.out _ hmem).below HJ.out.bel)
      have HL := Lib.hid (H120.out _ hmem)
      have HSU := Lib.hid (flatP_take ps i hlt)
      have HFL := Lib.hid hfl
      have hb := HJ.out.bel.size
      clear hu hmem hfl
      generalize ps[i]'hlt = pg at *
      obtain ⟨pa, pl⟩ := pg
      simp only at HSH HL HSU hck
      generalize flatP (ps.take i) = L at *
      have hlL : L.length ≤ 1080 := by rw [HFL.out]; omega
      go_wp2_with (first
        | (at_builtin; refine wpList_append_shows _ rfl (.tmp 31) (.tmp 32) 22 rfl w1.heap.size 31 i0 (.int .u16 0) 2 Try.underlying22 hi0 hz0 hz1 hz2 rfl _ L.length (nums16 L) rfl HJ.out.own w1.heap.size (some pa) 120 120 (nums16 pl) rfl HSH.out (nums16_one _) (by unfold maxLen; omega) (by omega) hb ?_; intro v2 w2 hown hg; have HA := Lib.hid (HJ.out.app HL.out hown hg); clear hown hg)
        | fail)
      rw [← HSU.out] at HA
      go_roundw
      case rel => exact ⟨i + 1, by omega, by go_num, HA⟩
      case measure => simp [intOf]; omega
    · obtain rfl : i = ps.length := by omega
      have hltI : ¬ (ps.length : Int) < (ps.length : Int) := by omega
      rw [List.take_length] at HJ hfl
      obtain ⟨AL, cL, hV, hc1, hc2⟩ := own_form4 HJ.out.own
      rw [hfl] at hV hc1
      subst hV
      have ho := HJ.out.own
      rw [hfl] at ho
      have hsh := Shows.owned ho
      have HB := Lib.hid HJ.out.bel
      have hcov := HCOV.out
      obtain ⟨p, rfl, _, _⟩ := hsh.lies (by omega)
      have hdl : ((flatP ps).drop n).length = ps.length * 120 - n := by rw [List.length_drop, hfl]
      have hcn := cutA_shows (l := n) (m := ps.length * 120 - n) hsh (by omega) hc1
      have e : ((nums16 (flatP ps)).drop n).take (ps.length * 120 - n) = nums16 ((flatP ps).drop n) := by
        rw [List.take_of_length_le (by rw [List.length_drop, nums16_length, hfl]; omega)]
        unfold nums16
        rw [List.map_drop]
      rw [e, ← hdl] at hcn
      have hcf := contains_any wr (cutA p n cL) (cL - n) ((flatP ps).drop n) (by rw [hdl]; omega) hcn
      rw [hdl] at hcf
      have hup := hsh.upto (k := n) hcov
      have e2 : (nums16 (flatP ps)).take n = nums16 ((flatP ps).take n) := by unfold nums16; rw [List.map_take]
      rw [e2] at hup
      have HUP := Lib.hid hup
      have HCF := Lib.hid hcf
      have hs1 := fun W => slice_from W p (ps.length * 120) cL n hcov
      have hs2 := fun W => slice_upto W p (ps.length * 120) cL n (by omega) (by omega)
      clear hcf hcn e e2 hup hdl hsh ho hfl HJ
      generalize anyN ((flatP ps).drop n) = bad at *
      cases bad with
      | true =>
        go_wp2_with (first
          | (go_at_call 12; (with_reducible refine HCF.out.mono ?_); rintro e w2 ⟨rfl, rfl⟩)
          | fail)
        go_ret2
        exact ⟨HB.out, rfl⟩
      | false =>
        go_wp2_with (first
          | (go_at_call 12; (with_reducible refine HCF.out.mono ?_); rintro e w2 ⟨rfl, rfl⟩)
          | fail)
        go_ret2
        exact ⟨HB.out, p, rfl, HUP.out⟩
end Go.Proofs.Ytojbajbghldoeaa
