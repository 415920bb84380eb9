/- The document's Split. -/
import Derived.Test.YtbencgjihoiieaaPi
set_option linter.unusedVariables false
namespace Go.Proofs.Ytbencgjihoiieaa
open Go.RowKit

theorem rsplit_bad (w : World) (x y : Int) (hx : -9223372036854775808 ≤ x ∧ x ≤ 9223372036854775807) (hy : -9223372036854775808 ≤ y ∧ y ≤ 9223372036854775807) (h : badRow x y = true) :
    Calls Try.prog 7 #[.int .i64 x, .int .i64 y] w fun e w' => e = .returned (.slice none 0 0) ∧ w' = w := by
  obtain ⟨hx1, hx2⟩ := hx
  obtain ⟨hy1, hy2⟩ := hy
  have hor : x < 0 ∨ y < 1 ∨ 1073741824 - x < y := by unfold badRow at h; simpa using h
  clear h
  by_cases h1 : x < 0
  · clear hor
    go_enter Try.func7, Try.ntmps7
    go_wp2
    go_ret
    exact ⟨rfl, rfl⟩
  by_cases h2 : y < 1
  · clear hor
    go_enter Try.func7, Try.ntmps7
    go_wp2
    go_ret
    exact ⟨rfl, rfl⟩
  by_cases h3 : 1073741824 < y
  · clear hor
    go_enter Try.func7, Try.ntmps7
    go_wp2
    go_ret
    exact ⟨rfl, rfl⟩
  have h4 : 1073741824 - y < x := by omega
  clear hor
  go_enter Try.func7, Try.ntmps7
  go_wp2
  go_ret
  exact ⟨rfl, rfl⟩

/-- while the document's parts are made -/
structure RS (w wr : World) (a k : Nat) (v : Value) : Prop where
  own : wr.ownsRow w.heap.size 23 3 v (partsL a k).length (cells3 (partsL a k))
  bel : Below w.heap.size w wr
theorem own_form {w : World} {base s n : Nat} {e : TypeId} {v : Value} {xs : List Value} (h : w.ownsRow base e s v n xs) : ∃ A c, v = .slice A n c := by
  rcases h.2 with ⟨rfl, rfl⟩ | ⟨g, cap, cur, rfl, _⟩
  · exact ⟨none, 0, rfl⟩
  · exact ⟨_, cap, rfl⟩
theorem own_at {w : World} {base s n : Nat} {e : TypeId} {v : Value} {xs : List Value} (h : w.ownsRow base e s v n xs) : ∀ j, v.ownBlock = some j → base ≤ j := fun j hj => (h.lt j hj).1
theorem rs_add0 {w wr w1 : World} {a : Nat} {v v' : Value} {o : Obj} (h : RS w wr a 0 v) (ho : w1.ownsRow w.heap.size 23 3 v' (0 + 1) ([] ++ (SP.mk (((a : Int) + ((0 : Nat) : Int)) / 4) (((a : Int) + ((0 : Nat) : Int)) % 4) (((a : Int) + ((0 : Nat) : Int)) % 4 + 1)).cs)) (hg : (wr.alloc o).grownBy w1 v.ownBlock) (hp : partsL a 1 = [⟨((a / 4 : Nat) : Int), ((a % 4 : Nat) : Int), ((a % 4 : Nat) : Int) + 1⟩]) : Hid (RS w w1 a 1 v') := by
  refine ⟨?_, (h.bel.alloc h.bel.size _).grown hg (by have := h.bel.size; simp; omega) (own_at h.own)⟩
  rw [hp]
  have e : cells3 [⟨((a / 4 : Nat) : Int), ((a % 4 : Nat) : Int), ((a % 4 : Nat) : Int) + 1⟩] = [] ++ (SP.mk (((a : Int) + ((0 : Nat) : Int)) / 4) (((a : Int) + ((0 : Nat) : Int)) % 4) (((a : Int) + ((0 : Nat) : Int)) % 4 + 1)).cs := by simp [cells3, SP.cs]
  rw [e]
  exact ho
theorem rs_add {w wr w1 : World} {a k m : Nat} {v v' : Value} {o : Obj} (h : RS w wr a k v) (hl : (partsL a k).length = m + 1) (ho : w1.ownsRow w.heap.size 23 3 v' (m + 1 + 1) (cells3 (partsL a k) ++ (SP.mk (((a : Int) + (k : Int)) / 4) (((a : Int) + (k : Int)) % 4) (((a : Int) + (k : Int)) % 4 + 1)).cs)) (hg : (wr.alloc o).grownBy w1 v.ownBlock)
    (hp : partsL a (k + 1) = partsL a k ++ [⟨(((a + k) / 4 : Nat) : Int), (((a + k) % 4 : Nat) : Int), (((a + k) % 4 : Nat) : Int) + 1⟩]) : Hid (RS w w1 a (k + 1) v') := by
  refine ⟨?_, (h.bel.alloc h.bel.size _).grown hg (by have := h.bel.size; simp; omega) (own_at h.own)⟩
  rw [hp, cells3_snoc, List.length_append, hl]
  have e : (SP.mk (((a + k) / 4 : Nat) : Int) (((a + k) % 4 : Nat) : Int) ((((a + k) % 4 : Nat) : Int) + 1)) = SP.mk (((a : Int) + (k : Int)) / 4) (((a : Int) + (k : Int)) % 4) (((a : Int) + (k : Int)) % 4 + 1) := by apply SP.same <;> simp
  rw [e]
  exact ho
theorem rs_set {w wr : World} {a k g cp m : Nat} {init : List SP} {b f t u : Int} (h : RS w wr a k (.slice (some ⟨g, 0, none⟩) (m + 1) cp)) (hl : (partsL a k).length = m + 1) (hi : init.length = m)
    (hs : (wr.setCell ⟨g, m * 3 + 2, none⟩ (.int .i64 u)).ownsRow w.heap.size 23 3 (.slice (some ⟨g, 0, none⟩) (m + 1) cp) (m + 1) ((cells3 (partsL a k)).set (m * 3 + 2) (.int .i64 u)) ∧ wr.grownBy (wr.setCell ⟨g, m * 3 + 2, none⟩ (.int .i64 u)) (some g))
    (hp : partsL a k = init ++ [⟨b, f, t⟩] ∧ partsL a (k + 1) = init ++ [⟨b, f, u⟩]) : Hid (RS w (wr.setCell ⟨g, m * 3 + 2, none⟩ (.int .i64 u)) a (k + 1) (.slice (some ⟨g, 0, none⟩) (m + 1) cp)) := by
  refine ⟨?_, h.bel.setCell (p := ⟨g, m * 3 + 2, none⟩) (h.own.lt g rfl).1 _⟩
  have hl2 : (partsL a (k + 1)).length = m + 1 := by rw [hp.2]; simp [hi]
  have e : cells3 (partsL a (k + 1)) = (cells3 (partsL a k)).set (m * 3 + 2) (.int .i64 u) := by
    rw [hp.1, hp.2, cells3_snoc, cells3_snoc, List.set_append_right _ _ (by rw [cells3_length]; omega), cells3_length, hi, show m * 3 + 2 - m * 3 = 2 by omega]
    rfl
  rw [hl2, e]
  exact hs.1
set_option maxRecDepth 100000 in
set_option maxHeartbeats 4000000 in
theorem rsplit_good (w : World) (a c : Nat) (hc : 0 < c) (hac : a + c ≤ 1073741824) :
    Calls Try.prog 7 #[.int .i64 (a : Int), .int .i64 (c : Int)] w fun e w' => ∃ v, e = .returned v ∧ Hid (RS w w' a c v) := by
  obtain ⟨i0, hi, hz0, hz1, hz2⟩ := info_parts span_info
  have h1 : ¬ (c : Int) < 1 := by omega
  have h2 : ¬ (1073741824 : Int) < (c : Int) := by omega
  have h3 : ¬ 1073741824 - (c : Int) < (a : Int) := by omega
  go_enter Try.func7, Try.ntmps7
  go_wp2
  go_loopw [5, 6] (fun v s wr => ∃ k : Nat, k ≤ c ∧ s = .int .i64 ((a : Int) + (k : Int)) ∧ Hid (RS w wr a k v)) (fun _ s _ => a + c - (intOf s).toNat)
  case atStart => exact ⟨0, by omega, by simp, ⟨World.ownsRow_nil _ _ _ _, Below.refl _ _⟩⟩
  case round =>
    obtain ⟨k, hk, rfl, HR⟩ := hrel
    by_cases hlt : k < c
    · have hltI : (k : Int) < (c : Int) := by omega
      by_cases hk0 : k = 0
      · subst hk0
        have e0 : (partsL a 0).length = 0 := rfl
        have hown : wr.ownsRow w.heap.size 23 3 u5 0 [] := HR.out.own
        obtain ⟨A, cp, rfl⟩ := own_form hown
        have HO := Lib.hid hown
        have HP1 := Lib.hid (parts_first a)
        clear e0 hown
        go_wp2_with (first | (at_builtin; refine wpList_append_own_at _ rfl _ _ 25 rfl w.heap.size 23 i0 _ 3 24 Try.underlying25 hi hz0 hz1 hz2 rfl (by decide) _ _ _ rfl (HO.out.alloc _) ⟨wr.heap.size, 0, none⟩ 1 1 (SP.mk (((a : Int) + ((0 : Nat) : Int)) / 4) (((a : Int) + ((0 : Nat) : Int)) % 4) (((a : Int) + ((0 : Nat) : Int)) % 4 + 1)).cs rfl rfl (span_news (SP.mk (((a : Int) + ((0 : Nat) : Int)) / 4) (((a : Int) + ((0 : Nat) : Int)) % 4) (((a : Int) + ((0 : Nat) : Int)) % 4 + 1)) wr) (cs_one _) (by unfold maxLen; omega) (by omega) (by have := HR.out.bel.size; simp; omega) ?_; intro v' w1 hown' hgrow _ _; have HOW := Lib.hid hown'; have HGR := Lib.hid hgrow; clear hown' hgrow) | fail)
        go_roundw
        case rel => exact ⟨1, by omega, by go_num, rs_add0 HR.out HOW.out HGR.out HP1.out⟩
        case measure => simp [intOf]; omega
      · obtain ⟨init, f, t, hil, hpl⟩ := parts_last a k (by omega)
        have hlen : (partsL a k).length = init.length + 1 := by rw [hpl]; simp
        have hown := HR.out.own
        rw [hlen] at hown
        obtain ⟨g, cp, rfl⟩ := ownsRow_succ hown
        have hg1 := (hown.lt g rfl).1
        have HO := Lib.hid hown
        clear hown
        have hil2 : init.length ≤ 1073741824 := by have := nB_le a k; omega
        by_cases hm : (a + k) % 4 = 0
        · have hcb : wr.cell? ⟨g, init.length * 3, none⟩ = some (.int .i64 (((a + k - 1) / 4 : Nat) : Int)) := by
            rw [HO.out.cellAt (init.length * 3) (by omega), hpl, cells3_append, List.getElem?_append_right (by rw [cells3_length]; omega), cells3_length]
            simp [cells3, SP.cs]
          have hne : ¬ (((a + k - 1) / 4 : Nat) : Int) = ((a : Int) + (k : Int)) / 4 := by omega
          generalize (((a + k - 1) / 4 : Nat) : Int) = bl at hcb hne
          have HPN := Lib.hid (parts_new a k (by omega) hm)
          have HL := Lib.hid hlen
          clear hpl hil hlen hm
          go_wp2_with (first | (at_builtin; refine wpList_append_own_at _ rfl _ _ 25 rfl w.heap.size 23 i0 _ 3 24 Try.underlying25 hi hz0 hz1 hz2 rfl (by decide) _ _ _ rfl (HO.out.alloc _) ⟨wr.heap.size, 0, none⟩ 1 1 (SP.mk (((a : Int) + (k : Int)) / 4) (((a : Int) + (k : Int)) % 4) (((a : Int) + (k : Int)) % 4 + 1)).cs rfl rfl (span_news (SP.mk (((a : Int) + (k : Int)) / 4) (((a : Int) + (k : Int)) % 4) (((a : Int) + (k : Int)) % 4 + 1)) wr) (cs_one _) (by unfold maxLen; omega) (by omega) (by have := HR.out.bel.size; simp; omega) ?_; intro v' w1 hown' hgrow _ _; have HOW := Lib.hid hown'; have HGR := Lib.hid hgrow; clear hown' hgrow) | fail)
          go_roundw
          case rel => exact ⟨k + 1, hlt, by go_num, rs_add HR.out HL.out HOW.out HGR.out HPN.out⟩
          case measure => simp [intOf]; omega
        · obtain ⟨init', f', t', hil', hpl', hpn⟩ := parts_old a k (by omega) hm
          have hN : init'.length = init.length := by omega
          have hcb : wr.cell? ⟨g, init.length * 3, none⟩ = some (.int .i64 (((a + k) / 4 : Nat) : Int)) := by
            rw [HO.out.cellAt (init.length * 3) (by omega), hpl', cells3_append, List.getElem?_append_right (by rw [cells3_length]; omega), cells3_length, hN]
            simp [cells3, SP.cs]
          have hct : wr.cell? ⟨g, init.length * 3 + 2, none⟩ = some (.int .i64 t') := by
            rw [HO.out.cellAt (init.length * 3 + 2) (by omega), hpl', cells3_append, List.getElem?_append_right (by rw [cells3_length]; omega), cells3_length, hN]
            simp [cells3, SP.cs]
          have hfz := HO.out.frozenAt (init.length * 3 + 2)
          have HST := Lib.hid (HO.out.stored (init.length * 3 + 2) (.int .i64 ((((a + k) % 4 : Nat) : Int) + 1)))
          have HPN := Lib.hid (And.intro hpl' hpn)
          have HN := Lib.hid hN
          have HL := Lib.hid hlen
          have e1 : (((a + k) / 4 : Nat) : Int) = ((a : Int) + (k : Int)) / 4 := by omega
          have e2 : (((a + k) % 4 : Nat) : Int) = ((a : Int) + (k : Int)) % 4 := by omega
          rw [e1] at hcb
          rw [e2] at HST
          clear e1 e2 hpl' hpn hN hpl hil hil' hlen
          go_wp2
          go_roundw
          case rel => exact ⟨k + 1, hlt, by go_num, rs_set HR.out HL.out HN.out HST.out HPN.out⟩
          case measure => simp [intOf]; omega
    · obtain rfl : k = c := by omega
      have hltI : ¬ (k : Int) < (k : Int) := by omega
      obtain ⟨A, cp, rfl⟩ := own_form HR.out.own
      go_wp2
      go_ret
      exact ⟨_, rfl, HR⟩
end Go.Proofs.Ytbencgjihoiieaa
