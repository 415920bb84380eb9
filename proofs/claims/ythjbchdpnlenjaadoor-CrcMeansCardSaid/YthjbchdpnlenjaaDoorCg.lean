/- The walk of the law CrcSums. -/
import Derived.Test.YthjbchdpnlenjaaDoorCf
namespace Go.Proofs.YthjbchdpnlenjaaDoor
open Go.RowKit

theorem u8_info : (Tryd.prog.info? 5).map (fun i => (i.zero, i.size, i.bytes)) = some (some (.int .u8 0), 1, 1) := by kernel_rfl

theorem str_shows {P : Program} (src dst e : TypeId) (hs : P.underlying src = some (.slice e)) (he : P.underlying e = some (.int .u8)) (hd : P.underlying dst = some .string)
    {w : World} {B : Nat} {A : Option Addr} {n c : Nat} {l : List UInt8} (h : Shows w B A n (cells8 l)) : (convert src dst (.slice A n c)).run P w = .ok (.string ⟨l.toArray⟩) w := by
  rw [run_convert_bytes_string w src dst e A n c hs he hd]
  have hn : n = l.length := by rw [← h.len, cells8_length]
  cases A with
  | none =>
    have hl : l = [] := by
      rcases Nat.eq_zero_or_pos n with h0 | h0
      · exact List.eq_nil_of_length_eq_zero (by omega)
      · obtain ⟨p, hp, _⟩ := h.lies h0
        cases hp
    subst hl
    simp [Conv.bytesToString]
    rfl
  | some p =>
    have hload : (loadCells p (cells8 l).length).run P w = .ok (cells8 l).toArray w := by
      refine run_loadCells_list (P := P) w p (cells8 l) fun j v hv => ?_
      have hj : j < (cells8 l).length := by
        rcases Nat.lt_or_ge j (cells8 l).length with h1 | h1
        · exact h1
        · rw [List.getElem?_eq_none h1] at hv; cases hv
      obtain ⟨q, hq, _, hx⟩ := h.lies (by rw [← h.len]; omega)
      injection hq with hq
      subst hq
      exact hx j v hv
    rw [cells8_length, ← hn] at hload
    have hc : cells8 l = (l.map fun b => (b.toNat : Int)).map (Value.int .u8) := by simp [cells8]
    rw [hc] at hload
    rw [run_bytesToString w p n c _ hload, foldl_push_byteCells]
    simp
theorem own_form {w : World} {base n : Nat} {e : TypeId} {v : Value} {xs : List Value} (h : w.ownsRow base e 1 v n xs) : ∃ A c, v = .slice A n c ∧ n ≤ c ∧ c ≤ maxLen := by
  rcases h.2 with ⟨rfl, rfl⟩ | ⟨g, cap, cur, rfl, _, _, hc, hm, _⟩
  · exact ⟨none, 0, rfl, Nat.le_refl _, Nat.zero_le _⟩
  · exact ⟨_, cap, rfl, hc, hm⟩
theorem str_bytes {w : World} {B : Nat} {A : Option Addr} {n c : Nat} {l : List UInt8} (h : Shows w B A n (cells8 l)) : (convert 22 9 (.slice A n c)).run Tryd.prog w = .ok (.string ⟨l.toArray⟩) w :=
  str_shows 22 9 5 Tryd.underlying22 Tryd.underlying5 Tryd.underlying9 h

/-- appending bytes onto nil -/
theorem nil_own (w : World) : w.ownsRow w.heap.size 5 1 (.slice none 0 0) 0 [] := ⟨rfl, .inl ⟨rfl, rfl⟩⟩

/-- bytes that stay readable -/
theorem shows_on {w w' : World} {B : Nat} {A : Option Addr} {n : Nat} {xs : List Value} (h : Shows w B A n xs) (hB : B ≤ w.heap.size) (hb : Below w.heap.size w w') : Shows w' B A n xs :=
  h.moved fun _ hp => hb.cell (Nat.lt_of_lt_of_le hp hB)

set_option maxRecDepth 10000 in
set_option maxHeartbeats 2000000 in
theorem sums_walk (A : Option Addr) (cap : Nat) (l : List UInt8) (s : Nat) (i : Int) (w : World) (hT : Tabs w) (hs : Shows w w.heap.size A l.length (cells8 l)) (h : s < 4294967296) :
    Calls Tryd.prog 3 #[.slice A l.length cap, .int .u32 s, .int .i64 i] w fun e w' => e = .returned (.bool true) ∧ Below w.heap.size w w' := by
  obtain ⟨i0, hi, hz0, hz1, hz2⟩ := info_parts u8_info
  have hT1 := hT.size
  by_cases hl : l.length ≤ 5000
  · go_enter Tryd.func3, Tryd.ntmps3
    go_wp2_with (at_builtin; refine wpList_append_shows w rfl (.const (.slice none 0 0)) (.tmp 12) 22 rfl w.heap.size 5 i0 (.int .u8 0) 1 Tryd.underlying22 hi hz0 hz1 hz2 rfl _ 0 [] rfl (nil_own w) w.heap.size A l.length cap (cells8 l) rfl hs (cells8_one l) (by unfold maxLen; omega) (by omega) (Nat.le_refl _) ?_; intro v1 w1 hown1 hg1)
    have hg2 : Grew w w1 (.slice none 0 0) v1 := hg1
    clear hg1
    have hb1 : Below w.heap.size w w1 := hg2.below (nil_own w) (Nat.le_refl _) (Nat.le_refl _)
    rw [Nat.zero_add, List.nil_append] at hown1
    obtain ⟨A1, c1, rfl, hc1, hm1⟩ := own_form hown1
    have ho1 := Shows.owned hown1
    have hs1 := shows_on hs (Nat.le_refl _) hb1
    have hz1' := hb1.size
    have hTw := hT.below hb1 hT1
    clear hown1 hg2 hs hT
    refine (sum_any w1.heap.size A1 c1 l w1 hTw ho1 (Nat.le_refl _) (by omega)).mono ?_
    rintro e w2 ⟨rfl, hb2⟩
    have ho2 := shows_on ho1 (Nat.le_refl _) hb2
    have hs2 := shows_on hs1 hz1' hb2
    have hz2' := hb2.size
    have hT2 := hTw.below hb2 (by omega)
    have hB2 := hb1.trans (hb2.mono hz1')
    clear ho1 hs1 hTw hb1
    go_wp2_with fail
    refine (rsum_any w.heap.size A cap l w2 hs2 (by omega)).mono ?_
    rintro e w3 ⟨rfl, rfl⟩
    go_wp2_with fail
    refine (add_any w1.heap.size A1 c1 l s w3 hT2 ho2 hz2' h (by omega)).mono ?_
    rintro e w4 ⟨rfl, hb4⟩
    have ho4 := shows_on ho2 hz2' hb4
    have hs4 := shows_on hs2 (by omega) hb4
    have hz4 := hb4.size
    have hT4 := hT2.below hb4 (by omega)
    have hB4 := hB2.trans (hb4.mono (by omega))
    clear ho2 hs2 hT2 hB2
    go_wp2_with fail
    refine (radd_any w.heap.size A cap l s w4 hs4 h (by omega)).mono ?_
    rintro e w5 ⟨rfl, rfl⟩
    go_wp2_with fail
    refine (ctable_any i w5 hT4).mono ?_
    rintro e w6 ⟨rfl, hb6⟩
    have ho6 := shows_on ho4 (by omega) hb6
    have hs6 := shows_on hs4 (by omega) hb6
    have hz6 := hb6.size
    have hT6 := hT4.below hb6 (by omega)
    have hB6 := hB4.trans (hb6.mono (by omega))
    clear ho4 hs4 hT4 hB4
    go_wp2_with fail
    refine (rtable_any i w6).mono ?_
    rintro e w7 ⟨rfl, rfl⟩
    have st1 := str_bytes (c := c1) ho6
    have st2 := str_bytes (c := cap) hs6
    go_wp2_with fail
    refine (known_any w7 hT6).mono ?_
    rintro e w8 ⟨rfl, hb8⟩
    go_wp2
    go_ret
    exact ⟨rfl, hB6.trans (hb8.mono (by omega))⟩
  · go_enter Tryd.func3, Tryd.ntmps3
    go_wp2_with (go_at_call 6; refine (known_any w hT).mono ?_; rintro e w1 ⟨rfl, hb1⟩)
    go_ret
    exact ⟨rfl, hb1⟩
end Go.Proofs.YthjbchdpnlenjaaDoor
