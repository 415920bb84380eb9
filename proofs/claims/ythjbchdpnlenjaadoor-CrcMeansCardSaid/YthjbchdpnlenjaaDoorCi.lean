/- Walks: Sealed of package crc, and the document's. -/
import Derived.Test.YthjbchdpnlenjaaDoorCg
import Derived.ArgAppend
namespace Go.Proofs.YthjbchdpnlenjaaDoor
open Go.RowKit

/-- a sum as four bytes, the lowest first -/
def le4 (s : Nat) : List UInt8 := [UInt8.ofNat s, UInt8.ofNat (s / 256), UInt8.ofNat (s / 65536), UInt8.ofNat (s / 16777216)]
def sealB (l : List UInt8) : List UInt8 := l ++ le4 (sumB l)
theorem le4_cells (s : Nat) : cells8 (le4 s) = [.int .u8 ((s : Int) % 256), .int .u8 ((s : Int) / 256 % 256), .int .u8 ((s : Int) / 65536 % 256), .int .u8 ((s : Int) / 16777216 % 256)] := by
  simp [cells8, le4]

theorem run_append_full {P : Program} (w : World) (t ty e : TypeId) (i : TypeInfo) (z : Value) (ht : P.underlying t = some (.slice e)) (hi : P.info? e = some i) (hz : i.zero = some z)
    (hsize : i.size = 1) (hby : i.bytes = 1) (hzs : z.cells.size = 1) (B : Nat) (A : Option Addr) (n : Nat) (olds : List Value) (hs : Shows w B A n olds)
    (p : Addr) (m c : Nat) (news : List Value) (hm : 0 < m) (hnl : news.length = m) (hnews : ∀ j u, news[j]? = some u → w.cell? (p.add j) = some u) (h1 : ∀ u ∈ news, u.oneCell' = true)
    (h63 : n + m ≤ 70368744177664) :
    ∃ v' w', (Builtin.append_ #[t, t] ty #[.slice A n n, .slice (some p) m c]).run P w = .ok v' w' ∧ w'.ownsRow w.heap.size e 1 v' (n + m) (olds ++ news) ∧ Below w.heap.size w w' := by
  cases A with
  | none =>
    have hn0 : n = 0 := by
      rcases Nat.eq_zero_or_pos n with h | h
      · exact h
      · obtain ⟨q, hq, _⟩ := hs.lies h
        cases hq
    subst hn0
    have ho : olds = [] := List.eq_nil_of_length_eq_zero hs.len
    subst ho
    obtain ⟨v', w', hr, h2, h3, _, h5⟩ := run_append_own_at (P := P) w w.heap.size t ty e i z 1 1 ht hi hz hsize hby hzs (by omega) (.slice none 0 0) 0 [] ⟨rfl, .inl ⟨rfl, rfl⟩⟩ p m c news (by rw [hnl, Nat.mul_one]) hnews h1 (by unfold maxLen; omega) (by omega) (Nat.le_refl _)
    exact ⟨v', w', hr, h2, (Below.refl _ _).grown h3 (Nat.le_refl _) (by intro k hk; cases hk)⟩
  | some b =>
    have holds : ∀ j u, olds[j]? = some u → w.cell? (b.add j) = some u := by
      intro j u hu
      have hj : j < olds.length := by
        rcases Nat.lt_or_ge j olds.length with h | h
        · exact h
        · rw [List.getElem?_eq_none h] at hu; cases hu
      obtain ⟨q, hq, _, hx⟩ := hs.lies (by rw [← hs.len]; omega)
      injection hq with hq
      subst hq
      exact hx j u hu
    obtain ⟨v', w', hr, h2, h3⟩ := run_append_arg_grows (P := P) w t ty e i z 1 1 ht hi hz hsize hby hzs (by omega) b n n olds (by rw [hs.len, Nat.mul_one]) holds p m c news (by rw [hnl, Nat.mul_one]) hnews (by omega) (by unfold maxLen; omega) (by omega)
    exact ⟨v', w', hr, h2, (Below.refl _ _).grown h3 (Nat.le_refl _) (by intro k hk; cases hk)⟩

theorem wpList_append_full {P : Program} (w : World) {ops : Array Oper} {rest : List Oper} {o : Oper} {a : Act} {Q : Exit → Act → World → Prop} (hgd : o.guard = none) (s x : Operand) (t : TypeId)
    (ho : o.op = .call { callee := .builtin .append, args := #[s, x], argTypes := #[t, t] })
    (e : TypeId) (i : TypeInfo) (z : Value) (ht : P.underlying t = some (.slice e)) (hi : P.info? e = some i) (hz : i.zero = some z)
    (hsize : i.size = 1) (hby : i.bytes = 1) (hzs : z.cells.size = 1) (B : Nat) (A : Option Addr) (n : Nat) (olds : List Value) (hev : a.eval s = .slice A n n) (hs : Shows w B A n olds)
    (p : Addr) (m c : Nat) (news : List Value) (hx : a.eval x = .slice (some p) m c) (hm : 0 < m) (hnl : news.length = m) (hnews : ∀ j u, news[j]? = some u → w.cell? (p.add j) = some u) (h1 : ∀ u ∈ news, u.oneCell' = true)
    (h63 : n + m ≤ 70368744177664)
    (h : ∀ v' w', w'.ownsRow w.heap.size e 1 v' (n + m) (olds ++ news) → Below w.heap.size w w' → wpList P ops Q rest (a.put o.dst v') w') : wpList P ops Q (o :: rest) a w := by
  refine wpList_plain hgd fun K hK => ?_
  obtain ⟨v', w', hr, h2, h3⟩ := run_append_full (P := P) w t o.type e i z ht hi hz hsize hby hzs B A n olds hs p m c news hm hnl hnews h1 h63
  unfold Oper.wp execOp
  simp only [ho, resolve, invoke, builtin, Sem.run_bind, Sem.run_pure, Result.andThen_ok, List.map_toArray, List.map_cons, List.map_nil, hev, hx, hr]
  exact hK _ _ (h v' w' h2 h3)

theorem own_base {w : World} {B C n : Nat} {e : TypeId} {v : Value} {xs : List Value} (h : w.ownsRow B e 1 v n xs) (hC : C ≤ B) : w.ownsRow C e 1 v n xs := by
  refine ⟨h.1, ?_⟩
  rcases h.2 with h2 | ⟨g, cap, cur, hv, hg, hr⟩
  · exact .inl h2
  · exact .inr ⟨g, cap, cur, hv, Nat.le_trans hC hg, hr⟩

set_option maxRecDepth 10000 in
set_option maxHeartbeats 2000000 in
theorem sealed_any (B : Nat) (A : Option Addr) (cap : Nat) (l : List UInt8) (w : World) (hT : Tabs w) (hs : Shows w B A l.length (cells8 l)) (hB : B ≤ w.heap.size) (hc : l.length ≤ cap) (hl : l.length ≤ 1000000) :
    Calls Tryd.prog 15 #[.slice A l.length cap] w fun e w' => ∃ v, e = .returned v ∧ w'.ownsRow w.heap.size 5 1 v (l.length + 4) (cells8 (sealB l)) ∧ Below w.heap.size w w' := by
  obtain ⟨i0, hi, hz0, hz1, hz2⟩ := info_parts u8_info
  have hsl := Lib.hid (sumB_lt l)
  generalize hsv : sumB l = s at *
  have HS := Lib.hid hsv
  have hsum := sum_any B A cap l w hT hs hB (by omega)
  rw [hsv] at hsum
  have HSUM := Lib.hid hsum
  clear hsv hsum
  go_enter Tryd.func15, Tryd.ntmps15
  go_wp2_with fail
  refine HSUM.out.mono ?_
  rintro e w1 ⟨rfl, hb1⟩
  have hs1 := shows_on hs hB hb1
  have hsz1 := hb1.size
  have hn1 := shows_new w1 #[.int .u8 ((s : Int) % 256), .int .u8 ((s : Int) / 256 % 256), .int .u8 ((s : Int) / 65536 % 256), .int .u8 ((s : Int) / 16777216 % 256)] 5
  obtain ⟨q, hq, _, hnews⟩ := hn1.lies (by simp)
  injection hq with hq
  subst hq
  have hb2 := hb1.alloc hsz1 (.cells #[.int .u8 ((s : Int) % 256), .int .u8 ((s : Int) / 256 % 256), .int .u8 ((s : Int) / 65536 % 256), .int .u8 ((s : Int) / 16777216 % 256)] 5)
  have hs2 := hs1.alloc (by omega) (.cells #[.int .u8 ((s : Int) % 256), .int .u8 ((s : Int) / 256 % 256), .int .u8 ((s : Int) / 65536 % 256), .int .u8 ((s : Int) / 16777216 % 256)] 5)
  clear hs hs1 hn1 HSUM hT
  have HN := Lib.hid hnews
  clear hnews
  go_wp2_with (at_builtin; refine wpList_append_full _ rfl (.tmp 11) (.tmp 23) 22 rfl 5 i0 (.int .u8 0) Tryd.underlying22 hi hz0 hz1 hz2 rfl B A l.length (cells8 l) rfl hs2 ⟨w1.heap.size, 0, none⟩ 4 4 (cells8 (le4 s)) rfl (by omega) rfl (by rw [le4_cells]; exact HN.out) (cells8_one _) (by omega) ?_; intro v3 w3 hown3 hb3)
  go_ret
  refine ⟨v3, rfl, ?_, hb2.trans (hb3.mono (by simp; omega))⟩
  rw [← cells8_append] at hown3
  have e : sealB l = l ++ le4 s := by unfold sealB; rw [HS.out]
  rw [e]
  exact own_base hown3 (by simp; omega)

set_option maxRecDepth 10000 in
set_option maxHeartbeats 2000000 in
theorem rsealed_any (B : Nat) (A : Option Addr) (cap : Nat) (l : List UInt8) (w : World) (hs : Shows w B A l.length (cells8 l)) (hB : B ≤ w.heap.size) (hl : l.length ≤ 1000000) :
    Calls Tryd.prog 16 #[.slice A l.length cap] w fun e w' => ∃ v, e = .returned v ∧ w'.ownsRow w.heap.size 5 1 v (l.length + 4) (cells8 (sealB l)) ∧ Below w.heap.size w w' := by
  obtain ⟨i0, hi, hz0, hz1, hz2⟩ := info_parts u8_info
  have hsl := sumB_lt l
  generalize hsv : sumB l = s at *
  have HS := Lib.hid hsv
  have hsum := rsum_any B A cap l w hs (by omega)
  rw [hsv] at hsum
  have HSUM := Lib.hid hsum
  clear hsv hsum
  go_enter Tryd.func16, Tryd.ntmps16
  go_wp2_with fail
  refine HSUM.out.mono ?_
  rintro e w1 ⟨rfl, rfl⟩
  go_wp2_with (at_builtin; first
    | (refine wpList_append_shows w1 rfl (.const (.slice none 0 0)) (.tmp 7) 22 rfl w1.heap.size 5 i0 (.int .u8 0) 1 Tryd.underlying22 hi hz0 hz1 hz2 rfl _ 0 [] rfl (nil_own w1) B A l.length cap (cells8 l) rfl hs (cells8_one l) (by unfold maxLen; omega) (by omega) (Nat.le_refl _) ?_; intro v1 w2 hown1 hg1; replace hg1 : Grew w1 w2 (.slice none 0 0) v1 := hg1; have hsz2 := hg1.by_.size)
    | (refine wpList_append_shows _ rfl (.tmp 9) (.tmp 24) 22 rfl w1.heap.size 5 i0 (.int .u8 0) 1 Tryd.underlying22 hi hz0 hz1 hz2 rfl v1 _ _ rfl (hown1.alloc _) (w2.heap.size + 1) _ 4 4 [.int .u8 ((s : Int) % 256), .int .u8 ((s : Int) / 256 % 256), .int .u8 ((s : Int) / 65536 % 256), .int .u8 ((s : Int) / 16777216)] rfl (shows_new w2 _ _) (by simp [Value.oneCell']) (by unfold maxLen; omega) (by omega) (by simp; omega) ?_; intro v3 w3 hown3 hg3; replace hg3 : Grew _ w3 v1 v3 := hg3)
    | fail)
  go_ret
  have hl4 : cells8 (le4 s) = [.int .u8 ((s : Int) % 256), .int .u8 ((s : Int) / 256 % 256), .int .u8 ((s : Int) / 65536 % 256), .int .u8 ((s : Int) / 16777216)] := by
    rw [le4_cells, show (s : Int) / 16777216 % 256 = (s : Int) / 16777216 by omega]
  rw [← hl4, List.nil_append, ← cells8_append, Nat.zero_add] at hown3
  refine ⟨v3, rfl, ?_, ?_⟩
  · have e : sealB l = l ++ le4 s := by unfold sealB; rw [HS.out]
    rw [e]
    exact hown3
  · exact ((hg1.alloc _).trans hg3).below (nil_own w1) (Nat.le_refl _) (Nat.le_refl _)
end Go.Proofs.YthjbchdpnlenjaaDoor
