/- span, same. -/
import Derived.Test.YtbencgjihoiieaaPe
set_option linter.unusedVariables false
namespace Go.Proofs.Ytbencgjihoiieaa
open Go.RowKit

theorem span_any (w : World) (s : SP) :
    Calls Try.prog 22 #[.agg #[.int .i64 s.b, .int .i64 s.f, .int .i64 s.t]] w fun e w' => e = .returned (.bool (okS s)) ∧ Below w.heap.size w w' := by
  obtain ⟨b, f, t⟩ := s
  dsimp only
  have hbel : Below w.heap.size w (w.alloc (.cells #[.int .i64 b, .int .i64 f, .int .i64 t] 23)) := (Below.refl _ w).alloc (Nat.le_refl _) _
  have HB := Lib.hid hbel
  clear hbel
  have ho : okS ⟨b, f, t⟩ = decide (0 ≤ f ∧ t ≤ 4 ∧ f < t) := rfl
  rw [ho]
  clear ho
  by_cases h1 : 0 ≤ f
  · by_cases h2 : t ≤ 4
    · by_cases h3 : f < t
      · rw [show decide (0 ≤ f ∧ t ≤ 4 ∧ f < t) = true by simp; omega]
        go_enter Try.func22, Try.ntmps22
        go_wp2
        go_ret
        exact ⟨rfl, HB.out⟩
      · rw [show decide (0 ≤ f ∧ t ≤ 4 ∧ f < t) = false by simp; omega]
        go_enter Try.func22, Try.ntmps22
        go_wp2
        go_ret
        exact ⟨rfl, HB.out⟩
    · rw [show decide (0 ≤ f ∧ t ≤ 4 ∧ f < t) = false by simp; omega]
      go_enter Try.func22, Try.ntmps22
      go_wp2
      go_ret
      exact ⟨rfl, HB.out⟩
  · rw [show decide (0 ≤ f ∧ t ≤ 4 ∧ f < t) = false by simp; omega]
    go_enter Try.func22, Try.ntmps22
    go_wp2
    go_ret
    exact ⟨rfl, HB.out⟩

/-- a slice of parts that shows l -/
abbrev ShowsP (w : World) (B : Nat) (A : Option Addr) (l : List SP) : Prop := Shows w B A (l.length * 3) (cells3 l)
theorem ShowsP.span {w : World} {B : Nat} {A : Option Addr} {l : List SP} (h : ShowsP w B A l) (i : Nat) (hi : i < l.length) : ∃ p : Addr, A = some p ∧ p.block < B ∧
    w.cell? (p.add (i * 3)) = some (.int .i64 (l[i]).b) ∧ w.cell? ⟨(p.add (i * 3)).block, (p.add (i * 3)).off + 1, none⟩ = some (.int .i64 (l[i]).f) ∧ w.cell? ⟨(p.add (i * 3)).block, (p.add (i * 3)).off + 2, none⟩ = some (.int .i64 (l[i]).t) := by
  obtain ⟨p, rfl, hp, hx⟩ := h.lies (by omega)
  have hg : l[i]? = some (l[i]) := List.getElem?_eq_getElem hi
  refine ⟨p, rfl, hp, hx _ _ ?_, ?_, ?_⟩
  · have := cells3_get l i 0 _ (by omega) hg
    rw [Nat.add_zero] at this
    rw [this]; rfl
  · rw [← add_pos (p.add (i * 3)) 1 (by omega), addr_twice]
    exact hx _ _ (by rw [cells3_get l i 1 _ (by omega) hg]; rfl)
  · rw [← add_pos (p.add (i * 3)) 2 (by omega), addr_twice]
    exact hx _ _ (by rw [cells3_get l i 2 _ (by omega) hg]; rfl)

theorem same_any (w : World) (A B : Option Addr) (ca cb : Nat) (l : List SP) (hl : l.length ≤ 5000) (ha : ShowsP w w.heap.size A l) (hb : ShowsP w w.heap.size B l) :
    Calls Try.prog 8 #[.slice A l.length ca, .slice B l.length cb] w fun e w' => e = .returned (.bool true) ∧ Below w.heap.size w w' := by
  have HA := Lib.hid ha
  have HB := Lib.hid hb
  clear ha hb
  go_enter Try.func8, Try.ntmps8
  go_wp2
  go_loopw [5] (fun j wr => ∃ i : Nat, i ≤ l.length ∧ j = .int .i64 (i : Int) ∧ Below w.heap.size w wr) (fun j _ => l.length - (intOf j).toNat)
  case atStart => exact ⟨0, Nat.zero_le _, rfl, Below.refl _ _⟩
  case round =>
    obtain ⟨i, hi, rfl, hbr⟩ := hrel
    by_cases hlt : i < l.length
    · have hltI : (i : Int) < (l.length : Int) := by omega
      obtain ⟨p, rfl, hp, ha0, ha1, ha2⟩ := ShowsP.span (HA.out.below hbr) i hlt
      obtain ⟨q, rfl, hq, hb0, hb1, hb2⟩ := ShowsP.span (HB.out.below hbr) i hlt
      generalize l[i] = x at ha0 ha1 ha2 hb0 hb1 hb2
      have ha0' : wr.drew.cell? (p.add (i * 3)) = some (.int .i64 x.b) := ha0
      have ha1' : wr.drew.cell? ⟨(p.add (i * 3)).block, (p.add (i * 3)).off + 1, none⟩ = some (.int .i64 x.f) := ha1
      have ha2' : wr.drew.cell? ⟨(p.add (i * 3)).block, (p.add (i * 3)).off + 2, none⟩ = some (.int .i64 x.t) := ha2
      have hb0' : wr.drew.cell? (q.add (i * 3)) = some (.int .i64 x.b) := hb0
      have hb1' : wr.drew.cell? ⟨(q.add (i * 3)).block, (q.add (i * 3)).off + 1, none⟩ = some (.int .i64 x.f) := hb1
      have hb2' : wr.drew.cell? ⟨(q.add (i * 3)).block, (q.add (i * 3)).off + 2, none⟩ = some (.int .i64 x.t) := hb2
      go_wp2
      go_region
      go_wp2
      go_roundw
      case rel => exact ⟨i + 1, hlt, by go_num, hbr.drew⟩
      case measure => simp [intOf]; omega
    · obtain rfl : i = l.length := by omega
      have hltI : ¬ (l.length : Int) < (l.length : Int) := by omega
      go_wp2
      go_ret
      exact ⟨rfl, hbr⟩
end Go.Proofs.Ytbencgjihoiieaa
