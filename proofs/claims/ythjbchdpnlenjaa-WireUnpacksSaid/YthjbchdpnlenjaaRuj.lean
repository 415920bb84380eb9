/- The document's Unpack for any shape; what both Unpacks hand back, told alike; rows that lie elsewhere. -/
import Derived.Test.YthjbchdpnlenjaaRue
import Derived.Test.YthjbchdpnlenjaaMeansV
import Derived.Lib.SmallJoins
namespace Go.Proofs.Ythjbchdpnlenjaa
open Go.RowKit

set_option maxHeartbeats 1000000 in
theorem runpack_any (s : ByteArray) (B : Nat) (A : Option Addr) (cap : Nat) (l : List UInt8) (w : World) (hs : s.size ≤ 1000) (hl : Shows w B A l.length (cells8 l)) (hB : B ≤ w.heap.size) (hc : l.length ≤ cap) (hcm : cap ≤ 9223372036854775807) (hl2 : l.length ≤ 1000000000) :
    Calls Try.prog 17 #[.string s, .slice A l.length cap] w (RUnp w B (bs s) l) := by
  cases hm : mayS (bs s) with
  | false =>
    have HM := Lib.hid hm
    clear hm
    go_enter Try.func17, Try.ntmps17
    go_wp2_with fail
    refine (rmay_any s w (by omega)).mono ?_
    rintro e w1 ⟨rfl, rfl⟩
    rw [HM.out]
    go_wp2_with fail
    go_ret3
    exact runp_arg (Below.refl _ _) HM.out rfl
  | true => exact runpack_loop s B A cap l w hs hl hB hc hcm hl2 hm

/-- what an Unpack is to hand back: the values, how many bytes, the error -/
def unpS (s l : List UInt8) : List PV × Int × Int := if mayS s = true then (match unpZ s l with | none => ([], 0, 4) | some (ps, n) => (ps, (n : Int), 0)) else ([], 0, 2)
theorem unpS_len (s l : List UInt8) : (unpS s l).1.length ≤ s.length := by
  unfold unpS
  split
  · cases hu : unpZ s l with
    | none => simp
    | some r => have := (unpZ_bounds (ps := r.1) (n := r.2) hu).2.2; simp; omega
  · simp
theorem unpS_other (s l : List UInt8) : ∀ p ∈ (unpS s l).1, p ≠ .other := by
  unfold unpS
  split
  · rename_i hm
    cases hu : unpZ s l with
    | none => simp
    | some r => exact fun p hp => packR_other (unpZ_packR (ps := r.1) (n := r.2) hm hu) p hp
  · simp
theorem Unpacked.t {w w' : World} {s l : List UInt8} {e : Ending} (h : Unpacked w s l e w') :
    ∃ A c us, e = .returned (.tuple #[.slice A (unpS s l).1.length c, .int .i64 (unpS s l).2.1, .int .i64 (unpS s l).2.2]) ∧ w'.ownsRow w.heap.size 20 1 (.slice A (unpS s l).1.length c) (unpS s l).1.length us ∧ AllOV w' w.heap.size us (unpS s l).1 ∧ Below w.heap.size w w' := by
  obtain ⟨hb, h⟩ := h
  unfold unpS
  split
  · rename_i hm
    rw [if_pos hm] at h
    cases hu : unpZ s l with
    | none =>
      rw [hu] at h
      exact ⟨none, 0, [], h, World.ownsRow_nil _ _ _ _, AllOV.nil _ _, hb⟩
    | some r =>
      obtain ⟨ps, n⟩ := r
      rw [hu] at h
      obtain ⟨v, vs, he, ho, ha⟩ := h
      obtain ⟨A, c, rfl, _⟩ := own_form ho
      exact ⟨A, c, vs, he, ho, ha, hb⟩
  · rename_i hm
    rw [if_neg hm] at h
    exact ⟨none, 0, [], h, World.ownsRow_nil _ _ _ _, AllOV.nil _ _, hb⟩
theorem RUnp.t {w w' : World} {B : Nat} {s l : List UInt8} {e : Ending} (h : RUnp w B s l e w') :
    ∃ A c xs vals, e = .returned (.tuple #[.slice A vals.length c, .int .i64 (unpS s l).2.1, .int .i64 (unpS s l).2.2]) ∧ w'.ownsRow w.heap.size 54 260 (.slice A vals.length c) vals.length xs ∧ Vals w B xs vals ∧ vals.map toldP = (unpS s l).1 ∧ Below w.heap.size w w' := by
  obtain ⟨hb, h⟩ := h
  unfold unpS
  split
  · rename_i hm
    rw [if_pos hm] at h
    cases hu : unpZ s l with
    | none =>
      rw [hu] at h
      exact ⟨none, 0, [], [], h, World.ownsRow_nil _ _ _ _, Vals.nil _ _, rfl, hb⟩
    | some r =>
      obtain ⟨ps, n⟩ := r
      rw [hu] at h
      obtain ⟨v, xs, vals, he, ho, hv, hp⟩ := h
      rcases ho.2 with ⟨rfl, h0⟩ | ⟨g, cap, cur, rfl, hr⟩
      · exact ⟨none, 0, xs, vals, by rw [h0]; exact he, by rw [h0] at ho ⊢; exact ho, hv, hp, hb⟩
      · exact ⟨_, cap, xs, vals, he, ho, hv, hp, hb⟩
  · rename_i hm
    rw [if_neg hm] at h
    exact ⟨none, 0, [], [], h, World.ownsRow_nil _ _ _ _, Vals.nil _ _, rfl, hb⟩

theorem row_grown {w w' : World} {base n size : Nat} {row : Option Nat} {e : TypeId} {v : Value} {xs : List Value} (h : w.ownsRow base e size v n xs) (hg : w.grownBy w' row) (hk : ∀ k, row = some k → k < base) : w'.ownsRow base e size v n xs := by
  refine ⟨h.1, ?_⟩
  rcases h.2 with h2 | ⟨g, cap, cur, hv, hgb, hh, hr⟩
  · exact .inl h2
  · refine .inr ⟨g, cap, cur, hv, hgb, ?_, hr⟩
    rw [hg.block g (Array.getElem?_eq_some_iff.1 hh).1 (fun e => by have := hk g e.symm; omega)]
    exact hh
theorem OV.grown {w w' : World} {B : Nat} {row : Option Nat} {v : Value} {p : PV} (h : OV w B v p) (hg : w.grownBy w' row) (hk : ∀ k, row = some k → k < B) : OV w' B v p := by
  cases p with
  | num n => exact h
  | flag b => exact h
  | blob l =>
    obtain ⟨A, c, hv, ho, hl⟩ := h
    exact ⟨A, c, hv, row_grown ho hg hk, hl⟩
  | block l => exact h
  | other => exact h
theorem AllOV.grown {w w' : World} {B : Nat} {row : Option Nat} {vs : List Value} {ps : List PV} (h : AllOV w B vs ps) (hg : w.grownBy w' row) (hk : ∀ k, row = some k → k < B) : AllOV w' B vs ps :=
  ⟨h.1, fun i hi => by obtain ⟨x, hx, ho⟩ := h.2 i hi; exact ⟨x, hx, ho.grown hg hk⟩⟩
theorem AllOV.on {w w' : World} {B : Nat} {vs : List Value} {ps : List PV} (h : AllOV w B vs ps) (hb : Below w.heap.size w w') : AllOV w' B vs ps := h.kept (BytesKept.below hb)

/-- a cell of a row of the call's own is stored -/
theorem own_set {w : World} {base n g cap : Nat} {e : TypeId} {xs : List Value} (h : w.ownsRow base e 1 (.slice (some ⟨g, 0, none⟩) n cap) n xs) (k : Nat) (u : Value) :
    (w.setCell ⟨g, k, none⟩ u).ownsRow base e 1 (.slice (some ⟨g, 0, none⟩) n cap) n (xs.set k u) := by
  refine ⟨by rw [List.length_set]; exact h.1, ?_⟩
  rcases h.2 with ⟨hv, _⟩ | ⟨g', cap', cur, hv, hg, hh, hnc, hcm, hcs, ht⟩
  · cases hv
  · injection hv with h1 h2 h3
    injection h1 with h1
    injection h1 with h1
    subst h1
    subst h3
    refine .inr ⟨g, cap, cur.setIfInBounds k u, rfl, hg, Joins.block_setCell hh u, hnc, hcm, by rw [Array.size_setIfInBounds]; exact hcs, ?_⟩
    rw [Array.toList_setIfInBounds, List.take_set, ht]
theorem own_cell {w : World} {base n g cap : Nat} {e : TypeId} {xs : List Value} (h : w.ownsRow base e 1 (.slice (some ⟨g, 0, none⟩) n cap) n xs) (k : Nat) (u : Value) (hu : xs[k]? = some u) :
    w.cell? ⟨g, k, none⟩ = some u ∧ w.frozen? ⟨g, k, none⟩ = false := by
  rcases h.2 with ⟨hv, _⟩ | ⟨g', cap', cur, hv, hg, hh, hnc, hcm, hcs, ht⟩
  · cases hv
  · injection hv with h1 h2 h3
    injection h1 with h1
    injection h1 with h1
    subst h1
    refine ⟨?_, Joins.unfrozen_of_block hh k⟩
    rw [cell_of_row w g k _ _ _ hh, ← Array.getElem?_toList]
    rw [← ht, List.getElem?_take] at hu
    split at hu
    · exact hu
    · cases hu
theorem own_some {w : World} {base n : Nat} {e : TypeId} {v : Value} {xs : List Value} (h : w.ownsRow base e 1 v n xs) (hn : 0 < n) : ∃ g cap, v = .slice (some ⟨g, 0, none⟩) n cap := by
  rcases h.2 with ⟨_, h0⟩ | ⟨g, cap, cur, rfl, _⟩
  · omega
  · exact ⟨g, cap, rfl⟩
theorem cells8_set (l : List UInt8) (k : Nat) (b : UInt8) : (cells8 l).set k (.int .u8 (b.toNat : Int)) = cells8 (l.set k b) := by simp [cells8, List.map_set]
theorem inc_u8 (b : UInt8) : ((b.toNat : Int) + 1) % 256 = (((b + 1).toNat : Nat) : Int) := by rw [UInt8.toNat_add]; simp
theorem grown_set {w w' : World} {row : Option Nat} {a : Addr} (h : w.grownBy w' row) (ha : row = some a.block) (u : Value) : w.grownBy (w'.setCell a u) row :=
  ⟨h.os, h.tape, h.output, by have := h.size; simpa [World.setCell] using this, fun k hk hne => by rw [Below.heap_setCell w' a u k (fun e => hne (by rw [ha, e]))]; exact h.block k hk hne⟩
end Go.Proofs.Ythjbchdpnlenjaa
