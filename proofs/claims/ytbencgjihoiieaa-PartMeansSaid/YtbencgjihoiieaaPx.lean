/- PartMeans: what its walk asks. -/
import Derived.Test.YtbencgjihoiieaaPw
import Derived.Test.YtbencgjihoiieaaPu
set_option linter.unusedVariables false
namespace Go.Proofs.Ytbencgjihoiieaa
open Go.RowKit

theorem num_any (w : World) (z : Int) : Calls Try.prog 17 #[.int .i64 z] w fun e w' => e = .returned (.int .i64 z) ∧ w' = w := by
  go_enter Try.func17, Try.ntmps17
  go_wp2
  go_ret
  exact ⟨rfl, rfl⟩
theorem row_all (a c : Nat) (h : a + c ≤ 1073741824) : rowL (a : Int) (c : Int) = partsL a c ∧ rowN (a : Int) (c : Int) = nB a c := by
  rcases Nat.eq_zero_or_pos c with h0 | h0
  · subst h0
    have hb : badRow (a : Int) ((0 : Nat) : Int) = true := by unfold badRow; simp
    unfold rowL rowN
    rw [hb]
    exact ⟨rfl, rfl⟩
  · exact ⟨rowL_good a c h0 h, rowN_good a c h0 h⟩
/-- a part of the row, and its data -/
theorem round_facts (a c i : Nat) (d : List UInt8) (ha : a ≤ 1048576) (hd : d.length = 64 * c) (hc : c ≤ 40) (h : i < nB a c) :
    ∃ (b : Int) (f t : Nat) (dd : List UInt8), partI a c i = ⟨b, (f : Int), (t : Int)⟩ ∧ f < t ∧ t ≤ 4 ∧ 0 ≤ b ∧ b ≤ 268435456 ∧ dataL ⟨b, (f : Int), (t : Int)⟩ (a : Int) d = dd ∧ dd.length = 64 * (t - f) ∧
      cutD d 0 (doneI a c i).toNat ++ dd = cutD d 0 (doneI a c (i + 1)).toNat ∧ (0 < i → i + 1 < nB a c → f = 0 ∧ t = 4) ∧ (0 < i → 1 ≤ b ∧ (partI a c (i - 1)).b = b - 1) := by
  have hb := part_bounds a c i h
  have hs := part_size a c i h
  have hn := nB_le a c
  have hdb := done_bounds a c (i + 1)
  have hq : (partI a c i).b = ((a / 4 + i : Nat) : Int) := rfl
  obtain ⟨f, hf⟩ := Int.eq_ofNat_of_zero_le hb.1
  obtain ⟨t, ht⟩ := Int.eq_ofNat_of_zero_le (show 0 ≤ (partI a c i).t by omega)
  have he : partI a c i = ⟨((a / 4 + i : Nat) : Int), (f : Int), (t : Int)⟩ := SP.same hq hf ht
  have hdl := dataL_part a c i d ha hd hc h
  rw [he] at hdl
  refine ⟨((a / 4 + i : Nat) : Int), f, t, _, he, by omega, by omega, by omega, by omega, hdl, ?_, ?_, ?_, ?_⟩
  · rw [cutD_length d _ _ (by omega)]
    omega
  · exact (cutD_join d 0 _ _ (by omega) hs.2).symm
  · intro h0 h1
    have hw := part_whole a c i h0 h1
    omega
  · intro h0
    refine ⟨by omega, ?_⟩
    rw [part_b]
    omega
theorem shows_grew {w3 w4 : World} {v v' : Value} {A : Option Addr} {n B : Nat} {xs : List Value} (h : Shows w3 w3.heap.size A n xs) (hg : Grew w3 w4 v v') (hge : ∀ p, A = some p → 0 < n → B ≤ p.block) (hv : ∀ g, v.ownBlock = some g → g < B) : Shows w4 w4.heap.size A n xs := by
  refine ⟨h.len, fun hp => ?_⟩
  obtain ⟨p, rfl, hb, hx⟩ := h.lies hp
  have hB := hge p rfl hp
  refine ⟨p, rfl, Nat.lt_of_lt_of_le hb hg.by_.size, fun j u hu => ?_⟩
  have hbl : w4.heap[p.block]? = w3.heap[p.block]? := hg.by_.block p.block hb (fun e => by
    have := hv p.block e.symm
    omega)
  rw [← hx j u hu]
  exact World.cell?_of_block (by rw [addr_block]; exact hbl)
/-- while the parts are gone over -/
structure MI (W1 wr : World) (v : Value) (l : List UInt8) : Prop where
  own : wr.ownsRow W1.heap.size 5 1 v l.length (cells8 l)
  bel : Below W1.heap.size W1 wr
theorem MI.form {W1 wr : World} {v : Value} {l : List UInt8} (h : MI W1 wr v l) : ∃ A c, v = .slice A l.length c := by
  rcases h.own.2 with ⟨rfl, h0⟩ | ⟨g, cap, cur, rfl, _⟩
  · exact ⟨none, 0, by rw [h0]⟩
  · exact ⟨_, cap, rfl⟩
/-- behind the append -/
structure MA (W1 w4 : World) (v : Value) (l : List UInt8) (AD : Option Addr) (dd : List UInt8) : Prop where
  own : w4.ownsRow W1.heap.size 5 1 v l.length (cells8 l)
  sd : Shows w4 w4.heap.size AD dd.length (cells8 dd)
  bel : Below W1.heap.size W1 w4
theorem MA.of {W1 wr w3 w4 : World} {v v' : Value} {l dd : List UInt8} {AD : Option Addr} {cD : Nat} {m : List UInt8} (h : MI W1 wr v l) (ho : w3.ownsRow wr.heap.size 5 1 (.slice AD dd.length cD) dd.length (cells8 dd)) (hb : Below wr.heap.size wr w3)
    (h4 : w4.ownsRow W1.heap.size 5 1 v' (l.length + dd.length) (cells8 l ++ cells8 dd)) (hg : Grew w3 w4 v v') (hm : l ++ dd = m) : Hid (MA W1 w4 v' m AD dd) := by
  subst hm
  refine ⟨by rw [List.length_append, cells8_append]; exact h4, shows_grew (B := wr.heap.size) (Shows.owned ho) hg (fun p hp hn => ?_) (fun g hgv => (h.own.lt g hgv).2), h.bel.trans ((hb.mono h.bel.size).trans (hg.below_from (Nat.le_trans h.bel.size hb.size) (fun g hgv => (h.own.lt g hgv).1)))⟩
  rcases ho.2 with ⟨hv, h0⟩ | ⟨g, cap, cur, hv, hge, _⟩
  · injection hv with hv
    rw [hv] at hp
    cases hp
  · injection hv with hv
    rw [hv] at hp
    injection hp with hp
    subst hp
    exact hge
theorem range_of8 {w : World} {b : Nat} {t : TypeId} {l : List UInt8} (h : w.heap[b]? = some (.cells (cells8 l).toArray t (0, 0))) : w.rangeAt b 0 (cells8 l) := range_of h
theorem blk_sz (l : List UInt8) (h : l.length = 256) : (Try.prog.info? 36).map (fun i => i.size) = some (cells8 l).length := by rw [blk_size, cells8_length, h]
end Go.Proofs.Ytbencgjihoiieaa
