/- Which operation bytes are. No program is named here. -/
import Derived.Test.YtpkbkliblbbdcaaDe
set_option linter.unusedVariables false
namespace Go.Proofs.Ytpkbkliblbbdcaa
open Go.RowKit
set_option maxRecDepth 20000

/-- values laid, one by one, as what the letters name -/
def laidPs : OP → List UInt8 → List PV → OP
  | w, c :: L, p :: ps => laidPs (laid w (c.toNat : Int) p) L ps
  | w, _, _ => w
theorem laidPs_snoc : ∀ (L : List UInt8) (ps : List PV) (w : OP) (c : UInt8) (p : PV), L.length = ps.length → laidPs w (L ++ [c]) (ps ++ [p]) = laid (laidPs w L ps) (c.toNat : Int) p
  | [], [], w, c, p, _ => rfl
  | x :: L, q :: ps, w, c, p, h => by
    simp only [List.cons_append, laidPs]
    exact laidPs_snoc L ps _ c p (by simpa using h)
  | [], _ :: _, _, _, _, h => by simp at h
  | _ :: _, [], _, _, _, h => by simp at h

/-- the value that a letter's shape reads -/
def fits (c : UInt8) (p : PV) : Prop := if c = 68 then ∃ d, p = .blob d ∧ d.length ≤ 16777216 else ∃ m, p = .num m ∧ m < 4294967296

theorem unp_fits : ∀ (L l : List UInt8) (qs : List PV) (n : Nat), unpZ (L.map shapeF) l = some (qs, n) → qs.length = L.length ∧ ∀ i (h : i < L.length) (h2 : i < qs.length), fits L[i] qs[i]
  | [], l, qs, n, h => by
    simp only [List.map_nil, unpZ, Option.some.injEq, Prod.mk.injEq] at h
    obtain ⟨rfl, rfl⟩ := h
    exact ⟨rfl, fun i h => absurd h (by simp)⟩
  | c :: L, l, qs, n, h => by
    simp only [List.map_cons, unpZ] at h
    cases hd : dec1 ((shapeF c).toNat : Int) l with
    | none => rw [hd] at h; cases h
    | some r =>
      obtain ⟨p, k⟩ := r
      rw [hd] at h
      cases hu : unpZ (L.map shapeF) (l.drop k) with
      | none => simp only [hu] at h; cases h
      | some r2 =>
        obtain ⟨ps, m⟩ := r2
        simp only [hu] at h
        have hq : qs = p :: ps := by
          have h2 := congrArg (fun o : Option (List PV × Nat) => o.map (·.1)) h
          simpa using h2.symm
        obtain ⟨h1, h2⟩ := unp_fits L _ ps m hu
        subst hq
        refine ⟨by simp [h1], fun i hi hi2 => ?_⟩
        cases i with
        | succ i => exact h2 i (by simpa using hi) (by simpa using hi2)
        | zero =>
          show fits c p
          unfold fits
          by_cases hc : c = 68
          · rw [if_pos hc]
            rw [hc] at hd
            obtain ⟨d, h3, h4, _⟩ := dec_blob hd
            exact ⟨d, h3, h4⟩
          · rw [if_neg hc]
            have hs : shapeF c = 52 := by unfold shapeF; rw [if_neg hc]
            rw [hs] at hd
            have e2 : dec1 ((52 : UInt8).toNat : Int) l = _ := dec_num (l := l) (.inr ⟨rfl, rfl⟩)
            rw [e2] at hd
            split at hd
            · cases hd
            · injection hd with hd
              injection hd with hd _
              exact ⟨_, hd.symm, num8_take_lt l 4⟩

/-- the operation whose bytes these are -/
def opOf : List UInt8 → Option OP
  | [] => none
  | b :: tl => match namesL (b.toNat : Int) with
    | none => none
    | some L => match unpZ (L.map shapeF) tl with
      | none => none
      | some (qs, n) => if n = tl.length ∧ mayO (laidPs (zeroO (b.toNat : Int)) L qs) = true then some (laidPs (zeroO (b.toNat : Int)) L qs) else none

/-- with the kind's own byte ahead -/
theorem unp_head (b : UInt8) (tl : List UInt8) (S : List UInt8) : unpZ (49 :: S) (b :: tl) = (unpZ S tl).map fun r => (.num b.toNat :: r.1, r.2 + 1) := by
  have e1 : dec1 ((49 : UInt8).toNat : Int) (b :: tl) = some (.num b.toNat, 1) := by
    have h : dec1 ((49 : UInt8).toNat : Int) (b :: tl) = _ := dec_num (l := b :: tl) (.inl ⟨rfl, rfl⟩)
    rw [h, if_neg (by simp)]
    simp [num8]
  simp only [unpZ, e1, List.drop_succ_cons, List.drop_zero]
  cases unpZ S tl with
  | none => rfl
  | some r => simp [Nat.add_comm]

theorem laid_bounds {w : OP} {c : Int} {p : PV} (h1 : w.v < 18446744073709551616 ∧ w.t < 18446744073709551616) (hp : p.n < 18446744073709551616) : (laid w c p).v < 18446744073709551616 ∧ (laid w c p).t < 18446744073709551616 := by
  unfold laid
  repeat' split
  all_goals first
    | exact h1
    | exact ⟨hp, h1.2⟩
    | exact ⟨h1.1, hp⟩

end Go.Proofs.Ytpkbkliblbbdcaa
