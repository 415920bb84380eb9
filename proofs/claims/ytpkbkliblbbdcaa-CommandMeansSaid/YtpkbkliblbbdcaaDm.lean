/- There and back: an operation of its bytes, an answer of its bytes, and the other way. No program is named here. -/
import Derived.Test.YtpkbkliblbbdcaaDl
set_option linter.unusedVariables false
namespace Go.Proofs.Ytpkbkliblbbdcaa
open Go.RowKit
set_option maxRecDepth 20000

/-- an operation's bytes, if it may be one -/
def BYO (o : OP) : Option (List UInt8) := if mayO o = true then packO o else none
def BYA (a : AN) : Option (List UInt8) := if mayA a = true then packA a else none

theorem laidPs_vals (o : OP) : ∀ (L : List UInt8) (w : OP), laidPs w L (L.map fun c => valP o (c.toNat : Int)) = laidAll o w L
  | [], _ => rfl
  | c :: L, w => by
    simp only [List.map_cons, laidPs, laidAll]
    exact laidPs_vals o L _

theorem unp_49_nil (S : List UInt8) : unpZ (49 :: S) [] = none := by
  have e1 : dec1 ((49 : UInt8).toNat : Int) [] = none := by
    have h : dec1 ((49 : UInt8).toNat : Int) [] = _ := dec_num (l := []) (.inl ⟨rfl, rfl⟩)
    rw [h, if_pos (by simp)]
  simp only [unpZ, e1]

theorem opOf_pack {o : OP} {x : List UInt8} (h : mayO o = true) (hx : packO o = some x) : opOf x = some o := by
  obtain ⟨L, hN, ha, ho⟩ := mayO_parts h
  have hk := kind_of hN
  unfold packO valsO at hx
  rw [hN, bs_shape] at hx
  have hx2 : packR (49 :: L.map shapeF) (.num o.k.toNat :: L.map fun c => valP o (c.toNat : Int)) = some x := hx
  obtain ⟨_, hu⟩ := packR_unpZ [] hx2
  rw [List.append_nil] at hu
  cases x with
  | nil => rw [unp_49_nil] at hu; cases hu
  | cons b tl =>
    rw [unp_head] at hu
    cases hv : unpZ (L.map shapeF) tl with
    | none => rw [hv] at hu; cases hu
    | some r =>
      obtain ⟨qs, n⟩ := r
      rw [hv] at hu
      have hu2 : (PV.num b.toNat :: qs, n + 1) = (PV.num o.k.toNat :: L.map (fun c => valP o (c.toNat : Int)), tl.length + 1) := Option.some.inj hu
      injection hu2 with h1 h2
      injection h1 with h3 h4
      injection h3 with h5
      have hbk : (b.toNat : Int) = o.k := by omega
      subst h4
      have e : laidPs (zeroO o.k) L (L.map fun c => valP o (c.toNat : Int)) = o := (laidPs_vals o L _).trans ho.symm
      simp only [opOf, hbk, hN, hv, e]
      rw [if_pos ⟨by omega, h⟩]

theorem letter_cases {c : UInt8} (hx : isL (c.toNat : Int)) : c = 86 ∨ c = 84 ∨ c = 83 ∨ c = 65 ∨ c = 67 ∨ c = 68 := by
  unfold isL at hx
  rcases hx with h | h | h | h | h | h
  · exact .inl (UInt8.toNat.inj (by show _ = 86; omega))
  · exact .inr (.inl (UInt8.toNat.inj (by show _ = 84; omega)))
  · exact .inr (.inr (.inl (UInt8.toNat.inj (by show _ = 83; omega))))
  · exact .inr (.inr (.inr (.inl (UInt8.toNat.inj (by show _ = 65; omega)))))
  · exact .inr (.inr (.inr (.inr (.inl (UInt8.toNat.inj (by show _ = 67; omega))))))
  · exact .inr (.inr (.inr (.inr (.inr (UInt8.toNat.inj (by show _ = 68; omega))))))

theorem fits_num {c : UInt8} {p : PV} (hc : c ≠ 68) (h : fits c p) : ∃ m, p = .num m ∧ m < 4294967296 := by
  unfold fits at h
  rwa [if_neg hc] at h

theorem val_laid {w : OP} {c : UInt8} {p : PV} (hx : isL (c.toNat : Int)) (hf : fits c p) : valP (laid w (c.toNat : Int) p) (c.toNat : Int) = p := by
  rcases letter_cases hx with rfl | rfl | rfl | rfl | rfl | rfl
  · obtain ⟨m, rfl, hm⟩ := fits_num (by decide) hf
    rfl
  · obtain ⟨m, rfl, hm⟩ := fits_num (by decide) hf
    rfl
  · obtain ⟨m, rfl, hm⟩ := fits_num (by decide) hf
    show PV.num (toI m).toNat = _
    rw [toI_nat m (by omega)]
    rfl
  · obtain ⟨m, rfl, hm⟩ := fits_num (by decide) hf
    show PV.num (toI m).toNat = _
    rw [toI_nat m (by omega)]
    rfl
  · obtain ⟨m, rfl, hm⟩ := fits_num (by decide) hf
    show PV.num (toI m).toNat = _
    rw [toI_nat m (by omega)]
    rfl
  · unfold fits at hf
    rw [if_pos rfl] at hf
    obtain ⟨d, rfl, _⟩ := hf
    rfl

theorem val_other {w : OP} {c c2 : UInt8} {p : PV} (hx : isL (c.toNat : Int)) (hx2 : isL (c2.toNat : Int)) (hne : c ≠ c2) : valP (laid w (c.toNat : Int) p) (c2.toNat : Int) = valP w (c2.toNat : Int) := by
  rcases letter_cases hx with rfl | rfl | rfl | rfl | rfl | rfl <;> rcases letter_cases hx2 with rfl | rfl | rfl | rfl | rfl | rfl <;> first
    | exact absurd rfl hne
    | rfl

theorem val_laidPs {c : UInt8} (hc : isL (c.toNat : Int)) : ∀ (L : List UInt8) (qs : List PV) (w : OP), c ∉ L → (∀ x ∈ L, isL (x.toNat : Int)) → valP (laidPs w L qs) (c.toNat : Int) = valP w (c.toNat : Int)
  | [], qs, w, _, _ => by cases qs <;> rfl
  | _ :: _, [], w, _, _ => rfl
  | x :: L, q :: qs, w, hn, hx => by
    simp only [laidPs]
    rw [val_laidPs hc L qs _ (fun h => hn (by simp [h])) (fun y hy => hx y (by simp [hy]))]
    exact val_other (hx x (by simp)) hc (fun e => hn (by simp [e]))

theorem vals_laidPs : ∀ (L : List UInt8) (qs : List PV) (w : OP), L.Nodup → (∀ x ∈ L, isL (x.toNat : Int)) → qs.length = L.length → (∀ i (h : i < L.length) (h2 : i < qs.length), fits L[i] qs[i]) → (L.map fun c => valP (laidPs w L qs) (c.toNat : Int)) = qs
  | [], [], _, _, _, _, _ => rfl
  | [], _ :: _, _, _, _, h, _ => by simp at h
  | _ :: _, [], _, _, _, h, _ => by simp at h
  | x :: L, q :: qs, w, hd, hx, hl, hf => by
    obtain ⟨hd1, hd2⟩ := List.nodup_cons.1 hd
    have hx0 := hx x (by simp)
    have hf0 : fits x q := hf 0 (by simp) (by simp)
    simp only [List.map_cons, laidPs]
    rw [val_laidPs hx0 L qs _ hd1 (fun y hy => hx y (by simp [hy])), val_laid hx0 hf0, vals_laidPs L qs _ hd2 (fun y hy => hx y (by simp [hy])) (by simpa using hl) (fun i h h2 => hf (i + 1) (by simpa using h) (by simpa using h2))]

theorem names_nodup {k : Int} {L : List UInt8} (h : namesL k = some L) : L.Nodup := by
  rcases namesL_cases k with ⟨h1, h2⟩ | h1
  · rw [h1] at h; cases h
  · rcases h1 with rfl | rfl | rfl | rfl | rfl | rfl | rfl | rfl | rfl <;> (cases h; decide)

theorem laidPs_kind : ∀ (L : List UInt8) (qs : List PV) (w : OP), (laidPs w L qs).k = w.k
  | [], qs, w => by cases qs <;> rfl
  | _ :: _, [], w => rfl
  | x :: L, q :: qs, w => by
    simp only [laidPs]
    rw [laidPs_kind L qs _, laid_kind]

theorem laid_dle {w : OP} {c : UInt8} {p : PV} (h : w.d.length ≤ 16777216) (hp : fits c p) : (laid w (c.toNat : Int) p).d.length ≤ 16777216 := by
  unfold fits at hp
  by_cases hc : c = 68
  · rw [if_pos hc] at hp
    obtain ⟨d, rfl, hd⟩ := hp
    subst hc
    exact hd
  · have hc2 : ¬ (c.toNat : Int) = 68 := fun e => hc (UInt8.toNat.inj (by show _ = 68; omega))
    unfold laid
    rw [if_neg hc2]
    repeat' split
    all_goals exact h

theorem laidPs_fit : ∀ (L : List UInt8) (qs : List PV) (w : OP), w.fit → w.d.length ≤ 16777216 → (∀ i (h : i < L.length) (h2 : i < qs.length), fits L[i] qs[i]) → (laidPs w L qs).fit ∧ (laidPs w L qs).d.length ≤ 16777216
  | [], qs, w, h1, h2, _ => by cases qs <;> exact ⟨h1, h2⟩
  | _ :: _, [], w, h1, h2, _ => ⟨h1, h2⟩
  | x :: L, q :: qs, w, h1, h2, hf => by
    have hf0 : fits x q := hf 0 (by simp) (by simp)
    simp only [laidPs]
    exact laidPs_fit L qs _ (laid_fit h1 hf0) (laid_dle h2 hf0) (fun i h h2 => hf (i + 1) (by simpa using h) (by simpa using h2))

theorem pack_opOf {l : List UInt8} {o : OP} (h : opOf l = some o) : BYO o = some l ∧ o.fit ∧ o.d.length ≤ 16777216 := by
  cases l with
  | nil => cases h
  | cons b tl =>
    have hb := b.toNat_lt
    cases hN : namesL (b.toNat : Int) with
    | none => simp only [opOf, hN] at h; cases h
    | some L =>
      cases hu : unpZ (L.map shapeF) tl with
      | none => simp only [opOf, hN, hu] at h; cases h
      | some r =>
        obtain ⟨qs, n⟩ := r
        simp only [opOf, hN, hu] at h
        split at h
        · rename_i hc
          obtain rfl := Option.some.inj h
          obtain ⟨hq, hf⟩ := unp_fits L tl qs n hu
          have hx : ∀ x ∈ L, isL (x.toNat : Int) := fun x hx => by
            obtain ⟨i, hi, rfl⟩ := List.getElem_of_mem hx
            exact (names_L hN i hi).1
          have hv := vals_laidPs L qs (zeroO (b.toNat : Int)) (names_nodup hN) hx hq hf
          have hk : (laidPs (zeroO (b.toNat : Int)) L qs).k = (b.toNat : Int) := laidPs_kind L qs _
          have hz : (zeroO (b.toNat : Int)).fit := ⟨by show (0 : Nat) < _; omega, by show (0 : Nat) < _; omega, ⟨by show _ ≤ (b.toNat : Int); omega, by show (b.toNat : Int) ≤ _; omega⟩, ⟨by show _ ≤ (0 : Int); omega, by show (0 : Int) ≤ _; omega⟩, ⟨by show _ ≤ (0 : Int); omega, by show (0 : Int) ≤ _; omega⟩, ⟨by show _ ≤ (0 : Int); omega, by show (0 : Int) ≤ _; omega⟩⟩
          obtain ⟨f1, f2⟩ := laidPs_fit L qs _ hz (by show (0 : Nat) ≤ _; omega) hf
          refine ⟨?_, f1, f2⟩
          unfold BYO
          rw [if_pos hc.2]
          unfold packO valsO
          rw [hk, hN, bs_shape]
          show packR (49 :: L.map shapeF) (.num ((b.toNat : Int)).toNat :: L.map fun c => valP (laidPs (zeroO (b.toNat : Int)) L qs) (c.toNat : Int)) = _
          rw [hv, Int.toNat_natCast]
          have hp := unpZ_packR (s := 49 :: L.map shapeF) (l := b :: tl) (ps := .num b.toNat :: qs) (n := n + 1) (by
            show (letter 49 && mayS (L.map shapeF)) = true
            rw [mayS_shape]
            decide) (by rw [unp_head, hu]; rfl)
          rw [hp, hc.1]
          simp
        · cases h

theorem opOf_BO {o : OP} {x : List UInt8} (h : BYO o = some x) : opOf x = some o := by
  unfold BYO at h
  split at h
  · rename_i hm
    exact opOf_pack hm h
  · cases h
theorem BO_inj {o p : OP} {x y : List UInt8} (h : BYO o = some x) (h2 : BYO p = some y) : decide (x = y) = decide (o = p) := by
  have e1 := opOf_BO h
  have e2 := opOf_BO h2
  by_cases e : o = p
  · subst e
    rw [h] at h2
    obtain rfl := Option.some.inj h2
    simp
  · have : x ≠ y := fun h3 => by
      subst h3
      rw [e1] at e2
      exact e (Option.some.inj e2)
    simp [e, this]

theorem ansOf_BA {a : AN} {x : List UInt8} (h : BYA a = some x) : ansOf x = some a := by
  unfold BYA at h
  split at h
  · rename_i hm
    obtain ⟨k, s, d⟩ := a
    obtain ⟨⟨h1, h2⟩, ⟨h3, h4⟩, _⟩ := mayA_iff.1 hm
    unfold packA valsA at h
    obtain ⟨_, hu⟩ := packR_unpZ [] h
    rw [List.append_nil] at hu
    have hk : ((k.toNat : Nat) : Int) = k := by omega
    have hs : ((s.toNat : Nat) : Int) = s := by omega
    unfold ansOf
    rw [hu]
    show (if x.length = x.length ∧ mayA ⟨((k.toNat : Nat) : Int), ((s.toNat : Nat) : Int), d⟩ = true then some (⟨((k.toNat : Nat) : Int), ((s.toNat : Nat) : Int), d⟩ : AN) else none) = _
    rw [hk, hs, if_pos ⟨rfl, hm⟩]
  · cases h
theorem pack_ansOf {l : List UInt8} {a : AN} (h : ansOf l = some a) : BYA a = some l ∧ a.d.length ≤ 16777216 := by
  cases hu : unpZ [49, 52, 42] l with
  | none => unfold ansOf at h; rw [hu] at h; cases h
  | some r =>
    obtain ⟨ps, n⟩ := r
    obtain ⟨x, y, d, rfl, hx, hy, hd⟩ := unp_ans hu
    unfold ansOf at h
    rw [hu] at h
    have h' : (if n = l.length ∧ mayA ⟨(x : Int), (y : Int), d⟩ = true then some (⟨(x : Int), (y : Int), d⟩ : AN) else none) = some a := h
    split at h'
    · rename_i hc
      obtain rfl := Option.some.inj h'
      refine ⟨?_, hd⟩
      unfold BYA
      rw [if_pos hc.2]
      have hp := unpZ_packR (by decide) hu
      show packR [49, 52, 42] [.num x, .num y, .blob d] = _
      rw [hp, hc.1, List.take_length]
    · cases h'

end Go.Proofs.Ytpkbkliblbbdcaa
