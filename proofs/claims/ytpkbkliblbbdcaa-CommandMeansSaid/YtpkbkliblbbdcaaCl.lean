/- An operation's bytes; the walk of Bytes of package command. -/
import Derived.Test.YtpkbkliblbbdcaaCk
import Derived.Test.YtpkbkliblbbdcaaWd
set_option linter.unusedVariables false
namespace Go.Proofs.Ytpkbkliblbbdcaa
open Go.RowKit
set_option maxRecDepth 20000

/-- the values of an operation, and its bytes -/
def valsO (o : OP) : List PV := .num o.k.toNat :: ((namesL o.k).getD []).map fun c => valP o (c.toNat : Int)
def packO (o : OP) : Option (List UInt8) := packR (bs (shapeS ((namesL o.k).getD []))) (valsO o)

theorem bs_shape (L : List UInt8) : bs (shapeS L) = 49 :: L.map shapeF := rfl
theorem shapeF_letter (c : UInt8) : letter (shapeF c) = true := by
  unfold shapeF
  split <;> decide
theorem mayS_shape (L : List UInt8) : mayS (L.map shapeF) = true := by
  unfold mayS
  rw [List.all_eq_true]
  intro x hx
  obtain ⟨c, _, rfl⟩ := List.mem_map.1 hx
  exact shapeF_letter c

theorem enc_val {o : OP} {c : UInt8} (hx : isL (c.toNat : Int)) (hb : bnd o (c.toNat : Int) = true) (hd : o.d.length ≤ 16777216) : ∃ a, enc1 ((shapeF c).toNat : Int) (valP o (c.toNat : Int)) = some a ∧ a.length ≤ o.d.length + 4 := by
  have hc : c = 86 ∨ c = 84 ∨ c = 83 ∨ c = 65 ∨ c = 67 ∨ c = 68 := by
    unfold isL at hx
    rcases hx with h | h | h | h | h | h
    · exact .inl (UInt8.toNat.inj (by show _ = 86; omega))
    · exact .inr (.inl (UInt8.toNat.inj (by show _ = 84; omega)))
    · exact .inr (.inr (.inl (UInt8.toNat.inj (by show _ = 83; omega))))
    · exact .inr (.inr (.inr (.inl (UInt8.toNat.inj (by show _ = 65; omega)))))
    · exact .inr (.inr (.inr (.inr (.inl (UInt8.toNat.inj (by show _ = 67; omega))))))
    · exact .inr (.inr (.inr (.inr (.inr (UInt8.toNat.inj (by show _ = 68; omega))))))
  have num : ∀ n : Nat, n < 4294967296 → ∃ a, enc1 52 (.num n) = some a ∧ a.length ≤ o.d.length + 4 := fun n hn => by
    refine ⟨low n 4, ?_, by rw [low_length]; omega⟩
    rw [enc1_num 52 n 4 (by decide) (by omega), if_pos (by omega)]
  rcases hc with rfl | rfl | rfl | rfl | rfl | rfl
  · have h : (decide (1 ≤ o.v) && decide (o.v ≤ 4294967295)) = true := hb
    simp at h
    exact num o.v (by omega)
  · have h : ((decide (1 ≤ o.t) && decide (o.t ≤ 4294967295)) && !decide (o.t = o.v)) = true := hb
    simp at h
    exact num o.t (by omega)
  · have h : (decide (0 ≤ o.s) && decide (o.s ≤ 256)) = true := hb
    simp at h
    exact num o.s.toNat (by omega)
  · have h : (decide (0 ≤ o.a) && decide (o.a ≤ 1048576)) = true := hb
    simp at h
    exact num o.a.toNat (by omega)
  · have h : (decide (1 ≤ o.c) && decide (o.c ≤ 1024)) = true := hb
    simp at h
    exact num o.c.toNat (by omega)
  · refine ⟨low o.d.length 4 ++ o.d, ?_, by rw [List.length_append, low_length]; omega⟩
    show (if (42 : Int) = 42 ∧ o.d.length ≤ 16777216 then _ else _) = _
    rw [if_pos ⟨rfl, hd⟩]

theorem packZ_vals {o : OP} (hd : o.d.length ≤ 16777216) : ∀ L : List UInt8, (∀ c ∈ L, isL (c.toNat : Int)) → L.all (fun c => bnd o (c.toNat : Int)) = true → ∃ a, packZ ((L.map shapeF).zip (L.map fun c => valP o (c.toNat : Int))) = some a ∧ a.length ≤ L.length * (o.d.length + 4)
  | [], _, _ => ⟨[], rfl, by simp⟩
  | c :: L, hx, ha => by
    simp only [List.all_cons, Bool.and_eq_true] at ha
    obtain ⟨a, h1, h2⟩ := enc_val (hx c (by simp)) ha.1 hd
    obtain ⟨b, h3, h4⟩ := packZ_vals hd L (fun x h => hx x (by simp [h])) ha.2
    refine ⟨a ++ b, ?_, ?_⟩
    · simp only [List.map_cons, List.zip_cons_cons, packZ, h1, h3, Option.map_some]
    · rw [List.length_append, List.length_cons, Nat.succ_mul]
      omega

theorem mayO_parts {o : OP} (h : mayO o = true) : ∃ L, namesL o.k = some L ∧ L.all (fun c => bnd o (c.toNat : Int)) = true ∧ o = laidAll o (zeroO o.k) L := by
  unfold mayO at h
  cases hN : namesL o.k with
  | none => rw [hN] at h; cases h
  | some L =>
    rw [hN] at h
    simp only [Bool.and_eq_true, decide_eq_true_eq] at h
    exact ⟨L, rfl, h.1, h.2⟩
theorem kind_of {k : Int} {L : List UInt8} (h : namesL k = some L) : 1 ≤ k ∧ k ≤ 9 := by
  rcases namesL_cases k with ⟨h1, h2⟩ | h1
  · rw [h1] at h; cases h
  · omega
theorem names_len {k : Int} {L : List UInt8} (h : namesL k = some L) : L.length ≤ 3 := by
  rcases namesL_cases k with ⟨h1, h2⟩ | h1
  · rw [h1] at h; cases h
  · rcases h1 with rfl | rfl | rfl | rfl | rfl | rfl | rfl | rfl | rfl <;> (cases h; decide)

theorem packO_some {o : OP} (h : mayO o = true) (hd : o.d.length ≤ 16777216) : ∃ l, packO o = some l ∧ l.length ≤ 3 * (o.d.length + 4) + 1 := by
  obtain ⟨L, hN, ha, _⟩ := mayO_parts h
  have hk := kind_of hN
  have hl := names_len hN
  obtain ⟨a, h1, h2⟩ := packZ_vals hd L (fun c hc => by
    obtain ⟨i, hi, rfl⟩ := List.getElem_of_mem hc
    exact (names_L hN i hi).1) ha
  have e1 : enc1 49 (.num o.k.toNat) = some (low o.k.toNat 1) := by rw [enc1_num 49 _ 1 (by decide) (by omega), if_pos (by omega)]
  refine ⟨low o.k.toNat 1 ++ a, ?_, ?_⟩
  · unfold packO valsO
    rw [hN, bs_shape]
    show packR (49 :: L.map shapeF) (.num o.k.toNat :: L.map fun c => valP o (c.toNat : Int)) = _
    rw [packR, if_pos ⟨by
      show (letter 49 && mayS (L.map shapeF)) = true
      rw [mayS_shape]
      decide, by simp⟩]
    show (match enc1 49 (.num o.k.toNat) with | none => none | some x => (packZ ((L.map shapeF).zip (L.map fun c : UInt8 => valP o (c.toNat : Int)))).map (x ++ ·)) = _
    rw [e1, h1]
    rfl
  · rw [List.length_append, low_length]
    have : L.length * (o.d.length + 4) ≤ 3 * (o.d.length + 4) := Nat.mul_le_mul_right _ hl
    omega

end Go.Proofs.Ytpkbkliblbbdcaa
