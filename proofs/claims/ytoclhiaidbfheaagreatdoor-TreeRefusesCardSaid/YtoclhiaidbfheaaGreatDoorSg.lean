/- A superblock, its block, there and back. -/
import Derived.Test.YtoclhiaidbfheaaGreatDoorSf
set_option linter.unusedVariables false
namespace Go.Proofs.YtoclhiaidbfheaaGreatDoor
open Go.RowKit

/-- a superblock -/
structure SU where
  tx : Nat
  m : Int
  d : Int
  p0 : Nat
  p1 : Nat
  p2 : Nat
  p3 : Nat
  p4 : Nat
  p5 : Nat
  tp : Nat
  ba : Nat
  sg : Nat
  c : Int
  ep : Nat
  la : Nat
  sq : Nat
  bl : Nat
  bs : Nat
  mkd : Bool
def SU.cells (s : SU) : Array Value := #[.int .u64 (s.tx : Int), .int .i64 s.m, .int .i64 s.d, .int .u32 (s.p0 : Int), .int .u32 (s.p1 : Int), .int .u32 (s.p2 : Int), .int .u32 (s.p3 : Int), .int .u32 (s.p4 : Int), .int .u32 (s.p5 : Int), .int .u32 (s.tp : Int), .int .u32 (s.ba : Int), .int .u32 (s.sg : Int), .int .i64 s.c, .int .u64 (s.ep : Int), .int .u64 (s.la : Int), .int .u64 (s.sq : Int), .int .u64 (s.bl : Int), .int .u64 (s.bs : Int), .bool s.mkd]
structure SU.fits (s : SU) : Prop where
  tx : s.tx < 18446744073709551616
  p : s.p0 < 4294967296 ∧ s.p1 < 4294967296 ∧ s.p2 < 4294967296 ∧ s.p3 < 4294967296 ∧ s.p4 < 4294967296 ∧ s.p5 < 4294967296 ∧ s.tp < 4294967296 ∧ s.ba < 4294967296 ∧ s.sg < 4294967296
  t : s.ep < 18446744073709551616 ∧ s.la < 18446744073709551616 ∧ s.sq < 18446744073709551616 ∧ s.bl < 18446744073709551616 ∧ s.bs < 18446744073709551616
def SU.may (s : SU) : Bool := mayS s.tx s.m s.d s.c [s.p0, s.p1, s.p2, s.p3, s.p4, s.p5, s.tp, s.ba, s.sg]
def SU.nums (s : SU) : List Nat := [s.tx, s.m.toNat, s.d.toNat, s.p0, s.p1, s.p2, s.p3, s.p4, s.p5, s.tp, s.ba, s.sg, s.c.toNat, s.ep, s.la, s.sq, s.bl, s.bs, bitN s.mkd]
def SU.img (s : SU) : List UInt8 := imgS s.nums
theorem SU.img_len (s : SU) : s.img.length = 256 := imgS_len _
def blkB (b : Bool) (l : List UInt8) : List UInt8 := match b with | true => l | false => noughts
theorem blkB_len (b : Bool) (l : List UInt8) (h : l.length = 256) : (blkB b l).length = 256 := by cases b with | true => exact h | false => exact noughts_len
def SU.blk (s : SU) : List UInt8 := blkB s.may s.img
def SU.err (s : SU) : Int := sbE s.may
theorem SU.mayP_of {s : SU} (h : s.may = true) : mayP s.tx s.m s.d s.c [s.p0, s.p1, s.p2, s.p3, s.p4, s.p5, s.tp, s.ba, s.sg] := of_decide_eq_true h
theorem SU.block (w : World) (hT : Tabs w) (hW : Wids w) (s : SU) (hf : s.fits) : Calls Tryz.prog 148 #[.agg s.cells] w fun e w' => e = .returned (.tuple #[.agg (cells8 s.blk).toArray, .int .i64 s.err]) ∧ Below w.heap.size w w' := by
  cases hm : s.may with
  | false =>
    have e1 : s.blk = noughts := by rw [SU.blk, hm]; rfl
    have e2 : s.err = 2 := by rw [SU.err, hm]; rfl
    rw [e1, e2]
    exact sblock_bad w s.tx s.m s.d s.c s.p0 s.p1 s.p2 s.p3 s.p4 s.p5 s.tp s.ba s.sg s.ep s.la s.sq s.bl s.bs s.mkd hf.p hm
  | true =>
    have e1 : s.blk = s.img := by rw [SU.blk, hm]; rfl
    have e2 : s.err = 0 := by rw [SU.err, hm]; rfl
    rw [e1, e2]
    obtain ⟨tx, m, d, p0, p1, p2, p3, p4, p5, tp, ba, sg, c, ep, la, sq, bl, bs, mk⟩ := s
    have hp := SU.mayP_of hm
    simp only at hp
    obtain ⟨⟨h1, h2, h3, h4⟩, h5, ⟨h6, h7⟩, h8, h9⟩ := hp
    obtain ⟨m, rfl⟩ := Int.eq_ofNat_of_zero_le (show 0 ≤ m by omega)
    obtain ⟨d, rfl⟩ := Int.eq_ofNat_of_zero_le (show 0 ≤ d by omega)
    obtain ⟨c, rfl⟩ := Int.eq_ofNat_of_zero_le h8
    exact sblock_ok w hT hW tx m d p0 p1 p2 p3 p4 p5 tp ba sg c ep la sq bl bs mk ⟨hf.tx, by omega, by omega, by omega, hf.p⟩ hm
/-- what a block's numbers are -/
def blkS (l : List UInt8) : SU := ⟨numAt l 0, (numAt l 1 : Nat), (numAt l 2 : Nat), numAt l 3, numAt l 4, numAt l 5, numAt l 6, numAt l 7, numAt l 8, numAt l 9, numAt l 10, numAt l 11, (numAt l 12 : Nat), numAt l 13, numAt l 14, numAt l 15, numAt l 16, numAt l 17, decide (numAt l 18 = 1)⟩
theorem blkS_may (l : List UInt8) : superMay l = (blkS l).may := rfl
theorem blkS_img (l : List UInt8) : superImg l = (blkS l).img := rfl
theorem blkS_fits (l : List UInt8) : (blkS l).fits := by
  have h := fun j => numAt_lt l j
  exact ⟨h 0, ⟨h 3, h 4, h 5, h 6, h 7, h 8, h 9, h 10, h 11⟩, h 13, h 14, h 15, h 16, h 17⟩
theorem laidTo_pre (L : List Nat) (j : Nat) : ∀ k, j ≤ k → ∃ r, laidToS L k = laidToS L j ++ r
  | 0, h => ⟨[], by
    obtain rfl : j = 0 := by omega
    rfl⟩
  | k + 1, h => by
    by_cases e : j = k + 1
    · subst e; exact ⟨[], by simp⟩
    · obtain ⟨r, hr⟩ := laidTo_pre L j k (by omega)
      exact ⟨r ++ leN (widL.getD k 0) (L.getD k 0), by rw [laidToS, hr, List.append_assoc]⟩
theorem numAt_img (L : List Nat) (j : Nat) (hj : j < 19) (hb : L.getD j 0 < 256 ^ (widL.getD j 0)) : numAt (imgS L) j = L.getD j 0 := by
  obtain ⟨r, hr⟩ := laidTo_pre L (j + 1) 19 (by omega)
  have e : imgS L = (leN 4 (sumB (bodyS L)) ++ [86, 79, 73, 76] ++ laidToS L j) ++ (leN (widL.getD j 0) (L.getD j 0) ++ (r ++ List.replicate 151 0)) := by
    have : bodyS L = [86, 79, 73, 76] ++ (laidToS L j ++ leN (widL.getD j 0) (L.getD j 0) ++ r) ++ List.replicate 151 0 := by rw [bodyS, hr, laidToS]
    rw [imgS]
    generalize sumB (bodyS L) = s
    rw [this]
    simp only [List.append_assoc]
  rw [numAt, e, List.drop_left' (by simp [leN_length, laidTo_length]; omega), List.take_left' (leN_length _ _), numN_le, Nat.mod_eq_of_lt hb]
theorem wids_at : ∀ j, j < 19 → 256 ^ (widL.getD j 0) = (if j = 0 ∨ (13 ≤ j ∧ j ≤ 17) then 18446744073709551616 else if j = 18 then 256 else 4294967296) := by decide
theorem SU.num_lt {s : SU} (hf : s.fits) (hm : s.may = true) (j : Nat) (hj : j < 19) : s.nums.getD j 0 < 256 ^ (widL.getD j 0) := by
  obtain ⟨⟨h1, h2, h3, h4⟩, h5, ⟨h6, h7⟩, h8, h9⟩ := SU.mayP_of hm
  obtain ⟨q0, q1, q2, q3, q4, q5, q6, q7, q8⟩ := hf.p
  obtain ⟨r0, r1, r2, r3, r4⟩ := hf.t
  have hx := hf.tx
  have hk : bitN s.mkd < 256 := by cases s.mkd <;> decide
  have hm' : s.m.toNat < 4294967296 := by omega
  have hd' : s.d.toNat < 4294967296 := by omega
  have hc' : s.c.toNat < 4294967296 := by omega
  rw [wids_at j hj]
  rcases j with _ | _ | _ | _ | _ | _ | _ | _ | _ | _ | _ | _ | _ | _ | _ | _ | _ | _ | _ | j <;> first | exact hx | exact hm' | exact hd' | exact hc' | exact q0 | exact q1 | exact q2 | exact q3 | exact q4 | exact q5 | exact q6 | exact q7 | exact q8 | exact r0 | exact r1 | exact r2 | exact r3 | exact r4 | exact hk | (exfalso; omega)
theorem SU.back {s : SU} (hf : s.fits) (hm : s.may = true) : blkS s.img = s := by
  have h : ∀ j, j < 19 → numAt s.img j = s.nums.getD j 0 := fun j hj => numAt_img s.nums j hj (SU.num_lt hf hm j hj)
  obtain ⟨⟨h1, h2, h3, h4⟩, h5, ⟨h6, h7⟩, h8, h9⟩ := SU.mayP_of hm
  have e1 : ((s.m.toNat : Nat) : Int) = s.m := by omega
  have e2 : ((s.d.toNat : Nat) : Int) = s.d := by omega
  have e3 : ((s.c.toNat : Nat) : Int) = s.c := by omega
  have e4 : decide (bitN s.mkd = 1) = s.mkd := by cases s.mkd <;> rfl
  have t : ∀ j, j < 19 → ∀ x, s.nums.getD j 0 = x → numAt s.img j = x := fun j hj x hx => (h j hj).trans hx
  rw [blkS, t 0 (by omega) _ rfl, t 1 (by omega) _ rfl, t 2 (by omega) _ rfl, t 3 (by omega) _ rfl, t 4 (by omega) _ rfl, t 5 (by omega) _ rfl, t 6 (by omega) _ rfl, t 7 (by omega) _ rfl, t 8 (by omega) _ rfl, t 9 (by omega) _ rfl, t 10 (by omega) _ rfl, t 11 (by omega) _ rfl, t 12 (by omega) _ rfl, t 13 (by omega) _ rfl, t 14 (by omega) _ rfl, t 15 (by omega) _ rfl, t 16 (by omega) _ rfl, t 17 (by omega) _ rfl, t 18 (by omega) _ rfl]
  show SU.mk s.tx ((s.m.toNat : Nat) : Int) ((s.d.toNat : Nat) : Int) s.p0 s.p1 s.p2 s.p3 s.p4 s.p5 s.tp s.ba s.sg ((s.c.toNat : Nat) : Int) s.ep s.la s.sq s.bl s.bs (decide (bitN s.mkd = 1)) = s
  rw [e1, e2, e3, e4]
theorem SU.of_img {s : SU} (hf : s.fits) (hm : s.may = true) : superOfB s.img = true := by
  rw [superOfB, blkS_may, blkS_img, SU.back hf hm, hm]
  simp
theorem ofB_noughts : superOfB noughts = false := by
  have h0 : numAt noughts 0 = 0 := by decide
  have : superMay noughts = false := by
    rw [superMay, h0]
    exact mayS_no (fun h => by have := h.2.2.1.1; omega)
  rw [superOfB, this]; rfl
end Go.Proofs.YtoclhiaidbfheaaGreatDoor
