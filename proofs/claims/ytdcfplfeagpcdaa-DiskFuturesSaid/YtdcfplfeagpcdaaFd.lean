/- The law's 'known'. -/
import Derived.Test.YtdcfplfeagpcdaaFc
set_option linter.unusedVariables false
namespace Go.Proofs.Ytdcfplfeagpcdaa
open Go.RowKit

/-- a disk of the call's own: w is the world in which the call began -/
def Kn (w W : World) (b : Nat) (d : RD) : Prop := ∃ F, PD W F b d ∧ (∀ k, F k → w.heap.size ≤ k) ∧ Below w.heap.size w W
theorem Kn.below {w W W' : World} {b : Nat} {d : RD} (h : Kn w W b d) (hb : Below W.heap.size W W') : Kn w W' b d := by
  obtain ⟨F, h1, h2, h3⟩ := h
  exact ⟨F, h1.below hb, h2, h3.trans (hb.mono h3.size)⟩
theorem Kn.done {w W W' : World} {b : Nat} {d d' : RD} {er : Int} {e : Ending} (h : Kn w W b d) (F : Nat → Prop) (hF : ∀ k, F k → w.heap.size ≤ k) (hp : PDone W F b er d' e W') : Kn w W' b d' := by
  obtain ⟨_, F', h1, h2, h3⟩ := hp
  obtain ⟨_, _, _, h4⟩ := h
  refine ⟨F', h1, fun k hk => (h2 k hk).elim (hF k) (fun h => Nat.le_trans h4.size h), h4.trans (h3.below h4.size hF)⟩
theorem Kn.b {w W : World} {b : Nat} {d : RD} (h : Kn w W b d) : Below w.heap.size w W := by obtain ⟨_, _, _, h4⟩ := h; exact h4
section
variable {w W : World} {b : Nat} {d d' : RD} {er : Int}
theorem Kn.write (h : Kn w W b d) (n : Int) (c : UInt8) (hl : ∀ i (hi : i < d.s.length), d.s[i].length < 1000000) (hr : wrR d n = er) (hd : wrD d n c = d') :
    Calls Try.prog 23 #[.pointer (some ⟨b, 0, none⟩), .int .i64 n, .agg (sec c).toArray] W fun e w' => e = .returned (.int .i64 er) ∧ Kn w w' b d' := by
  have h0 := h
  obtain ⟨F, h1, h2, h3⟩ := h
  have hc := pd_write W F b d h1 n c hl
  rw [hr, hd] at hc
  exact hc.mono fun e w' hp => ⟨hp.1, h0.done F h2 hp⟩
theorem Kn.flush (h : Kn w W b d) (hr : flR d = er) (hd : flD d = d') :
    Calls Try.prog 22 #[.pointer (some ⟨b, 0, none⟩)] W fun e w' => e = .returned (.int .i64 er) ∧ Kn w w' b d' := by
  have h0 := h
  obtain ⟨F, h1, h2, h3⟩ := h
  have hc := pd_flush W F b d h1
  rw [hr, hd] at hc
  exact hc.mono fun e w' hp => ⟨hp.1, h0.done F h2 hp⟩
theorem Kn.crash (h : Kn w W b d) (A : Option Addr) (cap : Nat) (picks : List Int) (hs : Shows W W.heap.size A picks.length (nums picks)) (hpc : picks.length ≤ 1000000) (hpk : ∀ F, PD W F b d → ∀ p : Addr, A = some p → 0 < picks.length → ¬ F p.block) (hd : crashD d picks = d') :
    Calls Try.prog 11 #[.pointer (some ⟨b, 0, none⟩), .slice A picks.length cap] W fun e w' => e = .returned (.int .i64 0) ∧ Kn w w' b d' := by
  have h0 := h
  obtain ⟨F, h1, h2, h3⟩ := h
  have hc := pd_crash W F b d h1 A cap picks hs hpc (hpk F h1)
  rw [hd] at hc
  exact hc.mono fun e w' hp => ⟨hp.1, h0.done F h2 hp⟩
theorem Kn.read (h : Kn w W b d) (n : Int) (c : UInt8) (hr : rdR d n = er) (hd : rdC d n = c) :
    Calls Try.prog 16 #[.pointer (some ⟨b, 0, none⟩), .int .i64 n] W fun e w' => e = .returned (.tuple #[.agg (sec c).toArray, .int .i64 er]) ∧ Kn w w' b d := by
  have h0 := h
  obtain ⟨F, h1, h2, h3⟩ := h
  have hc := pd_read W F b d h1 n
  rw [hr, hd] at hc
  exact hc.mono fun e w' hp => ⟨hp.1, h0.below hp.2⟩
theorem Kn.full (h : Kn w W b d) (c : UInt8) : Calls Try.prog 24 #[.int .u8 (c.toNat : Int)] W fun e w' => e = .returned (.agg (sec c).toArray) ∧ Kn w w' b d :=
  (full_sec c W).mono fun e w' hp => ⟨hp.1, h.below hp.2⟩
end
theorem Kn.new (n : Nat) (w : World) (h : 1 ≤ n ∧ n ≤ 8192) : Calls Try.prog 18 #[.int .i64 n] w fun e w' => ∃ b, e = .returned (.tuple #[.pointer (some ⟨b, 0, none⟩), .int .i64 0]) ∧ Kn w w' b (newD n) :=
  (pnew_any n w h).mono fun e w' ⟨b, F, he, h1, h2, h3⟩ => ⟨b, he, F, h1, h2, h3⟩

def k1 : RD := ⟨[[0, 120]], -1, false⟩
def k2 : RD := ⟨[[120]], -1, false⟩
def k3 : RD := ⟨[[120, 121]], -1, false⟩
def k4 : RD := ⟨[[120, 121, 122]], -1, false⟩
def k5 : RD := ⟨[[121]], -1, false⟩
theorem k1_eq : wrD (newD 1) 0 120 = k1 ∧ wrR (newD 1) 0 = 0 := ⟨by kernel_rfl, by kernel_rfl⟩
theorem k2_eq : flD k1 = k2 ∧ flR k1 = 0 := ⟨by kernel_rfl, by kernel_rfl⟩
theorem k3_eq : wrD k2 0 121 = k3 ∧ wrR k2 0 = 0 := ⟨by kernel_rfl, by kernel_rfl⟩
theorem k4_eq : wrD k3 0 122 = k4 ∧ wrR k3 0 = 0 := ⟨by kernel_rfl, by kernel_rfl⟩
theorem k5_eq : crashD k4 [1] = k5 := by kernel_rfl
theorem k6_eq : rdC k5 0 = 121 ∧ rdR k5 0 = 0 := ⟨by kernel_rfl, by kernel_rfl⟩
theorem one_len (l : List UInt8) (h : l.length < 1000000) (i : Nat) (hi : i < [l].length) : ([l][i]).length < 1000000 := by
  have : i = 0 := by simp at hi; omega
  subst this
  exact h

set_option maxRecDepth 10000 in
set_option maxHeartbeats 2000000 in
theorem known_any (w : World) : Calls Try.prog 7 #[] w fun e w' => e = .returned (.bool true) ∧ Below w.heap.size w w' := by
  have hzv := zero_sector
  have HNW : Hid (Calls Try.prog 18 #[.int .i64 1] w fun e w' => ∃ b, e = .returned (.tuple #[.pointer (some ⟨b, 0, none⟩), .int .i64 0]) ∧ Kn w w' b (newD 1)) := Kn.new 1 w (by omega)
  go_enter Try.func7, Try.ntmps7
  go_wp2_with fail
  refine HNW.out.mono ?_
  rintro e w1 ⟨b, rfl, h1⟩
  have H1 := Lib.hid h1
  clear h1 HNW
  go_wp2_with fail
  refine (num_any _ _).mono ?_
  rintro e w' ⟨rfl, rfl⟩
  go_wp2_with fail
  have hf : Calls Try.prog 24 #[.int .u8 120] w1 fun e w' => e = .returned (.agg (sec 120).toArray) ∧ Kn w w' b (newD 1) := H1.out.full 120
  refine hf.mono ?_
  rintro e w2 ⟨rfl, h2⟩
  have H2 := Lib.hid h2
  clear hf h2 H1
  go_wp2_with fail
  refine (H2.out.write 0 120 (fun i hi => by simp [newD]) k1_eq.2 k1_eq.1).mono ?_
  rintro e w3 ⟨rfl, h3⟩
  have H3 := Lib.hid h3
  clear h3 H2
  go_wp2_with fail
  refine (num_any _ _).mono ?_
  rintro e w' ⟨rfl, rfl⟩
  go_wp2_with fail
  refine (H3.out.flush k2_eq.2 k2_eq.1).mono ?_
  rintro e w4 ⟨rfl, h4⟩
  have H4 := Lib.hid h4
  clear h4 H3
  go_wp2_with fail
  refine (num_any _ _).mono ?_
  rintro e w' ⟨rfl, rfl⟩
  go_wp2_with fail
  have hf : Calls Try.prog 24 #[.int .u8 121] w4 fun e w' => e = .returned (.agg (sec 121).toArray) ∧ Kn w w' b k2 := H4.out.full 121
  refine hf.mono ?_
  rintro e w5 ⟨rfl, h5⟩
  have H5 := Lib.hid h5
  clear hf h5 H4
  go_wp2_with fail
  refine (H5.out.write 0 121 (fun i hi => one_len _ (by decide) i hi) k3_eq.2 k3_eq.1).mono ?_
  rintro e w6 ⟨rfl, h6⟩
  have H6 := Lib.hid h6
  clear h6 H5
  go_wp2_with fail
  refine (num_any _ _).mono ?_
  rintro e w' ⟨rfl, rfl⟩
  go_wp2_with fail
  have hf : Calls Try.prog 24 #[.int .u8 122] w6 fun e w' => e = .returned (.agg (sec 122).toArray) ∧ Kn w w' b k3 := H6.out.full 122
  refine hf.mono ?_
  rintro e w7 ⟨rfl, h7⟩
  have H7 := Lib.hid h7
  clear hf h7 H6
  go_wp2_with fail
  refine (H7.out.write 0 122 (fun i hi => one_len _ (by decide) i hi) k4_eq.2 k4_eq.1).mono ?_
  rintro e w8 ⟨rfl, h8⟩
  have H8 := Lib.hid h8
  clear h8 H7
  go_wp2_with fail
  refine (num_any _ _).mono ?_
  rintro e w' ⟨rfl, rfl⟩
  go_wp2_with fail
  have hb9 := (Below.refl w8.heap.size w8).alloc (Nat.le_refl _) (.cells #[.int .i64 1] 3)
  have hsz9 : (w8.alloc (.cells #[.int .i64 1] 3)).heap.size = w8.heap.size + 1 := by simp
  have hcr := (H8.out.below hb9).crash (some ⟨w8.heap.size, 0, none⟩) 1 [1] (by rw [hsz9]; exact shows_new w8 #[.int .i64 1] 3) (by simp) (fun F hF p hp _ => by
    injection hp with hp
    subst hp
    exact kind_not hF (heap_alloc_new w8 _) (by decide) (by decide)) k5_eq
  have HCR : Hid (Calls Try.prog 11 #[.pointer (some ⟨b, 0, none⟩), .slice (some ⟨w8.heap.size, 0, none⟩) 1 1] (w8.alloc (.cells #[.int .i64 1] 3)) fun e w' => e = .returned (.int .i64 0) ∧ Kn w w' b k5) := hcr
  clear hb9 hsz9 hcr H8
  refine HCR.out.mono ?_
  rintro e w9 ⟨rfl, h9⟩
  have H9 := Lib.hid h9
  clear h9 HCR
  go_wp2_with fail
  refine (num_any _ _).mono ?_
  rintro e w' ⟨rfl, rfl⟩
  go_wp2_with fail
  refine (H9.out.read 0 121 k6_eq.2 k6_eq.1).mono ?_
  rintro e w10 ⟨rfl, h10⟩
  have H10 := Lib.hid h10
  clear h10 H9
  go_wp2_with (first
    | refine wpList_store_row rfl 38 (.tmp 3) (.tmp 43) rfl w10.heap.size (sec 121).toArray rfl rfl 38 (cells8 (fullN 0 0)).toArray (heap_alloc_new w10 _) (by rw [sector_sz 121]; simp) (by rw [size8, fullN_len 0 0 (by omega), List.size_toArray, sec_len]) (all_oneCell_toArray (sec_one _)) ?_
    | fail)
  rw [World.setRow_alloc_new]
  have hb11 := (Below.refl w10.heap.size w10).alloc (Nat.le_refl _) (.cells (sec 121).toArray 38)
  have h11 := H10.out.below hb11
  have hnew := heap_alloc_new w10 (.cells (sec 121).toArray 38)
  have hqlt : w10.heap.size < (w10.alloc (.cells (sec 121).toArray 38)).heap.size := by simp
  have H11 := Lib.hid h11
  have HNEW := Lib.hid hnew
  clear hb11 h11 hnew H10
  generalize w10.alloc (.cells (sec 121).toArray 38) = w11 at *
  generalize w10.heap.size = q at *
  have hkeep : ∀ W, Below w11.heap.size w11 W → W.rangeAt q 0 (sec 121) := fun W hW j u hu => by
    rw [cell_of_row _ _ _ _ _ _ ((hW.block q hqlt).trans HNEW.out), Nat.zero_add, List.getElem?_toArray]
    exact hu
  have hbd : Below w11.heap.size w11 w11.drew := (Below.refl _ _).drew
  have HS0 := Lib.hid (hkeep _ hbd)
  have hfu : Calls Try.prog 24 #[.int .u8 121] w11.drew fun e w' => e = .returned (.agg (sec 121).toArray) ∧ w'.rangeAt q 0 (sec 121) ∧ Hid (Below w11.heap.size w11 w') :=
    (full_sec 121 w11.drew).mono fun e w' ⟨he, hb⟩ => ⟨he, hkeep _ (hbd.trans hb), hbd.trans hb⟩
  have HFU := Lib.hid hfu
  clear hkeep hbd hfu
  have hu := sector_u
  have z1 := sector_sz 121
  have n1 : ∀ w : World, (binOp .eql 38 (.agg (sec 121).toArray) (.agg (sec 121).toArray)).run Try.prog w = .ok (.bool true) w := fun w => by rw [eql_sec]; rfl
  go_region_held_law (fun w' => w'.rangeAt q 0 (sec 121))
    (first | with_reducible exact HS0.out | with_reducible exact hSa)
    (first
      | (go_at_call 24; (with_reducible refine HFU.out.mono ?_); rintro e wa ⟨rfl, hSa, hba⟩)
      | (go_at_call 19; (with_reducible refine (num_any _ _).mono ?_); rintro e wc ⟨rfl, rfl⟩))
  have hend := H11.out.b.trans (hba.out.mono H11.out.b.size)
  clear hSa hba
  go_wp2
  go_ret
  exact ⟨rfl, hend⟩
end Go.Proofs.Ytdcfplfeagpcdaa
