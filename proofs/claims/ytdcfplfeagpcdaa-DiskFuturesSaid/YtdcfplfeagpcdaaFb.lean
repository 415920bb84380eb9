/- A step: what it answers and what it leaves; the document's Do in one form. -/
import Derived.Test.YtdcfplfeagpcdaaFa
set_option linter.unusedVariables false
namespace Go.Proofs.Ytdcfplfeagpcdaa
open Go.RowKit

def stR (d : RD) (x : ST) : Int := if x.kind = 1 then wrR d x.n else if x.kind = 2 then flR d else if x.kind = 3 then fuR x.n else if x.kind = 4 then 0 else if x.kind = 5 then grR d x.n else if x.kind = 6 then rdR d x.n else 0
def stD (d : RD) (x : ST) : RD := if x.kind = 1 then wrD d x.n x.fill else if x.kind = 2 then flD d else if x.kind = 3 then fuD d x.n else if x.kind = 4 then crashD d x.picks else if x.kind = 5 then grD d x.n else d
/-- a step of the document's disk -/
def RDone (w : World) (base b : Nat) (v : Value) (er : Int) (d' : RD) (e : Ending) (w' : World) : Prop :=
  e = .returned (.int .i64 er) ∧ (∃ v', RDisk w' base b v' d' ∧ (v'.ownBlock = v.ownBlock ∨ ∃ k, v'.ownBlock = some k ∧ w.heap.size ≤ k)) ∧ Own2 w w' b v
theorem bool_ne {a b : Int} (h : a ≠ b) : (a == b) = false := by simpa using h

theorem rdo_all (w : World) (base b : Nat) (v : Value) (d : RD) (h : RDisk w base b v d) (x : ST) (A : Option Addr) (cap : Nat) (hf : -1 ≤ d.fuse ∧ d.fuse ≤ 9223372036854775807) (hbase : base ≤ w.heap.size) (hL : d.s.length ≤ 8192) (hl : ∀ i (hi : i < d.s.length), d.s[i].length < 1000000)
    (B : Nat) (hB0 : B ≤ base) (hp : Shows w B A x.picks.length (nums x.picks)) (hpc : x.picks.length ≤ 1000000) :
    Calls Try.prog 25 #[.pointer (some ⟨b, 0, none⟩), .agg (stCells x A cap)] w (RDone w base b v (stR d x) (stD d x)) := by
  have hL' : d.s.length ≤ 100000 := by omega
  have hth : x.n < 0 ∨ (0 ≤ x.n ∧ x.n < (d.s.length : Int)) ∨ (d.s.length : Int) ≤ x.n := by omega
  unfold stR stD
  by_cases k1 : x.kind = 1
  · rw [if_pos k1, if_pos k1]
    unfold wrR wrD
    rcases hth with ht | ht | ht
    · rw [if_neg (fun h => by have := h.1; omega), if_neg (fun h => by have := h.1; omega)]
      exact do_write_no_neg w base b v d h x A cap k1 ht
    · have ht' : thereN d x.n := ht
      rw [if_pos ht', if_pos ht']
      cases hm : movesB d with
      | true =>
        rw [if_pos rfl, if_pos rfl]
        exact do_write_in w base b v d h x A cap k1 hf hbase hm x.n.toNat (by omega) (by omega) (hl _ (by omega)) ht
      | false =>
        rw [if_neg (by simp), if_neg (by simp)]
        exact do_write_dead_in w base b v d h x A cap k1 hf hm ht
    · rw [if_neg (fun h => by have := h.2; omega), if_neg (fun h => by have := h.2; omega)]
      exact do_write_no_out w base b v d h x A cap k1 ht
  rw [if_neg k1, if_neg k1]
  by_cases k2 : x.kind = 2
  · rw [if_pos k2, if_pos k2]
    unfold flR flD
    cases hm : movesB d with
    | true =>
      rw [if_pos rfl, if_pos rfl]
      rcases hth with ht | ht | ht
      · exact do_flush_neg w base b v d h x A cap k2 hf hbase hL' hm ht
      · exact do_flush_in w base b v d h x A cap k2 hf hbase hL' hm ht
      · exact do_flush_out w base b v d h x A cap k2 hf hbase hL' hm ht
    | false =>
      rw [if_neg (by simp), if_neg (by simp)]
      rcases hth with ht | ht | ht
      · exact do_flush_no_neg w base b v d h x A cap k2 hf hm ht
      · exact do_flush_no_in w base b v d h x A cap k2 hf hm ht
      · exact do_flush_no_out w base b v d h x A cap k2 hf hm ht
  rw [if_neg k2, if_neg k2]
  by_cases k3 : x.kind = 3
  · rw [if_pos k3, if_pos k3]
    unfold fuR fuD
    rcases hth with ht | ht | ht
    · rw [if_pos ht, if_pos ht]
      exact do_fuse_neg w base b v d h x A cap k3 ht
    · rw [if_neg (by omega), if_neg (by omega)]
      exact do_fuse_in w base b v d h x A cap k3 ht
    · rw [if_neg (by omega), if_neg (by omega)]
      exact do_fuse_out w base b v d h x A cap k3 ht
  rw [if_neg k3, if_neg k3]
  by_cases k4 : x.kind = 4
  · rw [if_pos k4, if_pos k4]
    rcases hth with ht | ht | ht
    · exact do_crash_neg w base b v d h x A cap k4 hbase hL' B hB0 hp hpc ht
    · exact do_crash_in w base b v d h x A cap k4 hbase hL' B hB0 hp hpc ht
    · exact do_crash_out w base b v d h x A cap k4 hbase hL' B hB0 hp hpc ht
  rw [if_neg k4, if_neg k4]
  by_cases k5 : x.kind = 5
  · rw [if_pos k5, if_pos k5]
    unfold grR grD
    rcases hth with ht | ht | ht
    · rw [if_pos (by omega), if_pos (by omega)]
      exact do_grow_neg w base b v d h x A cap k5 ht
    · rw [if_pos (by omega), if_pos (by omega)]
      exact do_grow_in w base b v d h x A cap k5 ht
    · by_cases hb : 8192 < x.n
      · rw [if_pos (by omega), if_pos (by omega)]
        exact do_grow_big_out w base b v d h x A cap k5 hb ht
      · have hc : ¬ (x.n < (d.s.length : Int) ∨ 8192 < x.n) := by omega
        rw [if_neg hc, if_neg hc]
        cases hd : d.dead with
        | true =>
          rw [if_pos rfl, if_pos rfl]
          exact do_grow_dead_out w base b v d h x A cap k5 (by omega) hd ht
        | false =>
          rw [if_neg (by simp), if_neg (by simp)]
          exact do_grow_more_out w base b v d h x A cap k5 (by omega) hd hbase ht
  rw [if_neg k5, if_neg k5]
  by_cases k6 : x.kind = 6
  · rw [if_pos k6]
    unfold rdR
    rcases hth with ht | ht | ht
    · rw [if_neg (fun h => by have := h.1; omega)]
      exact do_read_neg w base b v d h x A cap k6 ht
    · have ht' : thereN d x.n := ht
      rw [if_pos ht']
      exact do_read_in w base b v d h x A cap k6 ht
    · rw [if_neg (fun h => by have := h.2; omega)]
      exact do_read_out w base b v d h x A cap k6 ht
  rw [if_neg k6]
  rcases hth with ht | ht | ht
  · exact do_none_neg w base b v d h x A cap (bool_ne k1) (bool_ne k2) (bool_ne k3) (bool_ne k4) (bool_ne k5) (bool_ne k6) ht
  · exact do_none_in w base b v d h x A cap (bool_ne k1) (bool_ne k2) (bool_ne k3) (bool_ne k4) (bool_ne k5) (bool_ne k6) ht
  · exact do_none_out w base b v d h x A cap (bool_ne k1) (bool_ne k2) (bool_ne k3) (bool_ne k4) (bool_ne k5) (bool_ne k6) ht

/-- a disk that is as it may be, with no more than n versions of any sector -/
structure Fine (d : RD) (n : Nat) : Prop where
  n0 : 0 < d.s.length
  n1 : d.s.length ≤ 8192
  fz : -1 ≤ d.fuse ∧ d.fuse ≤ 9223372036854775807
  ver : ∀ i (hi : i < d.s.length), d.s[i].length ≤ n
theorem movesD_n {d : RD} {n : Nat} (h : Fine d n) : Fine (movesD d) n := ⟨by rw [movesD_s]; exact h.n0, by rw [movesD_s]; exact h.n1, movesD_fuse d h.fz, fun i hi => by simp only [movesD_s]; exact h.ver i (by rw [movesD_s] at hi; exact hi)⟩
theorem Fine.le {d : RD} {n k : Nat} (h : Fine d n) (hk : n ≤ k) : Fine d k := ⟨h.n0, h.n1, h.fz, fun i hi => Nat.le_trans (h.ver i hi) hk⟩
theorem crashS_ver (s : List (List UInt8)) (l : List Nat) (picks : List Int) (n : Nat) (hn : 1 ≤ n) (h : ∀ i (hi : i < s.length), s[i].length ≤ n) : ∀ j i (hi : i < (crashS s l picks j).length), ((crashS s l picks j)[i]).length ≤ n := by
  intro j
  induction j with
  | zero => exact h
  | succ j ih =>
    intro i hi
    by_cases hk : l.getD j 0 < (crashS s l picks j).length
    · have hi2 : i < ((crashS s l picks j).set (l.getD j 0) [((crashS s l picks j).getD (l.getD j 0) []).getD (pickN picks j ((crashS s l picks j).getD (l.getD j 0) []).length) 0]).length := hi
      rcases set_at _ _ i _ hi2 hk with ⟨_, e⟩ | ⟨_, h3, e⟩
      · show (((crashS s l picks j).set _ _)[i]).length ≤ n
        rw [e]; exact hn
      · show (((crashS s l picks j).set _ _)[i]).length ≤ n
        rw [e]; exact ih i h3
    · have e : crashS s l picks (j + 1) = crashS s l picks j := by
        simp only [crashS]
        exact List.set_eq_of_length_le (by omega)
      simp only [e]
      exact ih i (by rw [e] at hi; exact hi)
theorem Fine.step {d : RD} {n : Nat} (h : Fine d n) (hn : 1 ≤ n) (x : ST) (hx : x.n ≤ 9223372036854775807) : Fine (stD d x) (n + 1) := by
  have h1 := h.le (Nat.le_succ n)
  unfold stD
  split
  · unfold wrD
    split
    · split
      · have h2 := movesD_n h
        refine ⟨by simp only [writeD, List.length_set]; exact h2.n0, by simp only [writeD, List.length_set]; exact h2.n1, h2.fz, fun i hi => ?_⟩
        rename_i ht _
        have hk : x.n.toNat < (movesD d).s.length := by rw [movesD_s]; have := ht.1; have := ht.2; omega
        rcases set_at _ _ i _ hi hk with ⟨e0, e⟩ | ⟨_, h3, e⟩
        · show (((movesD d).s.set _ _)[i]).length ≤ n + 1
          rw [e, List.length_append, getD_get _ _ hk]
          have := h2.ver _ hk
          simp only [List.length_singleton]
          omega
        · show (((movesD d).s.set _ _)[i]).length ≤ n + 1
          rw [e]; have := h2.ver i h3; omega
      · exact movesD_n h1
    · exact h1
  · split
    · unfold flD
      split
      · have h2 := movesD_n h1
        refine ⟨by simp only [flushD, List.length_map]; exact h2.n0, by simp only [flushD, List.length_map]; exact h2.n1, h2.fz, fun i hi => by simp [flushD]⟩
      · exact movesD_n h1
    · split
      · unfold fuD
        split
        · exact h1
        · refine ⟨h1.n0, h1.n1, ?_, h1.ver⟩
          show -1 ≤ x.n ∧ x.n ≤ _
          omega
      · split
        · refine ⟨by show 0 < (crashS d.s (openL d) x.picks _).length; rw [crashS_len]; exact h.n0, by show (crashS d.s (openL d) x.picks _).length ≤ 8192; rw [crashS_len]; exact h.n1, by show (-1 : Int) ≤ -1 ∧ (-1 : Int) ≤ _; omega, fun i hi => ?_⟩
          exact crashS_ver d.s (openL d) x.picks (n + 1) (by omega) h1.ver _ i hi
        · split
          · unfold grD
            split
            · exact h1
            · split
              · exact h1
              · rename_i h3 _
                have hl := moreD_len d (x.n.toNat - d.s.length)
                refine ⟨by rw [hl]; have := h.n0; omega, by rw [hl]; omega, h1.fz, fun i hi => ?_⟩
                rcases more_at d.s _ i hi with ⟨h4, e⟩ | ⟨h4, e⟩
                · show ((d.s ++ List.replicate _ [0])[i]).length ≤ n + 1
                  rw [e]; exact h1.ver i h4
                · show ((d.s ++ List.replicate _ [0])[i]).length ≤ n + 1
                  rw [e]; simp
          · exact h1
end Go.Proofs.Ytdcfplfeagpcdaa
