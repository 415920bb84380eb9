/- append of noughts (append-of-make) to a row of ints of one's own. -/
import Derived.Test.YtdcfplfeagpcdaaHa
import Derived.Lib.AppendZerosOnto
set_option linter.unusedVariables false
namespace Go.Proofs.Ytdcfplfeagpcdaa
open Go.RowKit

theorem zero_ints (k : Nat) : Builtin.zeroCells #[.int .i64 0] k = (List.replicate k (.int .i64 0)).toArray := by
  apply Array.ext
  · simp [Builtin.zeroCells]
  · intro i h1 h2
    simp [Builtin.zeroCells, Nat.mod_one]
set_option maxRecDepth 100000 in
theorem append_zeros (w : World) (base : Nat) (A : Option Addr) (n cap : Nat) (xs : List Value) (ty : TypeId) (hown : w.ownsRow base 3 1 (.slice A n cap) n xs) (k : Nat) (hk : k ≤ 100000) (hn : n ≤ 100000) (hbase : base ≤ w.heap.size) :
    ∃ v w', (Builtin.append_ #[23, 3] ty #[.slice A n cap, .int .i64 (k : Int)]).run Try.prog w = .ok v w' ∧ w'.ownsRow base 3 1 v (n + k) (xs ++ List.replicate k (.int .i64 0)) ∧ w.grownBy w' (Value.ownBlock (.slice A n cap)) := by
  obtain ⟨i0, hi, hz, hs, hb⟩ := info_parts int_info
  have ht := Try.underlying23
  have htn := Try.underlying3
  have hw : IntKind.i64.wrap (k : Int) = k := by rw [IntKind.wrap_i64]; omega
  have hw0 : IntKind.i64.wrap 0 = 0 := by rw [IntKind.wrap_i64]; omega
  have hneg : ¬ ((k : Int) < 0) := by omega
  have h48 : ¬ (281474976710656 < (k : Int) * (i0.bytes : Int)) := by rw [hb]; omega
  have hlen : (xs ++ List.replicate k (Value.int .i64 0)).length = (n + k) * 1 := by rw [List.length_append, hown.1, List.length_replicate]; omega
  by_cases hroom : n + k ≤ cap
  · rcases hown.2 with ⟨h, rfl⟩ | ⟨g, cap', cur, h, hbg, hg, hnc, hcm, hcs, htake⟩
    · injection h with h1 h2 h3
      subst h1
      subst h3
      obtain rfl : k = 0 := by omega
      refine ⟨.slice none 0 0, w, ?_, ?_, ⟨rfl, rfl, rfl, Nat.le_refl _, fun _ _ _ => rfl⟩⟩
      · simp [Builtin.append_, run_underlying ht, run_underlying htn, sizeOf, typeInfo, hi, asInt, asIntOf, hw0, hb]
      · simpa using hown
    · injection h with h1 h2 h3
      subst h1
      subst h3
      have hst := run_storeCells_at Try.prog g n 3 (List.replicate k (.int .i64 0)) 0 cur w hg (by simp [hcs]; omega) (by intro v hv; rw [List.eq_of_mem_replicate hv]; rfl)
      simp only [Nat.add_zero] at hst
      refine ⟨_, w.setRow g (cur.toList.take n ++ List.replicate k (Value.int .i64 0) ++ cur.toList.drop (n + k)).toArray, ?_, ⟨hlen, .inr ⟨g, cap, _, rfl, hbg, setRow_heap w g cur _ _ _ hg, hroom, hcm, ?_, ?_⟩⟩, ⟨rfl, rfl, rfl, by simp, fun j _ hj => setRow_other w g j _ (fun e => hj (by simp [e, Value.ownBlock]))⟩⟩
      · by_cases hk0 : k = 0
        · subst hk0
          simp [Builtin.append_, run_underlying ht, run_underlying htn, sizeOf, typeInfo, zeroValue, hi, hz, hb, asInt, asIntOf, hw0, Addr.add_lit, storeCells, hnc] at hst ⊢
          exact hst
        · have hns : ¬ (k * i0.size = 0) := by rw [hs]; omega
          simp [Builtin.append_, run_underlying ht, run_underlying htn, sizeOf, typeInfo, zeroValue, hi, hz, hs, asInt, asIntOf, hw, hneg, h48, hroom, Addr.add_lit, Value.cells, zero_ints, hk0, hst]
      · simp only [List.size_toArray, List.length_append, List.length_take, List.length_drop, Array.length_toList, List.length_replicate]
        omega
      · have e : cur.toList.take n = xs := by rw [← htake, Nat.mul_one]
        rw [e, ← hlen]
        exact List.take_left
  · have hk0 : 0 < k := by
      rcases Nat.eq_zero_or_pos k with h | h
      · subst h
        rcases hown.2 with ⟨h, rfl⟩ | ⟨g, cap', cur, h, hbg, hg, hnc, hcm, hcs, htake⟩
        · injection h with h1 h2 h3; omega
        · injection h with h1 h2 h3; omega
      · exact h
    have hold : (Builtin.firstCells i0.size n (.slice A n cap)).run Try.prog w.drew = .ok xs.toArray w.drew := by
      rcases hown.2 with ⟨h, rfl⟩ | ⟨g, cap', cur, h, hbg, hg, hnc, hcm, hcs, htake⟩
      · injection h with h1 h2 h3
        subst h1
        have : xs = [] := List.length_eq_zero_iff.1 (by rw [hown.1])
        subst this
        exact run_firstCells_none (P := Try.prog) w.drew i0.size 0 0 cap
      · injection h with h1 h2 h3
        subst h1
        rw [hs]
        exact run_firstCells_some (P := Try.prog) w.drew 1 n ⟨g, 0, none⟩ n cap xs hown.1 (fun j v hv => by
          have hc := hown.cells (g := g) rfl j v hv
          exact hc)
    have hr := Lib.run_append_grow_zeros (P := Try.prog) w 23 3 ty 3 i0 _ .i64 .i64 ht htn hi hz A n cap xs hold k hk0 (by rw [hs]; omega) (by omega) (by omega) (by rw [hb]; omega) (by
      rw [hb]
      have := nextslicecap_le (need := n + k) (old := cap) (by omega)
      omega)
    refine ⟨_, _, hr, ⟨hlen, .inr ⟨w.heap.size, _, _, rfl, hbase, heap_alloc_new w.drew _, grownCap_ge w (n + k) cap 3, grownCap_le_maxLen w (n + k) cap 3 (by unfold maxLen; omega), ?_, ?_⟩⟩, ⟨rfl, rfl, rfl, by simp, fun j hj _ => heap_alloc_old w.drew _ hj⟩⟩
    · have hge := grownCap_ge w (n + k) cap 3
      have hl1 := hown.1
      simp only [Array.size_append, List.size_toArray, size_zeroCells, Value.cells, Nat.mul_one] at *
      simp
      omega
    · simp only [Value.cells, zero_ints, Array.toList_append, List.append_assoc]
      rw [← List.append_assoc, ← hlen]
      exact List.take_left
end Go.Proofs.Ytdcfplfeagpcdaa
