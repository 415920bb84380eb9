/- The program's disk: a sector that lasts is stored; the map is cleared. -/
import Derived.Test.YtmfcbndgambfmaaDoorQj
namespace Go.Proofs.YtmfcbndgambfmaaDoor.Q
open Go.RowKit
open Go.ChangeMaps Go.MapKept
open Go.WideElems (Fit rd rg)

theorem setCells_row {w : World} {g o : Nat} {vs : List Value} {cur : Array Value} {t : TypeId} (hg : w.heap[g]? = some (.cells cur t (0, 0))) (hl : o + vs.length ≤ cur.size) (h1 : ∀ u ∈ vs, u.oneCell' = true) :
    w.setCells g o vs = w.setRow g (cur.toList.take o ++ vs ++ cur.toList.drop (o + vs.length)).toArray := by
  have a := run_storeCells_cells (P := Tryd.prog) g o vs 0 w (fun j hj => by rw [cell_of_row w g _ cur t (0, 0) hg, Nat.add_zero, Array.getElem?_eq_getElem (by omega)]; rfl) (fun j hj => frozen_of_row w g _ cur t hg) h1
  have b := run_storeCells_at Tryd.prog g o t vs 0 cur w hg (by omega) h1
  rw [a] at b
  simp only [Nat.add_zero] at b
  injection b
theorem LRow.set {w : World} {g n cap : Nat} {l : List SB} (h : LRow w (.slice (some ⟨g, 0, none⟩) n cap) l) (i : Nat) (hi : i < l.length) (c : SB) : LRow (w.setCells g (i * 64) (sec c)) (.slice (some ⟨g, 0, none⟩) n cap) (l.set i c) ∧ w.grownBy (w.setCells g (i * 64) (sec c)) (some g) := by
  obtain ⟨g', cap', cur, hL, hg, hc1, hc2, hc3, hc4⟩ := h
  injection hL with e1 e2 e3
  injection e1 with e1
  injection e1 with e1
  subst e1
  subst e2
  subst e3
  have he := setCells_row hg (o := i * 64) (vs := sec c) (by rw [sec_len]; omega) (sec_one c)
  rw [he]
  refine ⟨⟨g, cap, _, by rw [List.length_set], setRow_heap w g cur _ _ _ hg, by rw [List.length_set]; exact hc1, hc2, ?_, ?_⟩, ⟨rfl, rfl, rfl, by simp, fun k _ hk => setRow_other w g k _ (fun e => hk (by rw [e]))⟩⟩
  · rw [List.length_set, List.size_toArray]
    simp only [List.length_append, List.length_take, List.length_drop, sec_len, Array.length_toList]
    omega
  · rw [List.length_set]
    obtain ⟨R, hR⟩ : ∃ R, cur.toList = secs l ++ R := ⟨cur.toList.drop (l.length * 64), by rw [← hc4, List.take_append_drop]⟩
    have hsl := secs_len l
    have e1 : cur.toList.take (i * 64) = (secs l).take (i * 64) := by rw [hR, List.take_append_of_le_length (by omega)]
    have e2 : cur.toList.drop (i * 64 + 64) = (secs l).drop (i * 64 + 64) ++ R := by rw [hR, List.drop_append_of_le_length (by omega)]
    rw [sec_len, e1, e2, List.append_assoc, ← List.append_assoc (sec c), ← List.append_assoc, secs_set l i c hi]
    rw [show l.length * 64 = (secs (l.set i c)).length by rw [secs_len, List.length_set]]
    exact List.take_left

def headD (d : RD) (i : Nat) (c : SB) : RD := { d with s := d.s.set i (c :: (d.s.getD i []).tail) }
theorem head_same (s : List (List SB)) (i : Nat) (hi : i < s.length) (c : SB) (hp : 0 < s[i].length) (j : Nat) (hj : j < (s.set i (c :: s[i].tail)).length) : ∃ h : j < s.length, ((s.set i (c :: s[i].tail))[j]).length = s[j].length ∧ ((s.set i (c :: s[i].tail))[j]).tail = s[j].tail := by
  rcases set_at s i j _ hj hi with ⟨rfl, e⟩ | ⟨_, h1, e⟩
  · refine ⟨hi, ?_, by rw [e]; rfl⟩
    rw [e, List.length_cons, List.length_tail]; omega
  · exact ⟨h1, by rw [e], by rw [e]⟩
theorem PMap.head {w : World} {m : Nat} {s : List (List SB)} {D : DataW Value} {X : Nat → Value} (h : PMap w m s D X) (i : Nat) (hi : i < s.length) (c : SB) : PMap w m (s.set i (c :: s[i].tail)) D X := by
  have hp := (h.pos i hi).1
  have hl : (s.set i (c :: s[i].tail)).length = s.length := List.length_set ..
  refine ⟨by rw [hl]; exact h.own, fun kl hk => by rw [hl]; exact h.dom kl hk, fun j hj => ?_, fun j hj => h.at_ j (by rw [← hl]; exact hj), fun j hj => ?_, fun j hj => ?_, fun j k hj hk => h.apart j k (by rw [← hl]; exact hj) (by rw [← hl]; exact hk)⟩
  · obtain ⟨h1, e1, e2⟩ := head_same s i hi c hp j hj
    rw [e1]; exact h.has_ j h1
  · obtain ⟨h1, e1, e2⟩ := head_same s i hi c hp j hj
    rw [e1]; exact h.pos j h1
  · obtain ⟨h1, e1, e2⟩ := head_same s i hi c hp j hj
    rw [e1, e2]; exact h.row j h1
theorem PDisk.head {w : World} {b m g n cap : Nat} {D : DataW Value} {X : Nat → Value} {d : RD} (h : PDisk w b (.slice (some ⟨g, 0, none⟩) n cap) m D X d) (i : Nat) (hi : i < d.s.length) (c : SB) :
    PDisk (w.setCells g (i * 64) (sec c)) b (.slice (some ⟨g, 0, none⟩) n cap) m D X (headD d i c) ∧ w.grownBy (w.setCells g (i * 64) (sec c)) (some g) := by
  obtain ⟨hl, hg⟩ := h.last.set i (by rw [List.length_map]; exact hi) c
  have hget : d.s.getD i [] = d.s[i] := by simp [List.getD, hi]
  have hlen : (headD d i c).s.length = d.s.length := by simp [headD]
  have hbl : ∀ k, k < w.heap.size → k ≠ g → (w.setCells g (i * 64) (sec c)).heap[k]? = w.heap[k]? := fun k hk hne => hg.block k hk (fun e => hne (by injection e))
  refine ⟨⟨?_, ?_, ?_, ?_, by rw [hlen]; exact h.n0, by rw [hlen]; exact h.n1, h.fz⟩, hg⟩
  · rw [hbl b h.lt (fun e => h.b_last (by rw [e]; rfl))]
    exact h.disk
  · have e : (headD d i c).s.map (·.headD 0) = (d.s.map (·.headD 0)).set i c := by
      simp only [headD, hget]
      rw [List.map_set]
      rfl
    rw [e]
    exact hl
  · have hm := h.map.head i hi c
    have e : (headD d i c).s = d.s.set i (c :: d.s[i].tail) := by simp only [headD, hget]
    rw [e]
    exact hm.on (hbl m h.map.own.lt (fun e => h.m_last (by rw [e]; rfl))) (fun j hj k hk => by
      have hj' : j < d.s.length := by simpa using hj
      exact hbl k (h.kind (.inr (.inr (.inr ⟨j, hj', hk⟩)))).lt (fun e => h.off j hj' k hk (by rw [e]; rfl)))
  · intro j hj; exact h.off j (by rw [← hlen]; exact hj)

theorem run_clear {w : World} {m n : Nat} {D : DataW Value} (h : w.ownsMap Tryd.prog 3 rawE m n D) (ty : TypeId) :
    ∃ w', (Builtin.clear_ #[52] ty #[.map (some m)]).run Tryd.prog w = .ok (.tuple #[]) w' ∧ w'.ownsMap Tryd.prog 3 rawE m 0 (.map []) ∧ w.grownBy w' (some m) := by
  obtain ⟨es, clock, hb, F, hs, rfl⟩ := h
  refine ⟨setBlock w m (.map #[] clock), ?_, ⟨#[], clock, heap_setBlock_same hb _, ⟨by simp, stamped_empty _, by simp⟩, Nat.le_refl _, rfl⟩, ⟨rfl, rfl, rfl, by simp [setBlock], fun i _ hi => heap_setBlock_other hb _ (fun e => hi (by rw [e]))⟩⟩
  have hs' := MapKept.run_setObj_map (.map #[] clock) hb (P := Tryd.prog)
  have hgo := MapKept.run_getObj_map hb (P := Tryd.prog)
  simp [Builtin.clear_, run_underlying Tryd.underlying52, hgo, Result.andThen, hs']
  rfl
theorem wpList_builtin_run {P : Program} (w : World) {ops : Array Oper} {rest : List Oper} {o : Oper} {a : Act} {Q : Exit → Act → World → Prop} (hgd : o.guard = none) (s : Operand) (t : TypeId)
    (ho : o.op = .call { callee := .builtin .clear, args := #[s], argTypes := #[t] }) (vs : Value) (hs : a.eval s = vs)
    (v' : Value) (w' : World) (hr : (Builtin.clear_ #[t] o.type #[vs]).run P w = .ok v' w') (h : wpList P ops Q rest (a.put o.dst v') w') : wpList P ops Q (o :: rest) a w := by
  refine wpList_plain hgd fun K hK => ?_
  unfold Oper.wp execOp
  simp only [ho, resolve, invoke, builtin, Sem.run_bind, Sem.run_pure, Result.andThen_ok, List.map_toArray, List.map_cons, List.map_nil, hs, hr]
  exact hK _ _ h

/-- each past settled to its first -/
def heads (d : RD) : RD := { d with s := d.s.map fun p => [p.headD 0] }
theorem PDisk.cleared {w w' : World} {b m : Nat} {L : Value} {D : DataW Value} {X : Nat → Value} {d : RD} (h : PDisk w b L m D X d) (hm : w'.ownsMap Tryd.prog 3 rawE m 0 (.map [])) (hg : w.grownBy w' (some m)) :
    PDisk w' b L m (.map []) (fun _ => nilS) (heads d) := by
  have hbl : ∀ k, k < w.heap.size → k ≠ m → w'.heap[k]? = w.heap[k]? := fun k hk hne => hg.block k hk (fun e => hne (by injection e))
  have hlen : (heads d).s.length = d.s.length := by simp [heads]
  refine ⟨?_, ?_, PMap.empty hm (fun i hi => by simp [heads]) (Nat.zero_le _), (fun i _ k hk => by cases hk), by rw [hlen]; exact h.n0, by rw [hlen]; exact h.n1, h.fz⟩
  · rw [hbl b h.lt (fun e => h.b_m e.symm)]
    exact h.disk
  · have e : (heads d).s.map (·.headD 0) = d.s.map (·.headD 0) := by simp [heads]
    rw [e]
    exact h.last.on (fun k hk => hbl k (h.kind (.inr (.inr (.inl hk)))).lt (fun e => h.m_last (by rw [hk, e])))
end Go.Proofs.YtmfcbndgambfmaaDoor.Q
