/- btree: a trial of a store: verdict, refuse. btree: a trial's map of what is named more often: its keys. btree: a trial's box: its parts are stored; refuse. btree: a trial's counts: looked up, and set by 'm[k]++'. btree: a trial: its box, what its fresh nodes say, its counts. btree: a trial's counts: 'm[k] op= v', whichever of its parts comes first. btree: a trial's add. btree: a trial's count. btree: a trial's New, and its Put. -/
import Derived.Test.YtoclhiaidbfheaaGreatDoorHb
import Derived.DeepKeys4
import Derived.WideKeyEntry
import Derived.Maps.OwnSet
import Derived.Test.YtoclhiaidbfheaaGreatDoorUm
section
set_option linter.unusedVariables false
namespace Go.Proofs.YtoclhiaidbfheaaGreatDoor.T
open Go.RowKit Q S

/-- a trial's cells: the store; how many blocks; room; what fresh nodes say; the next number; how often more; refused; full -/
def trA (p : Value) (mt dt : Nat) (rm : Int) (m1 nx m2 : Nat) (rf : Int) (fl : Bool) : Array Value := #[p, .int .u32 (mt : Int), .int .u32 (dt : Int), .int .i64 rm, .map (some m1), .int .u32 (nx : Int), .map (some m2), .int .i64 rf, .bool fl]
def TB (W : World) (b : Nat) (p : Value) (mt dt : Nat) (rm : Int) (m1 nx m2 : Nat) (rf : Int) (fl : Bool) : Prop := W.heap[b]? = some (.cells (trA p mt dt rm m1 nx m2 rf fl) 176 (0, 0))
section
variable {W : World} {b : Nat} {p : Value} {mt dt : Nat} {rm : Int} {m1 nx m2 : Nat}
theorem TB.below {W' : World} {rf : Int} {fl : Bool} (h : TB W b p mt dt rm m1 nx m2 rf fl) (hb : Below W.heap.size W W') : TB W' b p mt dt rm m1 nx m2 rf fl := (hb.block b (Array.getElem?_eq_some_iff.1 h).1).trans h
theorem TB.verdict (h : TB W b p mt dt rm m1 nx m2 0 false) (er : Int) : Calls Tryz.prog 86 #[.pointer (some ⟨b, 0, none⟩), .int .i64 er] W fun e w' => e = .returned (.int .i64 er) ∧ w' = W := by
  have h7 : W.cell? ⟨b, 7, none⟩ = some (.int .i64 0) := Joins.cell_of_block (i := 7) h
  have h8 : W.cell? ⟨b, 8, none⟩ = some (.bool false) := Joins.cell_of_block (i := 8) h
  clear h
  go_enter Tryz.func86, Tryz.ntmps86
  go_wp2_with fail
  go_ret
  exact ⟨rfl, rfl⟩
end
end Go.Proofs.YtoclhiaidbfheaaGreatDoor.T
end

section
set_option linter.unusedVariables false
namespace Go.Proofs.YtoclhiaidbfheaaGreatDoor.T
open Go.RowKit Q S Go.ChangeMaps Go.MapKept

set_option maxRecDepth 100000 in
theorem rowN : 387 < Tryz.prog.types.size := of_decide_eq_true (by kernel_rfl)
set_option maxRecDepth 100000 in
theorem wideN : (match Tryz.prog.underlying 387 with | some (.array _ _) | some (.struct _) => true | _ => false) = true := by kernel_rfl
set_option maxRecDepth 100000 in
theorem laidN : laidOutB Tryz.prog = true := by kernel_rfl
set_option maxRecDepth 100000 in
theorem lawN : Maps.Keyed Tryz.prog 387 := Maps.Keyed.of_law (deep_law_laid laidN (m := 3) (by omega) rowN (by kernel_rfl) wideN)
abbrev keyV (n : Nat) : Value := .agg #[.bool false, .int .u32 (n : Int)]
abbrev keyN (n : Nat) : Lit := .string (keyBytes [.bool false, .int .u32 (n : Int)])
theorem cell_b : Tryz.prog.cellsOf 4 = 1 := by kernel_rfl
theorem cell_u : Tryz.prog.cellsOf 22 = 1 := by kernel_rfl
theorem cell_n : Tryz.prog.cellsOf 387 = 2 := by kernel_rfl
theorem lits_b (d : Nat) : Tryz.prog.keyLits (d + 1) 4 [.bool false] = some [.bool false] := by
  rw [Program.keyLits]
  exact Tryz.underlying4
theorem lits_u (d n : Nat) (h : n < 4294967296) : Tryz.prog.keyLits (d + 1) 22 [.int .u32 (n : Int)] = some [.int .u32 (n : Int)] := by
  rw [Program.keyLits]
  case heq => exact Tryz.underlying22
  rw [if_pos ⟨rfl, WalkArith.wf_u32 (by omega)⟩]
theorem lits_n (d n : Nat) (h : n < 4294967296) : Tryz.prog.keyLits (d + 2) 387 [.bool false, .int .u32 (n : Int)] = some [.bool false, .int .u32 (n : Int)] := by
  unfold Program.keyLits
  simp only [Tryz.underlying387]
  rw [if_pos ⟨by rw [cell_n]; rfl, by simp⟩]
  simp [cell_b, cell_u, lits_b, lits_u d n h]
set_option maxRecDepth 100000 in
theorem key_ofN (n : Nat) (h : n < 4294967296) : keyOf Tryz.prog 387 (keyV n) = some (keyN n) := by
  have h1 : Tryz.prog.keyType 387 = true := by kernel_rfl
  have h2 : Value.formed Tryz.prog 387 (keyV n) = true := by simp [Value.formed, Tryz.underlying387, cell_n]
  have h3 : Tryz.prog.keyLits (Tryz.prog.types.size + 1) 387 (keyV n).cells.toList = some [.bool false, .int .u32 (n : Int)] := by
    rw [show Tryz.prog.types.size + 1 = (Tryz.prog.types.size - 1) + 2 from by have := rowN; omega]
    exact lits_n _ n h
  unfold keyOf
  simp only [Tryz.underlying387]
  rw [if_pos (by rw [h1, h2]; rfl), h3]
  rfl
end Go.Proofs.YtoclhiaidbfheaaGreatDoor.T
end

section
set_option linter.unusedVariables false
namespace Go.Proofs.YtoclhiaidbfheaaGreatDoor.T
open Go.RowKit Q S

section
variable {W : World} {b : Nat} {p : Value} {mt dt : Nat} {rm : Int} {m1 nx m2 : Nat} {rf : Int} {fl : Bool}
theorem TB.setRoom (h : TB W b p mt dt rm m1 nx m2 rf fl) (x : Int) : TB (W.setCell ⟨b, 3, none⟩ (.int .i64 x)) b p mt dt x m1 nx m2 rf fl := Joins.block_setCell h (i := 3) (.int .i64 x)
theorem TB.setNext (h : TB W b p mt dt rm m1 nx m2 rf fl) (x : Nat) : TB (W.setCell ⟨b, 5, none⟩ (.int .u32 (x : Int))) b p mt dt rm m1 x m2 rf fl := Joins.block_setCell h (i := 5) (.int .u32 (x : Int))
theorem TB.setRefused (h : TB W b p mt dt rm m1 nx m2 rf fl) (x : Int) : TB (W.setCell ⟨b, 7, none⟩ (.int .i64 x)) b p mt dt rm m1 nx m2 x fl := Joins.block_setCell h (i := 7) (.int .i64 x)
theorem TB.lt (h : TB W b p mt dt rm m1 nx m2 rf fl) : b < W.heap.size := (Array.getElem?_eq_some_iff.1 h).1
theorem stays_cell (W : World) (b i : Nat) (v : Value) : Q.Stays W (W.setCell ⟨b, i, none⟩ v) (fun j => j = b) := (Q.Stays.refl W (fun j => j = b)).set ⟨b, i, none⟩ (.inl rfl) _
theorem TB.refuse (h : TB W b p mt dt rm m1 nx m2 rf fl) (er : Int) : Calls Tryz.prog 286 #[.pointer (some ⟨b, 0, none⟩), .int .i64 er] W fun e w' => e = .returned (.int .i64 er) ∧ TB w' b p mt dt rm m1 nx m2 er fl ∧ Q.Stays W w' (fun j => j = b) := by
  have hc := Joins.cell_of_block (i := 7) h
  have hf := frozen_of_row _ b 7 _ _ h
  have HT := Lib.hid (h.setRefused er)
  clear h
  go_enter Tryz.func286, Tryz.ntmps286
  go_wp2_with fail
  go_ret
  exact ⟨rfl, HT.out, stays_cell W b 7 _⟩
end
end Go.Proofs.YtoclhiaidbfheaaGreatDoor.T
end

section
set_option linter.unusedVariables false
namespace Go.Proofs.YtoclhiaidbfheaaGreatDoor.T
open Go.RowKit Q S Go.ChangeMaps Go.MapKept

set_option maxRecDepth 100000 in
theorem lawK : Go.WideMaps.KeyLaw Tryz.prog 387 := deep_law_laid laidN (m := 3) (by omega) rowN (by kernel_rfl) wideN
/-- block mp is a map of numbers by names -/
def MM (w : World) (mp n : Nat) (D : DataW Value) : Prop := w.ownsMap Tryz.prog 387 rawE mp n D
theorem MM.start {w : World} {mp : Nat} (h : w.heap[mp]? = some (.map #[] 0)) : MM w mp 0 dm0 := ⟨#[], 0, h, ⟨by simp, stamped_empty 0, by simp⟩, Nat.le_refl _, rfl⟩
theorem MM.on {w w' : World} {mp n : Nat} {D : DataW Value} (h : MM w mp n D) (hb : w'.heap[mp]? = w.heap[mp]?) : MM w' mp n D := by
  obtain ⟨es, c, h1, h2, h3, h4⟩ := h
  exact ⟨es, c, hb.trans h1, h2, h3, h4⟩
theorem MM.lt {w : World} {mp n : Nat} {D : DataW Value} (h : MM w mp n D) : mp < w.heap.size := World.ownsMap.lt h
theorem MM.below {w w' : World} {mp n : Nat} {D : DataW Value} (h : MM w mp n D) (hb : Below w.heap.size w w') : MM w' mp n D := h.on (hb.block mp h.lt)
theorem int_zero (w : World) : (zeroValue 3).run Tryz.prog w = .ok (.int .i64 0) w := by kernel_rfl
theorem MM.look {w : World} {mp n : Nat} {D : DataW Value} (h : MM w mp n D) (x : Nat) (hx : x < 4294967296) {v : Value} (hv : D.atKey (keyN x) (.held (.int .i64 0)) = .held v) : (Instr.lookup 174 (.map (some mp)) (keyV x) false).run Tryz.prog w = .ok v w := by
  obtain ⟨u, ps, hrun, hu⟩ := World.ownsMap.lookup (t := 174) (e := 3) (zd := .held (.int .i64 0)) (zp := []) h lawN Tryz.underlying174 (int_zero w) rfl (key_ofN x hx)
  rw [hv] at hu
  have hu' : some (DataW.held u, ([] : List MemPlace)) = some (DataW.held v, ps) := hu
  obtain rfl : u = v := by simpa using congrArg (fun o => o.map (·.1)) hu'
  exact hrun
theorem at_none (x : Nat) (z : Value) : dm0.atKey (keyN x) (.held z) = .held z := rfl
theorem at_put {D : DataW Value} (hD : Maps.IsMap D) (x : Nat) (hx : x < 4294967296) (v z : Value) : (D.put (keyN x) (.held v)).atKey (keyN x) (.held z) = .held v := Maps.atKey_put_same hD (lawN.key (key_ofN x hx)) _ _
theorem MM.bump {w : World} {mp n : Nat} {D : DataW Value} (h : MM w mp n D) (hn : n < 1000) (x : Nat) (hx : x < 4294967296) :
    ∃ (v0 : Value) (st : Nat) (w1 : World), (Instr.mapEntry 174 (.map (some mp)) (keyV x)).run Tryz.prog w = .ok (.tuple #[v0, goInt st]) w1 ∧
      ∀ val : Value, ∃ w2, (Instr.entryStore 174 (.map (some mp)) (goInt st) val).run Tryz.prog w1 = .ok () w2 ∧ MM w2 mp (n + 1) (D.put (keyN x) (.held val)) ∧ w.grownBy w2 (some mp) := by
  have h0 := h
  obtain ⟨es, clock, hb, F, hs, hD⟩ := h
  obtain ⟨v0, st, es1, c1, hrun, _, hst⟩ := WideElems.entry_then_store lawK Tryz.underlying174 (z := .int .i64 0) int_zero hb F (key_ofN x hx)
  refine ⟨v0, st, _, hrun, fun val => ?_⟩
  obtain ⟨es', c', hr2, hr3⟩ := hst (setBlock w mp (.map es1 c1)) val (heap_setBlock_same hb _)
  obtain ⟨w', hu, hM, hg⟩ := World.ownsMap.update (t := 174) (e := 3) (val := val) (ps := []) h0 lawN Tryz.underlying174 (by unfold maxLen; omega) (key_ofN x hx) rfl
  rw [hr3] at hu
  injection hu with _ hw
  refine ⟨_, hr2, ?_⟩
  have e : setBlock (setBlock w mp (.map es1 c1)) mp (.map es' c') = w' := by rw [← hw]; simp [setBlock]
  rw [e]
  exact ⟨hM, hg⟩
end Go.Proofs.YtoclhiaidbfheaaGreatDoor.T
end

section
set_option linter.unusedVariables false
namespace Go.Proofs.YtoclhiaidbfheaaGreatDoor.T
open Go.RowKit Q S Go.ChangeMaps Go.MapKept

/-- a trial at block b, with room rm, next number nx, says D1, counts D2 -/
structure TT (W : World) (b : Nat) (p : Value) (mt dt : Nat) (rm : Int) (m1 nx m2 : Nat) (fl : Bool) (q1 : Nat) (D1 : DataW Value) (q2 : Nat) (D2 : DataW Value) : Prop where
  box : TB W b p mt dt rm m1 nx m2 0 fl
  says : FM W m1 q1 D1
  more : MM W m2 q2 D2
  ne : m1 ≠ m2
  n1 : b ≠ m1
  n2 : b ≠ m2
/-- the blocks that a trial is -/
def tts (b m1 m2 j : Nat) : Prop := j = b ∨ j = m1 ∨ j = m2
section
variable {W W' : World} {b : Nat} {p : Value} {mt dt : Nat} {rm : Int} {m1 nx m2 : Nat} {fl : Bool} {q1 : Nat} {D1 : DataW Value} {q2 : Nat} {D2 : DataW Value}
theorem TT.below (h : TT W b p mt dt rm m1 nx m2 fl q1 D1 q2 D2) (hb : Below W.heap.size W W') : TT W' b p mt dt rm m1 nx m2 fl q1 D1 q2 D2 := ⟨h.box.below hb, h.says.below hb, h.more.below hb, h.ne, h.n1, h.n2⟩
theorem TT.on {G : Nat → Prop} (h : TT W b p mt dt rm m1 nx m2 fl q1 D1 q2 D2) (hs : Q.Stays W W' G) (hg : ∀ j, tts b m1 m2 j → ¬ G j) : TT W' b p mt dt rm m1 nx m2 fl q1 D1 q2 D2 :=
  ⟨(hs.block b h.box.lt (hg _ (.inl rfl))).trans h.box, h.says.on (hs.block m1 h.says.lt (hg _ (.inr (.inl rfl)))), h.more.on (hs.block m2 h.more.lt (hg _ (.inr (.inr rfl)))), h.ne, h.n1, h.n2⟩
theorem TT.lt (h : TT W b p mt dt rm m1 nx m2 fl q1 D1 q2 D2) {j : Nat} (hj : tts b m1 m2 j) : j < W.heap.size := by
  rcases hj with rfl | rfl | rfl
  · exact h.box.lt
  · exact h.says.lt
  · exact h.more.lt
theorem TT.room (h : TT W b p mt dt rm m1 nx m2 fl q1 D1 q2 D2) (x : Int) : TT (W.setCell ⟨b, 3, none⟩ (.int .i64 x)) b p mt dt x m1 nx m2 fl q1 D1 q2 D2 :=
  have hs := stays_cell W b 3 (.int .i64 x)
  ⟨h.box.setRoom x, h.says.on (hs.block m1 h.says.lt (fun e => h.n1 e.symm)), h.more.on (hs.block m2 h.more.lt (fun e => h.n2 e.symm)), h.ne, h.n1, h.n2⟩
theorem TT.next (h : TT W b p mt dt rm m1 nx m2 fl q1 D1 q2 D2) (x : Nat) : TT (W.setCell ⟨b, 5, none⟩ (.int .u32 (x : Int))) b p mt dt rm m1 x m2 fl q1 D1 q2 D2 :=
  have hs := stays_cell W b 5 (.int .u32 (x : Int))
  ⟨h.box.setNext x, h.says.on (hs.block m1 h.says.lt (fun e => h.n1 e.symm)), h.more.on (hs.block m2 h.more.lt (fun e => h.n2 e.symm)), h.ne, h.n1, h.n2⟩
theorem TT.say {q : Nat} {D : DataW Value} (h : TT W b p mt dt rm m1 nx m2 fl q1 D1 q2 D2) (hm : FM W' m1 q D) (hg : W.grownBy W' (some m1)) : TT W' b p mt dt rm m1 nx m2 fl q D q2 D2 ∧ Q.Stays W W' (tts b m1 m2) :=
  ⟨⟨(hg.block b h.box.lt (fun e => h.n1 (by injection e))).trans h.box, hm, h.more.on (hg.block m2 h.more.lt (fun e => h.ne (by injection e with e; exact e.symm))), h.ne, h.n1, h.n2⟩, ⟨hg.os, hg.tape, hg.output, hg.size, fun j hj hn => hg.block j hj (fun e => hn (.inr (.inl (by injection e))))⟩⟩
theorem TT.count {q : Nat} {D : DataW Value} (h : TT W b p mt dt rm m1 nx m2 fl q1 D1 q2 D2) (hm : MM W' m2 q D) (hg : W.grownBy W' (some m2)) : TT W' b p mt dt rm m1 nx m2 fl q1 D1 q D ∧ Q.Stays W W' (tts b m1 m2) :=
  ⟨⟨(hg.block b h.box.lt (fun e => h.n2 (by injection e))).trans h.box, h.says.on (hg.block m1 h.says.lt (fun e => h.ne (by injection e))), hm, h.ne, h.n1, h.n2⟩, ⟨hg.os, hg.tape, hg.output, hg.size, fun j hj hn => hg.block j hj (fun e => hn (.inr (.inr (by injection e))))⟩⟩
end
end Go.Proofs.YtoclhiaidbfheaaGreatDoor.T
end

section
set_option linter.unusedVariables false
namespace Go.Proofs.YtoclhiaidbfheaaGreatDoor.T
open Go.RowKit Q S Go.ChangeMaps Go.MapKept

theorem _root_.Go.Proofs.YtoclhiaidbfheaaGreatDoor.Q.Stays.up {W W' : World} {F G : Nat → Prop} (h : Q.Stays W W' F) (hFG : ∀ j, F j → G j) : Q.Stays W W' G := ⟨h.os, h.tape, h.output, h.size, fun j hj hn => h.block j hj (fun e => hn (hFG j e))⟩
theorem MM.bump2 {w : World} {mp n : Nat} {D : DataW Value} (h : MM w mp n D) (hn : n < 1000) (x : Nat) (hx : x < 4294967296) {ct : Int} (hct : D.atKey (keyN x) (.held (.int .i64 0)) = .held (.int .i64 ct)) :
    ∃ (v0 : Value) (st : Nat) (w1 : World), (Instr.mapEntry 174 (.map (some mp)) (keyV x)).run Tryz.prog w = .ok (.tuple #[v0, goInt st]) w1 ∧
      (Instr.lookup 174 (.map (some mp)) (keyV x) false).run Tryz.prog w1 = .ok (.int .i64 ct) w1 ∧ w.grownBy w1 (some mp) ∧
      ∀ val : Value, ∃ w2, (Instr.entryStore 174 (.map (some mp)) (goInt st) val).run Tryz.prog w1 = .ok () w2 ∧ MM w2 mp (n + 1) (D.put (keyN x) (.held val)) ∧ w.grownBy w2 (some mp) := by
  have h0 := h
  have hlk := h.look x hx hct
  obtain ⟨es, clock, hb, F, hs, hD⟩ := h
  have hkey := key_ofN x hx
  have ht := Tryz.underlying174
  obtain ⟨v0, st, es1, c1, hrun, _, hst⟩ := WideElems.entry_then_store lawK ht (z := .int .i64 0) int_zero hb F hkey
  have hb1 : (setBlock w mp (.map es1 c1)).heap[mp]? = some (.map es1 c1) := heap_setBlock_same hb _
  have hg1 : w.grownBy (setBlock w mp (.map es1 c1)) (some mp) := ⟨rfl, rfl, rfl, by simp [setBlock], fun j _ hj => heap_setBlock_other hb _ (fun e => hj (by rw [e]))⟩
  refine ⟨v0, st, _, hrun, ?_, hg1, fun val => ?_⟩
  · rcases lawK.find w hkey es.toList F.keys with ⟨h1, h2⟩ | ⟨j, e0, h1, h2, h3⟩
    · have hz : ct = 0 := by
        simp [Instr.lookup, run_underlying ht, MapKept.run_getObj_map hb, lawK.check w _ hkey, h1, Result.andThen] at hlk
        exact hlk.symm
      have hd : (Instr.mapEntry 174 (.map (some mp)) (keyV x)).run Tryz.prog w = .ok (.tuple #[.int .i64 0, goInt clock]) (setBlock w mp (.map (es.push ⟨keyV x, .int .i64 0, clock⟩) (clock + 1))) := by
        simp [Instr.mapEntry, run_underlying ht, MapKept.run_getObj_map hb, lawK.check w false hkey, h1, MapKept.run_setObj_map _ hb, Result.andThen, setBlock]
      have hw := (Result.ok.inj (hrun.symm.trans hd)).2
      obtain ⟨he, hc⟩ := Obj.map.inj (Option.some.inj (hb1.symm.trans ((congrArg (fun u : World => u.heap[mp]?) hw).trans (heap_setBlock_same hb _))))
      subst he
      subst hc
      subst hz
      rcases lawK.find (setBlock w mp (.map (es.push ⟨keyV x, .int .i64 0, clock⟩) (clock + 1))) hkey (es.push ⟨keyV x, .int .i64 0, clock⟩).toList (fun e he => by
          rw [Array.toList_push] at he
          rcases List.mem_append.1 he with he | he
          · exact F.keys e he
          · rw [List.mem_singleton.1 he]; exact ⟨_, hkey⟩) with ⟨g1, g2⟩ | ⟨j, e0, g1, g2, g3⟩
      · exact absurd rfl (g2 ⟨keyV x, .int .i64 0, clock⟩ (by simp))
      · have hv : e0.val = .int .i64 0 := by
          have hm := List.mem_of_getElem? g2
          rw [Array.toList_push] at hm
          rcases List.mem_append.1 hm with he | he
          · exact absurd g3 (h2 e0 he)
          · rw [List.mem_singleton.1 he]
        rw [Array.toList_push] at g1
        simp [Instr.lookup, run_underlying ht, MapKept.run_getObj_map hb1, lawK.check _ _ hkey, g1, hv, Result.andThen]
    · have hv : e0.val = .int .i64 ct := by
        simp [Instr.lookup, run_underlying ht, MapKept.run_getObj_map hb, lawK.check w _ hkey, h1, Result.andThen] at hlk
        exact hlk
      have hj : es[j]? = some e0 := by simpa using h2
      have hsame : es.modify j (fun e => { e with key := keyV x }) = es := by
        apply Array.ext'
        rw [Array.toList_modify, modify_eq_set _ _ _ _ h2]
        have : ({ e0 with key := keyV x } : MapEntry) = e0 := by rw [← h3]
        rw [this]
        exact WideElems.set_self _ _ _ h2
      have hd : (Instr.mapEntry 174 (.map (some mp)) (keyV x)).run Tryz.prog w = .ok (.tuple #[e0.val, goInt e0.born]) (setBlock w mp (.map es clock)) := by
        simp [Instr.mapEntry, run_underlying ht, MapKept.run_getObj_map hb, lawK.check w false hkey, h1, hj, h3, lawK.stays w hkey, hsame, MapKept.run_setObj_map _ hb, Result.andThen, setBlock]
      have hw := (Result.ok.inj (hrun.symm.trans hd)).2
      obtain ⟨he, hc⟩ := Obj.map.inj (Option.some.inj (hb1.symm.trans ((congrArg (fun u : World => u.heap[mp]?) hw).trans (heap_setBlock_same hb _))))
      subst he
      subst hc
      rcases lawK.find (setBlock w mp (.map es1 c1)) hkey es1.toList F.keys with ⟨g1, g2⟩ | ⟨j', e', g1, g2, g3⟩
      · exact absurd h3 (g2 e0 (List.mem_of_getElem? h2))
      · have hj' : (Instr.findKey 387 (keyV x) es1.toList).run Tryz.prog w = .ok (some (j, e0.val)) w := h1
        have hv' : e'.val = e0.val := by
          have hm1 : MM (setBlock w mp (.map es1 c1)) mp n D := ⟨es1, c1, hb1, F, hs, hD⟩
          have hl1 := hm1.look x hx hct
          simp [Instr.lookup, run_underlying ht, MapKept.run_getObj_map hb1, lawK.check _ _ hkey, g1, Result.andThen] at hl1
          rw [hl1, hv]
        simp [Instr.lookup, run_underlying ht, MapKept.run_getObj_map hb1, lawK.check _ _ hkey, g1, hv', hv, Result.andThen]
  · obtain ⟨es', c', hr2, hr3⟩ := hst (setBlock w mp (.map es1 c1)) val hb1
    obtain ⟨w', hu, hM, hg⟩ := World.ownsMap.update (t := 174) (e := 3) (val := val) (ps := []) h0 lawN Tryz.underlying174 (by unfold maxLen; omega) (key_ofN x hx) rfl
    have hw := (Result.ok.inj (hr3.symm.trans hu)).2
    refine ⟨_, hr2, ?_⟩
    have e : setBlock (setBlock w mp (.map es1 c1)) mp (.map es' c') = w' := by rw [← hw]; simp [setBlock]
    rw [e]
    exact ⟨hM, hg⟩
end Go.Proofs.YtoclhiaidbfheaaGreatDoor.T
end

section
set_option linter.unusedVariables false
namespace Go.Proofs.YtoclhiaidbfheaaGreatDoor.T
open Go.RowKit Q S Go.ChangeMaps Go.MapKept

section
variable {W W' : World} {b : Nat} {p : Value} {mt dt : Nat} {rm : Int} {m1 nx m2 : Nat} {fl : Bool} {q1 : Nat} {D1 : DataW Value} {q2 : Nat} {D2 : DataW Value}
theorem TT.nums (h : TT W b p mt dt rm m1 nx m2 fl q1 D1 q2 D2) : ∀ j cs, W.heap[j]? = some (.cells cs 23 (0, 0)) → ¬ tts b m1 m2 j := by
  rintro j cs hc (rfl | rfl | rfl)
  · exact absurd (cells_ne hc h.box) (by decide)
  · obtain ⟨es, cl, hm, _⟩ := h.says
    rw [hm] at hc
    cases hc
  · obtain ⟨es, cl, hm, _⟩ := h.more
    rw [hm] at hc
    cases hc
section
variable {P : Program} {o : Oper} {a : Act} {w : World} {K : Act → World → Prop} {Q' : Exit → Act → World → Prop}
theorem wp_mapEntry_run (m x : Operand) (t : TypeId) (hop : o.op = Op.mapEntry t m x) (mv k v : Value) (w' : World) (hm : a.eval m = mv) (hx : a.eval x = k) (hs : (Instr.mapEntry t mv k).run P w = .ok v w') (h : K (a.put o.dst v) w') : o.wp P a w K Q' := by
  unfold Oper.wp
  simp [execOp, hop, hm, hx, hs, Result.andThen]
  exact h
theorem wp_entryStore_run (m s x : Operand) (t : TypeId) (hop : o.op = Op.entryStore t m s x) (mv sv v : Value) (w' : World) (hm : a.eval m = mv) (hsv : a.eval s = sv) (hx : a.eval x = v) (hs : (Instr.entryStore t mv sv v).run P w = .ok () w') (h : K (a.put o.dst undef) w') : o.wp P a w K Q' := by
  unfold Oper.wp
  simp [execOp, hop, hm, hsv, hx, hs, Result.andThen]
  exact h
theorem wp_mapUpdate_no (mo x y : Operand) (t : TypeId) (hop : o.op = Op.mapUpdate t mo x y) (hd : o.dst = none) (mv k v : Value) (w' : World) (hm : a.eval mo = mv) (hx : a.eval x = k) (hy : a.eval y = v) (hrun : (Instr.mapUpdate t mv k v).run P w = .ok () w') (h : K a w') : o.wp P a w K Q' := wp_mapUpdate_run mo x y t hop mv k v w' hm hx hy hrun (by rw [hd]; exact h)
theorem wp_mapEntry_at (n : Nat) (m x : Operand) (t : TypeId) (hop : o.op = Op.mapEntry t m x) (hd : o.dst = some n) (mv k v : Value) (w' : World) (hm : a.eval m = mv) (hx : a.eval x = k) (hs : (Instr.mapEntry t mv k).run P w = .ok v w') (h : K (a.put (some n) v) w') : o.wp P a w K Q' := wp_mapEntry_run m x t hop mv k v w' hm hx hs (by rw [hd]; exact h)
theorem wp_entryStore_no (m s x : Operand) (t : TypeId) (hop : o.op = Op.entryStore t m s x) (hd : o.dst = none) (mv sv v : Value) (w' : World) (hm : a.eval m = mv) (hsv : a.eval s = sv) (hx : a.eval x = v) (hs : (Instr.entryStore t mv sv v).run P w = .ok () w') (h : K a w') : o.wp P a w K Q' := wp_entryStore_run m s x t hop mv sv v w' hm hsv hx hs (by rw [hd]; exact h)
end
theorem name_zero (w : World) : (zeroValue 387).run Tryz.prog w = .ok (.agg #[.bool false, .int .u32 0]) w := by kernel_rfl
set_option maxRecDepth 100000 in
set_option maxHeartbeats 4000000 in
theorem TT.add (h : TT W b p mt dt rm m1 nx m2 fl q1 D1 q2 D2) (hr : 0 < rm) (hr2 : rm < 1000) (hn : nx < 1000) (hq1 : q1 < 900) (hq2 : q2 < 900) (kd bi : Nat) (KK VV : Value) (ks vs : List Nat) (hx : NO W KK VV ks vs) (hl : ks.length ≤ 1000) (hl2 : vs.length ≤ 1000) (ct : Int) (hct : D2.atKey (keyN nx) (.held (.int .i64 0)) = .held (.int .i64 ct)) (hc1 : -1000 < ct) (hc2 : ct < 1000) :
    Calls Tryz.prog 287 #[.pointer (some ⟨b, 0, none⟩), .agg #[.int .i64 (kd : Int), .int .u64 (bi : Int), KK, VV]] W fun e w' => e = .returned (.int .u32 (nx : Int)) ∧ Hid (∃ K2 V2, NO w' K2 V2 ks vs ∧ TT w' b p mt dt (rm - 1) m1 (nx + 1) m2 fl (q1 + 1) (D1.put (keyU nx) (.held (.agg #[.int .i64 (kd : Int), .int .u64 (bi : Int), K2, V2]))) (q2 + 1) (D2.put (keyN nx) (.held (.int .i64 (ct + 1)))) ∧ Q.Stays W w' (tts b m1 m2)) := by
  obtain ⟨W1, hW1⟩ : ∃ W1, W.alloc (.cells #[.int .i64 (kd : Int), .int .u64 (bi : Int), KK, VV] 45) = W1 := ⟨_, rfl⟩
  have hb1 : Below W.heap.size W W1 := by rw [← hW1]; exact (Below.refl _ W).alloc (Nat.le_refl _) _
  have hbx : W1.heap[W.heap.size]? = some (.cells #[.int .i64 (kd : Int), .int .u64 (bi : Int), KK, VV] 45 (0, 0)) := by rw [← hW1]; exact heap_alloc_new W _
  have HT := Lib.hid (fun i (hi : tts b m1 m2 i) => h.lt hi)
  have hbW := h.box.lt
  have t1 := h.below hb1
  have HT1 := Lib.hid t1
  have HX1 := Lib.hid (hx.below hb1)
  have HB1 := Lib.hid hb1
  have HBX := Lib.hid hbx
  have h3 : W1.cell? ⟨b, 3, none⟩ = some (.int .i64 rm) := Joins.cell_of_block (i := 3) t1.box
  have f3 := frozen_of_row _ b 3 _ _ t1.box
  have hrm : ¬ rm = 0 := by omega
  have HCT := Lib.hid hct
  clear hct
  have hw3 : IntKind.i64.wrap (rm - 1) = rm - 1 := by rw [IntKind.wrap_i64]; omega
  clear h hx hb1 hbx t1
  go_enter Tryz.func287, Tryz.ntmps287
  go_upto_region 1 with fail
  clear hW1
  go_upto_region 4 with fail
  have hs2 := stays_cell W1 b 3 (.int .i64 (rm - 1))
  have HT2 := Lib.hid (HT1.out.room (rm - 1))
  have HX2 := Lib.hid (HX1.out.on hs2 (fun j cs hc e => HT1.out.nums j cs hc (.inl e)))
  have HBX2 : Hid ((W1.setCell ⟨b, 3, none⟩ (.int .i64 (rm - 1))).heap[W.heap.size]? = some (.cells #[.int .i64 (kd : Int), .int .u64 (bi : Int), KK, VV] 45 (0, 0))) := Lib.hid ((hs2.block W.heap.size (Array.getElem?_eq_some_iff.1 HBX.out).1 (fun e => by omega)).trans HBX.out)
  have HS2 := Lib.hid hs2
  obtain ⟨W2, hW2⟩ : ∃ W2, W1.setCell ⟨b, 3, none⟩ (.int .i64 (rm - 1)) = W2 := ⟨_, rfl⟩
  rw [hW2] at HT2 HX2 HBX2 HS2 ⊢
  have h5 : W2.cell? ⟨b, 5, none⟩ = some (.int .u32 (nx : Int)) := Joins.cell_of_block (i := 5) HT2.out.box
  have f5 := frozen_of_row _ b 5 _ _ HT2.out.box
  have hw5 : IntKind.u32.wrap ((nx : Int) + 1) = ((nx + 1 : Nat) : Int) := by rw [IntKind.wrap_u32]; omega
  clear hW2 hs2 h3 f3
  go_upto_region 6 with fail
  have e1 : ((nx + 1 : Nat) : Int) = (nx : Int) + 1 := by omega
  have hs3 := stays_cell W2 b 5 (.int .u32 ((nx : Int) + 1))
  have HT3 : Hid (TT (W2.setCell ⟨b, 5, none⟩ (.int .u32 ((nx : Int) + 1))) b p mt dt (rm - 1) m1 (nx + 1) m2 fl q1 D1 q2 D2) := Lib.hid (by have := HT2.out.next (nx + 1); rwa [e1] at this)
  have HX3 := Lib.hid (HX2.out.on hs3 (fun j cs hc e => HT2.out.nums j cs hc (.inl e)))
  have HBX3 : Hid ((W2.setCell ⟨b, 5, none⟩ (.int .u32 ((nx : Int) + 1))).heap[W.heap.size]? = some (.cells #[.int .i64 (kd : Int), .int .u64 (bi : Int), KK, VV] 45 (0, 0))) := Lib.hid ((hs3.block W.heap.size (Array.getElem?_eq_some_iff.1 HBX2.out).1 (fun e => by omega)).trans HBX2.out)
  have HS3 := Lib.hid (HS2.out.trans hs3 (fun _ e => .inl e))
  obtain ⟨W3, hW3⟩ : ∃ W3, W2.setCell ⟨b, 5, none⟩ (.int .u32 ((nx : Int) + 1)) = W3 := ⟨_, rfl⟩
  rw [hW3] at HT3 HX3 HBX3 HS3 ⊢
  clear hW3 hs3 h5 f5
  have HCP := Lib.hid ((HX3.out.below ((Below.refl _ W3).drew)).copy kd bi hl hl2)
  have h4 : W3.drew.cell? ⟨b, 4, none⟩ = some (.map (some m1)) := Joins.cell_of_block (i := 4) HT3.out.box
  refine wp_region_noPanic ?_
  refine wp_region_held_drew (S := fun w' => w'.cell? ⟨b, 4, none⟩ = some (.map (some m1)) ∧ w'.rangeAt W.heap.size 0 [.int .i64 (kd : Int), .int .u64 (bi : Int), KK, VV]) (by kernel_rfl) ⟨h4, by have := range_of HBX3.out; exact this⟩ (fun hHeld => ?_)
  refine takeN (i := 0) (oi := _) (v := .pointer (some ⟨b, 0, none⟩)) 32 rfl rfl (by kernel_rfl) (by kernel_rfl) (by kernel_rfl) (fun _ _ _ h => h) (Or.inl ⟨by rfl, fun w2 hSw => by go_simp⟩) hHeld ?_
  try simp only [Act.put, List.setIfInBounds_toArray, List.set_cons_zero, List.set_cons_succ]
  refine takeN (i := 1) (oi := _) (v := .pointer (some ⟨b, 0, none⟩)) 33 rfl rfl (by kernel_rfl) (by kernel_rfl) (by kernel_rfl) (fun _ _ _ h => h) (Or.inl ⟨by rfl, fun w2 hSw => by go_simp⟩) hHeld ?_
  try simp only [Act.put, List.setIfInBounds_toArray, List.set_cons_zero, List.set_cons_succ]
  refine takeN (i := 2) (oi := _) (v := .pointer (some ⟨b, 4, none⟩)) 34 rfl rfl (by kernel_rfl) (by kernel_rfl) (by kernel_rfl) (fun _ _ _ h => h) (Or.inl ⟨by rfl, fun w2 hSw => by go_simp⟩) hHeld ?_
  try simp only [Act.put, List.setIfInBounds_toArray, List.set_cons_zero, List.set_cons_succ]
  refine takeN (i := 3) (oi := _) (v := .map (some m1)) 35 rfl rfl (by kernel_rfl) (by kernel_rfl) (by kernel_rfl) (fun _ _ _ h => h) (Or.inl ⟨by rfl, fun w2 hSw => by (have hc := hSw.1; go_simp)⟩) hHeld ?_
  try simp only [Act.put, List.setIfInBounds_toArray, List.set_cons_zero, List.set_cons_succ]
  refine takeN (i := 4) (oi := _) (v := .int .u32 (nx : Int)) 36 rfl rfl (by kernel_rfl) (by kernel_rfl) (by kernel_rfl) (fun _ _ _ h => h) (Or.inl ⟨by rfl, fun w2 hSw => by go_simp⟩) hHeld ?_
  try simp only [Act.put, List.setIfInBounds_toArray, List.set_cons_zero, List.set_cons_succ]
  have hnd := Tryz.underlying45
  refine takeN (i := 5) (oi := _) (v := .agg #[.int .i64 (kd : Int), .int .u64 (bi : Int), KK, VV]) 37 rfl rfl (by kernel_rfl) (by kernel_rfl) (by kernel_rfl) (fun _ _ _ h => h) (yieldsIf_load_mid (by rfl) 45 (.tmp 3) rfl W.heap.size 0 rfl [.int .i64 (kd : Int), .int .u64 (bi : Int), KK, VV] _ (fun w2 hSw => hSw.2) hnd rfl (nodeC kd bi KK VV)) hHeld ?_
  try simp only [Act.put, List.setIfInBounds_toArray, List.set_cons_zero, List.set_cons_succ]
  clear hnd
  refine wpAnyH_ready (rs := [6]) (by kernel_rfl) (by simp) ?_
  refine AllReadyH.cons rfl (fun K hK => ?_) AllReadyH.nil
  go_simp
  go_wp2_with (first
    | (go_at_call 107; (with_reducible refine HCP.out.mono ?_); rintro e w5 ⟨K3, V3, rfl, hx5, hb5⟩)
    | fail)
  have HT5 := Lib.hid (HT3.out.below ((Below.refl W3.heap.size W3).drew.trans hb5))
  have HB5 : Hid (w5.heap[W.heap.size]? = some (.cells #[.int .i64 (kd : Int), .int .u64 (bi : Int), KK, VV] 45 (0, 0))) := Lib.hid ((hb5.block W.heap.size (Array.getElem?_eq_some_iff.1 HBX3.out).1).trans HBX3.out)
  have HX5 := Lib.hid hx5
  have HS5 := Lib.hid (HS3.out.trans (Q.Stays.of_below ((Below.refl W3.heap.size W3).drew.trans hb5) (fun j => j = b)) (fun _ e => .inl e))
  clear hx5 hb5
  refine hK.out _ _ ⟨Joins.cell_of_block (i := 4) HT5.out.box, range_of HB5.out⟩ (fun hHeld => ?_)
  clear hK HCP
  try simp only [Act.put, List.setIfInBounds_toArray, List.set_cons_zero, List.set_cons_succ]
  obtain ⟨w6, hup, hfm6, hg6⟩ := HT5.out.says.update (by omega) nx (by omega) (.agg #[.int .i64 (kd : Int), .int .u64 (bi : Int), K3, V3])
  obtain ⟨t6, s6⟩ := HT5.out.say hfm6 hg6
  refine wpAnyH_ready (rs := [7]) (by kernel_rfl) (by simp) ?_
  refine AllReadyH.cons rfl (fun K hK => ?_) AllReadyH.nil
  rw [if_pos (by rfl)]
  refine wp_mapUpdate_no (.tmp 35) (.tmp 36) (.tmp 38) 167 rfl rfl _ _ _ _ rfl rfl rfl hup ?_
  have hb6 : w6.heap[W.heap.size]? = some (.cells #[.int .i64 (kd : Int), .int .u64 (bi : Int), KK, VV] 45 (0, 0)) := (s6.block W.heap.size (Array.getElem?_eq_some_iff.1 HB5.out).1 (fun e => by have := HT.out _ e; omega)).trans HB5.out
  refine hK.out _ _ ⟨Joins.cell_of_block (i := 4) t6.box, range_of hb6⟩ (fun hHeld => ?_)
  have HT6 := Lib.hid t6
  have HS6 := Lib.hid s6
  have HX6 := Lib.hid (HX5.out.on s6 HT5.out.nums)
  clear hK hup hfm6 hg6 t6 s6 hb6 hHeld h4
  try simp only [Act.put, List.setIfInBounds_toArray]
  refine wpAnyH_done (by kernel_rfl) ?_ _
  refine NoPanic.normal ?_

  obtain ⟨W6, hW6⟩ : ∃ W6, w6.drew = W6 := ⟨_, rfl⟩
  have t6d : TT W6 b p mt dt (rm - 1) m1 (nx + 1) m2 fl (q1 + 1) (D1.put (keyU nx) (.held (.agg #[.int .i64 (kd : Int), .int .u64 (bi : Int), K3, V3]))) q2 D2 := by rw [← hW6]; exact HT6.out.below ((Below.refl _ w6).drew)
  have hs6d : Below w6.heap.size w6 W6 := by rw [← hW6]; exact (Below.refl _ w6).drew
  have HTD := Lib.hid t6d
  have HBD := Lib.hid hs6d
  have h6 : W6.cell? ⟨b, 6, none⟩ = some (.map (some m2)) := Joins.cell_of_block (i := 6) t6d.box
  obtain ⟨v0, st, w7, hen, hlk7, hg7, hes⟩ := t6d.more.bump2 (by omega) nx (by omega) HCT.out
  obtain ⟨w8, hst, hm8, hg8⟩ := hes (.int .i64 (ct + 1))
  have HLK : Hid ((Instr.lookup 174 (.map (some m2)) (keyV nx) false).run Tryz.prog W6 = .ok (.int .i64 ct) W6) := Lib.hid (t6d.more.look nx (by omega) HCT.out)
  have HEN := Lib.hid hen
  have h7 : w7.cell? ⟨b, 6, none⟩ = some (.map (some m2)) := Joins.cell_of_block (i := 6) ((hg7.block b t6d.box.lt (fun e => t6d.n2 (by injection e))).trans t6d.box)
  have HS7 : Hid (w7.cell? ⟨b, 6, none⟩ = some (.map (some m2)) ∧ (Instr.lookup 174 (.map (some m2)) (keyV nx) false).run Tryz.prog w7 = .ok (.int .i64 ct) w7) := Lib.hid ⟨h7, hlk7⟩
  have HST := Lib.hid hst
  have HM8 := Lib.hid hm8
  have HG8 := Lib.hid hg8
  have hw7 : IntKind.i64.wrap (ct + 1) = ct + 1 := by rw [IntKind.wrap_i64]; omega
  have hzn := name_zero
  clear hen hes hst hm8 hg8 t6d hs6d h7 hlk7 hg7
  go_upto_region 7 with fail
  refine wp_region_noPanic ?_
  refine wp_region_until (M := 10) (S := fun w' => w'.cell? ⟨b, 6, none⟩ = some (.map (some m2)) ∧ (Instr.lookup 174 (.map (some m2)) (keyV nx) false).run Tryz.prog w' = .ok (.int .i64 ct) w') (by kernel_rfl) (by rw [hW6]; exact ⟨h6, HLK.out⟩) (fun hHeld => ?_)
  rw [hW6] at hHeld ⊢
  refine takeM (i := 0) (oi := _) (oM := _) (v := .pointer (some ⟨b, 0, none⟩)) 39 1 rfl rfl rfl (by kernel_rfl) (by kernel_rfl) (by kernel_rfl) (by kernel_rfl) (by kernel_rfl) (by kernel_rfl) (fun _ _ _ h => h) (Or.inl ⟨by rfl, fun w2 hSw => by go_simp⟩) hHeld ?_
  try simp only [Act.put, List.setIfInBounds_toArray, List.set_cons_zero, List.set_cons_succ]
  refine takeM (i := 1) (oi := _) (oM := _) (v := .pointer (some ⟨b, 0, none⟩)) 40 1 rfl rfl rfl (by kernel_rfl) (by kernel_rfl) (by kernel_rfl) (by kernel_rfl) (by kernel_rfl) (by kernel_rfl) (fun _ _ _ h => h) (Or.inl ⟨by rfl, fun w2 hSw => by go_simp⟩) hHeld ?_
  try simp only [Act.put, List.setIfInBounds_toArray, List.set_cons_zero, List.set_cons_succ]
  refine takeM (i := 2) (oi := _) (oM := _) (v := .pointer (some ⟨b, 6, none⟩)) 41 1 rfl rfl rfl (by kernel_rfl) (by kernel_rfl) (by kernel_rfl) (by kernel_rfl) (by kernel_rfl) (by kernel_rfl) (fun _ _ _ h => h) (Or.inl ⟨by rfl, fun w2 hSw => by go_simp⟩) hHeld ?_
  try simp only [Act.put, List.setIfInBounds_toArray, List.set_cons_zero, List.set_cons_succ]
  refine takeM (i := 3) (oi := _) (oM := _) (v := (.map (some m2))) 42 1 rfl rfl rfl (by kernel_rfl) (by kernel_rfl) (by kernel_rfl) (by kernel_rfl) (by kernel_rfl) (by kernel_rfl) (fun _ _ _ h => h) (Or.inl ⟨by rfl, fun w2 hSw => by (have hc := hSw.1; go_simp)⟩) hHeld ?_
  try simp only [Act.put, List.setIfInBounds_toArray, List.set_cons_zero, List.set_cons_succ]
  refine takeM (i := 4) (oi := _) (oM := _) (v := (.int .u32 (nx : Int))) 43 1 rfl rfl rfl (by kernel_rfl) (by kernel_rfl) (by kernel_rfl) (by kernel_rfl) (by kernel_rfl) (by kernel_rfl) (fun _ _ _ h => h) (Or.inl ⟨by rfl, fun w2 hSw => by go_simp⟩) hHeld ?_
  try simp only [Act.put, List.setIfInBounds_toArray, List.set_cons_zero, List.set_cons_succ]
  refine takeM (i := 5) (oi := _) (oM := _) (v := (.agg #[.bool false, .int .u32 (nx : Int)])) 44 1 rfl rfl rfl (by kernel_rfl) (by kernel_rfl) (by kernel_rfl) (by kernel_rfl) (by kernel_rfl) (by kernel_rfl) (fun _ _ _ h => h) (Or.inl ⟨by rfl, fun w2 hSw => by go_simp⟩) hHeld ?_
  try simp only [Act.put, List.setIfInBounds_toArray, List.set_cons_zero, List.set_cons_succ]
  refine takeM (i := 6) (oi := _) (oM := _) (v := (.int .i64 ct)) 45 1 rfl rfl rfl (by kernel_rfl) (by kernel_rfl) (by kernel_rfl) (by kernel_rfl) (by kernel_rfl) (by kernel_rfl) (fun _ _ _ h => h) (Or.inl ⟨by rfl, fun w2 hSw => by (have hlk := hSw.2; go_simp)⟩) hHeld ?_
  try simp only [Act.put, List.setIfInBounds_toArray, List.set_cons_zero, List.set_cons_succ]
  refine takeM (i := 7) (oi := _) (oM := _) (v := (.int .i64 (ct + 1))) 46 1 rfl rfl rfl (by kernel_rfl) (by kernel_rfl) (by kernel_rfl) (by kernel_rfl) (by kernel_rfl) (by kernel_rfl) (fun _ _ _ h => h) (Or.inl ⟨by rfl, fun w2 hSw => by go_simp⟩) hHeld ?_
  try simp only [Act.put, List.setIfInBounds_toArray, List.set_cons_zero, List.set_cons_succ]
  refine wpAnyM_ready (rs := [8]) (by kernel_rfl) (by simp) ?_
  refine AllReadyM.cons rfl (fun K hK => ?_) AllReadyM.nil
  rw [if_pos (by rfl)]
  refine wp_mapEntry_at 47 (.tmp 42) (.tmp 44) 174 rfl rfl _ _ _ _ rfl rfl HEN.out ?_
  refine hK.out _ _ HS7.out (fun hHeld => ?_)
  clear hK
  try simp only [Act.put, List.setIfInBounds_toArray, List.set_cons_zero, List.set_cons_succ]
  refine takeM (i := 9) (oi := _) (oM := _) (v := (goInt st)) 48 1 rfl rfl rfl (by kernel_rfl) (by kernel_rfl) (by kernel_rfl) (by kernel_rfl) (by kernel_rfl) (by kernel_rfl) (fun _ _ _ h => h) (Or.inl ⟨by rfl, fun w2 hSw => by go_simp⟩) hHeld ?_
  try simp only [Act.put, List.setIfInBounds_toArray, List.set_cons_zero, List.set_cons_succ]
  refine wpAnyM_ready (rs := [10]) (by kernel_rfl) (by simp) ?_
  refine AllReadyM.last rfl (by kernel_rfl) (fun K hK => ?_)
  rw [if_pos (by rfl)]
  refine wp_entryStore_no (.tmp 42) (.tmp 48) (.tmp 46) 174 rfl rfl _ _ _ _ rfl rfl rfl HST.out ?_
  refine hK.out _ _ ?_
  clear hK
  try simp only [Act.put, List.setIfInBounds_toArray, List.set_cons_zero, List.set_cons_succ]
  refine wpAny_done (by kernel_rfl) ?_ _
  refine NoPanic.normal ?_
  obtain ⟨t8, s8⟩ := HTD.out.count HM8.out HG8.out
  have HX8 := Lib.hid ((HX6.out.below HBD.out).on s8 HTD.out.nums)
  have HT8 := Lib.hid t8
  have HS8 := Lib.hid s8
  clear t8 s8
  go_wp2_with fail
  go_ret
  exact ⟨rfl, K3, V3, HX8.out, HT8.out, ((((Q.Stays.of_below HB1.out (tts b m1 m2)).trans (Q.Stays.up (G := tts b m1 m2) HS5.out (fun j e => Or.inl e)) (fun _ e => .inl e)).trans HS6.out (fun _ e => .inl e)).trans (Q.Stays.of_below HBD.out (tts b m1 m2)) (fun _ e => .inl e)).trans HS8.out (fun _ e => .inl e)⟩
end
end Go.Proofs.YtoclhiaidbfheaaGreatDoor.T
end

section
set_option linter.unusedVariables false
namespace Go.Proofs.YtoclhiaidbfheaaGreatDoor.T
open Go.RowKit Q S Go.ChangeMaps Go.MapKept

theorem nameC (n : Nat) : (Tryz.prog.info? 387).map (·.size) = some ([.bool false, .int .u32 (n : Int)] : List Value).length := by kernel_rfl
section
variable {w W W' : World} {k : LK} {c : C.CS} {q : Nat} {D : DataW Value} {b : Nat} {rm : Int} {m1 nx m2 : Nat} {q1 : Nat} {D1 : DataW Value} {q2 : Nat} {D2 : DataW Value}
set_option maxRecDepth 100000 in
set_option maxHeartbeats 4000000 in
theorem TT.counts (h : TT W b k.p 200 60 rm m1 nx m2 false q1 D1 q2 D2) (hl : LS w W k c q D) (n m : Nat) (hn : n < 2000) (hm : C.lookN c.now (n : Int) = m) (hm2 : m ≤ 1000) (ct : Int) (hct : D2.atKey (keyN n) (.held (.int .i64 0)) = .held (.int .i64 ct)) (hc1 : -1000 < ct) (hc2 : ct < 1000) :
    Calls Tryz.prog 285 #[.pointer (some ⟨b, 0, none⟩), keyV n] W fun e w' => e = .returned (.int .i64 ((m : Int) + ct)) ∧ Below W.heap.size W w' := by
  obtain ⟨W1, hW1⟩ : ∃ W1, W.alloc (.cells #[.bool false, .int .u32 (n : Int)] 387) = W1 := ⟨_, rfl⟩
  have hb1 : Below W.heap.size W W1 := by rw [← hW1]; exact (Below.refl _ W).alloc (Nat.le_refl _) _
  have hbx : W1.heap[W.heap.size]? = some (.cells #[.bool false, .int .u32 (n : Int)] 387 (0, 0)) := by rw [← hW1]; exact heap_alloc_new W _
  have t1 := h.below hb1
  have l1 := hl.below hb1
  have HB1 := Lib.hid hb1
  have HBX := Lib.hid hbx
  have HT1 := Lib.hid t1
  have HCN : Hid (∀ W', Below W1.heap.size W1 W' → Calls Tryz.prog 181 #[k.p, .int .u32 (n : Int)] W' fun e w' => e = .returned (.int .u16 (m : Int)) ∧ Below W'.heap.size W' w') := Lib.hid (fun W' hb => by
    have := (l1.below hb).count n (by omega)
    rwa [hm] at this)
  have HLK : Hid (∀ W', Below W1.heap.size W1 W' → (Instr.lookup 174 (.map (some m2)) (keyV n) false).run Tryz.prog W' = .ok (.int .i64 ct) W') := Lib.hid (fun W' hb => (t1.below hb).more.look n (by omega) hct)
  have hx0 := Joins.cell_of_block (i := 0) hbx
  have hwm : IntKind.i64.wrap (m : Int) = (m : Int) := by rw [IntKind.wrap_i64]; omega
  have hws : IntKind.i64.wrap ((m : Int) + ct) = (m : Int) + ct := by rw [IntKind.wrap_i64]; omega
  clear h hl hb1 hbx t1 l1 hct
  have HS : Hid (∀ W', Below W1.heap.size W1 W' → W'.cell? ⟨b, 0, none⟩ = some k.p ∧ W'.cell? ⟨b, 6, none⟩ = some (.map (some m2)) ∧ W'.cell? ⟨W.heap.size, 1, none⟩ = some (.int .u32 (n : Int)) ∧ W'.rangeAt W.heap.size 0 [.bool false, .int .u32 (n : Int)]) := Lib.hid (fun W' hb => by
    have t := HT1.out.below hb
    have x := (hb.block W.heap.size (Array.getElem?_eq_some_iff.1 HBX.out).1).trans HBX.out
    exact ⟨Joins.cell_of_block (i := 0) t.box, Joins.cell_of_block (i := 6) t.box, Joins.cell_of_block (i := 1) x, range_of x⟩)
  unfold LK.p at *
  go_enter Tryz.func285, Tryz.ntmps285
  go_upto_region 3 with fail
  clear hW1 hx0
  refine wp_region_noPanic ?_
  refine wp_region_held_drew (S := fun w' => Below W1.heap.size W1 w') (by kernel_rfl) ((Below.refl _ W1).drew) (fun hHeld => ?_)
  refine takeN (i := 0) (oi := _) (v := (.pointer (some ⟨b, 0, none⟩))) 22 rfl rfl (by kernel_rfl) (by kernel_rfl) (by kernel_rfl) (fun _ _ _ h => h) (Or.inl ⟨by rfl, fun w2 hSw => by go_simp⟩) hHeld ?_
  try simp only [Act.put, List.setIfInBounds_toArray, List.set_cons_zero, List.set_cons_succ]
  refine takeN (i := 1) (oi := _) (v := (.pointer (some ⟨b, 0, none⟩))) 23 rfl rfl (by kernel_rfl) (by kernel_rfl) (by kernel_rfl) (fun _ _ _ h => h) (Or.inl ⟨by rfl, fun w2 hSw => by go_simp⟩) hHeld ?_
  try simp only [Act.put, List.setIfInBounds_toArray, List.set_cons_zero, List.set_cons_succ]
  refine takeN (i := 2) (oi := _) (v := (.pointer (some ⟨b, 0, none⟩))) 24 rfl rfl (by kernel_rfl) (by kernel_rfl) (by kernel_rfl) (fun _ _ _ h => h) (Or.inl ⟨by rfl, fun w2 hSw => by go_simp⟩) hHeld ?_
  try simp only [Act.put, List.setIfInBounds_toArray, List.set_cons_zero, List.set_cons_succ]
  refine takeN (i := 3) (oi := _) (v := (.pointer (some ⟨k.bs, 0, none⟩))) 25 rfl rfl (by kernel_rfl) (by kernel_rfl) (by kernel_rfl) (fun _ _ _ h => h) (Or.inl ⟨by rfl, fun w2 hSw => by (have hc := (HS.out w2 hSw).1; go_simp)⟩) hHeld ?_
  try simp only [Act.put, List.setIfInBounds_toArray, List.set_cons_zero, List.set_cons_succ]
  refine takeN (i := 4) (oi := _) (v := (.pointer (some ⟨W.heap.size, 1, none⟩))) 26 rfl rfl (by kernel_rfl) (by kernel_rfl) (by kernel_rfl) (fun _ _ _ h => h) (Or.inl ⟨by rfl, fun w2 hSw => by go_simp⟩) hHeld ?_
  try simp only [Act.put, List.setIfInBounds_toArray, List.set_cons_zero, List.set_cons_succ]
  refine takeN (i := 5) (oi := _) (v := (.int .u32 (n : Int))) 27 rfl rfl (by kernel_rfl) (by kernel_rfl) (by kernel_rfl) (fun _ _ _ h => h) (Or.inl ⟨by rfl, fun w2 hSw => by (have hc := (HS.out w2 hSw).2.2.1; go_simp)⟩) hHeld ?_
  try simp only [Act.put, List.setIfInBounds_toArray, List.set_cons_zero, List.set_cons_succ]
  refine takeN (i := 8) (oi := _) (v := (.pointer (some ⟨b, 0, none⟩))) 30 rfl rfl (by kernel_rfl) (by kernel_rfl) (by kernel_rfl) (fun _ _ _ h => h) (Or.inl ⟨by rfl, fun w2 hSw => by go_simp⟩) hHeld ?_
  try simp only [Act.put, List.setIfInBounds_toArray, List.set_cons_zero, List.set_cons_succ]
  refine takeN (i := 9) (oi := _) (v := (.pointer (some ⟨b, 0, none⟩))) 31 rfl rfl (by kernel_rfl) (by kernel_rfl) (by kernel_rfl) (fun _ _ _ h => h) (Or.inl ⟨by rfl, fun w2 hSw => by go_simp⟩) hHeld ?_
  try simp only [Act.put, List.setIfInBounds_toArray, List.set_cons_zero, List.set_cons_succ]
  refine takeN (i := 10) (oi := _) (v := (.pointer (some ⟨b, 6, none⟩))) 32 rfl rfl (by kernel_rfl) (by kernel_rfl) (by kernel_rfl) (fun _ _ _ h => h) (Or.inl ⟨by rfl, fun w2 hSw => by go_simp⟩) hHeld ?_
  try simp only [Act.put, List.setIfInBounds_toArray, List.set_cons_zero, List.set_cons_succ]
  refine takeN (i := 11) (oi := _) (v := (.map (some m2))) 33 rfl rfl (by kernel_rfl) (by kernel_rfl) (by kernel_rfl) (fun _ _ _ h => h) (Or.inl ⟨by rfl, fun w2 hSw => by (have hc := (HS.out w2 hSw).2.1; go_simp)⟩) hHeld ?_
  try simp only [Act.put, List.setIfInBounds_toArray, List.set_cons_zero, List.set_cons_succ]
  have hnd := Tryz.underlying387
  refine takeN (i := 12) (oi := _) (v := (.agg #[.bool false, .int .u32 (n : Int)])) 34 rfl rfl (by kernel_rfl) (by kernel_rfl) (by kernel_rfl) (fun _ _ _ h => h) (yieldsIf_load_mid (by rfl) 387 (.tmp 3) rfl W.heap.size 0 rfl [.bool false, .int .u32 (n : Int)] _ (fun w2 hSw => (HS.out w2 hSw).2.2.2) hnd rfl (nameC n)) hHeld ?_
  try simp only [Act.put, List.setIfInBounds_toArray, List.set_cons_zero, List.set_cons_succ]
  clear hnd
  refine takeN (i := 13) (oi := _) (v := (.int .i64 ct)) 35 rfl rfl (by kernel_rfl) (by kernel_rfl) (by kernel_rfl) (fun _ _ _ h => h) (Or.inl ⟨by rfl, fun w2 hSw => by (have hc := HLK.out w2 hSw; go_simp)⟩) hHeld ?_
  try simp only [Act.put, List.setIfInBounds_toArray, List.set_cons_zero, List.set_cons_succ]
  refine wpAnyH_ready (rs := [6]) (by kernel_rfl) (by simp) ?_
  refine AllReadyH.cons rfl (fun K hK => ?_) AllReadyH.nil
  go_simp
  go_wp2_with (first
    | (go_at_call 181; (with_reducible refine (HCN.out _ hHeld).mono ?_); rintro e w5 ⟨rfl, hb5⟩)
    | fail)
  have HB5 := Lib.hid (hHeld.trans (hb5.mono hHeld.size))
  refine hK.out _ _ HB5.out (fun hHeld => ?_)
  clear hK
  try simp only [Act.put, List.setIfInBounds_toArray, List.set_cons_zero, List.set_cons_succ]
  refine takeN (i := 7) (oi := _) (v := (.int .i64 (m : Int))) 29 rfl rfl (by kernel_rfl) (by kernel_rfl) (by kernel_rfl) (fun _ _ _ h => h) (Or.inl ⟨by rfl, fun w2 hSw => by go_simp⟩) hHeld ?_
  try simp only [Act.put, List.setIfInBounds_toArray, List.set_cons_zero, List.set_cons_succ]
  refine takeN (i := 14) (oi := _) (v := (.int .i64 ((m : Int) + ct))) 36 rfl rfl (by kernel_rfl) (by kernel_rfl) (by kernel_rfl) (fun _ _ _ h => h) (Or.inl ⟨by rfl, fun w2 hSw => by go_simp⟩) hHeld ?_
  try simp only [Act.put, List.setIfInBounds_toArray, List.set_cons_zero, List.set_cons_succ]
  refine takeN (i := 15) (oi := _) (v := (.int .i64 ((m : Int) + ct))) 4 rfl rfl (by kernel_rfl) (by kernel_rfl) (by kernel_rfl) (fun _ _ _ h => h) (Or.inl ⟨by rfl, fun w2 hSw => by go_simp⟩) hHeld ?_
  try simp only [Act.put, List.setIfInBounds_toArray, List.set_cons_zero, List.set_cons_succ]
  refine wpAnyH_done (by kernel_rfl) ?_ _
  refine NoPanic.normal ?_
  go_wp2_with fail
  go_ret
  exact ⟨rfl, HB1.out.trans (HB5.out.mono HB1.out.size)⟩
end
end Go.Proofs.YtoclhiaidbfheaaGreatDoor.T
end

section
set_option linter.unusedVariables false
namespace Go.Proofs.YtoclhiaidbfheaaGreatDoor.T
open Go.RowKit Q S Go.ChangeMaps Go.MapKept

section
variable {w W W' : World} {k : LK} {c : C.CS} {q : Nat} {D : DataW Value} {b : Nat} {p : Value} {mt dt : Nat} {rm : Int} {m1 nx m2 : Nat} {fl : Bool} {q1 : Nat} {D1 : DataW Value} {q2 : Nat} {D2 : DataW Value}
set_option maxRecDepth 100000 in
set_option maxHeartbeats 4000000 in
theorem TT.new (h : TT W b p mt dt rm m1 nx m2 fl q1 D1 q2 D2) (hr : 0 < rm) (hr2 : rm < 1000) (hn : nx < 1000) (hq1 : q1 < 900) (hq2 : q2 < 900) (kd bi : Nat) (KK VV : Value) (ks vs : List Nat) (hx : NO W KK VV ks vs) (hl : ks.length ≤ 1000) (hl2 : vs.length ≤ 1000) (hm : mayB ⟨kd, bi, ks, vs⟩ = true) (ct : Int) (hct : D2.atKey (keyN nx) (.held (.int .i64 0)) = .held (.int .i64 ct)) (hc1 : -1000 < ct) (hc2 : ct < 1000) :
    Calls Tryz.prog 281 #[.pointer (some ⟨b, 0, none⟩), .agg #[.int .i64 (kd : Int), .int .u64 (bi : Int), KK, VV]] W fun e w' => e = .returned (.tuple #[.int .u32 (nx : Int), .int .i64 0]) ∧ Hid (∃ K2 V2, NO w' K2 V2 ks vs ∧ TT w' b p mt dt (rm - 1) m1 (nx + 1) m2 fl (q1 + 1) (D1.put (keyU nx) (.held (.agg #[.int .i64 (kd : Int), .int .u64 (bi : Int), K2, V2]))) (q2 + 1) (D2.put (keyN nx) (.held (.int .i64 (ct + 1)))) ∧ Q.Stays W w' (tts b m1 m2)) := by
  obtain ⟨W1, hW1⟩ : ∃ W1, W.alloc (.cells #[.int .i64 (kd : Int), .int .u64 (bi : Int), KK, VV] 45) = W1 := ⟨_, rfl⟩
  have hb1 : Below W.heap.size W W1 := by rw [← hW1]; exact (Below.refl _ W).alloc (Nat.le_refl _) _
  have hbx : W1.heap[W.heap.size]? = some (.cells #[.int .i64 (kd : Int), .int .u64 (bi : Int), KK, VV] 45 (0, 0)) := by rw [← hW1]; exact heap_alloc_new W _
  have t1 := h.below hb1
  have x1 := hx.below hb1
  have hma := x1.may kd bi
  rw [hm] at hma
  have HMAY := Lib.hid hma
  have HADD : Hid (∀ W', Below W1.heap.size W1 W' → Calls Tryz.prog 287 #[.pointer (some ⟨b, 0, none⟩), .agg #[.int .i64 (kd : Int), .int .u64 (bi : Int), KK, VV]] W' fun e w' => e = .returned (.int .u32 (nx : Int)) ∧ Hid (∃ K2 V2, NO w' K2 V2 ks vs ∧ TT w' b p mt dt (rm - 1) m1 (nx + 1) m2 fl (q1 + 1) (D1.put (keyU nx) (.held (.agg #[.int .i64 (kd : Int), .int .u64 (bi : Int), K2, V2]))) (q2 + 1) (D2.put (keyN nx) (.held (.int .i64 (ct + 1)))) ∧ Q.Stays W' w' (tts b m1 m2))) := Lib.hid (fun W' hb => (t1.below hb).add hr hr2 hn hq1 hq2 kd bi KK VV ks vs (x1.below hb) hl hl2 ct hct hc1 hc2)
  have HB1 := Lib.hid hb1
  have HBX := Lib.hid hbx
  have HRN := Lib.hid (range_of hbx)
  clear h hx hb1 hbx hct t1 x1 hma
  go_enter Tryz.func281, Tryz.ntmps281
  go_wp2_with (first
    | (go_at_call 47; (with_reducible refine HMAY.out.mono ?_); rintro e w2 ⟨rfl, hb2⟩; have HB2 := Lib.hid hb2; have HRN2 := Lib.hid (range_of ((hb2.block W.heap.size (Array.getElem?_eq_some_iff.1 HBX.out).1).trans HBX.out)); clear hb2)
    | (go_at_call 287; (with_reducible refine (HADD.out _ HB2.out).mono ?_); rintro e w3 ⟨rfl, h3⟩)
    | (refine wpList_load_mid rfl 45 (.tmp 3) rfl W.heap.size 0 rfl [.int .i64 (kd : Int), .int .u64 (bi : Int), KK, VV] _ ?hcl Tryz.underlying45 rfl (nodeC _ _ _ _) ?_; (case hcl => first | exact HRN2.out | exact HRN.out))
    | fail)
  go_ret2
  obtain ⟨K2, V2, hx3, t3, s3⟩ := h3.out
  exact ⟨rfl, K2, V2, hx3, t3, (Q.Stays.of_below (HB1.out.trans (HB2.out.mono HB1.out.size)) (tts b m1 m2)).trans s3 (fun _ e => .inl e)⟩
set_option maxRecDepth 100000 in
set_option maxHeartbeats 4000000 in
theorem TT.put (h : TT W b k.p 200 60 rm m1 nx m2 false q1 D1 q2 D2) (hL : LS w W k c q D) (hq1 : q1 < 900) (n m : Nat) (hn : n < 2000) (hcn : C.lookN c.now (n : Int) = m) (hm2 : m ≤ 1000) (ct : Int) (hct : D2.atKey (keyN n) (.held (.int .i64 0)) = .held (.int .i64 ct)) (hc1 : -1000 < ct) (hc2 : ct < 1000) (hne : ¬ (m : Int) + ct = 0) (kd bi : Nat) (KK VV : Value) (ks vs : List Nat) (hx : NO W KK VV ks vs) (hl : ks.length ≤ 1000) (hl2 : vs.length ≤ 1000) (hm : mayB ⟨kd, bi, ks, vs⟩ = true) :
    Calls Tryz.prog 283 #[.pointer (some ⟨b, 0, none⟩), .int .u32 (n : Int), .agg #[.int .i64 (kd : Int), .int .u64 (bi : Int), KK, VV]] W fun e w' => e = .returned (.int .i64 0) ∧ Hid (∃ K2 V2, NO w' K2 V2 ks vs ∧ TT w' b k.p 200 60 rm m1 nx m2 false (q1 + 1) (D1.put (keyU n) (.held (.agg #[.int .i64 (kd : Int), .int .u64 (bi : Int), K2, V2]))) q2 D2 ∧ Q.Stays W w' (tts b m1 m2)) := by
  obtain ⟨W1, hW1⟩ : ∃ W1, W.alloc (.cells #[.int .i64 (kd : Int), .int .u64 (bi : Int), KK, VV] 45) = W1 := ⟨_, rfl⟩
  have hb1 : Below W.heap.size W W1 := by rw [← hW1]; exact (Below.refl _ W).alloc (Nat.le_refl _) _
  have hbx : W1.heap[W.heap.size]? = some (.cells #[.int .i64 (kd : Int), .int .u64 (bi : Int), KK, VV] 45 (0, 0)) := by rw [← hW1]; exact heap_alloc_new W _
  have t1 := h.below hb1
  have x1 := hx.below hb1
  have l1 := hL.below hb1
  have hma := x1.may kd bi
  rw [hm] at hma
  have HMAY := Lib.hid hma
  have HCT : Hid (∀ W', Below W1.heap.size W1 W' → Calls Tryz.prog 285 #[.pointer (some ⟨b, 0, none⟩), keyV n] W' fun e w' => e = .returned (.int .i64 ((m : Int) + ct)) ∧ Below W'.heap.size W' w') := Lib.hid (fun W' hb => (t1.below hb).counts (l1.below hb) n m hn hcn hm2 ct hct hc1 hc2)
  have HT := Lib.hid (fun i (hi : tts b m1 m2 i) => h.lt hi)
  have HT1 := Lib.hid t1
  have HX1 := Lib.hid x1
  have HB1 := Lib.hid hb1
  have HBX := Lib.hid hbx
  have HRN := Lib.hid (range_of hbx)
  have hzn := name_zero
  clear h hx hb1 hbx hct t1 x1 l1 hma hL hcn
  go_enter Tryz.func283, Tryz.ntmps283
  go_upto_region 5 with (first
    | (go_at_call 47; (with_reducible refine HMAY.out.mono ?_); rintro e w2 ⟨rfl, hb2⟩; have HB2 := Lib.hid hb2; clear hb2)
    | (go_at_call 285; (with_reducible refine (HCT.out _ HB2.out).mono ?_); rintro e w3 ⟨rfl, hb3⟩; have HB3 := Lib.hid (HB2.out.trans (hb3.mono HB2.out.size)); clear hb3)
    | (refine wpList_load_mid rfl 45 (.tmp 5) rfl W.heap.size 0 rfl [.int .i64 (kd : Int), .int .u64 (bi : Int), KK, VV] _ HRN.out Tryz.underlying45 rfl (nodeC _ _ _ _) ?_)
    | fail)
  clear hW1 hzn
  have HT3 := Lib.hid (HT1.out.below HB3.out)
  have HX3 := Lib.hid (HX1.out.below HB3.out)
  have HBX3 : Hid (w3.heap[W.heap.size]? = some (.cells #[.int .i64 (kd : Int), .int .u64 (bi : Int), KK, VV] 45 (0, 0))) := Lib.hid ((HB3.out.block W.heap.size (Array.getElem?_eq_some_iff.1 HBX.out).1).trans HBX.out)
  have HS3 := Lib.hid (Q.Stays.of_below (HB1.out.trans (HB3.out.mono HB1.out.size)) (tts b m1 m2))
  clear HB3 HB1 HMAY HCT HBX HX1 HT1 HB2 HRN
  have HCP := Lib.hid ((HX3.out.below ((Below.refl _ w3).drew)).copy kd bi hl hl2)
  have h4 : w3.drew.cell? ⟨b, 4, none⟩ = some (.map (some m1)) := Joins.cell_of_block (i := 4) HT3.out.box
  refine wp_region_noPanic ?_
  refine wp_region_held_drew (S := fun w' => w'.cell? ⟨b, 4, none⟩ = some (.map (some m1)) ∧ w'.rangeAt W.heap.size 0 [.int .i64 (kd : Int), .int .u64 (bi : Int), KK, VV]) (by kernel_rfl) ⟨h4, by have := range_of HBX3.out; exact this⟩ (fun hHeld => ?_)
  refine takeN (i := 0) (oi := _) (v := (.pointer (some ⟨b, 0, none⟩))) 19 rfl rfl (by kernel_rfl) (by kernel_rfl) (by kernel_rfl) (fun _ _ _ h => h) (Or.inl ⟨by rfl, fun w2 hSw => by go_simp⟩) hHeld ?_
  try simp only [Act.put, List.setIfInBounds_toArray, List.set_cons_zero, List.set_cons_succ]
  refine takeN (i := 1) (oi := _) (v := (.pointer (some ⟨b, 0, none⟩))) 20 rfl rfl (by kernel_rfl) (by kernel_rfl) (by kernel_rfl) (fun _ _ _ h => h) (Or.inl ⟨by rfl, fun w2 hSw => by go_simp⟩) hHeld ?_
  try simp only [Act.put, List.setIfInBounds_toArray, List.set_cons_zero, List.set_cons_succ]
  refine takeN (i := 2) (oi := _) (v := (.pointer (some ⟨b, 4, none⟩))) 21 rfl rfl (by kernel_rfl) (by kernel_rfl) (by kernel_rfl) (fun _ _ _ h => h) (Or.inl ⟨by rfl, fun w2 hSw => by go_simp⟩) hHeld ?_
  try simp only [Act.put, List.setIfInBounds_toArray, List.set_cons_zero, List.set_cons_succ]
  refine takeN (i := 3) (oi := _) (v := (.map (some m1))) 22 rfl rfl (by kernel_rfl) (by kernel_rfl) (by kernel_rfl) (fun _ _ _ h => h) (Or.inl ⟨by rfl, fun w2 hSw => by (have hc := hSw.1; go_simp)⟩) hHeld ?_
  try simp only [Act.put, List.setIfInBounds_toArray, List.set_cons_zero, List.set_cons_succ]
  refine takeN (i := 4) (oi := _) (v := (.int .u32 (n : Int))) 23 rfl rfl (by kernel_rfl) (by kernel_rfl) (by kernel_rfl) (fun _ _ _ h => h) (Or.inl ⟨by rfl, fun w2 hSw => by go_simp⟩) hHeld ?_
  try simp only [Act.put, List.setIfInBounds_toArray, List.set_cons_zero, List.set_cons_succ]
  have hnd := Tryz.underlying45
  refine takeN (i := 5) (oi := _) (v := (.agg #[.int .i64 (kd : Int), .int .u64 (bi : Int), KK, VV])) 24 rfl rfl (by kernel_rfl) (by kernel_rfl) (by kernel_rfl) (fun _ _ _ h => h) (yieldsIf_load_mid (by rfl) 45 (.tmp 5) rfl W.heap.size 0 rfl [.int .i64 (kd : Int), .int .u64 (bi : Int), KK, VV] _ (fun w2 hSw => hSw.2) hnd rfl (nodeC kd bi KK VV)) hHeld ?_
  try simp only [Act.put, List.setIfInBounds_toArray, List.set_cons_zero, List.set_cons_succ]
  clear hnd
  refine wpAnyH_ready (rs := [6]) (by kernel_rfl) (by simp) ?_
  refine AllReadyH.cons rfl (fun K hK => ?_) AllReadyH.nil
  go_simp
  go_wp2_with (first
    | (go_at_call 107; (with_reducible refine HCP.out.mono ?_); rintro e w5 ⟨K3, V3, rfl, hx5, hb5⟩)
    | fail)
  have HT5 := Lib.hid (HT3.out.below ((Below.refl w3.heap.size w3).drew.trans hb5))
  have HB5 : Hid (w5.heap[W.heap.size]? = some (.cells #[.int .i64 (kd : Int), .int .u64 (bi : Int), KK, VV] 45 (0, 0))) := Lib.hid ((hb5.block W.heap.size (Array.getElem?_eq_some_iff.1 HBX3.out).1).trans HBX3.out)
  have HX5 := Lib.hid hx5
  have HS5 := Lib.hid (HS3.out.trans (Q.Stays.of_below ((Below.refl w3.heap.size w3).drew.trans hb5) (tts b m1 m2)) (fun _ e => .inl e))
  clear hx5 hb5
  refine hK.out _ _ ⟨Joins.cell_of_block (i := 4) HT5.out.box, range_of HB5.out⟩ (fun hHeld => ?_)
  clear hK HCP
  try simp only [Act.put, List.setIfInBounds_toArray, List.set_cons_zero, List.set_cons_succ]
  obtain ⟨w6, hup, hfm6, hg6⟩ := HT5.out.says.update (by omega) n (by omega) (.agg #[.int .i64 (kd : Int), .int .u64 (bi : Int), K3, V3])
  obtain ⟨t6, s6⟩ := HT5.out.say hfm6 hg6
  refine wpAnyH_ready (rs := [7]) (by kernel_rfl) (by simp) ?_
  refine AllReadyH.cons rfl (fun K hK => ?_) AllReadyH.nil
  rw [if_pos (by rfl)]
  refine wp_mapUpdate_no (.tmp 22) (.tmp 23) (.tmp 25) 167 rfl rfl _ _ _ _ rfl rfl rfl hup ?_
  have hb6 : w6.heap[W.heap.size]? = some (.cells #[.int .i64 (kd : Int), .int .u64 (bi : Int), KK, VV] 45 (0, 0)) := (s6.block W.heap.size (Array.getElem?_eq_some_iff.1 HB5.out).1 (fun e => by have := HT.out _ e; omega)).trans HB5.out
  refine hK.out _ _ ⟨Joins.cell_of_block (i := 4) t6.box, range_of hb6⟩ (fun hHeld => ?_)
  have HT6 := Lib.hid t6
  have HS6 := Lib.hid s6
  have HX6 := Lib.hid (HX5.out.on s6 HT5.out.nums)
  clear hK hup hfm6 hg6 t6 s6 hb6 hHeld h4
  try simp only [Act.put, List.setIfInBounds_toArray]
  refine wpAnyH_done (by kernel_rfl) ?_ _
  refine NoPanic.normal ?_
  go_wp2_with fail
  go_ret
  exact ⟨rfl, K3, V3, HX6.out, HT6.out, HS5.out.trans HS6.out (fun _ e => .inl e)⟩
end
end Go.Proofs.YtoclhiaidbfheaaGreatDoor.T
end
