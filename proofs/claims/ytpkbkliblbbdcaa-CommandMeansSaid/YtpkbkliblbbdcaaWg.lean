/- The document's Block. Rows of the document's values: laws for the walk of its Unpack. A slice cut at both ends, for the walk: where it lies is told by a name. The walk of the document's Unpack. The document's Unpack for any shape; what both Unpacks hand back, told alike; rows that lie elsewhere. -/
import Derived.Test.YtpkbkliblbbdcaaWf
import Derived.Test.YtpkbkliblbbdcaaWc
import Derived.Test.YtpkbkliblbbdcaaWe
import Derived.Maps.AppendAt
import Derived.Deep.RegionHeldLaw
import Derived.Lib.SmallJoins
section
namespace Go.Proofs.Ytpkbkliblbbdcaa
open Go.RowKit
set_option maxRecDepth 20000

set_option maxRecDepth 10000 in
set_option maxHeartbeats 1000000 in
theorem block_val (l : List UInt8) (h : l.length = 256) (w : World) :
    Calls Try.prog 62 #[.agg (cells8 l).toArray] w fun e w' => e = .returned (.agg (lvCells (lvX l) none 0).toArray) ∧ Below w.heap.size w w' := by
  have hzv := zero_val
  have HB := Lib.hid (built_block l h)
  have hb1 : Below w.heap.size w ((w.alloc (.cells (cells8 l).toArray 76)).alloc (.cells (lvCells lv0 none 0).toArray 78)) := ((Below.refl _ _).alloc (Nat.le_refl _) _).alloc (by simp) _
  go_enter Try.func62, Try.ntmps62
  have h0 : ((w.alloc (.cells (cells8 l).toArray 76)).alloc (.cells (lvCells lv0 none 0).toArray 78)).heap[w.heap.size]? = some (.cells (cells8 l).toArray 76 (0, 0)) := by
    rw [Below.heap_alloc _ _ _ (by simp)]
    exact heap_alloc_new w _
  have h1 := heap_alloc2_new w (.cells (cells8 l).toArray 76) (.cells (lvCells lv0 none 0).toArray 78)
  have H0 := Lib.hid h0
  have H1 := Lib.hid h1
  clear h0 h1
  go_wp2_with (first
    | refine wpList_load_row rfl 76 (.tmp 1) rfl w.heap.size rfl 76 (cells8 l).toArray (0, 0) _ H0.out Try.underlying76 rfl (block_cells l h) ?_
    | refine wpList_buildTo rfl 78 _ rfl (some 4) rfl (lvCells (lvX l) none 0).toArray (by rw [Array.toList_map]; exact HB.out) ?_
    | refine wpList_store_row rfl 78 (.tmp 2) (.tmp 4) rfl (w.heap.size + 1) (lvCells (lvX l) none 0).toArray rfl rfl 78 (lvCells lv0 none 0).toArray H1.out (by rw [val_size, cells_sz h]) (by rw [cells_sz zeros256_length, cells_sz h]) (cells_one _ _ _) ?_
    | fail)
  exact bodyPost_ret (results_cell_row rfl _ _ (w.heap.size + 1) 78 (lvCells (lvX l) none 0).toArray (0, 0) _ rfl (setRow_heap _ _ _ _ _ _ H1.out) Try.underlying78 rfl (by rw [val_size, cells_sz h])) rfl ⟨rfl, below_setRow hb1 (by omega) _⟩
end Go.Proofs.Ytpkbkliblbbdcaa
end

section
namespace Go.Proofs.Ytpkbkliblbbdcaa
open Go.RowKit
set_option maxRecDepth 20000

theorem val_info : (Try.prog.info? 78).map (fun i => (i.zero, i.size, i.bytes)) = some (some (.agg (lvCells lv0 none 0).toArray), 260, 304) := by kernel_rfl

/-- a slice literal of one value -/
theorem wpList_one_val {ops : Array Oper} {rest : List Oper} {o : Oper} {a : Act} {w : World} {Q : Exit → Act → World → Prop} (hg : o.guard = none) (x : Operand) (ho : o.op = .buildSlice 80 1 #[(0, x)])
    (v : LVal) (A : Option Addr) (cap : Nat) (hx : v.x.length = 256) (hv : a.eval x = .agg (lvCells v A cap).toArray)
    (h : wpList Try.prog ops Q rest (a.put o.dst (.slice (some ⟨w.heap.size, 0, none⟩) 1 1)) (w.alloc (.cells (lvCells v A cap).toArray 78))) : wpList Try.prog ops Q (o :: rest) a w := by
  obtain ⟨i0, hi, hz0, hz1, hz2⟩ := info_parts val_info
  refine wpList_buildSlice hg 80 78 1 _ ho _ i0 _ Try.underlying80 hi hz0 (by rw [hz1]; decide) (by rw [hz1]; decide) ?_ h
  rw [hz1, Array.toList_map]
  have := Great.fill_whole (s := 260) (by decide) [.agg (lvCells v A cap).toArray] ((Array.range (1 * 260)).map ((Value.agg (lvCells lv0 none 0).toArray).cells[· % (Value.agg (lvCells lv0 none 0).toArray).cells.size]!))
    (by intro u hu; simp at hu; subst hu; exact cells_sz hx A cap) (by simp)
  simp only [List.flatMap_cons, List.flatMap_nil, List.append_nil] at this
  show Instr.fill _ _ [(0, a.eval x)] = _
  rw [hv]
  simpa [Value.cells] using this

/-- one value more behind a row of the call's own -/
theorem wpList_append_val {ops : Array Oper} {rest : List Oper} {o : Oper} {a : Act} {w : World} {Q : Exit → Act → World → Prop} (hgd : o.guard = none) (s x : Operand)
    (ho : o.op = .call { callee := .builtin .append, args := #[s, x], argTypes := #[80, 80] })
    (base : Nat) (u : Value) (n : Nat) (xs : List Value) (hs : a.eval s = u) (hown : w.ownsRow base 78 260 u n xs)
    (v : LVal) (A : Option Addr) (cap : Nat) (hv : v.x.length = 256) (hx : a.eval x = .slice (some ⟨w.heap.size, 0, none⟩) 1 1)
    (hn : n ≤ 1000) (hbase : base ≤ w.heap.size)
    (h : ∀ v' w', w'.ownsRow base 78 260 v' (n + 1) (xs ++ lvCells v A cap) → Below base w w' → wpList Try.prog ops Q rest (a.put o.dst v') w') :
    wpList Try.prog ops Q (o :: rest) a (w.alloc (.cells (lvCells v A cap).toArray 78)) := by
  obtain ⟨i0, hi, hz0, hz1, hz2⟩ := info_parts val_info
  refine wpList_append_own_at (w.alloc _) hgd s x 80 ho base 78 i0 _ 260 304 Try.underlying80 hi hz0 hz1 hz2 (by exact cells_sz zeros256_length _ _) (by decide) u n xs hs (hown.alloc _)
    ⟨w.heap.size, 0, none⟩ 1 1 (lvCells v A cap) hx (by rw [lv_length hv]) ?_ (lv_one v A cap) (by unfold maxLen; omega) (by omega) (by simp; omega) ?_
  · intro j z hz
    have ha : (⟨w.heap.size, 0, none⟩ : Addr).add j = ⟨w.heap.size, j, none⟩ := by
      unfold Addr.add
      by_cases hj0 : j = 0 <;> simp [hj0]
    rw [ha, cell_of_row _ w.heap.size j _ _ (0, 0) (heap_alloc_new w _)]
    simpa using hz
  · intro v' w' h2 h3 _ _
    refine h v' w' h2 ?_
    exact (((Below.refl base w).alloc hbase _)).grown h3 (by simp; omega) (fun k hk => (hown.lt k hk).1)

theorem row_below {w w' : World} {base n size : Nat} {e : TypeId} {v : Value} {xs : List Value} (h : w.ownsRow base e size v n xs) (hb : Below w.heap.size w w') : w'.ownsRow base e size v n xs := by
  refine ⟨h.1, ?_⟩
  rcases h.2 with h2 | ⟨g, cap, cur, hv, hg, hh, hr⟩
  · exact .inl h2
  · exact .inr ⟨g, cap, cur, hv, hg, (hb.block g (Array.getElem?_eq_some_iff.1 hh).1).trans hh, hr⟩
theorem row_setRow {w : World} {base n size K : Nat} {e : TypeId} {v : Value} {xs : List Value} (h : w.ownsRow base e size v n xs) (hk : ∀ k, v.ownBlock = some k → k < K) (cs : Array Value) : (w.setRow K cs).ownsRow base e size v n xs := by
  refine ⟨h.1, ?_⟩
  rcases h.2 with h2 | ⟨g, cap, cur, hv, hg, hh, hr⟩
  · exact .inl h2
  · have : g < K := hk g (by rw [hv]; rfl)
    exact .inr ⟨g, cap, cur, hv, hg, by rw [setRow_other w K g cs (by omega)]; exact hh, hr⟩

/-- a row's cells are these values -/
def Vals (w : World) (B : Nat) (xs : List Value) (vals : List LVal) : Prop := ∀ i (h : i < vals.length), LVok w B ((xs.drop (i * 260)).take 260) vals[i]
theorem Vals.nil (w : World) (B : Nat) : Vals w B [] [] := fun i h => absurd h (by simp)
set_option maxRecDepth 4000 in
theorem Vals.snoc {w : World} {B : Nat} {xs cs : List Value} {vals : List LVal} {v : LVal} (h : Vals w B xs vals) (hl : xs.length = vals.length * 260) (hv : LVok w B cs v) : Vals w B (xs ++ cs) (vals ++ [v]) := by
  intro i hi
  have hcl := hv.length
  rcases Nat.lt_or_ge i vals.length with hlt | hge
  · have h1 := h i hlt
    rw [List.getElem_append_left hlt]
    have h2 : i * 260 + 260 ≤ xs.length := by rw [hl]; omega
    rw [List.drop_append_of_le_length (by omega), List.take_append_of_le_length (by rw [List.length_drop]; omega)]
    exact h1
  · have : i = vals.length := by simp at hi; omega
    subst this
    rw [← hl, List.drop_left, List.take_of_length_le (by omega)]
    simpa using hv
theorem Vals.vrow {w w' : World} {B n c : Nat} {A : Option Addr} {base : Nat} {xs : List Value} {vals : List LVal} (h : Vals w B xs vals) (hown : w'.ownsRow base 78 260 (.slice A n c) n xs) (hn : n = vals.length) (hb : Below B w w') (hB : B ≤ w'.heap.size) : VRow w' w'.heap.size A vals := by
  intro hp
  rcases hown.2 with ⟨_, h0⟩ | ⟨g, cap, cur, hv, hg, hh, hnc, hcm, hcs, ht⟩
  · omega
  · injection hv with h1 h2 h3
    refine ⟨⟨g, 0, none⟩, h1, (Array.getElem?_eq_some_iff.1 hh).1, fun i hi => ⟨_, ((h i hi).below hb).wide hB, fun j u hj => ?_⟩⟩
    have ha : (⟨g, 0, none⟩ : Addr).add (i * 260 + j) = ⟨g, i * 260 + j, none⟩ := by
      unfold Addr.add
      generalize i * 260 + j = m
      by_cases hj0 : m = 0 <;> simp [hj0]
    rw [List.getElem?_take] at hj
    split at hj
    · rename_i hj260
      rw [List.getElem?_drop, ← ht, List.getElem?_take] at hj
      split at hj
      · rw [ha, cell_of_row w' g _ _ _ _ hh, ← Array.getElem?_toList]
        exact hj
      · cases hj
    · cases hj
theorem told_N (n : Nat) : toldP (lvN n) = .num n := rfl
theorem told_F (b : Bool) : toldP (lvF b) = .flag b := rfl
theorem told_B (l : List UInt8) : toldP (lvB l) = .blob l := rfl
theorem told_X (l : List UInt8) : toldP (lvX l) = .block l := rfl
theorem ok_N (w : World) (B n : Nat) (h : n < 18446744073709551616) : LVok w B (lvCells (lvN n) none 0) (lvN n) := ⟨none, 0, rfl, zeros256_length, h, Shows.empty _ _ _, Nat.le_refl _, by omega⟩
theorem ok_F (w : World) (B : Nat) (b : Bool) : LVok w B (lvCells (lvF b) none 0) (lvF b) := ⟨none, 0, rfl, zeros256_length, Nat.zero_lt_succ _, Shows.empty _ _ _, Nat.le_refl _, by omega⟩
theorem ok_X (w : World) (B : Nat) (l : List UInt8) (h : l.length = 256) : LVok w B (lvCells (lvX l) none 0) (lvX l) := ⟨none, 0, rfl, h, Nat.zero_lt_succ _, Shows.empty _ _ _, Nat.le_refl _, by omega⟩
theorem ok_B {w : World} {B : Nat} {A : Option Addr} {l : List UInt8} {cap : Nat} (h : Shows w B A l.length (cells8 l)) (hc : l.length ≤ cap) (hm : cap ≤ 9223372036854775807) : LVok w B (lvCells (lvB l) A cap) (lvB l) := ⟨A, cap, rfl, zeros256_length, Nat.zero_lt_succ _, h, hc, hm⟩
end Go.Proofs.Ytpkbkliblbbdcaa
end

section
namespace Go.Proofs.Ytpkbkliblbbdcaa
open Go.RowKit
set_option maxRecDepth 20000

/-- where a slice lies that is cut at its front at l -/
def cutA (p : Addr) (l cap : Nat) : Option Addr := if cap = l then some p else some (p.add l)
theorem wpList_slice_lh {ops : Array Oper} {rest : List Oper} {o : Oper} {a : Act} {w : World} {Q : Exit → Act → World → Prop} (hg : o.guard = none) (x lo hi : Operand) (ho : o.op = .slice 24 x (some lo) (some hi) none)
    (p : Addr) (L cap l h m : Nat) (zl zh : Int) (hx : a.eval x = .slice (some p) L cap) (hlo : a.eval lo = .int .i64 zl) (hhi : a.eval hi = .int .i64 zh) (el : zl = (l : Int)) (eh : zh = (h : Int)) (h1 : l ≤ h) (h2 : h ≤ cap) (hm : h - l = m)
    (k : wpList Try.prog ops Q rest (a.put o.dst (.slice (cutA p l cap) m (cap - l))) w) : wpList Try.prog ops Q (o :: rest) a w := by
  subst el
  subst eh
  have ht : Try.prog.underlying 24 = some (.slice (Try.prog.elem 24)) := by kernel_rfl
  have hsz : ∀ w, (sizeOf (Try.prog.elem 24)).run Try.prog w = .ok 1 w := fun w => by kernel_rfl
  have hr : (Instr.sliceAt 24 (.slice (some p) L cap) (some (.int .i64 (l : Int))) (some (.int .i64 (h : Int))) none).run Try.prog w = .ok (.slice (cutA p l cap) m (cap - l)) w := by
    rw [run_sliceAt_slice w _ _ _ _ _ ht, run_slice_lh w _ _ _ _ ht .i64 .i64 (l : Int) (h : Int) (by omega) (by omega) (by omega), hsz]
    simp only [Result.andThen, sliced, Int.toNat_natCast, Nat.mul_one, Option.map_some, hm, cutA]
  refine wpList_plain hg fun K hK => ?_
  unfold Oper.wp execOp
  simp only [ho, Option.map_some, Option.map_none, hx, hlo, hhi, Sem.run_bind, hr, Result.andThen_ok, Sem.run_pure]
  exact hK _ _ k
theorem cutA_shows {w : World} {B L l m cap : Nat} {p : Addr} {xs : List Value} (h : Shows w B (some p) L xs) (hl : l + m ≤ L) (hc : L ≤ cap) : Shows w B (cutA p l cap) m ((xs.drop l).take m) := by
  refine ⟨by rw [List.length_take, List.length_drop, h.len]; omega, fun hp => ?_⟩
  obtain ⟨q, hq, hb, hx⟩ := h.lies (by omega)
  injection hq with hq
  subst hq
  unfold cutA
  rw [if_neg (by omega)]
  refine ⟨p.add l, rfl, by rw [addr_block]; exact hb, fun j u hj => ?_⟩
  rw [addr_twice]
  rw [List.getElem?_take] at hj
  split at hj
  · rw [List.getElem?_drop] at hj
    exact hx _ u hj
  · cases hj
end Go.Proofs.Ytpkbkliblbbdcaa
end

section
namespace Go.Proofs.Ytpkbkliblbbdcaa
open Go.RowKit
set_option maxRecDepth 20000

/-- what the document's Unpack leaves -/
def RUnp (w : World) (B : Nat) (s l : List UInt8) (e : Ending) (w' : World) : Prop :=
  Below w.heap.size w w' ∧ if mayS s = true then
    match unpZ s l with
    | none => e = .returned (.tuple #[.slice none 0 0, .int .i64 0, .int .i64 4])
    | some (ps, n) => ∃ v xs vals, e = .returned (.tuple #[v, .int .i64 (n : Int), .int .i64 0]) ∧ w'.ownsRow w.heap.size 78 260 v vals.length xs ∧ Vals w B xs vals ∧ vals.map toldP = ps
  else e = .returned (.tuple #[.slice none 0 0, .int .i64 0, .int .i64 2])
theorem runp_arg {w w' : World} {B : Nat} {s l : List UInt8} {e : Ending} (hb : Below w.heap.size w w') (hm : mayS s = false) (he : e = .returned (.tuple #[.slice none 0 0, .int .i64 0, .int .i64 2])) : RUnp w B s l e w' :=
  ⟨hb, by rw [if_neg (by rw [hm]; decide)]; exact he⟩
theorem runp_none {w w' : World} {B : Nat} {s l : List UInt8} {e : Ending} (hb : Below w.heap.size w w') (hm : mayS s = true) (hu : unpZ s l = none) (he : e = .returned (.tuple #[.slice none 0 0, .int .i64 0, .int .i64 4])) : RUnp w B s l e w' :=
  ⟨hb, by rw [if_pos hm, hu]; exact he⟩

theorem one_letter (s : ByteArray) (i : Nat) (h : i < s.size) : bs (s.extract i (i + 1)) = [s[i]'h] := by
  have e : bs (s.extract i (i + 1)) = ((bs s).drop i).take 1 := by
    simp [bs, ByteArray.data_extract]
  rw [e, List.drop_eq_getElem_cons (by rw [bs_length]; exact h), bs_get s i h]
  rfl
theorem one_least (s : ByteArray) (i : Nat) (h : i < s.size) (hm : mayS (bs s) = true) : ¬ lst ((s[i]'h).toNat : Int) = 0 ∧ leastM (bs (s.extract i (i + 1))) = (lst ((s[i]'h).toNat : Int)).toNat := by
  have h1 : letter (s[i]'h) = true := by
    unfold mayS at hm
    rw [List.all_eq_true] at hm
    exact hm _ (by rw [← bs_get s i h]; exact List.getElem_mem _)
  refine ⟨by simpa [letter] using h1, ?_⟩
  rw [one_letter s i h]
  simp [leastM, mayS, h1, leastS]

theorem sub_shows {w : World} {B L n m : Nat} {p : Addr} {xs : List Value} (h : Shows w B (some p) L xs) (hm : n + m ≤ L) : Shows w B (some (p.add n)) m ((xs.drop n).take m) := by
  refine ⟨by rw [List.length_take, List.length_drop, h.len]; omega, fun hp => ?_⟩
  obtain ⟨q, hq, hb, hx⟩ := h.lies (by omega)
  injection hq with hq
  subst hq
  refine ⟨p.add n, rfl, by rw [addr_block]; exact hb, fun j u hj => ?_⟩
  rw [addr_twice]
  rw [List.getElem?_take] at hj
  split at hj
  · rw [List.getElem?_drop] at hj
    exact hx _ u hj
  · cases hj
theorem row_upto {w w' : World} {base n size C : Nat} {e : TypeId} {v : Value} {xs : List Value} (h : w.ownsRow base e size v n xs) (hk : ∀ k, v.ownBlock = some k → k < C) (hb : Below C w w') : w'.ownsRow base e size v n xs := by
  refine ⟨h.1, ?_⟩
  rcases h.2 with h2 | ⟨g, cap, cur, hv, hg, hh, hr⟩
  · exact .inl h2
  · exact .inr ⟨g, cap, cur, hv, hg, (hb.block g (hk g (by rw [hv]; rfl))).trans hh, hr⟩
theorem beq1 (b : UInt8) : ((b.toNat : Int) == 1) = (b.toNat == 1) := by rw [Bool.eq_iff_iff, beq_iff_eq, beq_iff_eq]; omega

set_option maxRecDepth 10000 in
set_option maxHeartbeats 8000000 in
theorem runpack_loop (s : ByteArray) (B : Nat) (A : Option Addr) (cap : Nat) (l : List UInt8) (w : World) (hs : s.size ≤ 1000) (hl : Shows w B A l.length (cells8 l)) (hB : B ≤ w.heap.size) (hc : l.length ≤ cap) (hcm : cap ≤ 9223372036854775807) (hl2 : l.length ≤ 1000000000) (hm : mayS (bs s) = true) :
    Calls Try.prog 47 #[.string s, .slice A l.length cap] w (RUnp w B (bs s) l) := by
  have HM := Lib.hid hm
  clear hm
  go_enter Try.func47, Try.ntmps47
  go_wp2_with fail
  refine (rmay_any s w (by omega)).mono ?_
  rintro e w' ⟨rfl, rfl⟩
  rw [HM.out]
  go_wp2_with fail
  go_loopw [7, 8, 9] (fun u a j wr => ∃ (i n : Nat) (xs : List Value) (vals : List LVal), i ≤ s.size ∧ j = .int .i64 (i : Int) ∧ a = .int .i64 (n : Int) ∧ wr.ownsRow w.heap.size 78 260 u vals.length xs ∧ Below w.heap.size w wr ∧ Hid (Vals w B xs vals) ∧ Hid (unpZ ((bs s).take i) l = some (vals.map toldP, n))) (fun _ _ j _ => s.size - (intOf j).toNat)
  case atStart => exact ⟨0, 0, [], [], Nat.zero_le _, rfl, rfl, World.ownsRow_nil _ _ _ _, Below.refl _ _, Vals.nil _ _, by simp [Hid, unpZ]⟩
  case round =>
    obtain ⟨i, n, xs, vals, hi, rfl, rfl, hown, hbr, HV, HU⟩ := hrel
    have hnb := (unpZ_bounds HU.out).2.1
    have hvl : vals.length = ((bs s).take i).length := by have := (unpZ_bounds HU.out).2.2; rw [List.length_map] at this; exact this
    have hv1000 : vals.length ≤ 1000 := by rw [hvl, List.length_take, bs_length]; omega
    clear hvl
    by_cases hlt : i < s.size
    · obtain ⟨hlst, hle⟩ := one_least s i hlt HM.out
      have hrl := rleast_any (s.extract i (i + 1)) wr (by rw [← bs_length, one_letter s i hlt]; simp)
      rw [hle] at hrl
      have hstop := fun h => unpZ_stop s l i hlt HU.out h
      have hgo := fun p k h => unpZ_go (p := p) (k := k) s l i hlt HU.out h
      have HSTOP := Lib.hid hstop
      have HGO := Lib.hid hgo
      have hlb := lst_le ((s[i]'hlt).toNat : Int)
      clear hle hstop hgo
      generalize hcc : s[i]'hlt = c at *
      obtain ⟨k, hk⟩ : ∃ k : Nat, lst (c.toNat : Int) = (k : Int) := ⟨(lst (c.toNat : Int)).toNat, by omega⟩
      have hkt : (lst (c.toNat : Int)).toNat = k := by omega
      rw [hkt] at hrl
      have HRL := Lib.hid hrl
      have HK := Lib.hid hk
      have hk0 : 1 ≤ k := by omega
      have hk256 : k ≤ 256 := by omega
      clear hrl hkt hlst hlb hk
      have hdl : (l.drop n).length = l.length - n := List.length_drop
      have HDL := Lib.hid hdl
      clear hdl
      -- ROUND
      go_wp2_with fail
      refine HRL.out.mono ?_
      rintro e w' ⟨rfl, rfl⟩
      have hKw := hbr.size
      by_cases hsh : l.length - n < k
      · have hd : decide ((l.length : Int) - (n : Int) < (k : Int)) = true := by simp; omega
        have HDEC := Lib.hid (HSTOP.out (dec1_short (c.toNat : Int) (l.drop n) (by rw [HDL.out, HK.out]; omega)))
        clear hsh
        go_wp2
        go_ret3
        exact runp_none hbr HM.out HDEC.out rfl
      · have hd : decide ((l.length : Int) - (n : Int) < (k : Int)) = false := by simp; omega
        have hb1 := hbr.alloc hKw (.cells (lvCells lv0 none 0).toArray 78)
        have hown1 := hown.alloc (.cells (lvCells lv0 none 0).toArray 78)
        have hs1 := hl.below (hb1.mono hB)
        have hnk : ∀ k, u7.ownBlock = some k → k < wr.heap.size := fun k hk => (hown.lt k hk).2
        have HNK := Lib.hid hnk
        have hzv := zero_val
        clear hnk
        by_cases q63 : c = 63
        · have j63 := eq63 q63
          have hk1 : k = 1 := by have := HK.out; rw [q63] at this; simp [lst] at this; omega
          have HK1 := Lib.hid hk1
          clear hk1
          have hnl : n < l.length := by omega
          obtain ⟨p, u1, hA, hp, hu1, hcell⟩ := hs1.cell (show n < l.length by omega)
          subst hA
          rw [cells8_get l n (by omega)] at hu1
          injection hu1 with hu1
          subst hu1
          have hgd : (l.drop n).getD 0 0 = l[n]'(by omega) := by simp [List.getD, List.getElem?_drop, show n < l.length by omega]
          have hdec := dec1_flag (l.drop n) (by rw [HDL.out]; omega)
          rw [hgd] at hdec
          have hcq : (c.toNat : Int) = 63 := by rw [q63]; rfl
          rw [hcq] at HSTOP HGO
          generalize (l[n]'(by omega)) = b at *
          clear hgd
          by_cases hb1' : 1 < b.toNat
          · have ht : decide ((1 : Int) < (b.toNat : Int)) = true := by simp; omega
            rw [if_pos hb1'] at hdec
            have HDEC := Lib.hid (HSTOP.out hdec)
            clear hdec hb1' hsh
            go_wp2_with (first
              | (refine wpList_store_row rfl 78 (.tmp 12) (.tmp 39) rfl wr.heap.size (lvCells lv0 none 0).toArray rfl rfl 78 (lvCells lv0 none 0).toArray (heap_alloc_new wr _) (by rw [val_size, cells_sz zeros256_length]) rfl (cells_one _ _ _) ?_; rw [World.setRow_alloc_new])
              | fail)
            go_ret3
            exact runp_none hb1 HM.out HDEC.out rfl
          · have ht : decide ((1 : Int) < (b.toNat : Int)) = false := by simp; omega
            rw [if_neg hb1'] at hdec
            have HDEC := Lib.hid hdec
            have hbe := beq1 b
            clear hdec hb1' hsh
            go_wp2_with (first
              | (refine wpList_store_row rfl 78 (.tmp 12) (.tmp 39) rfl wr.heap.size (lvCells lv0 none 0).toArray rfl rfl 78 (lvCells lv0 none 0).toArray (heap_alloc_new wr _) (by rw [val_size, cells_sz zeros256_length]) rfl (cells_one _ _ _) ?_; rw [World.setRow_alloc_new])
              | fail)
            refine (flag_val _ _).mono ?_
            rintro e w2 ⟨rfl, hb2⟩
            have hK2 : w2.heap[wr.heap.size]? = some (.cells (lvCells lv0 none 0).toArray 78 (0, 0)) := (hb2.block _ (by simp)).trans (heap_alloc_new wr _)
            have hown2 := row_below hown1 hb2
            have hB2 := hb1.trans (hb2.mono (by first | omega | (simp; omega)))
            have hown3 := row_setRow hown2 HNK.out (lvCells (lvF (b.toNat == 1)) none 0).toArray
            have hK3 := setRow_heap w2 wr.heap.size _ (lvCells (lvF (b.toNat == 1)) none 0).toArray 78 (0, 0) hK2
            have hB3 := below_setRow hB2 hKw (lvCells (lvF (b.toNat == 1)) none 0).toArray
            have hsz3 := hB3.size
            clear hown1 hown2 hb1 hB2 hb2
            go_wp2_with (first
              | refine wpList_store_row rfl 78 (.tmp 12) (.tmp 61) rfl wr.heap.size (lvCells (lvF (b.toNat == 1)) none 0).toArray rfl rfl 78 (lvCells lv0 none 0).toArray hK2 (by rw [val_size, cells_sz zeros256_length]) (by rw [cells_sz zeros256_length, cells_sz zeros256_length]) (cells_one _ _ _) ?_
              | refine wpList_load_row rfl 78 (.tmp 12) rfl wr.heap.size rfl 78 (lvCells (lvF (b.toNat == 1)) none 0).toArray (0, 0) _ hK3 Try.underlying78 rfl (by rw [val_size, cells_sz zeros256_length]) ?_
              | refine wpList_one_val rfl (.tmp 106) rfl (lvF (b.toNat == 1)) none 0 zeros256_length rfl ?_
              | (refine wpList_append_val rfl (.tmp 105) (.tmp 107) rfl w.heap.size u7 vals.length xs rfl hown3 (lvF (b.toNat == 1)) none 0 zeros256_length rfl hv1000 hsz3 ?_; intro v4 w4 hown4 hb4)
              | fail)
            go_roundw
            case rel => exact ⟨i + 1, n + k, xs ++ (lvCells (lvF (b.toNat == 1)) none 0), vals ++ [lvF (b.toNat == 1)], hlt, by go_num, by go_num, by rw [List.length_append]; exact hown4, hB3.trans hb4, Vals.snoc HV.out hown.1 (ok_F w B (b.toNat == 1)), by unfold Hid; rw [HGO.out _ _ (show dec1 63 (l.drop n) = some (_, k) by rw [HK1.out]; exact HDEC.out)]; simp [told_F]⟩
            case measure => simp [intOf]; omega
        · have j63 := ne63 q63
          by_cases q42 : c = 42
          · have j42 := eq42 q42
            have hk1 : k = 4 := by have := HK.out; rw [q42] at this; simp [lst] at this; omega
            obtain ⟨p, hA, hp, _⟩ := hl.lies (show 0 < l.length by omega)
            subst hA
            have hcq : (c.toNat : Int) = 42 := by rw [q42]; rfl
            rw [hcq] at HSTOP HGO
            have hdec := dec1_blob (l.drop n) (by rw [HDL.out]; omega)
            unfold blobR at hdec
            rw [HDL.out] at hdec
            have hs4 := sub_shows hs1 (n := n) (m := 4) (by omega)
            rw [← cells8_drop, ← cells8_take] at hs4
            have hl4 : ((l.drop n).take 4).length = 4 := by rw [List.length_take, HDL.out]; omega
            have hN32 := num8_lt ((l.drop n).take 4)
            rw [hl4] at hN32
            have hrs := rsum_any B (some (p.add n)) (cap - n) ((l.drop n).take 4) _ (by rw [hl4]; exact hs4) (by omega)
            rw [hl4] at hrs
            have HRS := Lib.hid hrs
            clear hrs hs4 hl4
            have hcn : ¬ cap = n := by omega
            have hn4 : n + 4 - n = 4 := by omega
            have hb0 : (0 : Int) ≤ (n : Int) + 4 := by omega
            have hb1' : (n : Int) + 4 ≤ (cap : Int) := by omega
            have hb2' : (n : Int) ≤ (n : Int) + 4 := by omega
            generalize hNN : num8 ((l.drop n).take 4) = N at *
            have hN : N < 4294967296 := hN32
            clear hNN hN32
            have HNC : Hid (IntKind.i64.wrap (N : Int) = (N : Int)) := Lib.hid (IntWalk.i64_in _ (by omega))
            by_cases hbad : 16777216 < N ∨ l.length - n - 4 < N
            · rw [if_pos hbad] at hdec
              have HDEC := Lib.hid (HSTOP.out hdec)
              clear hdec
              go_wp2_with (first
                | (refine wpList_store_row rfl 78 (.tmp 12) (.tmp 39) rfl wr.heap.size (lvCells lv0 none 0).toArray rfl rfl 78 (lvCells lv0 none 0).toArray (heap_alloc_new wr _) (by rw [val_size, cells_sz zeros256_length]) rfl (cells_one _ _ _) ?_; rw [World.setRow_alloc_new])
                | fail)
              refine HRS.out.mono ?_
              rintro e w' ⟨rfl, rfl⟩
              by_cases hg : 16777216 < N
              · have t1 : decide ((16777216 : Int) < (N : Int)) = true := by simp; omega
                clear hbad hsh
                have hnc := HNC.out
                go_wp2
                go_ret3
                exact runp_none hb1 HM.out HDEC.out rfl
              · have t1 : decide ((16777216 : Int) < (N : Int)) = false := by simp; omega
                have t2 : decide ((l.length : Int) - (n : Int) - 4 < (N : Int)) = true := by simp; omega
                clear hbad hsh hg
                have hnc := HNC.out
                go_wp2
                go_ret3
                exact runp_none hb1 HM.out HDEC.out rfl
            · rw [if_neg hbad] at hdec
              have t1 : decide ((16777216 : Int) < (N : Int)) = false := by simp; omega
              have t2 : decide ((l.length : Int) - (n : Int) - 4 < (N : Int)) = false := by simp; omega
              have hNle : n + 4 + N ≤ l.length := by omega
              have hbl : (((l.drop n).drop 4).take N).length = N := by rw [List.length_take, List.length_drop, HDL.out]; omega
              have HBL := Lib.hid hbl
              have hsub := cutA_shows hl (l := n + 4) (m := N) (cap := cap) (by omega) hc
              rw [← cells8_drop, ← cells8_take, ← List.drop_drop] at hsub
              have HSUB := Lib.hid hsub
              have HDEC := Lib.hid hdec
              have HNL := Lib.hid hNle
              clear hdec hbl hsub hbad hNle
              go_wp2_with (first
                | (refine wpList_store_row rfl 78 (.tmp 12) (.tmp 39) rfl wr.heap.size (lvCells lv0 none 0).toArray rfl rfl 78 (lvCells lv0 none 0).toArray (heap_alloc_new wr _) (by rw [val_size, cells_sz zeros256_length]) rfl (cells_one _ _ _) ?_; rw [World.setRow_alloc_new])
                | fail)
              refine HRS.out.mono ?_
              rintro e w' ⟨rfl, rfl⟩
              have hnc := HNC.out
              clear hsh
              go_wp2_with (first
                | refine wpList_slice_lh rfl (.tmp 85) (.tmp 87) (.tmp 90) rfl p l.length cap (n + 4) (n + (4 + N)) N _ _ rfl rfl rfl (by omega) (by omega) (by omega) (by have := HNL.out; omega) (by omega) ?_
                | fail)
              have hbv := bytes_val (((l.drop n).drop 4).take N) (cutA p (n + 4) cap) (cap - (n + 4))
              rw [HBL.out] at hbv
              refine (hbv _).mono ?_
              rintro e w2 ⟨rfl, hb2⟩
              have hcx : (((l.drop n).drop 4).take N).length ≤ cap - (n + 4) := by rw [HBL.out]; have := HNL.out; omega
              have hokB := ok_B (by rw [HBL.out]; exact HSUB.out) hcx (by omega)
              have HOKB := Lib.hid hokB
              clear hbv hcx hokB HRS HSUB HBL
              generalize ((l.drop n).drop 4).take N = bl at *
              have hK2 : w2.heap[wr.heap.size]? = some (.cells (lvCells lv0 none 0).toArray 78 (0, 0)) := (hb2.block _ (by simp)).trans (heap_alloc_new wr _)
              have hown2 := row_below hown1 hb2
              have hB2 := hb1.trans (hb2.mono (by first | omega | (simp; omega)))
              have hown3 := row_setRow hown2 HNK.out (lvCells (lvB bl) (cutA p (n + 4) cap) (cap - (n + 4))).toArray
              have hK3 := setRow_heap w2 wr.heap.size _ (lvCells (lvB bl) (cutA p (n + 4) cap) (cap - (n + 4))).toArray 78 (0, 0) hK2
              have hB3 := below_setRow hB2 hKw (lvCells (lvB bl) (cutA p (n + 4) cap) (cap - (n + 4))).toArray
              have hsz3 := hB3.size
              clear hown1 hown2 hb1 hB2 hb2
              go_wp2_with (first
                | refine wpList_store_row rfl 78 (.tmp 12) (.tmp 92) rfl wr.heap.size (lvCells (lvB bl) (cutA p (n + 4) cap) (cap - (n + 4))).toArray rfl rfl 78 (lvCells lv0 none 0).toArray hK2 (by rw [val_size, cells_sz zeros256_length]) (by rw [cells_sz zeros256_length, cells_sz zeros256_length]) (cells_one _ _ _) ?_
                | refine wpList_load_row rfl 78 (.tmp 12) rfl wr.heap.size rfl 78 (lvCells (lvB bl) (cutA p (n + 4) cap) (cap - (n + 4))).toArray (0, 0) _ hK3 Try.underlying78 rfl (by rw [val_size, cells_sz zeros256_length]) ?_
                | refine wpList_one_val rfl (.tmp 106) rfl (lvB bl) (cutA p (n + 4) cap) (cap - (n + 4)) zeros256_length rfl ?_
                | (refine wpList_append_val rfl (.tmp 105) (.tmp 107) rfl w.heap.size u7 vals.length xs rfl hown3 (lvB bl) (cutA p (n + 4) cap) (cap - (n + 4)) zeros256_length rfl hv1000 hsz3 ?_; intro v4 w4 hown4 hb4)
                | fail)
              go_roundw
              case rel => exact ⟨i + 1, n + (4 + N), xs ++ (lvCells (lvB bl) (cutA p (n + 4) cap) (cap - (n + 4))), vals ++ [lvB bl], hlt, by go_num, by go_num, by rw [List.length_append]; exact hown4, hB3.trans hb4, Vals.snoc HV.out hown.1 (HOKB.out), by unfold Hid; rw [HGO.out _ _ HDEC.out]; simp [told_B]⟩
              case measure => simp [intOf]; omega
          · have j42 := ne42 q42
            by_cases q35 : c = 35
            · have j35 := eq35 q35
              have hk1 : k = 256 := by have := HK.out; rw [q35] at this; simp [lst] at this; omega
              have HK1 := Lib.hid hk1
              obtain ⟨p, hA, hp, _⟩ := hl.lies (show 0 < l.length by omega)
              subst hA
              have hcq : (c.toNat : Int) = 35 := by rw [q35]; rfl
              rw [hcq] at HSTOP HGO
              have hdec := dec1_block (l.drop n) (by rw [HDL.out]; omega)
              have hb256 : ((l.drop n).take 256).length = 256 := by rw [List.length_take, HDL.out]; omega
              have HB256 := Lib.hid hb256
              have hsub := sub_shows hs1 (n := n) (m := 256) (by omega)
              rw [← cells8_drop, ← cells8_take] at hsub
              have HSUB := Lib.hid hsub
              have HDEC := Lib.hid hdec
              have hcn : ¬ cap = n := by omega
              have hn4 : n + 256 - n = 256 := by omega
              have hb0 : (0 : Int) ≤ (n : Int) + 256 := by omega
              have hb1' : (n : Int) + 256 ≤ (cap : Int) := by omega
              have hb2' : (n : Int) ≤ (n : Int) + 256 := by omega
              have hzb := zero_block
              have hsubw := sub_shows hl (n := n) (m := 256) (by omega)
              rw [← cells8_drop, ← cells8_take] at hsubw
              have HSW := Lib.hid hsubw
              clear hdec hb256 hsub hsh hk1 hsubw HSUB
              go_wp2_with (first
                | (refine wpList_store_row rfl 78 (.tmp 12) (.tmp 39) rfl wr.heap.size (lvCells lv0 none 0).toArray rfl rfl 78 (lvCells lv0 none 0).toArray (heap_alloc_new wr _) (by rw [val_size, cells_sz zeros256_length]) rfl (cells_one _ _ _) ?_; rw [World.setRow_alloc_new])
                | refine wpList_store_row rfl 76 (.tmp 14) (.tmp 95) rfl (wr.heap.size + 1) (cells8 zeros256).toArray rfl rfl 76 (cells8 zeros256).toArray (heap_alloc2_new wr _ _) (block_cells _ zeros256_length) rfl (all_oneCell_toArray (cells8_one _)) ?_
                | fail)
              have e0 : ((wr.alloc (.cells (lvCells lv0 none 0).toArray 78)).alloc (.cells (cells8 zeros256).toArray 76)).heap[wr.heap.size]? = some (.cells (lvCells lv0 none 0).toArray 78 (0, 0)) := by
                rw [Below.heap_alloc _ _ _ (by simp)]
                exact heap_alloc_new wr _
              have e1 := heap_alloc2_new wr (.cells (lvCells lv0 none 0).toArray 78) (.cells (cells8 zeros256).toArray 76)
              have f0 : (((wr.alloc (.cells (lvCells lv0 none 0).toArray 78)).alloc (.cells (cells8 zeros256).toArray 76)).setRow (wr.heap.size + 1) (cells8 zeros256).toArray).heap[wr.heap.size]? = some (.cells (lvCells lv0 none 0).toArray 78 (0, 0)) := by
                rw [setRow_other _ _ _ _ (by omega)]
                exact e0
              have f1 := setRow_heap _ (wr.heap.size + 1) _ (cells8 zeros256).toArray 76 (0, 0) e1
              have f2 := below_setRow (hb1.alloc (by simp; omega) (.cells (cells8 zeros256).toArray 76)) (show w.heap.size ≤ wr.heap.size + 1 by omega) (cells8 zeros256).toArray
              have f3 := row_setRow (K := wr.heap.size + 1) (hown1.alloc (.cells (cells8 zeros256).toArray 76)) (fun k hk => Nat.lt_succ_of_lt (HNK.out k hk)) (cells8 zeros256).toArray
              have f4 : (((wr.alloc (.cells (lvCells lv0 none 0).toArray 78)).alloc (.cells (cells8 zeros256).toArray 76)).setRow (wr.heap.size + 1) (cells8 zeros256).toArray).heap.size = wr.heap.size + 2 := by simp
              clear e0 e1 hown1 hb1 hzb hzv hs1
              generalize (((wr.alloc (.cells (lvCells lv0 none 0).toArray 78)).alloc (.cells (cells8 zeros256).toArray 76)).setRow (wr.heap.size + 1) (cells8 zeros256).toArray) = W3 at *
              have F0 := Lib.hid f0
              have F1 := Lib.hid f1
              have F4 := Lib.hid f4
              have hsw3 := HSW.out.below (f2.mono hB)
              have hcw3 : ∀ j v, (cells8 ((l.drop n).take 256))[j]? = some v → W3.drew.cell? ((p.add n).add j) = some v := by
                obtain ⟨q, hq, _, hx⟩ := hsw3.lies (by omega)
                injection hq with hq
                subst hq
                exact hx
              have HCW := Lib.hid hcw3
              have htn : ((n : Int) + 256).toNat = n + 256 := by omega
              have hw4 : IntKind.i64.wrap ((n : Int) + 256) = (n : Int) + 256 := IntWalk.i64_in _ (by omega)
              have hbl8 : (cells8 ((l.drop n).take 256)).length = 256 := by rw [cells8_length, HB256.out]
              have HBL8 := Lib.hid hbl8
              have hu8 : (Try.prog.info? 5).map (·.size) = some 1 := by kernel_rfl
              clear f0 f1 f4 hsw3 hcw3 hbl8
              go_region_held_law (fun _ => True) (exact True.intro) (first
                | (refine step_copy_splice rfl (.tmp 96) (.tmp 101) 24 24 (by rfl) 5 Try.underlying24 hu8 (some ⟨wr.heap.size + 1, 0, none⟩) (some (p.add n)) 256 256 256 (cap - n) (by rfl) (by rfl) (wr.heap.size + 1) 0 (cells8 zeros256) 76 F1.out (cells8 ((l.drop n).take 256)) HBL8.out (fun _ => ⟨rfl, p.add n, rfl, HCW.out⟩) (by rw [HBL8.out, cells8_length, zeros256_length]; exact Nat.le_refl _) (cells8_one _) (wr.heap.size + 1) W3.drew (Below.refl _ _) (Nat.le_refl _) ?_; intro w4 hg4 hb4)
                | fail)
              have esp : splice (cells8 zeros256) 0 (cells8 ((l.drop n).take 256)) = cells8 ((l.drop n).take 256) := by
                simp only [splice, List.take_zero, List.nil_append, Nat.zero_add, HBL8.out]
                have hdz : (cells8 zeros256).drop 256 = [] := List.drop_of_length_le (by rw [cells8_length, zeros256_length]; exact Nat.le_refl _)
                rw [hdz, List.append_nil]
              rw [esp] at hg4
              have F04 : w4.heap[wr.heap.size]? = some (.cells (lvCells lv0 none 0).toArray 78 (0, 0)) := (hb4.block _ (by omega)).trans F0.out
              have hown1 : w4.ownsRow w.heap.size 78 260 u7 vals.length xs := row_upto f3.drew HNK.out (hb4.mono (by omega))
              have hb1 : Below w.heap.size w w4 := f2.drew.trans (hb4.mono (by omega))
              have hsz4 : wr.heap.size + 2 ≤ w4.heap.size := by have h1 := hb4.size; have h2 := F4.out; have h3 : W3.drew.heap.size = W3.heap.size := rfl; omega
              have HF04 := Lib.hid F04
              clear esp F04 f2 f3 hb4 hw4 htn hcn hn4 hb0 hb1' hb2' F0 F1 F4 HCW HBL8 HSW
              generalize (l.drop n).take 256 = bk at *
              go_wp2_with (first
                | refine wpList_load_row rfl 76 (.tmp 14) rfl (wr.heap.size + 1) rfl 76 (cells8 bk).toArray (0, 0) _ hg4.out Try.underlying76 rfl (block_cells bk HB256.out) ?_
                | fail)
              refine (block_val bk HB256.out w4).mono ?_
              rintro e w2 ⟨rfl, hb2⟩
              have hK2 : w2.heap[wr.heap.size]? = some (.cells (lvCells lv0 none 0).toArray 78 (0, 0)) := (hb2.block _ (by omega)).trans HF04.out
              have hown2 := row_below hown1 hb2
              have hB2 := hb1.trans (hb2.mono (by first | omega | (simp; omega)))
              have hown3 := row_setRow hown2 HNK.out (lvCells (lvX bk) none 0).toArray
              have hK3 := setRow_heap w2 wr.heap.size _ (lvCells (lvX bk) none 0).toArray 78 (0, 0) hK2
              have hB3 := below_setRow hB2 hKw (lvCells (lvX bk) none 0).toArray
              have hsz3 := hB3.size
              clear hown1 hown2 hb1 hB2 hb2
              go_wp2_with (first
                | refine wpList_store_row rfl 78 (.tmp 12) (.tmp 104) rfl wr.heap.size (lvCells (lvX bk) none 0).toArray rfl rfl 78 (lvCells lv0 none 0).toArray hK2 (by rw [val_size, cells_sz HB256.out]) (by rw [cells_sz zeros256_length, cells_sz HB256.out]) (cells_one _ _ _) ?_
                | refine wpList_load_row rfl 78 (.tmp 12) rfl wr.heap.size rfl 78 (lvCells (lvX bk) none 0).toArray (0, 0) _ hK3 Try.underlying78 rfl (by rw [val_size, cells_sz HB256.out]) ?_
                | refine wpList_one_val rfl (.tmp 106) rfl (lvX bk) none 0 HB256.out rfl ?_
                | (refine wpList_append_val rfl (.tmp 105) (.tmp 107) rfl w.heap.size u7 vals.length xs rfl hown3 (lvX bk) none 0 HB256.out rfl hv1000 hsz3 ?_; intro v4 w4 hown4 hb4)
                | fail)
              go_roundw
              case rel => exact ⟨i + 1, n + k, xs ++ (lvCells (lvX bk) none 0), vals ++ [lvX bk], hlt, by go_num, by go_num, by rw [List.length_append]; exact hown4, hB3.trans hb4, Vals.snoc HV.out hown.1 (ok_X w B bk HB256.out), by unfold Hid; rw [HGO.out _ _ (show dec1 35 (l.drop n) = some (_, k) by rw [HK1.out]; exact HDEC.out)]; simp [told_X]⟩
              case measure => simp [intOf]; omega
            · have j35 := ne35 q35
              have n63 : ¬ (c.toNat : Int) = 63 := fun e => q63 (UInt8.toNat.inj (by show _ = 63; omega))
              have n42 : ¬ (c.toNat : Int) = 42 := fun e => q42 (UInt8.toNat.inj (by show _ = 42; omega))
              have n35 : ¬ (c.toNat : Int) = 35 := fun e => q35 (UInt8.toNat.inj (by show _ = 35; omega))
              have hdec := dec1_num (c.toNat : Int) (l.drop n) n63 n42 n35 (by rw [HDL.out, HK.out]; omega)
              have hwk : (wid (c.toNat : Int)).toNat = k := by have h1 := lst_num (c.toNat : Int) n63 n42 n35; have h2 := HK.out; omega
              rw [hwk] at hdec
              have hk8 : k ≤ 8 := by have := wid_le (c.toNat : Int); omega
              obtain ⟨p, hA, hp, _⟩ := hl.lies (show 0 < l.length by omega)
              subst hA
              have hsk := sub_shows hs1 (n := n) (m := k) (by omega)
              rw [← cells8_drop, ← cells8_take] at hsk
              have hlk : ((l.drop n).take k).length = k := by rw [List.length_take, HDL.out]; omega
              have hNk := num8_lt ((l.drop n).take k)
              rw [hlk] at hNk
              have hN64 : num8 ((l.drop n).take k) < 18446744073709551616 := Nat.lt_of_lt_of_le hNk (Nat.le_trans (Nat.pow_le_pow_right (by omega) hk8) (by decide))
              have hrs := rsum_any B (some (p.add n)) (cap - n) ((l.drop n).take k) _ (by rw [hlk]; exact hsk) (by omega)
              rw [hlk] at hrs
              have HRS := Lib.hid hrs
              have hcn : ¬ cap = n := by omega
              have hnk' : n + k - n = k := by omega
              have hb1' : (n : Int) + (k : Int) ≤ (cap : Int) := by omega
              have hb2' : (n : Int) ≤ (n : Int) + (k : Int) := by omega
              generalize num8 ((l.drop n).take k) = N at *
              have HN64 := Lib.hid hN64
              have HDEC := Lib.hid hdec
              clear hrs hsk hlk hNk hN64 hwk n63 n42 n35 hdec
              go_wp2_with (first
                | (refine wpList_store_row rfl 78 (.tmp 12) (.tmp 39) rfl wr.heap.size (lvCells lv0 none 0).toArray rfl rfl 78 (lvCells lv0 none 0).toArray (heap_alloc_new wr _) (by rw [val_size, cells_sz zeros256_length]) rfl (cells_one _ _ _) ?_; rw [World.setRow_alloc_new])
                | fail)
              refine HRS.out.mono ?_
              rintro e w' ⟨rfl, rfl⟩
              go_wp2_with fail
              refine (number_val N _).mono ?_
              rintro e w2 ⟨rfl, hb2⟩
              clear HRS
              have hK2 : w2.heap[wr.heap.size]? = some (.cells (lvCells lv0 none 0).toArray 78 (0, 0)) := (hb2.block _ (by simp)).trans (heap_alloc_new wr _)
              have hown2 := row_below hown1 hb2
              have hB2 := hb1.trans (hb2.mono (by first | omega | (simp; omega)))
              have hown3 := row_setRow hown2 HNK.out (lvCells (lvN N) none 0).toArray
              have hK3 := setRow_heap w2 wr.heap.size _ (lvCells (lvN N) none 0).toArray 78 (0, 0) hK2
              have hB3 := below_setRow hB2 hKw (lvCells (lvN N) none 0).toArray
              have hsz3 := hB3.size
              clear hown1 hown2 hb1 hB2 hb2
              go_wp2_with (first
                | refine wpList_store_row rfl 78 (.tmp 12) (.tmp 48) rfl wr.heap.size (lvCells (lvN N) none 0).toArray rfl rfl 78 (lvCells lv0 none 0).toArray hK2 (by rw [val_size, cells_sz zeros256_length]) (by rw [cells_sz zeros256_length, cells_sz zeros256_length]) (cells_one _ _ _) ?_
                | refine wpList_load_row rfl 78 (.tmp 12) rfl wr.heap.size rfl 78 (lvCells (lvN N) none 0).toArray (0, 0) _ hK3 Try.underlying78 rfl (by rw [val_size, cells_sz zeros256_length]) ?_
                | refine wpList_one_val rfl (.tmp 106) rfl (lvN N) none 0 zeros256_length rfl ?_
                | (refine wpList_append_val rfl (.tmp 105) (.tmp 107) rfl w.heap.size u7 vals.length xs rfl hown3 (lvN N) none 0 zeros256_length rfl hv1000 hsz3 ?_; intro v4 w4 hown4 hb4)
                | fail)
              go_roundw
              case rel => exact ⟨i + 1, n + k, xs ++ (lvCells (lvN N) none 0), vals ++ [lvN N], hlt, by go_num, by go_num, by rw [List.length_append]; exact hown4, hB3.trans hb4, Vals.snoc HV.out hown.1 (ok_N w B N HN64.out), by unfold Hid; rw [HGO.out _ _ HDEC.out]; simp [told_N]⟩
              case measure => simp [intOf]; omega
    · obtain rfl : i = s.size := by omega
      have hta := bs_all s
      have HUA := HU.out
      rw [hta] at HUA
      have HUB := Lib.hid HUA
      clear hta HUA
      go_wp2
      go_ret3
      exact ⟨hbr, by rw [if_pos HM.out, HUB.out]; exact ⟨u7, xs, vals, rfl, hown, HV.out, rfl⟩⟩
    end Go.Proofs.Ytpkbkliblbbdcaa
end

section
namespace Go.Proofs.Ytpkbkliblbbdcaa
open Go.RowKit
set_option maxRecDepth 20000

set_option maxHeartbeats 1000000 in
theorem runpack_any (s : ByteArray) (B : Nat) (A : Option Addr) (cap : Nat) (l : List UInt8) (w : World) (hs : s.size ≤ 1000) (hl : Shows w B A l.length (cells8 l)) (hB : B ≤ w.heap.size) (hc : l.length ≤ cap) (hcm : cap ≤ 9223372036854775807) (hl2 : l.length ≤ 1000000000) :
    Calls Try.prog 47 #[.string s, .slice A l.length cap] w (RUnp w B (bs s) l) := by
  cases hm : mayS (bs s) with
  | false =>
    have HM := Lib.hid hm
    clear hm
    go_enter Try.func47, Try.ntmps47
    go_wp2_with fail
    refine (rmay_any s w (by omega)).mono ?_
    rintro e w1 ⟨rfl, rfl⟩
    rw [HM.out]
    go_wp2_with fail
    go_ret3
    exact runp_arg (Below.refl _ _) HM.out rfl
  | true => exact runpack_loop s B A cap l w hs hl hB hc hcm hl2 hm

/-- what an Unpack is to hand back: the values, how many bytes, the error -/
def unpS (s l : List UInt8) : List PV × Int × Int := if mayS s = true then (match unpZ s l with | none => ([], 0, 4) | some (ps, n) => (ps, (n : Int), 0)) else ([], 0, 2)
theorem unpS_len (s l : List UInt8) : (unpS s l).1.length ≤ s.length := by
  unfold unpS
  split
  · cases hu : unpZ s l with
    | none => simp
    | some r => have := (unpZ_bounds (ps := r.1) (n := r.2) hu).2.2; simp; omega
  · simp
theorem unpS_other (s l : List UInt8) : ∀ p ∈ (unpS s l).1, p ≠ .other := by
  unfold unpS
  split
  · rename_i hm
    cases hu : unpZ s l with
    | none => simp
    | some r => exact fun p hp => packR_other (unpZ_packR (ps := r.1) (n := r.2) hm hu) p hp
  · simp
theorem Unpacked.t {w w' : World} {s l : List UInt8} {e : Ending} (h : Unpacked w s l e w') :
    ∃ A c us, e = .returned (.tuple #[.slice A (unpS s l).1.length c, .int .i64 (unpS s l).2.1, .int .i64 (unpS s l).2.2]) ∧ w'.ownsRow w.heap.size 20 1 (.slice A (unpS s l).1.length c) (unpS s l).1.length us ∧ AllOV w' w.heap.size us (unpS s l).1 ∧ Below w.heap.size w w' := by
  obtain ⟨hb, h⟩ := h
  unfold unpS
  split
  · rename_i hm
    rw [if_pos hm] at h
    cases hu : unpZ s l with
    | none =>
      rw [hu] at h
      exact ⟨none, 0, [], h, World.ownsRow_nil _ _ _ _, AllOV.nil _ _, hb⟩
    | some r =>
      obtain ⟨ps, n⟩ := r
      rw [hu] at h
      obtain ⟨v, vs, he, ho, ha⟩ := h
      obtain ⟨A, c, rfl, _⟩ := own_form ho
      exact ⟨A, c, vs, he, ho, ha, hb⟩
  · rename_i hm
    rw [if_neg hm] at h
    exact ⟨none, 0, [], h, World.ownsRow_nil _ _ _ _, AllOV.nil _ _, hb⟩
theorem RUnp.t {w w' : World} {B : Nat} {s l : List UInt8} {e : Ending} (h : RUnp w B s l e w') :
    ∃ A c xs vals, e = .returned (.tuple #[.slice A vals.length c, .int .i64 (unpS s l).2.1, .int .i64 (unpS s l).2.2]) ∧ w'.ownsRow w.heap.size 78 260 (.slice A vals.length c) vals.length xs ∧ Vals w B xs vals ∧ vals.map toldP = (unpS s l).1 ∧ Below w.heap.size w w' := by
  obtain ⟨hb, h⟩ := h
  unfold unpS
  split
  · rename_i hm
    rw [if_pos hm] at h
    cases hu : unpZ s l with
    | none =>
      rw [hu] at h
      exact ⟨none, 0, [], [], h, World.ownsRow_nil _ _ _ _, Vals.nil _ _, rfl, hb⟩
    | some r =>
      obtain ⟨ps, n⟩ := r
      rw [hu] at h
      obtain ⟨v, xs, vals, he, ho, hv, hp⟩ := h
      rcases ho.2 with ⟨rfl, h0⟩ | ⟨g, cap, cur, rfl, hr⟩
      · exact ⟨none, 0, xs, vals, by rw [h0]; exact he, by rw [h0] at ho ⊢; exact ho, hv, hp, hb⟩
      · exact ⟨_, cap, xs, vals, he, ho, hv, hp, hb⟩
  · rename_i hm
    rw [if_neg hm] at h
    exact ⟨none, 0, [], [], h, World.ownsRow_nil _ _ _ _, Vals.nil _ _, rfl, hb⟩

theorem row_grown {w w' : World} {base n size : Nat} {row : Option Nat} {e : TypeId} {v : Value} {xs : List Value} (h : w.ownsRow base e size v n xs) (hg : w.grownBy w' row) (hk : ∀ k, row = some k → k < base) : w'.ownsRow base e size v n xs := by
  refine ⟨h.1, ?_⟩
  rcases h.2 with h2 | ⟨g, cap, cur, hv, hgb, hh, hr⟩
  · exact .inl h2
  · refine .inr ⟨g, cap, cur, hv, hgb, ?_, hr⟩
    rw [hg.block g (Array.getElem?_eq_some_iff.1 hh).1 (fun e => by have := hk g e.symm; omega)]
    exact hh
theorem OV.grown {w w' : World} {B : Nat} {row : Option Nat} {v : Value} {p : PV} (h : OV w B v p) (hg : w.grownBy w' row) (hk : ∀ k, row = some k → k < B) : OV w' B v p := by
  cases p with
  | num n => exact h
  | flag b => exact h
  | blob l =>
    obtain ⟨A, c, hv, ho, hl⟩ := h
    exact ⟨A, c, hv, row_grown ho hg hk, hl⟩
  | block l => exact h
  | other => exact h
theorem AllOV.grown {w w' : World} {B : Nat} {row : Option Nat} {vs : List Value} {ps : List PV} (h : AllOV w B vs ps) (hg : w.grownBy w' row) (hk : ∀ k, row = some k → k < B) : AllOV w' B vs ps :=
  ⟨h.1, fun i hi => by obtain ⟨x, hx, ho⟩ := h.2 i hi; exact ⟨x, hx, ho.grown hg hk⟩⟩
theorem AllOV.on {w w' : World} {B : Nat} {vs : List Value} {ps : List PV} (h : AllOV w B vs ps) (hb : Below w.heap.size w w') : AllOV w' B vs ps := h.kept (BytesKept.below hb)

/-- a cell of a row of the call's own is stored -/
theorem own_set {w : World} {base n g cap : Nat} {e : TypeId} {xs : List Value} (h : w.ownsRow base e 1 (.slice (some ⟨g, 0, none⟩) n cap) n xs) (k : Nat) (u : Value) :
    (w.setCell ⟨g, k, none⟩ u).ownsRow base e 1 (.slice (some ⟨g, 0, none⟩) n cap) n (xs.set k u) := by
  refine ⟨by rw [List.length_set]; exact h.1, ?_⟩
  rcases h.2 with ⟨hv, _⟩ | ⟨g', cap', cur, hv, hg, hh, hnc, hcm, hcs, ht⟩
  · cases hv
  · injection hv with h1 h2 h3
    injection h1 with h1
    injection h1 with h1
    subst h1
    subst h3
    refine .inr ⟨g, cap, cur.setIfInBounds k u, rfl, hg, Joins.block_setCell hh u, hnc, hcm, by rw [Array.size_setIfInBounds]; exact hcs, ?_⟩
    rw [Array.toList_setIfInBounds, List.take_set, ht]
theorem own_cell {w : World} {base n g cap : Nat} {e : TypeId} {xs : List Value} (h : w.ownsRow base e 1 (.slice (some ⟨g, 0, none⟩) n cap) n xs) (k : Nat) (u : Value) (hu : xs[k]? = some u) :
    w.cell? ⟨g, k, none⟩ = some u ∧ w.frozen? ⟨g, k, none⟩ = false := by
  rcases h.2 with ⟨hv, _⟩ | ⟨g', cap', cur, hv, hg, hh, hnc, hcm, hcs, ht⟩
  · cases hv
  · injection hv with h1 h2 h3
    injection h1 with h1
    injection h1 with h1
    subst h1
    refine ⟨?_, Joins.unfrozen_of_block hh k⟩
    rw [cell_of_row w g k _ _ _ hh, ← Array.getElem?_toList]
    rw [← ht, List.getElem?_take] at hu
    split at hu
    · exact hu
    · cases hu
theorem own_some {w : World} {base n : Nat} {e : TypeId} {v : Value} {xs : List Value} (h : w.ownsRow base e 1 v n xs) (hn : 0 < n) : ∃ g cap, v = .slice (some ⟨g, 0, none⟩) n cap := by
  rcases h.2 with ⟨_, h0⟩ | ⟨g, cap, cur, rfl, _⟩
  · omega
  · exact ⟨g, cap, rfl⟩
theorem cells8_set (l : List UInt8) (k : Nat) (b : UInt8) : (cells8 l).set k (.int .u8 (b.toNat : Int)) = cells8 (l.set k b) := by simp [cells8, List.map_set]
theorem inc_u8 (b : UInt8) : ((b.toNat : Int) + 1) % 256 = (((b + 1).toNat : Nat) : Int) := by rw [UInt8.toNat_add]; simp
theorem grown_set {w w' : World} {row : Option Nat} {a : Addr} (h : w.grownBy w' row) (ha : row = some a.block) (u : Value) : w.grownBy (w'.setCell a u) row :=
  ⟨h.os, h.tape, h.output, by have := h.size; simpa [World.setCell] using this, fun k hk hne => by rw [Below.heap_setCell w' a u k (fun e => hne (by rw [ha, e]))]; exact h.block k hk hne⟩
end Go.Proofs.Ytpkbkliblbbdcaa
end
