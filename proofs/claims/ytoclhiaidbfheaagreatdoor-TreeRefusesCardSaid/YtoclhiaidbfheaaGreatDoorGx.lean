/- store: its small functions. store: what one that is not there, or a zero one, answers. store: Data, Super, Format and Open of what is not there. store: Open of a disk that is not there. store: may areas be so great? store: wipe, of a living disk. store: Room and Count of a store that is there. store: pages, and where a named block stands. store: a disk's pages, written; Dead of a disk that there is. store: all pages of two areas, written (no program). -/
import Derived.Test.YtoclhiaidbfheaaGreatDoorGu
import Derived.Test.YtoclhiaidbfheaaGreatDoorGo
import Derived.Defers
import Derived.Test.YtoclhiaidbfheaaGreatDoorGn
import Derived.RegionTactic
import Derived.Deep.RegionWith
import Derived.Deep.RegionHeld3
import Derived.Deep.DeepCutAuto
import Derived.Test.YtoclhiaidbfheaaGreatDoorGv
section
set_option linter.unusedVariables false
namespace Go.Proofs.YtoclhiaidbfheaaGreatDoor.S
open Go.RowKit Q

theorem sblocks_any (W : World) (m d : Int) (h : 0 ≤ m ∧ m ≤ 4294967296) (h2 : 0 ≤ d ∧ d ≤ 4294967296) : Calls Tryz.prog 137 #[.int .i64 m, .int .i64 d] W fun e w' => e = .returned (.int .i64 (2 + m + d)) ∧ w' = W := by
  go_enter Tryz.func137, Tryz.ntmps137
  go_wp2
  go_ret
  exact ⟨rfl, rfl⟩
theorem metaAt_any (W : World) (n : Nat) (h : n < 4294967296) : Calls Tryz.prog 145 #[.int .u32 (n : Int)] W fun e w' => e = .returned (.int .i64 (2 + (n : Int))) ∧ w' = W := by
  have HB := Lib.hid (sblocks_any W (n : Int) 0 (by omega) (by omega))
  go_enter Tryz.func145, Tryz.ntmps145
  go_wp2_with (first
    | (go_at_call 137; (with_reducible refine HB.out.mono ?_); rintro e w1 ⟨rfl, rfl⟩)
    | fail)
  go_ret
  exact ⟨by simp, rfl⟩
theorem needed_any (W : World) (m d : Nat) (hm : m ≤ 10000) (hd : d ≤ 10000) : Calls Tryz.prog 76 #[.int .i64 (m : Int), .int .i64 (d : Int)] W fun e w' => e = .returned (.int .i64 ((K.pagesN m + K.pagesN d : Nat) : Int)) ∧ w' = W := by
  have HM := Lib.hid (K.pages_any W (m : Int) (by omega))
  have HD := Lib.hid (K.pages_any W (d : Int) (by omega))
  rw [Int.toNat_natCast] at HM HD
  have h1 : K.pagesN m ≤ 10000 := by unfold K.pagesN; omega
  have h2 : K.pagesN d ≤ 10000 := by unfold K.pagesN; omega
  generalize K.pagesN m = a at *
  generalize K.pagesN d = b at *
  go_enter Tryz.func76, Tryz.ntmps76
  go_wp2_with (first
    | (go_at_call 138; first
        | ((with_reducible refine HM.out.mono ?_); rintro e w1 ⟨rfl, rfl⟩)
        | ((with_reducible refine HD.out.mono ?_); rintro e w2 ⟨rfl, rfl⟩))
    | fail)
  go_ret
  exact ⟨by push_cast; rfl, rfl⟩
theorem none_nil (W : World) : Calls Tryz.prog 103 #[.pointer none] W fun e w' => e = .returned (.bool true) ∧ w' = W := by
  go_enter Tryz.func103, Tryz.ntmps103
  go_wp2
  go_ret
  exact ⟨rfl, rfl⟩
theorem none_zero {W : World} {b : Nat} (h : W.cell? ⟨b, 0, none⟩ = some (.pointer none)) : Calls Tryz.prog 103 #[.pointer (some ⟨b, 0, none⟩)] W fun e w' => e = .returned (.bool true) ∧ w' = W := by
  go_enter Tryz.func103, Tryz.ntmps103
  go_wp2
  go_ret
  exact ⟨rfl, rfl⟩
theorem none_no {W : World} {b : Nat} {p : Addr} (h : W.cell? ⟨b, 0, none⟩ = some (.pointer (some p))) : Calls Tryz.prog 103 #[.pointer (some ⟨b, 0, none⟩)] W fun e w' => e = .returned (.bool false) ∧ w' = W := by
  go_enter Tryz.func103, Tryz.ntmps103
  go_wp2
  go_ret
  exact ⟨rfl, rfl⟩
/-- one that is not there, or a zero one -/
def NoS (B : Nat) (w : World) (p : Value) : Prop := ∀ W, Below B w W → Calls Tryz.prog 103 #[p] W fun e w' => e = .returned (.bool true) ∧ w' = W
theorem ready_no {B : Nat} {w W : World} {p : Value} (h : NoS B w p) (hb : Below B w W) : Calls Tryz.prog 46 #[p] W fun e w' => e = .returned (.int .i64 1) ∧ w' = W := by
  have HN := Lib.hid (h W hb)
  clear h
  go_enter Tryz.func46, Tryz.ntmps46
  go_wp2_with (first
    | (go_at_call 103; (with_reducible refine HN.out.mono ?_); rintro e w1 ⟨rfl, rfl⟩)
    | fail)
  go_ret
  exact ⟨rfl, rfl⟩
theorem place_no' {B : Nat} {w W : World} {p : Value} (h : NoS B w p) (hb : Below B w W) (n : Int) : Calls Tryz.prog 209 #[p, .int .u32 n] W fun e w' => e = .returned (.int .i64 1) ∧ w' = W := by
  have HN := Lib.hid (ready_no h hb)
  clear h
  go_enter Tryz.func209, Tryz.ntmps209
  go_wp2_with (first
    | (go_at_call 46; (with_reducible refine HN.out.mono ?_); rintro e w1 ⟨rfl, rfl⟩)
    | fail)
  go_ret
  exact ⟨rfl, rfl⟩
end Go.Proofs.YtoclhiaidbfheaaGreatDoor.S
end

section
set_option linter.unusedVariables false
namespace Go.Proofs.YtoclhiaidbfheaaGreatDoor.S
open Go.RowKit Q

/-- settle: an error that is neither of a dead disk nor of bytes stays -/
theorem settle_d (w : World) (p : Value) (q : Nat) (er : Int) (h : w.cell? ⟨q, 0, none⟩ = some (.int .i64 er)) (h1 : er ≠ 10) (h2 : er ≠ 4) (u : FrameMode) :
    CallsD Tryz.prog 83 #[p, .pointer (some ⟨q, 0, none⟩)] u w fun e u' w' => u' = u ∧ (e = .returned (.tuple #[]) ∧ w' = w) := by
  have e1 : (er == 10) = false := by rw [beq_eq_false_iff_ne]; exact h1
  have e2 : (er == 4) = false := by rw [beq_eq_false_iff_ne]; exact h2
  go_enter_d Tryz.func83, Tryz.ntmps83
  go_wp2
  go_end0
  exact ⟨rfl, rfl⟩
theorem results_c {P : Program} {fn : Func} {t : Tmp} {T : TypeId} (h : fn.results = #[.cell t T]) (tmps : Array Value) (w : World) (a : Addr) (v : Value) (ht : tmps.getD t undef = .pointer (some a)) (h1 : (loadVar T a).run P w = .ok v w) :
    (results fn tmps).run P w = .ok v w := by
  have hp' : tmps[t]?.getD undef = .pointer (some a) := by simpa using ht
  simp [results, h, hp', asAddr, h1]
theorem results_2c {P : Program} {fn : Func} {t u : Tmp} {T U : TypeId} (h : fn.results = #[.cell t T, .cell u U]) (tmps : Array Value) (w : World) (a b : Addr) (v x : Value) (ht : tmps.getD t undef = .pointer (some a)) (hu : tmps.getD u undef = .pointer (some b)) (h1 : (loadVar T a).run P w = .ok v w) (h2 : (loadVar U b).run P w = .ok x w) :
    (results fn tmps).run P w = .ok (.tuple #[v, x]) w := by
  have hp' : tmps[t]?.getD undef = .pointer (some a) := by simpa using ht
  have hq' : tmps[u]?.getD undef = .pointer (some b) := by simpa using hu
  simp [results, h, hp', hq', asAddr, h1, h2]
theorem results_tc {P : Program} {fn : Func} {t u : Tmp} {U : TypeId} (h : fn.results = #[.tmp t, .cell u U]) (tmps : Array Value) (w : World) (b : Addr) (v x : Value) (ht : tmps.getD t undef = v) (hu : tmps.getD u undef = .pointer (some b)) (h2 : (loadVar U b).run P w = .ok x w) :
    (results fn tmps).run P w = .ok (.tuple #[v, x]) w := by
  have hp' : tmps[t]?.getD undef = v := by simpa using ht
  have hq' : tmps[u]?.getD undef = .pointer (some b) := by simpa using hu
  simp [results, h, hp', hq', asAddr, h2]
theorem results_tcc {P : Program} {fn : Func} {s t u : Tmp} {T U : TypeId} (h : fn.results = #[.tmp s, .cell t T, .cell u U]) (tmps : Array Value) (w : World) (a b : Addr) (y v x : Value) (hs : tmps.getD s undef = y) (ht : tmps.getD t undef = .pointer (some a)) (hu : tmps.getD u undef = .pointer (some b)) (h1 : (loadVar T a).run P w = .ok v w) (h2 : (loadVar U b).run P w = .ok x w) :
    (results fn tmps).run P w = .ok (.tuple #[y, v, x]) w := by
  have hp' : tmps[t]?.getD undef = .pointer (some a) := by simpa using ht
  have hq' : tmps[u]?.getD undef = .pointer (some b) := by simpa using hu
  have hs' : tmps[s]?.getD undef = y := by simpa using hs
  simp [results, h, hp', hq', hs', asAddr, h1, h2]
theorem load_errno {w : World} {b : Nat} {er : Int} (h : w.cell? ⟨b, 0, none⟩ = some (.int .i64 er)) : (loadVar 26 ⟨b, 0, none⟩).run Tryz.prog w = .ok (.int .i64 er) w := by
  go_simp
def zNode : Array Value := #[.int .i64 0, .int .u64 0, .slice none 0 0, .slice none 0 0]
theorem load_node {w : World} {b : Nat} {cs : Array Value} (h : w.heap[b]? = some (.cells cs 45 (0, 0))) (h4 : cs.size = 4) : (loadVar 45 ⟨b, 0, none⟩).run Tryz.prog w = .ok (.agg cs) w :=
  run_loadVar_row w b 45 45 cs (0, 0) _ h Tryz.underlying45 rfl (by rw [h4]; kernel_rfl)
/-- a box with an error, behind another box -/
theorem err_at (W : World) (o : Obj) (er : Int) : ((W.alloc o).alloc (.cells #[.int .i64 er] 26)).cell? ⟨W.heap.size + 1, 0, none⟩ = some (.int .i64 er) := by
  have := heap_alloc_new (W.alloc o) (.cells #[.int .i64 er] 26)
  rw [World.size_alloc] at this
  rw [Joins.cell_of_block this]
  rfl
theorem err_at0 (W : World) (er : Int) : (W.alloc (.cells #[.int .i64 er] 26)).cell? ⟨W.heap.size, 0, none⟩ = some (.int .i64 er) := by
  rw [Joins.cell_of_block (heap_alloc_new W _)]
  rfl
theorem first_at (W : World) (o o2 : Obj) : ((W.alloc o).alloc o2).heap[W.heap.size]? = some o := (Below.heap_alloc _ _ _ (by simp)).trans (heap_alloc_new W o)
theorem node_zero (w : World) : (zeroValue 45).run Tryz.prog w = .ok (.agg #[.int .i64 0, .int .u64 0, .slice none 0 0, .slice none 0 0]) w := by kernel_rfl
theorem node_no {B : Nat} {w W : World} {p : Value} (h : NoS B w p) (hb : Below B w W) (hB : B ≤ W.heap.size) (n : Int) :
    Calls Tryz.prog 162 #[p, .int .u32 n] W fun e w' => e = .returned (.tuple #[.agg #[.int .i64 0, .int .u64 0, .slice none 0 0, .slice none 0 0], .int .i64 1]) ∧ Below W.heap.size W w' := by
  have HP : Hid (∀ W', Below W.heap.size W W' → Calls Tryz.prog 209 #[p, .int .u32 n] W' fun e w' => e = .returned (.int .i64 1) ∧ w' = W') := Lib.hid (fun W' hb' => place_no' h (hb.trans (hb'.mono hB)) n)
  have hz := node_zero
  clear h hb
  go_enter_defers Tryz.func162, Tryz.ntmps162
  go_wp2_with (first
    | (go_at_call 209; (with_reducible refine (HP.out _ (((Below.refl _ W).alloc (Nat.le_refl _) _).alloc (by simp) _)).mono ?_); rintro e w1 ⟨rfl, rfl⟩)
    | fail)
  refine leaves_cons (f := 83) (args := #[p, .pointer (some ⟨W.heap.size + 1, 0, none⟩)]) (by simp) (by simp [go_sem]) ?_
  refine (settle_d _ p (W.heap.size + 1) 1 ?_ (by decide) (by decide) .returning).mono ?_
  · exact err_at _ _ _
  rintro e u' w'' ⟨rfl, rfl, rfl⟩
  exact ⟨_, results_2c rfl _ _ _ _ _ _ rfl rfl (load_node (first_at _ _ _) rfl) (load_errno (err_at _ _ _)), rfl, ((Below.refl _ W).alloc (Nat.le_refl _) _).alloc (by simp) _⟩
theorem new_no {B : Nat} {w W : World} {p : Value} (h : NoS B w p) (hb : Below B w W) (hB : B ≤ W.heap.size) (cs : Array Value) (hc : cs.size = 4) :
    Calls Tryz.prog 14 #[p, .agg cs] W fun e w' => e = .returned (.tuple #[.int .u32 0, .int .i64 1]) ∧ Below W.heap.size W w' := by
  have HP : Hid (∀ W', Below W.heap.size W W' → Calls Tryz.prog 46 #[p] W' fun e w' => e = .returned (.int .i64 1) ∧ w' = W') := Lib.hid (fun W' hb' => ready_no h (hb.trans (hb'.mono hB)))
  clear h hb
  go_enter Tryz.func14, Tryz.ntmps14
  go_wp2_with (first
    | (go_at_call 46; (with_reducible refine (HP.out _ ((Below.refl _ W).alloc (Nat.le_refl _) _)).mono ?_); rintro e w1 ⟨rfl, rfl⟩)
    | fail)
  first | go_ret | go_ret2 | refine bodyPost_ret (results_none rfl _ _ _) rfl ?_
  exact ⟨rfl, (Below.refl _ W).alloc (Nat.le_refl _) _⟩
theorem put_no {B : Nat} {w W : World} {p : Value} (h : NoS B w p) (hb : Below B w W) (hB : B ≤ W.heap.size) (n : Int) (cs : Array Value) (hc : cs.size = 4) :
    Calls Tryz.prog 192 #[p, .int .u32 n, .agg cs] W fun e w' => e = .returned (.int .i64 1) ∧ Below W.heap.size W w' := by
  have HP : Hid (∀ W', Below W.heap.size W W' → Calls Tryz.prog 209 #[p, .int .u32 n] W' fun e w' => e = .returned (.int .i64 1) ∧ w' = W') := Lib.hid (fun W' hb' => place_no' h (hb.trans (hb'.mono hB)) n)
  clear h hb
  go_enter Tryz.func192, Tryz.ntmps192
  go_wp2_with (first
    | (go_at_call 209; (with_reducible refine (HP.out _ ((Below.refl _ W).alloc (Nat.le_refl _) _)).mono ?_); rintro e w1 ⟨rfl, rfl⟩)
    | fail)
  first | go_ret | go_ret2 | refine bodyPost_ret (results_none rfl _ _ _) rfl ?_
  exact ⟨rfl, (Below.refl _ W).alloc (Nat.le_refl _) _⟩
theorem hold_no {B : Nat} {w W : World} {p : Value} (h : NoS B w p) (hb : Below B w W) (hB : B ≤ W.heap.size) (n : Int) :
    Calls Tryz.prog 66 #[p, .int .u32 n] W fun e w' => e = .returned (.int .i64 1) ∧ Below W.heap.size W w' := by
  have HP : Hid (∀ W', Below W.heap.size W W' → Calls Tryz.prog 46 #[p] W' fun e w' => e = .returned (.int .i64 1) ∧ w' = W') := Lib.hid (fun W' hb' => ready_no h (hb.trans (hb'.mono hB)))
  clear h hb
  go_enter Tryz.func66, Tryz.ntmps66
  go_wp2_with (first
    | (go_at_call 46; (with_reducible refine (HP.out _ (Below.refl _ W)).mono ?_); rintro e w1 ⟨rfl, rfl⟩)
    | fail)
  first | go_ret | go_ret2 | refine bodyPost_ret (results_none rfl _ _ _) rfl ?_
  exact ⟨rfl, Below.refl _ _⟩
theorem free_no' {B : Nat} {w W : World} {p : Value} (h : NoS B w p) (hb : Below B w W) (hB : B ≤ W.heap.size) (n : Int) :
    Calls Tryz.prog 276 #[p, .int .u32 n] W fun e w' => e = .returned (.int .i64 1) ∧ Below W.heap.size W w' := by
  have HP : Hid (∀ W', Below W.heap.size W W' → Calls Tryz.prog 209 #[p, .int .u32 n] W' fun e w' => e = .returned (.int .i64 1) ∧ w' = W') := Lib.hid (fun W' hb' => place_no' h (hb.trans (hb'.mono hB)) n)
  clear h hb
  go_enter Tryz.func276, Tryz.ntmps276
  go_wp2_with (first
    | (go_at_call 209; (with_reducible refine (HP.out _ (Below.refl _ W)).mono ?_); rintro e w1 ⟨rfl, rfl⟩)
    | fail)
  first | go_ret | go_ret2 | refine bodyPost_ret (results_none rfl _ _ _) rfl ?_
  exact ⟨rfl, Below.refl _ _⟩
theorem room_no {B : Nat} {w W : World} {p : Value} (h : NoS B w p) (hb : Below B w W) (hB : B ≤ W.heap.size) :
    Calls Tryz.prog 85 #[p] W fun e w' => e = .returned (.tuple #[.int .i64 0, .int .i64 0]) ∧ Below W.heap.size W w' := by
  have HP : Hid (∀ W', Below W.heap.size W W' → Calls Tryz.prog 103 #[p] W' fun e w' => e = .returned (.bool true) ∧ w' = W') := Lib.hid (fun W' hb' => h W' (hb.trans (hb'.mono hB)))
  clear h hb
  go_enter Tryz.func85, Tryz.ntmps85
  go_wp2_with (first
    | (go_at_call 103; (with_reducible refine (HP.out _ (Below.refl _ W)).mono ?_); rintro e w1 ⟨rfl, rfl⟩)
    | fail)
  first | go_ret | go_ret2 | refine bodyPost_ret (results_none rfl _ _ _) rfl ?_
  exact ⟨rfl, Below.refl _ _⟩
theorem count_no {B : Nat} {w W : World} {p : Value} (h : NoS B w p) (hb : Below B w W) (hB : B ≤ W.heap.size) (n : Int) :
    Calls Tryz.prog 181 #[p, .int .u32 n] W fun e w' => e = .returned (.int .u16 0) ∧ Below W.heap.size W w' := by
  have HP : Hid (∀ W', Below W.heap.size W W' → Calls Tryz.prog 103 #[p] W' fun e w' => e = .returned (.bool true) ∧ w' = W') := Lib.hid (fun W' hb' => h W' (hb.trans (hb'.mono hB)))
  clear h hb
  go_enter Tryz.func181, Tryz.ntmps181
  go_wp2_with (first
    | (go_at_call 103; (with_reducible refine (HP.out _ (Below.refl _ W)).mono ?_); rintro e w1 ⟨rfl, rfl⟩)
    | fail)
  first | go_ret | go_ret2 | refine bodyPost_ret (results_none rfl _ _ _) rfl ?_
  exact ⟨rfl, Below.refl _ _⟩
theorem dataCount_no {B : Nat} {w W : World} {p : Value} (h : NoS B w p) (hb : Below B w W) (hB : B ≤ W.heap.size) (n : Int) :
    Calls Tryz.prog 182 #[p, .int .u32 n] W fun e w' => e = .returned (.int .u16 0) ∧ Below W.heap.size W w' := by
  have HP : Hid (∀ W', Below W.heap.size W W' → Calls Tryz.prog 103 #[p] W' fun e w' => e = .returned (.bool true) ∧ w' = W') := Lib.hid (fun W' hb' => h W' (hb.trans (hb'.mono hB)))
  clear h hb
  go_enter Tryz.func182, Tryz.ntmps182
  go_wp2_with (first
    | (go_at_call 103; (with_reducible refine (HP.out _ (Below.refl _ W)).mono ?_); rintro e w1 ⟨rfl, rfl⟩)
    | fail)
  first | go_ret | go_ret2 | refine bodyPost_ret (results_none rfl _ _ _) rfl ?_
  exact ⟨rfl, Below.refl _ _⟩
theorem broken_no {B : Nat} {w W : World} {p : Value} (h : NoS B w p) (hb : Below B w W) (hB : B ≤ W.heap.size) :
    Calls Tryz.prog 104 #[p] W fun e w' => e = .returned (.bool false) ∧ Below W.heap.size W w' := by
  have HP : Hid (∀ W', Below W.heap.size W W' → Calls Tryz.prog 103 #[p] W' fun e w' => e = .returned (.bool true) ∧ w' = W') := Lib.hid (fun W' hb' => h W' (hb.trans (hb'.mono hB)))
  clear h hb
  go_enter Tryz.func104, Tryz.ntmps104
  go_wp2_with (first
    | (go_at_call 103; (with_reducible refine (HP.out _ (Below.refl _ W)).mono ?_); rintro e w1 ⟨rfl, rfl⟩)
    | fail)
  first | go_ret | go_ret2 | refine bodyPost_ret (results_none rfl _ _ _) rfl ?_
  exact ⟨rfl, Below.refl _ _⟩
theorem shadow_no {B : Nat} {w W : World} {p : Value} (h : NoS B w p) (hb : Below B w W) (hB : B ≤ W.heap.size) (n : Int) :
    Calls Tryz.prog 277 #[p, .int .u32 n] W fun e w' => e = .returned (.tuple #[.int .u32 0, .agg #[.int .i64 0, .int .u64 0, .slice none 0 0, .slice none 0 0], .int .i64 1]) ∧ Below W.heap.size W w' := by
  have HP : Hid (∀ W', Below W.heap.size W W' → Calls Tryz.prog 209 #[p, .int .u32 n] W' fun e w' => e = .returned (.int .i64 1) ∧ w' = W') := Lib.hid (fun W' hb' => place_no' h (hb.trans (hb'.mono hB)) n)
  have hz := node_zero
  clear h hb
  go_enter_defers Tryz.func277, Tryz.ntmps277
  go_wp2_with (first
    | (go_at_call 209; (with_reducible refine (HP.out _ (((Below.refl _ W).alloc (Nat.le_refl _) _).alloc (by simp) _)).mono ?_); rintro e w1 ⟨rfl, rfl⟩)
    | fail)
  refine leaves_cons (f := 83) (args := #[p, .pointer (some ⟨W.heap.size + 1, 0, none⟩)]) (by simp) (by simp [go_sem]) ?_
  refine (settle_d _ p (W.heap.size + 1) 1 (err_at _ _ _) (by decide) (by decide) .returning).mono ?_
  rintro e u' w'' ⟨rfl, rfl, rfl⟩
  exact ⟨_, results_tcc rfl _ _ _ _ _ _ _ rfl rfl rfl (load_node (first_at _ _ _) rfl) (load_errno (err_at _ _ _)), rfl, ((Below.refl _ W).alloc (Nat.le_refl _) _).alloc (by simp) _⟩
end Go.Proofs.YtoclhiaidbfheaaGreatDoor.S
end

section
set_option linter.unusedVariables false
namespace Go.Proofs.YtoclhiaidbfheaaGreatDoor.S
open Go.RowKit Q

theorem load_blk {w : World} {b : Nat} {l : List UInt8} (h : w.heap[b]? = some (.cells (cells8 l).toArray 151 (0, 0))) (hl : l.length = 256) : (loadVar 151 ⟨b, 0, none⟩).run Tryz.prog w = .ok (.agg (cells8 l).toArray) w :=
  run_loadVar_row w b 151 151 _ (0, 0) _ h Tryz.underlying151 rfl (by rw [List.size_toArray, cells8_length, hl]; kernel_rfl)
theorem load_sup {w : World} {b : Nat} {cs : Array Value} (h : w.heap[b]? = some (.cells cs 144 (0, 0))) (h19 : cs.size = 19) : (loadVar 144 ⟨b, 0, none⟩).run Tryz.prog w = .ok (.agg cs) w :=
  run_loadVar_row w b 144 144 cs (0, 0) _ h Tryz.underlying144 rfl (by rw [h19]; kernel_rfl)
theorem format_nil (W : World) (m d : Int) : Calls Tryz.prog 30 #[.pointer none, .int .i64 m, .int .i64 d] W fun e w' => e = .returned (.int .i64 1) ∧ w' = W := by
  have HS := Lib.hid (sectors_nil W)
  go_enter Tryz.func30, Tryz.ntmps30
  go_wp2_with (first
    | (go_at_call 74; (with_reducible refine HS.out.mono ?_); rintro e w1 ⟨rfl, rfl⟩)
    | fail)
  go_ret
  exact ⟨rfl, rfl⟩
theorem super_no {B : Nat} {w W : World} {p : Value} (h : NoS B w p) (hb : Below B w W) (hB : B ≤ W.heap.size) :
    Calls Tryz.prog 68 #[p] W fun e w' => e = .returned (.agg zeroSC) ∧ Below W.heap.size W w' := by
  have HP : Hid (∀ W', Below W.heap.size W W' → Calls Tryz.prog 103 #[p] W' fun e w' => e = .returned (.bool true) ∧ w' = W') := Lib.hid (fun W' hb' => h W' (hb.trans (hb'.mono hB)))
  have hz := sup_zero
  have hst := fun w => store_sup w zeroSC rfl (by rw [← zeroSU_cells]; exact cellsS_all zeroSU)
  have hsz : zeroSC.size = 19 := rfl
  clear h hb
  go_enter Tryz.func68, Tryz.ntmps68
  go_wp2_with (first
    | (go_at_call 103; (with_reducible refine (HP.out _ ((Below.refl _ W).alloc (Nat.le_refl _) _)).mono ?_); rintro e w1 ⟨rfl, rfl⟩)
    | fail)
  exact bodyPost_ret (results_c rfl _ _ _ _ rfl (load_sup (heap_alloc_new W _) rfl)) rfl ⟨rfl, (Below.refl _ W).alloc (Nat.le_refl _) _⟩
theorem dead_nil (W : World) : Calls Tryz.prog 82 #[.pointer none] W fun e w' => e = .returned (.bool false) ∧ w' = W := by
  have HN := Lib.hid (Q.none_nil W)
  go_enter Tryz.func82, Tryz.ntmps82
  go_wp2_with (first
    | (go_at_call 135; (with_reducible refine HN.out.mono ?_); rintro e w1 ⟨rfl, rfl⟩)
    | fail)
  go_ret
  exact ⟨rfl, rfl⟩
end Go.Proofs.YtoclhiaidbfheaaGreatDoor.S
end

section
set_option linter.unusedVariables false
namespace Go.Proofs.YtoclhiaidbfheaaGreatDoor.S
open Go.RowKit Q

theorem load_no {W : World} {b : Nat} (h : W.cell? ⟨b, 0, none⟩ = some (.pointer none)) : Calls Tryz.prog 84 #[.pointer (some ⟨b, 0, none⟩)] W fun e w' => e = .returned (.int .i64 1) ∧ Below W.heap.size W w' := by
  have HL := Lib.hid (load_nil W)
  have hz := sup_zero
  have hst := fun w => store_sup w zeroSC rfl (by rw [← zeroSU_cells]; exact cellsS_all zeroSU)
  have hsz : zeroSC.size = 19 := rfl
  go_enter Tryz.func84, Tryz.ntmps84
  go_wp2_with (first
    | (go_at_call 139; (with_reducible refine HL.out.mono ?_); rintro e w1 ⟨rfl, hb1⟩)
    | fail)
  go_ret
  exact ⟨rfl, hb1.alloc hb1.size _⟩
theorem store_zero (w : World) : (zeroValue 170).run Tryz.prog w = .ok (.agg #[.pointer none, .int .u64 0, .int .i64 0, .int .i64 0, .int .u32 0, .int .u32 0, .int .u32 0, .int .u32 0, .int .u32 0, .int .u32 0, .int .u32 0, .int .u32 0, .int .u32 0, .int .i64 0, .int .u64 0, .int .u64 0, .int .u64 0, .int .u64 0, .int .u64 0, .bool false, .pointer none, .pointer none, .map none, .bool false, .bool false]) w := by kernel_rfl
theorem third_at (W : World) (o1 o2 o3 : Obj) : (((W.alloc o1).alloc o2).alloc o3).heap[W.heap.size + 1 + 1]? = some o3 := by
  have := heap_alloc_new ((W.alloc o1).alloc o2) o3
  rw [World.size_alloc, World.size_alloc] at this
  exact this
theorem one_of3 (W : World) (o1 o2 o3 : Obj) : (((W.alloc o1).alloc o2).alloc o3).heap[W.heap.size]? = some o1 := (Below.heap_alloc _ _ _ (by simp; omega)).trans (first_at W o1 o2)
theorem open_nil (W : World) : Calls Tryz.prog 31 #[.pointer none] W fun e w' => e = .returned (.tuple #[.pointer none, .int .i64 1]) ∧ Below W.heap.size W w' := by
  have HD := Lib.hid (fun W => dead_nil W)
  have H3 := third_at W (.cells #[.int .i64 0] 26) (.map #[] 0) (.cells #[.pointer none, .int .u64 0, .int .i64 0, .int .i64 0, .int .u32 0, .int .u32 0, .int .u32 0, .int .u32 0, .int .u32 0, .int .u32 0, .int .u32 0, .int .u32 0, .int .u32 0, .int .i64 0, .int .u64 0, .int .u64 0, .int .u64 0, .int .u64 0, .int .u64 0, .bool false, .pointer none, .pointer none, (.map (some (W.heap.size + 1))), .bool false, .bool false] 170)
  have H1 := one_of3 W (.cells #[.int .i64 0] 26) (.map #[] 0) (.cells #[.pointer none, .int .u64 0, .int .i64 0, .int .i64 0, .int .u32 0, .int .u32 0, .int .u32 0, .int .u32 0, .int .u32 0, .int .u32 0, .int .u32 0, .int .u32 0, .int .u32 0, .int .i64 0, .int .u64 0, .int .u64 0, .int .u64 0, .int .u64 0, .int .u64 0, .bool false, .pointer none, .pointer none, (.map (some (W.heap.size + 1))), .bool false, .bool false] 170)
  have HB3 : Below W.heap.size W _ := (((Below.refl _ W).alloc (Nat.le_refl _) (.cells #[.int .i64 0] 26)).alloc (by simp) (.map #[] 0)).alloc (by simp; omega) (.cells #[.pointer none, .int .u64 0, .int .i64 0, .int .i64 0, .int .u32 0, .int .u32 0, .int .u32 0, .int .u32 0, .int .u32 0, .int .u32 0, .int .u32 0, .int .u32 0, .int .u32 0, .int .i64 0, .int .u64 0, .int .u64 0, .int .u64 0, .int .u64 0, .int .u64 0, .bool false, .pointer none, .pointer none, (.map (some (W.heap.size + 1))), .bool false, .bool false] 170)
  have hsz : (((W.alloc (.cells #[.int .i64 0] 26)).alloc (.map #[] 0)).alloc (.cells #[.pointer none, .int .u64 0, .int .i64 0, .int .i64 0, .int .u32 0, .int .u32 0, .int .u32 0, .int .u32 0, .int .u32 0, .int .u32 0, .int .u32 0, .int .u32 0, .int .u32 0, .int .i64 0, .int .u64 0, .int .u64 0, .int .u64 0, .int .u64 0, .int .u64 0, .bool false, .pointer none, .pointer none, (.map (some (W.heap.size + 1))), .bool false, .bool false] 170)).heap.size = W.heap.size + 3 := by simp
  have HLD := Lib.hid (load_no (W := ((W.alloc (.cells #[.int .i64 0] 26)).alloc (.map #[] 0)).alloc (.cells #[.pointer none, .int .u64 0, .int .i64 0, .int .i64 0, .int .u32 0, .int .u32 0, .int .u32 0, .int .u32 0, .int .u32 0, .int .u32 0, .int .u32 0, .int .u32 0, .int .u32 0, .int .i64 0, .int .u64 0, .int .u64 0, .int .u64 0, .int .u64 0, .int .u64 0, .bool false, .pointer none, .pointer none, (.map (some (W.heap.size + 1))), .bool false, .bool false] 170)) (b := W.heap.size + 1 + 1) (by rw [Joins.cell_of_block H3]; rfl))
  have hmm := @run_makeMap Tryz.prog
  have hz := store_zero
  obtain ⟨W3, hW3⟩ : ∃ W3, ((W.alloc (.cells #[.int .i64 0] 26)).alloc (.map #[] 0)).alloc (.cells #[.pointer none, .int .u64 0, .int .i64 0, .int .i64 0, .int .u32 0, .int .u32 0, .int .u32 0, .int .u32 0, .int .u32 0, .int .u32 0, .int .u32 0, .int .u32 0, .int .u32 0, .int .i64 0, .int .u64 0, .int .u64 0, .int .u64 0, .int .u64 0, .int .u64 0, .bool false, .pointer none, .pointer none, (.map (some (W.heap.size + 1))), .bool false, .bool false] 170) = W3 := ⟨_, rfl⟩
  rw [hW3] at H3 H1 HB3 hsz HLD
  have K1 := Lib.hid H1
  have KB := Lib.hid HB3
  have KS := Lib.hid hsz
  clear H3 H1 HB3 hsz
  go_enter_defers Tryz.func31, Tryz.ntmps31
  go_wp2_with (first
    | (go_at_call 82; (with_reducible refine (HD.out _).mono ?_); rintro e w1 ⟨rfl, rfl⟩)
    | (go_at_call 84; (with_reducible refine HLD.out.mono ?_); rintro e w2 ⟨rfl, hb2⟩; have HE := Lib.hid ((hb2.block W.heap.size (by rw [KS.out]; omega)).trans K1.out); have HB2 := Lib.hid (KB.out.trans (hb2.mono (by rw [KS.out]; omega))); have hc := Joins.cell_of_block (i := 0) HE.out; have hf := frozen_of_row w2 W.heap.size 0 _ _ HE.out; clear hb2)
    | fail)
  have hq := Joins.block_setCell HE.out (i := 0) (.int .i64 1)
  have hqc : (w2.setCell ⟨W.heap.size, 0, none⟩ (.int .i64 1)).cell? ⟨W.heap.size, 0, none⟩ = some (.int .i64 1) := by
    rw [Joins.cell_of_block hq]; rfl
  refine leaves_cons (f := 83) (args := #[.pointer (some ⟨W.heap.size + 1 + 1, 0, none⟩), .pointer (some ⟨W.heap.size, 0, none⟩)]) (by simp) (by simp [go_sem]) ?_
  refine (settle_d _ _ W.heap.size 1 hqc (by decide) (by decide) .returning).mono ?_
  rintro e u' w'' ⟨rfl, rfl, rfl⟩
  exact ⟨_, results_tc rfl _ _ _ _ _ rfl rfl (load_errno hqc), rfl, HB2.out.setCell (Nat.le_refl _) _⟩
end Go.Proofs.YtoclhiaidbfheaaGreatDoor.S
end

section
set_option linter.unusedVariables false
namespace Go.Proofs.YtoclhiaidbfheaaGreatDoor.S
open Go.RowKit Q

/-- areas that may be -/
structure Areas (m dd : Nat) : Prop where
  m0 : 16 ≤ m
  m1 : m ≤ 240
  d0 : 1 ≤ dd
  d1 : dd ≤ 480
theorem Areas.pages {m dd : Nat} (h : Areas m dd) : K.pagesN m + K.pagesN dd ≤ 6 := by
  have h1 := h.m1
  have h2 := h.d1
  unfold K.pagesN
  omega
theorem Areas.may {m dd : Nat} (h : Areas m dd) : mayS 1 (m : Int) (dd : Int) 0 [0, 0, 0, 0, 0, 0, 0, 0, 0] = true := by
  have := h.m0; have := h.m1; have := h.d0; have := h.d1
  refine mayS_yes ⟨by omega, ?_, by omega, by omega⟩
  simp
  omega
set_option maxRecDepth 100000 in
set_option maxHeartbeats 2000000 in
theorem fits_yes {w W : World} {F : Nat → Prop} {b : Nat} {d : RD} (h : PD w F b d) (hb : Below w.heap.size w W) {m dd : Nat} (ha : Areas m dd) (hs : 4 * (2 + m + dd) ≤ d.s.length) :
    Calls Tryz.prog 75 #[.pointer (some ⟨b, 0, none⟩), .int .i64 (m : Int), .int .i64 (dd : Int)] W fun e w' => e = .returned (.bool true) ∧ Below W.heap.size W w' := by
  have hp6 := ha.pages
  have HM : Hid (∀ W : World, Calls Tryz.prog 136 #[.agg #[.int .u64 1, .int .i64 (m : Int), .int .i64 (dd : Int), .int .u32 0, .int .u32 0, .int .u32 0, .int .u32 0, .int .u32 0, .int .u32 0, .int .u32 0, .int .u32 0, .int .u32 0, .int .i64 0, .int .u64 0, .int .u64 0, .int .u64 0, .int .u64 0, .int .u64 0, .bool false]] W fun e w' => e = .returned (.bool true) ∧ Below W.heap.size W w') := Lib.hid (fun W => by
    have := smay_any W 1 (m : Int) (dd : Int) 0 0 0 0 0 0 0 0 0 0 0 0 0 0 0 false (by omega)
    rw [ha.may] at this
    exact this)
  have h1 := ha.m1
  have h2 := ha.d1
  have HND : Hid (∀ W : World, Calls Tryz.prog 76 #[.int .i64 (m : Int), .int .i64 (dd : Int)] W fun e w' => e = .returned (.int .i64 ((K.pagesN m + K.pagesN dd : Nat) : Int)) ∧ w' = W) := Lib.hid (fun W => needed_any W m dd (by omega) (by omega))
  have HSE : Hid (∀ W' : World, Below W.heap.size W W' → Calls Tryz.prog 74 #[.pointer (some ⟨b, 0, none⟩)] W' fun e w' => e = .returned (.int .i64 (d.s.length : Int)) ∧ w' = W') := Lib.hid (fun W' hb' => pd_sectors (h.below (hb.trans (hb'.mono hb.size))))
  have HBK : Hid (∀ W : World, Calls Tryz.prog 137 #[.int .i64 (m : Int), .int .i64 (dd : Int)] W fun e w' => e = .returned (.int .i64 (2 + (m : Int) + (dd : Int))) ∧ w' = W) := Lib.hid (fun W => sblocks_any W m dd (by omega) (by omega))
  have hz := sup_zero
  have hst : ∀ w : World, (storeCells ⟨w.heap.size, 0, none⟩ (((zeroSC.toList.set 0 (.int .u64 1)).set 1 (.int .i64 (m : Int))).set 2 (.int .i64 (dd : Int)))).run Tryz.prog (w.alloc (.cells zeroSC 144)) = .ok () (w.alloc (.cells #[.int .u64 1, .int .i64 (m : Int), .int .i64 (dd : Int), .int .u32 0, .int .u32 0, .int .u32 0, .int .u32 0, .int .u32 0, .int .u32 0, .int .u32 0, .int .u32 0, .int .u32 0, .int .i64 0, .int .u64 0, .int .u64 0, .int .u64 0, .int .u64 0, .int .u64 0, .bool false] 144)) := fun w => store_sup w #[.int .u64 1, .int .i64 (m : Int), .int .i64 (dd : Int), .int .u32 0, .int .u32 0, .int .u32 0, .int .u32 0, .int .u32 0, .int .u32 0, .int .u32 0, .int .u32 0, .int .u32 0, .int .i64 0, .int .u64 0, .int .u64 0, .int .u64 0, .int .u64 0, .int .u64 0, .bool false] rfl (by simp [Value.oneCell'])
  have hle : ((K.pagesN m + K.pagesN dd : Nat) : Int) ≤ 6 := by omega
  generalize K.pagesN m + K.pagesN dd = pn at *
  have HB0 := Lib.hid ((Below.refl _ W).alloc (Nat.le_refl _) (.cells #[.int .u64 1, .int .i64 (m : Int), .int .i64 (dd : Int), .int .u32 0, .int .u32 0, .int .u32 0, .int .u32 0, .int .u32 0, .int .u32 0, .int .u32 0, .int .u32 0, .int .u32 0, .int .i64 0, .int .u64 0, .int .u64 0, .int .u64 0, .int .u64 0, .int .u64 0, .bool false] 144))
  have HNW := Lib.hid (heap_alloc_new W (.cells #[.int .u64 1, .int .i64 (m : Int), .int .i64 (dd : Int), .int .u32 0, .int .u32 0, .int .u32 0, .int .u32 0, .int .u32 0, .int .u32 0, .int .u32 0, .int .u32 0, .int .u32 0, .int .i64 0, .int .u64 0, .int .u64 0, .int .u64 0, .int .u64 0, .int .u64 0, .bool false] 144))
  have hsec : (4 : Int) * (2 + (m : Int) + (dd : Int)) ≤ (d.s.length : Int) := by omega
  clear h hb ha hs hp6
  go_enter Tryz.func75, Tryz.ntmps75
  go_wp2_with (first
    | (refine wpList_load_mid rfl 144 (.tmp 7) rfl W.heap.size 0 rfl [.int .u64 1, .int .i64 (m : Int), .int .i64 (dd : Int), .int .u32 0, .int .u32 0, .int .u32 0, .int .u32 0, .int .u32 0, .int .u32 0, .int .u32 0, .int .u32 0, .int .u32 0, .int .i64 0, .int .u64 0, .int .u64 0, .int .u64 0, .int .u64 0, .int .u64 0, .bool false] _ ?hcl Tryz.underlying144 rfl ?hil ?_; (case hcl => exact range_of HNW.out); (case hil => kernel_rfl))
    | (go_at_call 136; (with_reducible refine (HM.out _).mono ?_); rintro e w1 ⟨rfl, hb1⟩; have HB1 := Lib.hid (HB0.out.trans (hb1.mono HB0.out.size)); clear hb1)
    | (go_at_call 76; (with_reducible refine (HND.out _).mono ?_); rintro e w2 ⟨rfl, rfl⟩)
    | (go_at_call 74; (with_reducible refine (HSE.out _ HB1.out).mono ?_); rintro e w3 ⟨rfl, rfl⟩)
    | (go_at_call 137; (with_reducible refine (HBK.out _).mono ?_); rintro e w4 ⟨rfl, rfl⟩)
    | fail)
  go_ret
  exact ⟨rfl, HB1.out⟩
end Go.Proofs.YtoclhiaidbfheaaGreatDoor.S
end

section
set_option linter.unusedVariables false
namespace Go.Proofs.YtoclhiaidbfheaaGreatDoor.S
open Go.RowKit Q

def Settled (d : RD) : Prop := ∀ i, i < d.s.length → ∃ c, d.s.getD i [] = [c]
/-- the first sector of a slot made noughts, settled -/
def wipe1 (d : RD) (k : Nat) : RD := flD (wrD d ((k * 4 : Nat) : Int) 0)
/-- which slot goes first, and which behind it -/
def slotAt (t i : Nat) : Nat := (t % 2 + 1 + i) % 2
def wipeN (d : RD) (t : Nat) : Nat → RD
  | 0 => d
  | i + 1 => wipe1 (wipeN d t i) (slotAt t i)
theorem wipe1_live {d : RD} (h : Live d) (k : Nat) (hk : k * 4 < d.s.length) : Live (wipe1 d k) ∧ (wipe1 d k).s.length = d.s.length ∧ Settled (wipe1 d k) ∧ ∀ j, lastD (wipe1 d k) j = if j = k * 4 then 0 else lastD d j := by
  obtain ⟨h1, h2⟩ := h.wr (k * 4) hk 0
  obtain ⟨f1, f2, f3⟩ := h1.fl
  refine ⟨f2, by unfold wipe1; rw [flD_len, wrD_len], ?_, fun j => by unfold wipe1; rw [f3, h2]⟩
  have e : flD (wrD d ((k * 4 : Nat) : Int) 0) = flushD (wrD d ((k * 4 : Nat) : Int) 0) := by unfold flD; rw [if_pos h1.moves.1, h1.moves.2]
  unfold wipe1
  rw [e]
  intro i hi
  have hi' : i < (wrD d ((k * 4 : Nat) : Int) 0).s.length := by simpa [flushD] using hi
  refine ⟨lastD (wrD d ((k * 4 : Nat) : Int) 0) i, ?_⟩
  unfold flushD lastD
  rw [List.getD_eq_getElem?_getD, List.getElem?_map, List.getD_eq_getElem?_getD, List.getElem?_eq_getElem hi']
  rfl
theorem wipeN_live {d : RD} (h : Live d) (h8 : 8 ≤ d.s.length) (t : Nat) : ∀ i, Live (wipeN d t i) ∧ (wipeN d t i).s.length = d.s.length
  | 0 => ⟨h, rfl⟩
  | i + 1 => by
    obtain ⟨h1, h2⟩ := wipeN_live h h8 t i
    have hs : slotAt t i < 2 := Nat.mod_lt _ (by omega)
    obtain ⟨g1, g2, _, _⟩ := wipe1_live h1 (slotAt t i) (by rw [h2]; omega)
    exact ⟨g1, g2.trans h2⟩
theorem wipeN_short {d : RD} (h : Short d 3) (t : Nat) : ∀ i, i ≤ 2 → Short (wipeN d t i) (3 - i)
  | 0, _ => h
  | i + 1, hi => by
    have h1 := wipeN_short h t i (by omega)
    rw [show 3 - i = (3 - (i + 1)) + 1 by omega] at h1
    exact Short.flush (h1.wr _ _) (by omega)
theorem wr0_live {d : RD} (h : Live d) (n : Nat) (hn : n < d.s.length) : wrR d (n : Int) = 0 := by unfold wrR; rw [if_pos ⟨by omega, by omega⟩, if_pos h.moves.1]
theorem slot_int (t i : Nat) : (((t : Int) % 2 + 1 + (i : Int)) % 2) = ((slotAt t i : Nat) : Int) := by unfold slotAt; omega
theorem zero_secA (w : World) : (zeroValue 245).run Tryz.prog w = .ok (.agg (sec 0).toArray) w := sec_zero_run w
set_option maxRecDepth 100000 in
set_option maxHeartbeats 4000000 in
theorem wipe_live {w : World} {F : Nat → Prop} {b : Nat} {d : RD} (hT : Tabs w) (hW : Wids w) (h : PD w F b d) (hl : Live d) (h8 : 8 ≤ d.s.length) (hs : Short d 3) :
    Calls Tryz.prog 77 #[.pointer (some ⟨b, 0, none⟩)] w (PDone w F b 0 (wipeN d (loadS d).tx 2)) := by
  have HL := Lib.hid (load_any hT hW h h8)
  obtain ⟨s, hss⟩ : ∃ s, loadS d = s := ⟨_, rfl⟩
  obtain ⟨er, her⟩ : ∃ er, ldE d = er := ⟨_, rfl⟩
  rw [hss, her] at HL
  rw [hss]
  have hsf : s.fits := by rw [← hss]; exact bestN_fits d 2
  have htx := hsf.tx
  have hzs := sup_zero
  have hzz := zero_secA
  have hst := fun w => store_sup w s.cells rfl (cellsS_all s)
  have hsz : s.cells.size = 19 := rfl
  have HH := Lib.hid h
  have HLV := Lib.hid (fun i => wipeN_live hl h8 s.tx i)
  have HSH := Lib.hid (fun i hi => wipeN_short hs s.tx i hi)
  have hc0 : s.cells[0]? = some (.int .u64 (s.tx : Int)) := rfl
  have HC0 := Lib.hid hc0
  have hn1 := h.n1
  obtain ⟨cl, hcl⟩ : ∃ cl : Array Value, s.cells = cl := ⟨_, rfl⟩
  rw [hcl] at HL hst hsz HC0
  clear hT hW h hl hs hss her hsf hc0 hcl
  go_enter Tryz.func77, Tryz.ntmps77
  go_wp2_with (first
    | (go_at_call 139; (with_reducible refine HL.out.mono ?_); rintro e w1 ⟨rfl, hb1⟩; have HB1 := Lib.hid hb1; have HX := Lib.hid (heap_alloc_new w1 (.cells cl 144)); clear hb1)
    | fail)
  have HS1 := Lib.hid (show (w1.alloc (.cells cl 144)).heap.size = w1.heap.size + 1 by simp)
  have HBX := Lib.hid ((Below.refl w1.heap.size w1).alloc (Nat.le_refl _) (.cells cl 144))
  have HPX := Lib.hid ((HH.out.below HB1.out).below HBX.out)
  obtain ⟨w2, hw2⟩ : ∃ w2, w1.alloc (.cells cl 144) = w2 := ⟨_, rfl⟩
  go_loopw [14] (fun j wr => ∃ (i : Nat) (FI : Nat → Prop), i ≤ 2 ∧ j = .int .i64 (i : Int) ∧ Hid (PD wr FI b (wipeN d s.tx i) ∧ (∀ j, FI j → F j ∨ w1.heap.size < j) ∧ Stays (w1.alloc (.cells cl 144)) wr F)) (fun j _ => 2 - (intOf j).toNat)
  case atStart => exact ⟨0, F, by omega, rfl, HPX.out, fun _ h => .inl h, Stays.refl _ _⟩
  case round =>
    obtain ⟨i, FI, hi, rfl, HI⟩ := hrel
    clear hw2
    by_cases hlt : i < 2
    · have hltI : (i : Int) < 2 := by omega
      obtain ⟨hp, hf, hsy⟩ := HI.out
      have hbx := (hsy.block w1.heap.size (by rw [HS1.out]; omega) (fun e => by have := HH.out.lt e; have := HB1.out.size; omega)).trans HX.out
      have hc : wr.cell? ⟨w1.heap.size, 0, none⟩ = some (.int .u64 (s.tx : Int)) := by rw [Joins.cell_of_block hbx]; exact HC0.out
      obtain ⟨l1, l2⟩ := HLV.out i
      have hk2 : slotAt s.tx i < 2 := Nat.mod_lt _ (by omega)
      have hk : slotAt s.tx i * 4 < (wipeN d s.tx i).s.length := by rw [l2]; omega
      have hsh := HSH.out i (by omega)
      rw [show 3 - i = (3 - (i + 1)) + 1 by omega] at hsh
      have hwr := pd_write wr FI b (wipeN d s.tx i) hp ((slotAt s.tx i * 4 : Nat) : Int) 0 hsh.at_
      rw [wr0_live l1 _ hk] at hwr
      have HW : Hid (∀ z : Int, z = ((slotAt s.tx i * 4 : Nat) : Int) → Calls Tryz.prog 140 #[.pointer (some ⟨b, 0, none⟩), .int .i64 z, .agg (sec 0).toArray] wr (PDone wr FI b 0 (wrD (wipeN d s.tx i) ((slotAt s.tx i * 4 : Nat) : Int) 0))) := Lib.hid (fun z hz => by subst hz; exact hwr)
      have l3 := (l1.wr (slotAt s.tx i * 4) hk 0).1
      have HFL := Lib.hid (fun (W : World) (F1 : Nat → Prop) (hp : PD W F1 b (wrD (wipeN d s.tx i) ((slotAt s.tx i * 4 : Nat) : Int) 0)) => by
        have := pd_flush W F1 b _ hp
        rw [l3.fl.1] at this
        exact this)
      have HFI := Lib.hid hf
      have HSY := Lib.hid hsy
      have HLT := Lib.hid (show w1.heap.size + 1 ≤ wr.heap.size by have := hsy.size; rw [HS1.out] at this; exact this)
      have heq : (((s.tx : Int) % 2 + 1 + (i : Int)) % 2) * 4 = ((slotAt s.tx i * 4 : Nat) : Int) := by have := slot_int s.tx i; push_cast; omega
      have HEQ := Lib.hid heq
      clear hp hf hsy hbx l1 l2 hk hsh hwr l3 HI heq
      go_wp2_with (first
        | (go_at_call 140; (with_reducible refine (HW.out _ (by have := HEQ.out; omega)).mono ?_); rintro e w3 ⟨rfl, F1, hp3, hf3, hs3⟩; have HP3 := Lib.hid hp3; have HF3 := Lib.hid hf3; have HS3 := Lib.hid hs3; clear hp3 hf3 hs3)
        | (go_at_call 80; (with_reducible refine (HFL.out _ F1 HP3.out).mono ?_); rintro e w4 ⟨rfl, F2, hp4, hf4, hs4⟩; have HP4 := Lib.hid hp4; have HF4 := Lib.hid hf4; have HS4 := Lib.hid hs4; clear hp4 hf4 hs4)
        | fail)
      exact ⟨⟨i + 1, F2, hlt, by go_num, HP4.out, fun j hj => (HF4.out j hj).elim (fun h => (HF3.out j h).elim (HFI.out j) (fun h => .inr (by have := HLT.out; omega))) (fun h => .inr (by have := HS3.out.size; have := HLT.out; omega)),
        (HSY.out.trans HS3.out (fun j hj => (HFI.out j hj).imp id (fun h => by rw [HS1.out]; omega))).trans HS4.out (fun j hj => (HF3.out j hj).elim (fun h => (HFI.out j h).imp id (fun h => by rw [HS1.out]; omega)) (fun h => .inr (by rw [HS1.out]; have := HLT.out; omega)))⟩, by simp [intOf]; omega⟩
    · obtain rfl : i = 2 := by omega
      obtain ⟨hp, hf, hsy⟩ := HI.out
      have HPP := Lib.hid hp
      have HFF := Lib.hid hf
      have HSS := Lib.hid ((Stays.of_below (HB1.out.trans (HBX.out.mono HB1.out.size)) F).trans hsy (fun _ h => .inl h))
      clear hp hf hsy HI
      go_wp2_with fail
      go_ret
      exact ⟨rfl, FI, HPP.out, fun k hk => (HFF.out k hk).imp id (fun h => by have := HB1.out.size; omega), HSS.out⟩
end Go.Proofs.YtoclhiaidbfheaaGreatDoor.S
end

section
set_option linter.unusedVariables false
namespace Go.Proofs.YtoclhiaidbfheaaGreatDoor.S
open Go.RowKit Q

theorem room_at {W : World} {b bm bt g0 p0 g1 p1 x0 y0 x1 y1 : Nat} {pd : Addr} {c c2 : C.CS} (h0 : W.cell? ⟨b, 0, none⟩ = some (.pointer (some pd))) (h20 : W.cell? ⟨b, 20, none⟩ = some (.pointer (some ⟨bm, 0, none⟩))) (h21 : W.cell? ⟨b, 21, none⟩ = some (.pointer (some ⟨bt, 0, none⟩)))
    (hm : C.AX W bm g0 p0 g1 p1 c) (ht : C.AX W bt x0 y0 x1 y1 c2) :
    Calls Tryz.prog 85 #[.pointer (some ⟨b, 0, none⟩)] W fun e w' => e = .returned (.tuple #[.int .i64 (C.roomN c c.now.length : Int), .int .i64 (C.roomN c2 c2.now.length : Int)]) ∧ w' = W.drew := by
  have HN := Lib.hid (none_no h0)
  have HM := Lib.hid (C.room_any W.drew bm g0 p0 g1 p1 c (C.AR.drew hm))
  have HT := Lib.hid (C.room_any W.drew bt x0 y0 x1 y1 c2 (C.AR.drew ht))
  generalize C.roomN c c.now.length = r1 at *
  generalize C.roomN c2 c2.now.length = r2 at *
  clear hm ht h0
  go_enter Tryz.func85, Tryz.ntmps85
  go_wp2_with (first
    | (go_at_call 103; (with_reducible refine HN.out.mono ?_); rintro e w1 ⟨rfl, rfl⟩)
    | fail)
  go_region_with (first
    | (go_at_call 155; first
        | ((with_reducible refine HM.out.mono ?_); rintro e w2 ⟨rfl, rfl⟩)
        | ((with_reducible refine HT.out.mono ?_); rintro e w3 ⟨rfl, rfl⟩))
    | fail)
  all_goals go_wp2
  all_goals go_ret2
  all_goals exact ⟨rfl, rfl⟩
end Go.Proofs.YtoclhiaidbfheaaGreatDoor.S
end

section
set_option linter.unusedVariables false
namespace Go.Proofs.YtoclhiaidbfheaaGreatDoor.S
open Go.RowKit Q

theorem at_any (W : World) (x : Bool) (n : Nat) (hn : n < 4294967296) : Calls Tryz.prog 185 #[.agg #[.bool x, .int .u64 (n : Int)]] W fun e w' => e = .returned (.int .i64 ((min n 2147483647 : Nat) : Int)) ∧ Below W.heap.size W w' := by
  have e : ((min n 2147483647 : Nat) : Int) = min (n : Int) 2147483647 := by omega
  rw [e]
  go_enter Tryz.func185, Tryz.ntmps185
  go_wp2
  go_ret
  exact ⟨rfl, (Below.refl _ W).alloc (Nat.le_refl _) _⟩
set_option maxHeartbeats 2000000 in
theorem pages_at {W : World} {b m dd : Nat} (ha : Areas m dd) (h2 : W.cell? ⟨b, 2, none⟩ = some (.int .i64 (m : Int))) (h3 : W.cell? ⟨b, 3, none⟩ = some (.int .i64 (dd : Int))) :
    Calls Tryz.prog 151 #[.pointer (some ⟨b, 0, none⟩)] W fun e w' => e = .returned (.slice (some ⟨b, 4, none⟩) (K.pagesN m + K.pagesN dd) 6) ∧ w' = W.drew := by
  have h1 := ha.m1
  have h5 := ha.d1
  have HN := Lib.hid (needed_any W.drew m dd (by omega) (by omega))
  have hle := ha.pages
  have hu := Tryz.underlying140
  clear ha h1 h5
  generalize K.pagesN m + K.pagesN dd = pn at *
  have hpI : ((pn : Nat) : Int) ≤ 6 := by omega
  go_enter Tryz.func151, Tryz.ntmps151
  go_wp2
  go_region_with (first
    | (go_at_call 76; (with_reducible refine HN.out.mono ?_); rintro e w2 ⟨rfl, rfl⟩)
    | fail)
  all_goals go_wp2
  all_goals go_ret
  all_goals exact ⟨rfl, rfl⟩
set_option maxHeartbeats 2000000 in
theorem count_at {W : World} {b bm g0 p0 g1 p1 : Nat} {pd : Addr} {c : C.CS} (h0 : W.cell? ⟨b, 0, none⟩ = some (.pointer (some pd))) (h20 : W.cell? ⟨b, 20, none⟩ = some (.pointer (some ⟨bm, 0, none⟩)))
    (hm : C.AX W bm g0 p0 g1 p1 c) (n : Nat) (hn : n < 2147483647) :
    Calls Tryz.prog 181 #[.pointer (some ⟨b, 0, none⟩), .int .u32 (n : Int)] W fun e w' => e = .returned (.int .u16 (C.lookN c.now (n : Int) : Int)) ∧ Below W.heap.size W w' := by
  have HN := Lib.hid (none_no h0)
  have HA : Hid (∀ W : World, Calls Tryz.prog 185 #[.agg #[.bool false, .int .u64 (IntKind.u64.wrap (n : Int))]] W fun e w' => e = .returned (.int .i64 (n : Int)) ∧ Below W.heap.size W w') := Lib.hid (fun W => by
    have hw : IntKind.u64.wrap (n : Int) = (n : Int) := by rw [IntKind.wrap_u64]; omega
    rw [hw]
    have := at_any W false n (by omega)
    rwa [show min n 2147483647 = n by omega] at this)
  have HC : Hid (∀ W', Below W.drew.heap.size W.drew W' → Calls Tryz.prog 186 #[.pointer (some ⟨bm, 0, none⟩), .int .i64 (n : Int)] W' fun e w' => e = .returned (.int .u16 (C.lookN c.now (n : Int) : Int)) ∧ W' = w') := Lib.hid (fun W' hb => C.count_any W' bm g0 p0 g1 p1 c ((C.AR.drew hm).below hb) (n : Int))
  generalize C.lookN c.now (n : Int) = r at *
  have HD := Lib.hid ((Below.refl W.heap.size W).drew)
  clear hm h0
  go_enter Tryz.func181, Tryz.ntmps181
  go_wp2_with (first
    | (go_at_call 103; (with_reducible refine HN.out.mono ?_); rintro e w1 ⟨rfl, rfl⟩)
    | fail)
  go_region_with (first
    | (go_at_call 185; (with_reducible refine (HA.out _).mono ?_); rintro e w2 ⟨rfl, hb2⟩; have HB2 := Lib.hid hb2; have h20' := (hb2.cell (p := ⟨b, 20, none⟩) (block_lt_of_cell (by simpa using h20))).trans (by simpa using h20); clear hb2)
    | (go_at_call 186; (with_reducible refine (HC.out _ HB2.out).mono ?_); rintro e w3 ⟨rfl, rfl⟩)
    | fail)
  all_goals go_wp2
  all_goals go_ret
  all_goals exact ⟨rfl, HD.out.trans (HB2.out.mono HD.out.size)⟩
end Go.Proofs.YtoclhiaidbfheaaGreatDoor.S
end

section
set_option linter.unusedVariables false
namespace Go.Proofs.YtoclhiaidbfheaaGreatDoor.S
open Go.RowKit Q

theorem pd_dead {w : World} {F : Nat → Prop} {b : Nat} {d : RD} (h : PD w F b d) : Calls Tryz.prog 82 #[.pointer (some ⟨b, 0, none⟩)] w fun e w' => e = .returned (.bool d.dead) ∧ w' = w := by
  obtain ⟨L, m, D, X, hp, _⟩ := h
  have HN := Lib.hid (none_any w b m L D X d hp)
  have c4 := hp.c4
  clear hp
  go_enter Tryz.func82, Tryz.ntmps82
  go_wp2_with (go_at_call 135; refine HN.out.mono ?_; rintro e w' ⟨rfl, rfl⟩)
  go_ret
  exact ⟨rfl, rfl⟩
/-- the i-th page of counts, as the block of a number -/
def pg (no i : Nat) (l : List Nat) : List UInt8 := imgP no i (K.partL l (i : Int))
/-- the first n pages of counts, written into the blocks N at_, N (at_ + 1), .. of the metadata area -/
def wrPgs (d : RD) (N : Nat → Nat) (l : List Nat) (at_ : Nat) : Nat → RD
  | 0 => d
  | i + 1 => (writeK (wrPgs d N l at_ i) (2 + N (at_ + i)) (pg (N (at_ + i)) i l)).2
theorem pg_len (no i : Nat) (l : List Nat) : (pg no i l).length = 256 := imgP_length _ _ _ (by rw [K.partL_length]; omega)
theorem wrPgs_live {d : RD} (h : Live d) (N : Nat → Nat) (l : List Nat) (at_ : Nat) : ∀ n, (∀ i, i < n → (2 + N (at_ + i)) * 4 + 4 ≤ d.s.length) → Live (wrPgs d N l at_ n) ∧ (wrPgs d N l at_ n).s.length = d.s.length
  | 0, _ => ⟨h, rfl⟩
  | n + 1, hn => by
    obtain ⟨h1, h2⟩ := wrPgs_live h N l at_ n (fun i hi => hn i (by omega))
    obtain ⟨_, g2, g3, _⟩ := h1.writeK (2 + N (at_ + n)) (by rw [h2]; exact hn n (by omega)) (pg (N (at_ + n)) n l) (pg_len _ _ _)
    exact ⟨g2, g3.trans h2⟩
theorem wrPgs_short {d : RD} (N : Nat → Nat) (l : List Nat) (at_ : Nat) : ∀ n m, Short d (m + 4 * n) → Short (wrPgs d N l at_ n) m
  | 0, m, h => h
  | n + 1, m, h => Short.wrAll _ _ 4 0 (wrPgs_short N l at_ n (m + 4) (h.less (by omega)))
/-- what is there behind it: the pages, each in its block; all other blocks are as they were -/
theorem wrPgs_at {d : RD} (h : Live d) (N : Nat → Nat) (l : List Nat) (at_ : Nat) : ∀ n, (∀ i, i < n → (2 + N (at_ + i)) * 4 + 4 ≤ d.s.length) → (∀ i j, i < n → j < n → N (at_ + i) = N (at_ + j) → i = j) →
    (∀ i, i < n → blkAt (wrPgs d N l at_ n) (2 + N (at_ + i)) = pg (N (at_ + i)) i l) ∧ ∀ k, k * 4 + 4 ≤ d.s.length → (∀ i, i < n → k ≠ 2 + N (at_ + i)) → blkAt (wrPgs d N l at_ n) k = blkAt d k
  | 0, _, _ => ⟨fun i hi => by omega, fun k _ _ => rfl⟩
  | n + 1, hn, hu => by
    obtain ⟨h1, h2⟩ := wrPgs_live h N l at_ n (fun i hi => hn i (by omega))
    obtain ⟨g1, g2⟩ := wrPgs_at h N l at_ n (fun i hi => hn i (by omega)) (fun i j hi hj => hu i j (by omega) (by omega))
    obtain ⟨_, _, _, e1, e2⟩ := h1.writeK (2 + N (at_ + n)) (by rw [h2]; exact hn n (by omega)) (pg (N (at_ + n)) n l) (pg_len _ _ _)
    refine ⟨fun i hi => ?_, fun k hk hne => ?_⟩
    · by_cases e : i = n
      · subst e; exact e1
      · have hi' : i < n := by omega
        refine (e2 (2 + N (at_ + i)) (fun h => e (hu i n (by omega) (by omega) (by omega))) (by rw [h2]; exact hn i (by omega))).trans (g1 i hi')
    · exact (e2 k (hne n (by omega)) (by rw [h2]; exact hk)).trans (g2 k hk (fun i hi => hne i (by omega)))
end Go.Proofs.YtoclhiaidbfheaaGreatDoor.S
end

section
set_option linter.unusedVariables false
namespace Go.Proofs.YtoclhiaidbfheaaGreatDoor.S
open Go.RowKit Q

/-- how many pages stand ahead of an area's -/
def at0 (L : Nat → List Nat) : Nat → Nat
  | 0 => 0
  | a + 1 => at0 L a + K.pagesN (L a).length
def wrAll (d : RD) (N : Nat → Nat) (L : Nat → List Nat) : Nat → RD
  | 0 => d
  | a + 1 => wrPgs (wrAll d N L a) N (L a) (at0 L a) (K.pagesN (L a).length)
theorem wrAll_live {d : RD} (h : Live d) (N : Nat → Nat) (L : Nat → List Nat) : ∀ a, (∀ i, i < at0 L a → (2 + N i) * 4 + 4 ≤ d.s.length) → Live (wrAll d N L a) ∧ (wrAll d N L a).s.length = d.s.length
  | 0, _ => ⟨h, rfl⟩
  | a + 1, hn => by
    obtain ⟨h1, h2⟩ := wrAll_live h N L a (fun i hi => hn i (by show i < at0 L a + _; omega))
    obtain ⟨g1, g2⟩ := wrPgs_live h1 N (L a) (at0 L a) (K.pagesN (L a).length) (fun i hi => by rw [h2]; exact hn _ (by show at0 L a + i < at0 L a + _; omega))
    exact ⟨g1, g2.trans h2⟩
theorem wrAll_short {d : RD} (N : Nat → Nat) (L : Nat → List Nat) : ∀ a m, Short d (m + 4 * at0 L a) → Short (wrAll d N L a) m
  | 0, m, h => h
  | a + 1, m, h => wrPgs_short N (L a) (at0 L a) _ m (wrAll_short N L a _ (h.less (by show _ ≤ m + 4 * (at0 L a + _); omega)))
theorem partL_small {l : List Nat} (h : ∀ k ∈ l, k < 65536) (ix : Int) : ∀ k ∈ K.partL l ix, k < 65536 := by
  intro k hk
  unfold K.partL at hk
  split at hk
  · rw [(List.mem_replicate.1 hk).2]; omega
  · unfold K.rowL at hk
    obtain ⟨i, _, rfl⟩ := List.mem_map.1 hk
    rw [List.getD_eq_getElem?_getD]
    cases he : l[ix.toNat * 120 + i]? with
    | none => simp
    | some x => exact h x (List.mem_of_getElem? he)
end Go.Proofs.YtoclhiaidbfheaaGreatDoor.S
end
