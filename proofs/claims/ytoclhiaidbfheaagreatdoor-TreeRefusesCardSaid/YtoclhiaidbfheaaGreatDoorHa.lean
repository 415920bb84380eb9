/- btree: what it answers without a store, and of an empty tree. btree: a store that lives: its ready, its Hold of nothing; Made. store: its fresh nodes, as a map. The program's Find and Copy. The program's Copy. btree: the store that the law makes, while it is changed. btree: Made, and what the store of the law answers while it is changed. store: a node in new memory; add. store: New, place, read, Node. -/
import Derived.Test.YtoclhiaidbfheaaGreatDoorGz
import Derived.OwnWalk
import Derived.Maps.OwnSet
import Derived.Test.YtoclhiaidbfheaaGreatDoorBi
section
set_option linter.unusedVariables false
namespace Go.Proofs.YtoclhiaidbfheaaGreatDoor.T
open Go.RowKit Q S

/-- what btree's ready answers of a store -/
def RdyAs (B : Nat) (w : World) (p : Value) (er : Int) : Prop := ∀ W, Below B w W → Calls Tryz.prog 32 #[p] W fun e w' => e = .returned (.int .i64 er) ∧ Below W.heap.size W w'
theorem results_tmp4 {fn : Func} {t u v x : Tmp} (h : fn.results = #[.tmp t, .tmp u, .tmp v, .tmp x]) (tmps : Array Value) (P : Program) (w : World) : (results fn tmps).run P w = .ok (.tuple #[tmps.getD t undef, tmps.getD u undef, tmps.getD v undef, tmps.getD x undef]) w := by
  simp [results, h]
theorem belA {W w1 : World} (h : Below W.heap.size W w1) (o : Obj) : Below W.heap.size W (w1.alloc o) := h.alloc h.size o
theorem belT {W w1 w2 : World} (h : Below W.heap.size W w1) (h2 : Below w1.heap.size w1 w2) : Below W.heap.size W w2 := h.trans (h2.mono h.size)
theorem rdy_no {B : Nat} {w : World} {p : Value} (h : NoS B w p) (hB : B ≤ w.heap.size) : RdyAs B w p 1 := by
  intro W hb
  have HP := Lib.hid (hold_no h hb (Nat.le_trans hB hb.size) 0)
  clear h
  go_enter Tryz.func32, Tryz.ntmps32
  go_wp2_with (first
    | (go_at_call 66; (with_reducible refine HP.out.mono ?_); rintro e w1 ⟨rfl, hb1⟩)
    | fail)
  go_ret
  exact ⟨rfl, hb1⟩
theorem get_e1 {B : Nat} {w W : World} {p : Value} (h : RdyAs B w p 1) (hb : Below B w W) (hB : B ≤ W.heap.size) (n k : Int) :
    Calls Tryz.prog 9 #[p, .int .u32 n, .int .u64 k] W fun e w' => e = .returned (.tuple #[.int .u64 0, .bool false, .int .i64 1]) ∧ Below W.heap.size W w' := by
  have HR : Hid (∀ W', Below W.heap.size W W' → Calls Tryz.prog 32 #[p] W' fun e w' => e = .returned (.int .i64 1) ∧ Below W'.heap.size W' w') := Lib.hid (fun W' hb' => h W' (hb.trans (hb'.mono hB)))
  clear h hb
  go_enter Tryz.func9, Tryz.ntmps9
  go_wp2_with (first
    | (go_at_call 32; (with_reducible refine (HR.out _ (Below.refl W.heap.size W)).mono ?_); rintro e w1 ⟨rfl, hb1⟩; have HB1 : Hid (Below W.heap.size W w1) := Lib.hid (belT (Below.refl W.heap.size W) hb1); clear hb1)
    | fail)
  first | go_ret | go_ret2 | go_ret3 | ((try simp only [Exit.inBlock, Exit.then]); refine bodyPost_ret (results_tmp4 rfl _ _ _) rfl ?_)
  exact ⟨rfl, HB1.out⟩
theorem get_e0 {B : Nat} {w W : World} {p : Value} (h : RdyAs B w p 0) (hb : Below B w W) (hB : B ≤ W.heap.size) (k : Int) :
    Calls Tryz.prog 9 #[p, .int .u32 0, .int .u64 k] W fun e w' => e = .returned (.tuple #[.int .u64 0, .bool false, .int .i64 0]) ∧ Below W.heap.size W w' := by
  have HR : Hid (∀ W', Below W.heap.size W W' → Calls Tryz.prog 32 #[p] W' fun e w' => e = .returned (.int .i64 0) ∧ Below W'.heap.size W' w') := Lib.hid (fun W' hb' => h W' (hb.trans (hb'.mono hB)))
  clear h hb
  go_enter Tryz.func9, Tryz.ntmps9
  go_wp2_with (first
    | (go_at_call 32; (with_reducible refine (HR.out _ (Below.refl W.heap.size W)).mono ?_); rintro e w1 ⟨rfl, hb1⟩; have HB1 : Hid (Below W.heap.size W w1) := Lib.hid (belT (Below.refl W.heap.size W) hb1); clear hb1)
    | fail)
  first | go_ret | go_ret2 | go_ret3 | ((try simp only [Exit.inBlock, Exit.then]); refine bodyPost_ret (results_tmp4 rfl _ _ _) rfl ?_)
  exact ⟨rfl, HB1.out⟩
theorem over_e1 {B : Nat} {w W : World} {p : Value} (h : RdyAs B w p 1) (hb : Below B w W) (hB : B ≤ W.heap.size) (n f : Int) (v : Value) :
    Calls Tryz.prog 36 #[p, .int .u32 n, .int .u64 f, v] W fun e w' => e = .returned (.int .i64 1) ∧ Below W.heap.size W w' := by
  have HR : Hid (∀ W', Below W.heap.size W W' → Calls Tryz.prog 32 #[p] W' fun e w' => e = .returned (.int .i64 1) ∧ Below W'.heap.size W' w') := Lib.hid (fun W' hb' => h W' (hb.trans (hb'.mono hB)))
  clear h hb
  go_enter Tryz.func36, Tryz.ntmps36
  go_wp2_with (first
    | (go_at_call 32; (with_reducible refine (HR.out _ (Below.refl W.heap.size W)).mono ?_); rintro e w1 ⟨rfl, hb1⟩; have HB1 : Hid (Below W.heap.size W w1) := Lib.hid (belT (Below.refl W.heap.size W) hb1); clear hb1)
    | fail)
  first | go_ret | go_ret2 | go_ret3 | ((try simp only [Exit.inBlock, Exit.then]); refine bodyPost_ret (results_tmp4 rfl _ _ _) rfl ?_)
  exact ⟨rfl, HB1.out⟩
theorem over_e0 {B : Nat} {w W : World} {p : Value} (h : RdyAs B w p 0) (hb : Below B w W) (hB : B ≤ W.heap.size) (f : Int) (v : Value) :
    Calls Tryz.prog 36 #[p, .int .u32 0, .int .u64 f, v] W fun e w' => e = .returned (.int .i64 0) ∧ Below W.heap.size W w' := by
  have HR : Hid (∀ W', Below W.heap.size W W' → Calls Tryz.prog 32 #[p] W' fun e w' => e = .returned (.int .i64 0) ∧ Below W'.heap.size W' w') := Lib.hid (fun W' hb' => h W' (hb.trans (hb'.mono hB)))
  clear h hb
  go_enter Tryz.func36, Tryz.ntmps36
  go_wp2_with (first
    | (go_at_call 32; (with_reducible refine (HR.out _ (Below.refl W.heap.size W)).mono ?_); rintro e w1 ⟨rfl, hb1⟩; have HB1 : Hid (Below W.heap.size W w1) := Lib.hid (belT (Below.refl W.heap.size W) hb1); clear hb1)
    | fail)
  first | go_ret | go_ret2 | go_ret3 | ((try simp only [Exit.inBlock, Exit.then]); refine bodyPost_ret (results_tmp4 rfl _ _ _) rfl ?_)
  exact ⟨rfl, HB1.out⟩
theorem put_e1 {B : Nat} {w W : World} {p : Value} (h : RdyAs B w p 1) (hb : Below B w W) (hB : B ≤ W.heap.size) (n k x y : Int) :
    Calls Tryz.prog 7 #[p, .int .u32 n, .int .i64 k, .int .u64 x, .int .u64 y] W fun e w' => e = .returned (.tuple #[.int .u32 0, .int .u64 0, .bool false, .int .i64 1]) ∧ Below W.heap.size W w' := by
  have HR : Hid (∀ W', Below W.heap.size W W' → Calls Tryz.prog 32 #[p] W' fun e w' => e = .returned (.int .i64 1) ∧ Below W'.heap.size W' w') := Lib.hid (fun W' hb' => h W' (hb.trans (hb'.mono hB)))
  clear h hb
  go_enter Tryz.func7, Tryz.ntmps7
  go_wp2_with (first
    | (go_at_call 32; (with_reducible refine (HR.out _ (belA (belA (belA (belA (Below.refl W.heap.size W) _) _) _) _)).mono ?_); rintro e w1 ⟨rfl, hb1⟩; have HB1 : Hid (Below W.heap.size W w1) := Lib.hid (belT (belA (belA (belA (belA (Below.refl W.heap.size W) _) _) _) _) hb1); clear hb1)
    | fail)
  first | go_ret | go_ret2 | go_ret3 | ((try simp only [Exit.inBlock, Exit.then]); refine bodyPost_ret (results_tmp4 rfl _ _ _) rfl ?_)
  exact ⟨rfl, HB1.out⟩
theorem del_e1 {B : Nat} {w W : World} {p : Value} (h : RdyAs B w p 1) (hb : Below B w W) (hB : B ≤ W.heap.size) (n k : Int) :
    Calls Tryz.prog 10 #[p, .int .u32 n, .int .u64 k] W fun e w' => e = .returned (.tuple #[.int .u32 0, .int .u64 0, .bool false, .int .i64 1]) ∧ Below W.heap.size W w' := by
  have HG : Hid (∀ W', Below W.heap.size W W' → Calls Tryz.prog 9 #[p, .int .u32 n, .int .u64 k] W' fun e w' => e = .returned (.tuple #[.int .u64 0, .bool false, .int .i64 1]) ∧ Below W'.heap.size W' w') := Lib.hid (fun W' hb' => get_e1 h (hb.trans (hb'.mono hB)) (Nat.le_trans hB hb'.size) n k)
  clear h hb
  go_enter Tryz.func10, Tryz.ntmps10
  go_wp2_with (first
    | (go_at_call 9; (with_reducible refine (HG.out _ (belA (belA (Below.refl W.heap.size W) _) _)).mono ?_); rintro e w1 ⟨rfl, hb1⟩; have HB1 : Hid (Below W.heap.size W w1) := Lib.hid (belT (belA (belA (Below.refl W.heap.size W) _) _) hb1); clear hb1)
    | fail)
  first | go_ret | go_ret2 | go_ret3 | ((try simp only [Exit.inBlock, Exit.then]); refine bodyPost_ret (results_tmp4 rfl _ _ _) rfl ?_)
  exact ⟨rfl, HB1.out⟩
theorem del_e0 {B : Nat} {w W : World} {p : Value} (h : RdyAs B w p 0) (hb : Below B w W) (hB : B ≤ W.heap.size) (k : Int) :
    Calls Tryz.prog 10 #[p, .int .u32 0, .int .u64 k] W fun e w' => e = .returned (.tuple #[.int .u32 0, .int .u64 0, .bool false, .int .i64 0]) ∧ Below W.heap.size W w' := by
  have HG : Hid (∀ W', Below W.heap.size W W' → Calls Tryz.prog 9 #[p, .int .u32 0, .int .u64 k] W' fun e w' => e = .returned (.tuple #[.int .u64 0, .bool false, .int .i64 0]) ∧ Below W'.heap.size W' w') := Lib.hid (fun W' hb' => get_e0 h (hb.trans (hb'.mono hB)) (Nat.le_trans hB hb'.size) k)
  have hc0 : ((W.alloc (.cells #[.int .u32 0] 22)).alloc (.cells #[.int .u64 k] 23)).heap[W.heap.size]? = some (.cells #[.int .u32 0] 22 (0, 0)) := first_at W _ _
  have HC0 := Lib.hid hc0
  clear h hb hc0
  go_enter Tryz.func10, Tryz.ntmps10
  go_wp2_with (first
    | (go_at_call 9; (with_reducible refine (HG.out _ (belA (belA (Below.refl W.heap.size W) _) _)).mono ?_); rintro e w1 ⟨rfl, hb1⟩; have HB1 : Hid (Below W.heap.size W w1) := Lib.hid (belT (belA (belA (Below.refl W.heap.size W) _) _) hb1); have hcw : w1.cell? ⟨W.heap.size, 0, none⟩ = some (.int .u32 0) := (by rw [Joins.cell_of_block ((hb1.block W.heap.size (by simp <;> omega)).trans HC0.out)]; rfl); clear hb1)
    | fail)
  first | go_ret | go_ret2 | go_ret3 | ((try simp only [Exit.inBlock, Exit.then]); refine bodyPost_ret (results_tmp4 rfl _ _ _) rfl ?_)
  exact ⟨rfl, HB1.out⟩
theorem all_e1 {B : Nat} {w W : World} {p : Value} (h : RdyAs B w p 1) (hb : Below B w W) (hB : B ≤ W.heap.size) (n f : Int) :
    Calls Tryz.prog 11 #[p, .int .u32 n, .int .u64 f] W fun e w' => e = .returned (.tuple #[.slice none 0 0, .int .i64 1]) ∧ Below W.heap.size W w' := by
  have HO : Hid (∀ W' v, Below W.heap.size W W' → Calls Tryz.prog 36 #[p, .int .u32 n, .int .u64 f, v] W' fun e w' => e = .returned (.int .i64 1) ∧ Below W'.heap.size W' w') := Lib.hid (fun W' v hb' => over_e1 h (hb.trans (hb'.mono hB)) (Nat.le_trans hB hb'.size) n f v)
  clear h hb
  go_enter Tryz.func11, Tryz.ntmps11
  go_wp2_with (first
    | (go_at_call 36; (with_reducible refine (HO.out _ _ (belA (belA (Below.refl W.heap.size W) _) _)).mono ?_); rintro e w1 ⟨rfl, hb1⟩; have HB1 : Hid (Below W.heap.size W w1) := Lib.hid (belT (belA (belA (Below.refl W.heap.size W) _) _) hb1); clear hb1)
    | fail)
  first | go_ret | go_ret2 | go_ret3 | ((try simp only [Exit.inBlock, Exit.then]); refine bodyPost_ret (results_tmp4 rfl _ _ _) rfl ?_)
  exact ⟨rfl, HB1.out⟩
theorem all_e0 {B : Nat} {w W : World} {p : Value} (h : RdyAs B w p 0) (hb : Below B w W) (hB : B ≤ W.heap.size) (f : Int) :
    Calls Tryz.prog 11 #[p, .int .u32 0, .int .u64 f] W fun e w' => e = .returned (.tuple #[.slice none 0 0, .int .i64 0]) ∧ Below W.heap.size W w' := by
  have HO : Hid (∀ W' v, Below W.heap.size W W' → Calls Tryz.prog 36 #[p, .int .u32 0, .int .u64 f, v] W' fun e w' => e = .returned (.int .i64 0) ∧ Below W'.heap.size W' w') := Lib.hid (fun W' v hb' => over_e0 h (hb.trans (hb'.mono hB)) (Nat.le_trans hB hb'.size)  f v)
  have hc0 : ((W.alloc (.cells #[.int .u64 f] 23)).alloc (.cells #[.slice none 0 0] 34)).heap[W.heap.size + 1]? = some (.cells #[.slice none 0 0] 34 (0, 0)) := by
    have e := heap_alloc_new (W.alloc (.cells #[.int .u64 f] 23)) (.cells #[.slice none 0 0] 34)
    rw [World.size_alloc] at e
    exact e
  have HC0 := Lib.hid hc0
  clear h hb hc0
  go_enter Tryz.func11, Tryz.ntmps11
  go_wp2_with (first
    | (go_at_call 36; (with_reducible refine (HO.out _ _ (belA (belA (Below.refl W.heap.size W) _) _)).mono ?_); rintro e w1 ⟨rfl, hb1⟩; have HB1 : Hid (Below W.heap.size W w1) := Lib.hid (belT (belA (belA (Below.refl W.heap.size W) _) _) hb1); have hcw : w1.cell? ⟨W.heap.size + 1, 0, none⟩ = some (.slice none 0 0) := (by rw [Joins.cell_of_block ((hb1.block (W.heap.size + 1) (by simp)).trans HC0.out)]; rfl); clear hb1)
    | fail)
  first | go_ret | go_ret2 | go_ret3 | ((try simp only [Exit.inBlock, Exit.then]); refine bodyPost_ret (results_tmp4 rfl _ _ _) rfl ?_)
  exact ⟨rfl, HB1.out⟩
theorem nodes_e1 {B : Nat} {w W : World} {p : Value} (h : RdyAs B w p 1) (hb : Below B w W) (hB : B ≤ W.heap.size) (n : Int) :
    Calls Tryz.prog 12 #[p, .int .u32 n] W fun e w' => e = .returned (.tuple #[.slice none 0 0, .int .i64 1]) ∧ Below W.heap.size W w' := by
  have HO : Hid (∀ W' v, Below W.heap.size W W' → Calls Tryz.prog 36 #[p, .int .u32 n, .int .u64 0, v] W' fun e w' => e = .returned (.int .i64 1) ∧ Below W'.heap.size W' w') := Lib.hid (fun W' v hb' => over_e1 h (hb.trans (hb'.mono hB)) (Nat.le_trans hB hb'.size) n 0 v)
  clear h hb
  go_enter Tryz.func12, Tryz.ntmps12
  go_wp2_with (first
    | (go_at_call 36; (with_reducible refine (HO.out _ _ (belA (Below.refl W.heap.size W) _)).mono ?_); rintro e w1 ⟨rfl, hb1⟩; have HB1 : Hid (Below W.heap.size W w1) := Lib.hid (belT (belA (Below.refl W.heap.size W) _) hb1); clear hb1)
    | fail)
  first | go_ret | go_ret2 | go_ret3 | ((try simp only [Exit.inBlock, Exit.then]); refine bodyPost_ret (results_tmp4 rfl _ _ _) rfl ?_)
  exact ⟨rfl, HB1.out⟩
theorem check_e1 {B : Nat} {w W : World} {p : Value} (h : RdyAs B w p 1) (hb : Below B w W) (hB : B ≤ W.heap.size) (n k : Int) :
    Calls Tryz.prog 8 #[p, .int .u32 n, .int .i64 k] W fun e w' => e = .returned (.int .i64 1) ∧ Below W.heap.size W w' := by
  have HO : Hid (∀ W' v, Below W.heap.size W W' → Calls Tryz.prog 36 #[p, .int .u32 n, .int .u64 0, v] W' fun e w' => e = .returned (.int .i64 1) ∧ Below W'.heap.size W' w') := Lib.hid (fun W' v hb' => over_e1 h (hb.trans (hb'.mono hB)) (Nat.le_trans hB hb'.size) n 0 v)
  clear h hb
  go_enter Tryz.func8, Tryz.ntmps8
  go_wp2_with (first
    | (go_at_call 36; (with_reducible refine (HO.out _ _ (belA (belA (belA (Below.refl W.heap.size W) _) _) _)).mono ?_); rintro e w1 ⟨rfl, hb1⟩; have HB1 : Hid (Below W.heap.size W w1) := Lib.hid (belT (belA (belA (belA (Below.refl W.heap.size W) _) _) _) hb1); clear hb1)
    | fail)
  first | go_ret | go_ret2 | go_ret3 | ((try simp only [Exit.inBlock, Exit.then]); refine bodyPost_ret (results_tmp4 rfl _ _ _) rfl ?_)
  exact ⟨rfl, HB1.out⟩
theorem check_e0 {B : Nat} {w W : World} {p : Value} (h : RdyAs B w p 0) (hb : Below B w W) (hB : B ≤ W.heap.size) (k : Int) :
    Calls Tryz.prog 8 #[p, .int .u32 0, .int .i64 k] W fun e w' => e = .returned (.int .i64 0) ∧ Below W.heap.size W w' := by
  have HO : Hid (∀ W' v, Below W.heap.size W W' → Calls Tryz.prog 36 #[p, .int .u32 0, .int .u64 0, v] W' fun e w' => e = .returned (.int .i64 0) ∧ Below W'.heap.size W' w') := Lib.hid (fun W' v hb' => over_e0 h (hb.trans (hb'.mono hB)) (Nat.le_trans hB hb'.size)  0 v)
  clear h hb
  go_enter Tryz.func8, Tryz.ntmps8
  go_wp2_with (first
    | (go_at_call 36; (with_reducible refine (HO.out _ _ (belA (belA (belA (Below.refl W.heap.size W) _) _) _)).mono ?_); rintro e w1 ⟨rfl, hb1⟩; have HB1 : Hid (Below W.heap.size W w1) := Lib.hid (belT (belA (belA (belA (Below.refl W.heap.size W) _) _) _) hb1); clear hb1)
    | fail)
  first | go_ret | go_ret2 | go_ret3 | ((try simp only [Exit.inBlock, Exit.then]); refine bodyPost_ret (results_tmp4 rfl _ _ _) rfl ?_)
  exact ⟨rfl, HB1.out⟩
end Go.Proofs.YtoclhiaidbfheaaGreatDoor.T
end

section
set_option linter.unusedVariables false
namespace Go.Proofs.YtoclhiaidbfheaaGreatDoor.T
open Go.RowKit Q S

def fmT : RD := fmtD (newD 1048) 200 60
def newT : RD := newD 1048
theorem areas_tree : Areas 200 60 := ⟨by omega, by omega, by omega, by omega⟩
/-- a store on a living disk -/
structure LV (w W : World) (bs bd bm g0 p0 g1 p1 bt x0 y0 x1 y1 mp : Nat) : Prop where
  ss : SS W bs bd 200 60 bm g0 p0 g1 p1 bt x0 y0 x1 y1 mp
  ks : KS w W bd fmT
  lo : w.heap.size ≤ bs ∧ w.heap.size ≤ mp ∧ bs ≠ mp
  fm : ∀ j, C.foot bm g0 g1 j → w.heap.size ≤ j ∧ j ≠ bs ∧ j ≠ mp
  ft : ∀ j, C.foot bt x0 x1 j → w.heap.size ≤ j ∧ j ≠ bs ∧ j ≠ mp ∧ ¬ C.foot bm g0 g1 j
theorem broken_live {W : World} {F : Nat → Prop} {bs bd m dd mp : Nat} {pm pt : Value} {la : Bool} {d : RD} (h : ST W bs bd m dd pm pt mp la) (hd : PD W F bd d) (hl : d.dead = false) :
    Calls Tryz.prog 104 #[.pointer (some ⟨bs, 0, none⟩)] W fun e w' => e = .returned (.bool false) ∧ w' = W := by
  have HN := Lib.hid (none_no h.c0)
  have hdd := pd_dead hd
  rw [hl] at hdd
  have HD := Lib.hid hdd
  have h0 := h.c0
  have h23 : W.cell? ⟨bs, 23, none⟩ = some (.bool false) := h.c 23
  clear h hd hl hdd
  go_enter Tryz.func104, Tryz.ntmps104
  go_wp2_with (first
    | (go_at_call 103; (with_reducible refine HN.out.mono ?_); rintro e w1 ⟨rfl, hw⟩; subst w1)
    | (go_at_call 82; (with_reducible refine HD.out.mono ?_); rintro e w1 ⟨rfl, hw⟩; subst w1)
    | fail)
  go_ret
  exact ⟨rfl, rfl⟩
theorem ready_live {W : World} {F : Nat → Prop} {bs bd m dd mp : Nat} {pm pt : Value} {la : Bool} {d : RD} (h : ST W bs bd m dd pm pt mp la) (hd : PD W F bd d) (hl : d.dead = false) :
    Calls Tryz.prog 46 #[.pointer (some ⟨bs, 0, none⟩)] W fun e w' => e = .returned (.int .i64 0) ∧ w' = W := by
  have HN := Lib.hid (none_no h.c0)
  have HB := Lib.hid (broken_live h hd hl)
  clear h hd hl
  go_enter Tryz.func46, Tryz.ntmps46
  go_wp2_with (first
    | (go_at_call 103; (with_reducible refine HN.out.mono ?_); rintro e w1 ⟨rfl, hw⟩; subst w1)
    | (go_at_call 104; (with_reducible refine HB.out.mono ?_); rintro e w1 ⟨rfl, hw⟩; subst w1)
    | fail)
  go_ret
  exact ⟨rfl, rfl⟩
theorem hold0_live {W : World} {F : Nat → Prop} {bs bd m dd mp : Nat} {pm pt : Value} {la : Bool} {d : RD} (h : ST W bs bd m dd pm pt mp la) (hd : PD W F bd d) (hl : d.dead = false) :
    Calls Tryz.prog 66 #[.pointer (some ⟨bs, 0, none⟩), .int .u32 0] W fun e w' => e = .returned (.int .i64 0) ∧ w' = W := by
  have HR := Lib.hid (ready_live h hd hl)
  clear h hd hl
  go_enter Tryz.func66, Tryz.ntmps66
  go_wp2_with (first
    | (go_at_call 46; (with_reducible refine HR.out.mono ?_); rintro e w1 ⟨rfl, hw⟩; subst w1)
    | fail)
  go_ret
  exact ⟨rfl, rfl⟩
theorem fmT_live : fmT.dead = false := (own_fmt 1048 200 60 areas_tree (by decide)).live.dead
theorem made_tree {w W : World} (hT : Tabs w) (hW : Wids w) (hb : Below w.heap.size w W) :
    Calls Tryz.prog 6 #[] W fun e w' => ∃ bs bd bm g0 p0 g1 p1 bt x0 y0 x1 y1 mp, e = .returned (.pointer (some ⟨bs, 0, none⟩)) ∧ Hid (LV w w' bs bd bm g0 p0 g1 p1 bt x0 y0 x1 y1 mp) := by
  have HN : Hid (Calls Tryz.prog 29 #[.int .i64 1048] W fun e w' => ∃ b, e = .returned (.tuple #[.pointer (some ⟨b, 0, none⟩), .int .i64 0]) ∧ Hid (KS w w' b newT)) := Lib.hid (KS.new 1048 w W hb (by omega))
  have HF : Hid (∀ (b : Nat) (W : World), KS w W b newT → Calls Tryz.prog 30 #[.pointer (some ⟨b, 0, none⟩), .int .i64 200, .int .i64 60] W fun e w' => e = .returned (.int .i64 0) ∧ Hid (KS w w' b fmT)) := Lib.hid (fun b W h => format_own (n := 1048) (m := 200) (dd := 60) hT hW h areas_tree (by decide))
  have HO : Hid (∀ (b : Nat) (W : World), KS w W b fmT → Calls Tryz.prog 31 #[.pointer (some ⟨b, 0, none⟩)] W (OpenAs W b 200 60)) := Lib.hid (fun b W h => open_own (n := 1048) (m := 200) (dd := 60) hT hW h areas_tree (by decide))
  clear hT hW hb
  go_enter Tryz.func6, Tryz.ntmps6
  go_wp2_with (first
    | (go_at_call 29; (with_reducible refine HN.out.mono ?_); rintro e w1 ⟨b, rfl, hk1⟩; have HK1 := Lib.hid hk1.out; clear hk1)
    | (go_at_call 30; (with_reducible refine (HF.out _ _ HK1.out).mono ?_); rintro e w2 ⟨rfl, hk2⟩; have HK2 := Lib.hid hk2.out; clear hk2)
    | (go_at_call 31; (with_reducible refine (HO.out _ _ HK2.out).mono ?_); rintro e w3 ⟨bs, bm, g0, p0, g1, p1, bt, x0, y0, x1, y1, mp, rfl, hs3⟩)
    | fail)
  go_ret
  obtain ⟨q1, q2, q3, q4, q5⟩ := hs3.out
  have hz := HK2.out.b.size
  exact ⟨bs, b, bm, g0, p0, g1, p1, bt, x0, y0, x1, y1, mp, rfl, q1, HK2.out.below q5, ⟨Nat.le_trans hz q2.1, Nat.le_trans hz q2.2.1, q2.2.2⟩, fun j hj => ⟨Nat.le_trans hz (q3 j hj).1, (q3 j hj).2⟩, fun j hj => ⟨Nat.le_trans hz (q4 j hj).1, (q4 j hj).2⟩⟩
end Go.Proofs.YtoclhiaidbfheaaGreatDoor.T
end

section
set_option linter.unusedVariables false
namespace Go.Proofs.YtoclhiaidbfheaaGreatDoor.T
open Go.RowKit Q S Go.ChangeMaps Go.MapKept

abbrev keyU (n : Nat) : Lit := .int .u32 (n : Int)
theorem lawU : Maps.Keyed Tryz.prog 22 := Maps.int_keyed Tryz.underlying22
theorem key_ofU (n : Nat) (h : n < 4294967296) : keyOf Tryz.prog 22 (.int .u32 (n : Int)) = some (keyU n) := Maps.keyOf_int_mk Tryz.underlying22 (WalkArith.wf_u32 (by omega))
/-- block mp is a map of nodes by their numbers -/
def FM (w : World) (mp k : Nat) (D : DataW Value) : Prop := w.ownsMap Tryz.prog 22 rawE mp k D
def dm0 : DataW Value := .map []
def dm1 (r : Nat) (v : Value) : DataW Value := dm0.put (keyU r) (.held v)
abbrev zN : Value := .agg #[.int .i64 0, .int .u64 0, .slice none 0 0, .slice none 0 0]
theorem FM.start {w : World} {mp : Nat} (h : w.heap[mp]? = some (.map #[] 0)) : FM w mp 0 dm0 := ⟨#[], 0, h, ⟨by simp, stamped_empty 0, by simp⟩, Nat.le_refl _, rfl⟩
theorem FM.on {w w' : World} {mp k : Nat} {D : DataW Value} (h : FM w mp k D) (hb : w'.heap[mp]? = w.heap[mp]?) : FM w' mp k D := by
  obtain ⟨es, c, h1, h2, h3, h4⟩ := h
  exact ⟨es, c, hb.trans h1, h2, h3, h4⟩
theorem FM.lt {w : World} {mp k : Nat} {D : DataW Value} (h : FM w mp k D) : mp < w.heap.size := World.ownsMap.lt h
theorem FM.below {w w' : World} {mp k : Nat} {D : DataW Value} (h : FM w mp k D) (hb : Below w.heap.size w w') : FM w' mp k D := h.on (hb.block mp h.lt)
theorem isMap0 : Maps.IsMap dm0 := ⟨_, rfl⟩
theorem keyU_lit (n : Nat) (h : n < 4294967296) : WideAt.IsKeyLit (keyU n) := lawU.key (key_ofU n h)
theorem FM.look0 {w : World} {mp k : Nat} (h : FM w mp k dm0) (n : Nat) (hn : n < 4294967296) : (Instr.lookup 167 (.map (some mp)) (.int .u32 (n : Int)) true).run Tryz.prog w = .ok (.tuple #[zN, .bool false]) w := by
  obtain ⟨v, ps, hrun, hv⟩ := World.ownsMap.look_ok (t := 167) (e := 45) (zd := .held zN) (zp := []) h lawU Tryz.underlying167 (node_zero w) rfl (key_ofU n hn)
  have hv' : some (DataW.held v, ([] : List MemPlace)) = some (DataW.held zN, ps) := hv
  obtain rfl : v = zN := by simpa using congrArg (fun o => o.map (·.1)) hv'
  exact hrun
theorem FM.look1 {w : World} {mp k r : Nat} {u : Value} (h : FM w mp k (dm1 r u)) (hn : r < 4294967296) : (Instr.lookup 167 (.map (some mp)) (.int .u32 (r : Int)) true).run Tryz.prog w = .ok (.tuple #[u, .bool true]) w := by
  obtain ⟨v, ps, hrun, hv⟩ := World.ownsMap.look_ok (t := 167) (e := 45) (zd := .held zN) (zp := []) h lawU Tryz.underlying167 (node_zero w) rfl (key_ofU r hn)
  have ha : (dm1 r u).atKey (keyU r) (.held zN) = .held u := Maps.atKey_put_same isMap0 (keyU_lit r hn) _ _
  have hh : Maps.has (dm1 r u) (keyU r) = true := Maps.has_put_same isMap0 (keyU_lit r hn) _
  rw [ha] at hv
  rw [hh] at hrun
  have hv' : some (DataW.held v, ([] : List MemPlace)) = some (DataW.held u, ps) := hv
  obtain rfl : v = u := by simpa using congrArg (fun o => o.map (·.1)) hv'
  exact hrun
theorem FM.update {w : World} {mp k : Nat} {D : DataW Value} (h : FM w mp k D) (hk : k < 1000) (r : Nat) (hr : r < 4294967296) (v : Value) :
    ∃ w', (Instr.mapUpdate 167 (.map (some mp)) (.int .u32 (r : Int)) v).run Tryz.prog w = .ok () w' ∧ FM w' mp (k + 1) (D.put (keyU r) (.held v)) ∧ w.grownBy w' (some mp) :=
  World.ownsMap.update (t := 167) (e := 45) (ps := []) h lawU Tryz.underlying167 (by unfold maxLen; omega) (key_ofU r hr) rfl
end Go.Proofs.YtoclhiaidbfheaaGreatDoor.T
end

section
set_option linter.unusedVariables false
namespace Go.Proofs.YtoclhiaidbfheaaGreatDoor
open Go.RowKit

/-- the place of the first key that is not below, among the first so many gone over -/
def belowTo (l : List Nat) (key : Nat) (i : Nat) : Bool := (List.range i).all fun j => decide (l.getD j 0 < key)
theorem belowTo_succ (l : List Nat) (key i : Nat) : belowTo l key (i + 1) = (belowTo l key i && decide (l.getD i 0 < key)) := by
  simp [belowTo, List.range_succ, List.all_append]
/-- what Find answers -/
def FindAs (l : List Nat) (key : Nat) (e : Ending) : Prop := ∃ i, i ≤ l.length ∧ belowTo l key i = true ∧ (i < l.length → ¬ l.getD i 0 < key) ∧ e = .returned (.tuple #[.int .i64 (i : Int), .bool (decide (i < l.length ∧ l.getD i 0 = key))])

set_option maxHeartbeats 1000000 in
theorem find_any (w : World) (kind : Int) (birth : Nat) (keys vals : List Nat) (A A' : Option Addr) (ck cv : Nat) (hs : Shows w w.heap.size A keys.length (nums64 keys)) (hl : keys.length ≤ 1000000) (key : Nat) :
    Calls Tryz.prog 44 #[.agg #[.int .i64 kind, .int .u64 (birth : Int), .slice A keys.length ck, .slice A' vals.length cv], .int .u64 (key : Int)] w fun e w' => FindAs keys key e ∧ Below w.heap.size w w' := by
  have hb0 : Below w.heap.size w (w.alloc (.cells #[.int .i64 kind, .int .u64 (birth : Int), .slice A keys.length ck, .slice A' vals.length cv] 45)) := (Below.refl _ _).alloc (Nat.le_refl _) _
  have HB := Lib.hid hb0
  have hs2 := hs.below hb0
  clear hb0 hs
  go_enter Tryz.func44, Tryz.ntmps44
  go_wp2
  generalize hw1 : w.alloc (.cells #[.int .i64 kind, .int .u64 (birth : Int), .slice A keys.length ck, .slice A' vals.length cv] 45) = w1 at *
  have hcl : w1.cell? ⟨w.heap.size, 2, none⟩ = some (.slice A keys.length ck) := by subst hw1; go_simp
  clear hw1
  go_loop [11] (fun j => ∃ i : Nat, i ≤ keys.length ∧ j = .int .i64 (i : Int) ∧ belowTo keys key i = true) (fun j => keys.length - (intOf j).toNat)
  case atStart => exact ⟨0, Nat.zero_le _, rfl, rfl⟩
  case round =>
    obtain ⟨i, hi, rfl, HT⟩ := hrel
    have HTH := Lib.hid HT
    have hsu := Lib.hid (belowTo_succ keys key i)
    clear HT
    by_cases hlt : i < keys.length
    · obtain ⟨p, rfl, hp, hc0⟩ := hs2.num i hlt
      have hltI : (i : Int) < (keys.length : Int) := by omega
      clear hs2
      generalize hx : keys.getD i 0 = x at *
      have HX := Lib.hid hx
      clear hx
      by_cases hb : x < key
      · have hd : decide ((key : Int) ≤ (x : Int)) = false := by simp; omega
        have HN : Hid (belowTo keys key (i + 1) = true) := (show belowTo keys key (i + 1) = true by rw [hsu.out, HTH.out]; simpa using hb)
        have hbI : ¬ (key : Int) ≤ (x : Int) := by omega
        clear hb
        go_wp2
        go_round
        case rel => exact ⟨i + 1, hlt, by go_num, HN.out⟩
        case measure => simp [intOf]; omega
      · have hd : decide ((key : Int) ≤ (x : Int)) = true := by simp; omega
        have hbI : (key : Int) ≤ (x : Int) := by omega
        have HE : Hid (((x : Int) == (key : Int)) = decide (i < keys.length ∧ keys.getD i 0 = key)) := (show ((x : Int) == (key : Int)) = decide (i < keys.length ∧ keys.getD i 0 = key) by
          rw [HX.out, Bool.eq_iff_iff]
          simp only [beq_iff_eq, decide_eq_true_eq]
          constructor
          · intro h; exact ⟨hlt, by omega⟩
          · intro h; omega)
        have HNB : Hid (¬ x < key) := hb
        clear hb
        go_wp2
        go_ret2
        exact ⟨⟨i, hi, HTH.out, fun _ => by rw [HX.out]; exact HNB.out, by rw [← HE.out]; rfl⟩, HB.out⟩
    · obtain rfl : i = keys.length := by omega
      have hltI : ¬ (keys.length : Int) < (keys.length : Int) := by omega
      clear hs2
      go_wp2
      go_ret2
      exact ⟨⟨keys.length, hi, HTH.out, fun h => by omega, by simp⟩, HB.out⟩
end Go.Proofs.YtoclhiaidbfheaaGreatDoor
end

section
set_option linter.unusedVariables false
namespace Go.Proofs.YtoclhiaidbfheaaGreatDoor
open Go.RowKit

/-- what Copy answers: two rows of its own -/
def CopyAs (w : World) (kind birth : Int) (keys vals : List Nat) (e : Ending) (w' : World) : Prop :=
  ∃ K V, e = .returned (.agg #[.int .i64 kind, .int .u64 birth, K, V]) ∧ w'.ownsRow w.heap.size 23 1 K keys.length (nums64 keys) ∧ w'.ownsRow w.heap.size 23 1 V vals.length (nums64 vals) ∧ (∀ g, K.ownBlock = some g → V.ownBlock ≠ some g) ∧ Below w.heap.size w w'

theorem nums64_one (l : List Nat) : ∀ u ∈ nums64 l, u.oneCell' = true := by
  intro u hu
  simp only [nums64, List.mem_map] at hu
  obtain ⟨b, _, rfl⟩ := hu
  rfl

set_option maxRecDepth 10000 in
set_option maxHeartbeats 1000000 in
theorem copy_any (w : World) (kind : Int) (birth : Nat) (keys vals : List Nat) (A A' : Option Addr) (ck cv : Nat) (hs : Shows w w.heap.size A keys.length (nums64 keys)) (hv : Shows w w.heap.size A' vals.length (nums64 vals)) (hl : keys.length ≤ 1000000) (hl2 : vals.length ≤ 1000000) :
    Calls Tryz.prog 107 #[.agg #[.int .i64 kind, .int .u64 (birth : Int), .slice A keys.length ck, .slice A' vals.length cv]] w (CopyAs w kind birth keys vals) := by
  obtain ⟨i0, hi0, hz0, hz1, hz2⟩ := info_parts u64_info
  have hb0 : Below w.heap.size w ((w.alloc (.cells #[.int .i64 kind, .int .u64 (birth : Int), .slice A keys.length ck, .slice A' vals.length cv] 45)).alloc (.cells #[.int .i64 0, .int .u64 0, .slice none 0 0, .slice none 0 0] 45)) := ((Below.refl _ _).alloc (Nat.le_refl _) _).alloc (by simp) _
  have HB := Lib.hid hb0
  have HS := Lib.hid (hs.below hb0)
  have HV := Lib.hid (hv.below hb0)
  clear hb0 hs hv
  have HN : Hid (((w.alloc (.cells #[.int .i64 kind, .int .u64 (birth : Int), .slice A keys.length ck, .slice A' vals.length cv] 45)).alloc (.cells #[.int .i64 0, .int .u64 0, .slice none 0 0, .slice none 0 0] 45)).heap[w.heap.size]? = some (.cells #[.int .i64 kind, .int .u64 (birth : Int), .slice A keys.length ck, .slice A' vals.length cv] 45 (0, 0))) := heap_alloc' (heap_alloc_new w _)
  have hr := heap_alloc_new (w.alloc (.cells #[.int .i64 kind, .int .u64 (birth : Int), .slice A keys.length ck, .slice A' vals.length cv] 45)) (.cells #[.int .i64 0, .int .u64 0, .slice none 0 0, .slice none 0 0] 45)
  simp only [World.size_alloc] at hr
  have HR := Lib.hid hr
  clear hr
  go_enter Tryz.func107, Tryz.ntmps107
  go_wp2_with (first
    | (at_builtin; refine wpList_append_shows _ rfl (.const (.slice none 0 0)) (.tmp 4) 43 rfl (w.heap.size + 2) 23 i0 (.int .u64 0) 8 Tryz.underlying43 hi0 hz0 hz1 hz2 rfl (.slice none 0 0) 0 [] rfl ⟨rfl, .inl ⟨rfl, rfl⟩⟩ w.heap.size A keys.length ck (nums64 keys) rfl HS.out (nums64_one _) (by unfold maxLen; omega) (by omega) (by simp) ?_; intro v1 w1 hown1 hg1; simp only [Nat.zero_add, List.nil_append] at hown1; obtain ⟨A1, c1, rfl, _⟩ := own_form4 hown1; have hn1 := (hg1.by_.block w.heap.size (by simp; omega) (by simp [Value.ownBlock])).trans HN.out; have c2 : w1.cell? ⟨w.heap.size, 2, none⟩ = some (.slice A keys.length ck) := (by rw [cell_of_row w1 _ 2 _ _ _ hn1]; rfl); have f2 : w1.frozen? ⟨w.heap.size, 2, none⟩ = false := (by simp [World.frozen?, hn1]); have hn2 : Hid ((w1.setCell ⟨w.heap.size, 2, none⟩ (.slice A1 keys.length c1)).heap[w.heap.size]? = some (.cells #[.int .i64 kind, .int .u64 (birth : Int), .slice A1 keys.length c1, .slice A' vals.length cv] 45 (0, 0))) := Joins.block_setCell hn1 _; have c3 : w1.cell? ⟨w.heap.size, 3, none⟩ = some (.slice A' vals.length cv) := (by rw [cell_of_row w1 _ 3 _ _ _ hn1]; rfl); have HN1 := Lib.hid hn1; have hr1 := Lib.hid ((hg1.by_.block (w.heap.size + 1) (by simp) (by simp [Value.ownBlock])).trans HR.out); have HO1 := Lib.hid hown1; have hb1 := (Below.refl _ _).grown hg1.by_ (Nat.le_refl _) (by simp [Value.ownBlock]); have hsz1 := hb1.size; have HBB1 := Lib.hid ((HB.out.trans (hb1.mono HB.out.size)).setCell (p := ⟨w.heap.size, 2, none⟩) (Nat.le_refl _) (.slice A1 keys.length c1)); have HVV := Lib.hid ((HV.out.below (hb1.mono (by simp; omega))).below ((Below.refl w.heap.size w1).setCell (p := ⟨w.heap.size, 2, none⟩) (Nat.le_refl _) (.slice A1 keys.length c1))); have hO1s := HO1.out.kept (grown_set w1 ⟨w.heap.size, 2, none⟩ (.slice A1 keys.length c1)) (.inr fun e => (by have := (HO1.out.lt _ e).1; simp at this; omega)); have HO1s := Lib.hid hO1s; simp only [World.size_alloc] at hsz1; clear hn1 hown1 hg1 hb1 hO1s)
    | (at_builtin; refine wpList_append_shows _ rfl (.const (.slice none 0 0)) (.tmp 8) 43 rfl (w.heap.size + 2) 23 i0 (.int .u64 0) 8 Tryz.underlying43 hi0 hz0 hz1 hz2 rfl (.slice none 0 0) 0 [] rfl ⟨rfl, .inl ⟨rfl, rfl⟩⟩ w.heap.size A' vals.length cv (nums64 vals) rfl HVV.out (nums64_one _) (by unfold maxLen; omega) (by omega) (by simp; omega) ?_; intro v2 w2 hown2 hg2; simp only [Nat.zero_add, List.nil_append] at hown2; obtain ⟨A2, c2', rfl, _⟩ := own_form4 hown2; have hm1 := (hg2.by_.block w.heap.size (by simp; omega) (by simp [Value.ownBlock])).trans hn2.out; have d3 : w2.cell? ⟨w.heap.size, 3, none⟩ = some (.slice A' vals.length cv) := (by rw [cell_of_row w2 _ 3 _ _ _ hm1]; rfl); have g3 : w2.frozen? ⟨w.heap.size, 3, none⟩ = false := (by simp [World.frozen?, hm1]); have hm2 : Hid ((w2.setCell ⟨w.heap.size, 3, none⟩ (.slice A2 vals.length c2')).heap[w.heap.size]? = some (.cells #[.int .i64 kind, .int .u64 (birth : Int), .slice A1 keys.length c1, .slice A2 vals.length c2'] 45 (0, 0))) := Joins.block_setCell hm1 _; have hr2 := Lib.hid ((hg2.by_.block (w.heap.size + 1) (by simp; omega) (by simp [Value.ownBlock])).trans ((Below.heap_setCell w1 ⟨w.heap.size, 2, none⟩ _ (w.heap.size + 1) (by simp)).trans hr1.out)); have hr3 := Lib.hid ((Below.heap_setCell w2 ⟨w.heap.size, 3, none⟩ (.slice A2 vals.length c2') (w.heap.size + 1) (by simp)).trans hr2.out); have HO2 := Lib.hid hown2; have HG2 := Lib.hid hg2; clear hm1 hown2 hg2)
    | refine wpList_load_row rfl 45 (.tmp 1) rfl w.heap.size rfl 45 #[.int .i64 kind, .int .u64 (birth : Int), .slice A1 keys.length c1, .slice A2 vals.length c2'] (0, 0) _ hm2.out Tryz.underlying45 rfl (by rw [node_size]; rfl) ?_
    | refine wpList_store_row rfl 45 (.tmp 2) (.tmp 11) rfl (w.heap.size + 1) #[.int .i64 kind, .int .u64 (birth : Int), .slice A1 keys.length c1, .slice A2 vals.length c2'] rfl rfl 45 #[.int .i64 0, .int .u64 0, .slice none 0 0, .slice none 0 0] hr3.out (by rw [node_size]; rfl) rfl (by simp [Value.oneCell']) ?_
    | fail)
  refine bodyPost_ret (results_cell_row rfl _ _ (w.heap.size + 1) 45 #[.int .i64 kind, .int .u64 (birth : Int), .slice A1 keys.length c1, .slice A2 vals.length c2'] (0, 0) _ rfl (setRow_heap _ _ _ _ _ _ hr3.out) Tryz.underlying45 rfl (by rw [node_size]; rfl)) rfl ?_
  have k1 := HO1s.out.kept HG2.out.by_ (by
    cases hv : Value.ownBlock (.slice A1 keys.length c1) with
    | none => exact .inl rfl
    | some q => exact .inr (by simp [Value.ownBlock]))
  have ap : ∀ g, Value.ownBlock (.slice A1 keys.length c1) = some g → Value.ownBlock (.slice A2 vals.length c2') ≠ some g := fun g e1 e2 => by
    rcases HG2.out.at_ with e | ⟨q, e, hq⟩
    · rw [e2] at e; simp [Value.ownBlock] at e
    · rw [e2] at e
      have := (HO1s.out.lt g e1).2
      have := Option.some.inj e
      omega
  have k2 := (k1.kept (grown_set w2 ⟨w.heap.size, 3, none⟩ (.slice A2 vals.length c2')) (.inr fun e => by have := (k1.lt _ e).1; simp at this; omega))
  have k3 := k2.kept (grown_row _ (w.heap.size + 1) #[.int .i64 kind, .int .u64 (birth : Int), .slice A1 keys.length c1, .slice A2 vals.length c2']) (.inr fun e => by have := (k2.lt _ e).1; omega)
  have m2 := (HO2.out.kept (grown_set w2 ⟨w.heap.size, 3, none⟩ (.slice A2 vals.length c2')) (.inr fun e => by have := (HO2.out.lt _ e).1; simp at this; omega))
  have m3 := m2.kept (grown_row _ (w.heap.size + 1) #[.int .i64 kind, .int .u64 (birth : Int), .slice A1 keys.length c1, .slice A2 vals.length c2']) (.inr fun e => by have := (m2.lt _ e).1; omega)
  have hb2 := HBB1.out.grown HG2.out.by_ HBB1.out.size (by simp [Value.ownBlock])
  exact ⟨_, _, rfl, own_low k3 (by omega), own_low m3 (by omega), ap, below_setRow (hb2.setCell (p := ⟨w.heap.size, 3, none⟩) (Nat.le_refl _) _) (by simp) _⟩
end Go.Proofs.YtoclhiaidbfheaaGreatDoor
end

section
set_option linter.unusedVariables false
namespace Go.Proofs.YtoclhiaidbfheaaGreatDoor.T
open Go.RowKit Q S

/-- where a store's parts lie -/
structure LK where
  bs : Nat
  bd : Nat
  bm : Nat
  g0 : Nat
  p0 : Nat
  g1 : Nat
  p1 : Nat
  bt : Nat
  x0 : Nat
  y0 : Nat
  x1 : Nat
  y1 : Nat
  mp : Nat
/-- the blocks that a change of nodes writes -/
def LK.touch (k : LK) (j : Nat) : Prop := C.foot k.bm k.g0 k.g1 j ∨ j = k.mp
def LK.p (k : LK) : Value := .pointer (some ⟨k.bs, 0, none⟩)
/-- the store of the law: counts c of its metadata area, fresh nodes D -/
structure LS (w W : World) (k : LK) (c : C.CS) (q : Nat) (D : DataW Value) : Prop where
  st : ST W k.bs k.bd 200 60 (.pointer (some ⟨k.bm, 0, none⟩)) (.pointer (some ⟨k.bt, 0, none⟩)) k.mp false
  am : C.AX W k.bm k.g0 k.p0 k.g1 k.p1 c
  at_ : C.AX W k.bt k.x0 k.y0 k.x1 k.y1 ⟨List.replicate 60 0, List.replicate 60 0, 0, 0⟩
  mp : FM W k.mp q D
  pd : ∃ F, PD W F k.bd fmT ∧ ∀ j, F j → w.heap.size ≤ j ∧ j ≠ k.mp
  bel : Below w.heap.size w W
  lo : w.heap.size ≤ k.bs ∧ w.heap.size ≤ k.mp ∧ k.bs ≠ k.mp
  fm : ∀ j, C.foot k.bm k.g0 k.g1 j → w.heap.size ≤ j ∧ j ≠ k.bs ∧ j ≠ k.mp
  ft : ∀ j, C.foot k.bt k.x0 k.x1 j → w.heap.size ≤ j ∧ j ≠ k.bs ∧ j ≠ k.mp ∧ ¬ C.foot k.bm k.g0 k.g1 j
section
variable {w W W' : World} {k : LK} {c : C.CS} {q : Nat} {D : DataW Value}
theorem LS.below (h : LS w W k c q D) (hb : Below W.heap.size W W') : LS w W' k c q D :=
  ⟨h.st.below hb, AX.belowM h.am hb, AX.belowM h.at_ hb, h.mp.below hb, h.pd.elim fun F hf => ⟨F, hf.1.below hb, hf.2⟩, h.bel.trans (hb.mono h.bel.size), h.lo, h.fm, h.ft⟩
theorem LS.drew (h : LS w W k c q D) : LS w W.drew k c q D := h.below ((Below.refl _ W).drew)
theorem LS.tlt (h : LS w W k c q D) {j : Nat} (hj : k.touch j) : j < W.heap.size := hj.elim (fun e => AX.lt h.am e) (fun e => by rw [e]; exact h.mp.lt)
theorem LS.tlo (h : LS w W k c q D) {j : Nat} (hj : k.touch j) : w.heap.size ≤ j := hj.elim (fun e => (h.fm j e).1) (fun e => by rw [e]; exact h.lo.2.1)
/-- cells of the metadata area are none of the disk's -/
theorem foot_cells {b g0 p0 g1 p1 : Nat} {c : C.CS} (h : C.AX W b g0 p0 g1 p1 c) {j : Nat} (hj : C.foot b g0 g1 j) : ¬ PKind W j := by
  rcases hj with rfl | rfl | rfl
  · exact PKind.not h.blk (by decide) (by decide)
  · obtain ⟨cur, hg, _⟩ := C.row_blk h.now
    exact PKind.not hg (by decide) (by decide)
  · obtain ⟨cur, hg, _⟩ := C.row_blk h.was
    exact PKind.not hg (by decide) (by decide)
/-- what a change of the counts leaves -/
theorem LS.counts {c' : C.CS} (h : LS w W k c q D) (ha : C.AX W' k.bm k.g0 k.p0 k.g1 k.p1 c') (hs : C.Stays W W' (C.foot k.bm k.g0 k.g1)) : LS w W' k c' q D ∧ Q.Stays W W' k.touch := by
  have hq : Q.Stays W W' (C.foot k.bm k.g0 k.g1) := ⟨hs.os, hs.tape, hs.output, hs.size, hs.block⟩
  refine ⟨⟨⟨(hq.block k.bs h.st.lt (fun e => (h.fm _ e).2.1 rfl)).trans h.st.blk⟩, ha, AX.keep h.at_ hq (fun j hj e => (h.ft j hj).2.2.2 e), h.mp.on (hq.block k.mp h.mp.lt (fun e => (h.fm _ e).2.2 rfl)), ?_, h.bel.trans (hq.below h.bel.size (fun j hj => (h.fm j hj).1)), h.lo, h.fm, h.ft⟩, ⟨hs.os, hs.tape, hs.output, hs.size, fun j hj hn => hs.block j hj (fun e => hn (.inl e))⟩⟩
  obtain ⟨F, h1, h2⟩ := h.pd
  exact ⟨F, h1.on (fun j hj => hq.block j (h1.lt hj) (fun e => foot_cells h.am e (h1.kind hj))), h2⟩
/-- what a change of the fresh nodes leaves -/
theorem LS.nodes {q' : Nat} {D' : DataW Value} (h : LS w W k c q D) (hm : FM W' k.mp q' D') (hg : W.grownBy W' (some k.mp)) : LS w W' k c q' D' ∧ Q.Stays W W' k.touch := by
  have hq : Q.Stays W W' (fun j => j = k.mp) := ⟨hg.os, hg.tape, hg.output, hg.size, fun j hj hn => hg.block j hj (fun e => hn (by injection e))⟩
  refine ⟨⟨⟨(hq.block k.bs h.st.lt h.lo.2.2).trans h.st.blk⟩, AX.keep h.am hq (fun j hj => (h.fm j hj).2.2), AX.keep h.at_ hq (fun j hj => (h.ft j hj).2.2.1), hm, ?_, h.bel.trans (hq.below h.bel.size (fun j hj => by rw [show j = k.mp from hj]; exact h.lo.2.1)), h.lo, h.fm, h.ft⟩, ⟨hg.os, hg.tape, hg.output, hg.size, fun j hj hn => hq.block j hj (fun e => hn (.inr e))⟩⟩
  obtain ⟨F, h1, h2⟩ := h.pd
  exact ⟨F, h1.on (fun j hj => hq.block j (h1.lt hj) (h2 j hj).2), h2⟩
theorem LS.ready (h : LS w W k c q D) : Calls Tryz.prog 46 #[k.p] W fun e w' => e = .returned (.int .i64 0) ∧ w' = W := by
  obtain ⟨F, h1, _⟩ := h.pd
  exact ready_live h.st h1 fmT_live
theorem LS.hold0 (h : LS w W k c q D) : Calls Tryz.prog 66 #[k.p, .int .u32 0] W fun e w' => e = .returned (.int .i64 0) ∧ w' = W := by
  obtain ⟨F, h1, _⟩ := h.pd
  exact hold0_live h.st h1 fmT_live
end
end Go.Proofs.YtoclhiaidbfheaaGreatDoor.T
end

section
set_option linter.unusedVariables false
namespace Go.Proofs.YtoclhiaidbfheaaGreatDoor.T
open Go.RowKit Q S

def cT : C.CS := ⟨cnt 200 3, cnt 200 3, 0, 0⟩
theorem pgs_tree : pgs 200 60 = 3 := by decide
theorem made_ls {w W : World} (hT : Tabs w) (hW : Wids w) (hb : Below w.heap.size w W) :
    Calls Tryz.prog 6 #[] W fun e w' => ∃ k : LK, e = .returned k.p ∧ Hid (LS w w' k cT 0 dm0) := by
  have HN : Hid (Calls Tryz.prog 29 #[.int .i64 1048] W fun e w' => ∃ b, e = .returned (.tuple #[.pointer (some ⟨b, 0, none⟩), .int .i64 0]) ∧ Hid (KS w w' b newT)) := Lib.hid (KS.new 1048 w W hb (by omega))
  have HF : Hid (∀ (b : Nat) (W : World), KS w W b newT → Calls Tryz.prog 30 #[.pointer (some ⟨b, 0, none⟩), .int .i64 200, .int .i64 60] W fun e w' => e = .returned (.int .i64 0) ∧ Hid (KS w w' b fmT)) := Lib.hid (fun b W h => format_own (n := 1048) (m := 200) (dd := 60) hT hW h areas_tree (by decide))
  have HO : Hid (∀ (b : Nat) (W : World), KS w W b fmT → Calls Tryz.prog 31 #[.pointer (some ⟨b, 0, none⟩)] W (OpenAs W b 200 60)) := Lib.hid (fun b W h => open_own (n := 1048) (m := 200) (dd := 60) hT hW h areas_tree (by decide))
  clear hT hW hb
  go_enter Tryz.func6, Tryz.ntmps6
  go_wp2_with (first
    | (go_at_call 29; (with_reducible refine HN.out.mono ?_); rintro e w1 ⟨b, rfl, hk1⟩; have HK1 := Lib.hid hk1.out; clear hk1)
    | (go_at_call 30; (with_reducible refine (HF.out _ _ HK1.out).mono ?_); rintro e w2 ⟨rfl, hk2⟩; have HK2 := Lib.hid hk2.out; clear hk2)
    | (go_at_call 31; (with_reducible refine (HO.out _ _ HK2.out).mono ?_); rintro e w3 ⟨bs, bm, g0, p0, g1, p1, bt, x0, y0, x1, y1, mp, rfl, hs3⟩)
    | fail)
  go_ret
  obtain ⟨q1, q2, q3, q4, q5⟩ := hs3.out
  obtain ⟨F, f1, f2, f3⟩ := HK2.out
  have hz := f3.size
  have ham := q1.am
  rw [pgs_tree] at ham
  refine ⟨⟨bs, b, bm, g0, p0, g1, p1, bt, x0, y0, x1, y1, mp⟩, rfl, q1.st, ham, q1.at_, FM.start q1.map, ⟨F, f1.below q5, fun j hj => ⟨f2 j hj, ?_⟩⟩, f3.trans (q5.mono hz), ⟨Nat.le_trans hz q2.1, Nat.le_trans hz q2.2.1, q2.2.2⟩, fun j hj => ⟨Nat.le_trans hz (q3 j hj).1, (q3 j hj).2⟩, fun j hj => ⟨Nat.le_trans hz (q4 j hj).1, (q4 j hj).2⟩⟩
  have h1 := f1.lt hj
  have h2 := q2.2.1
  intro e
  have h3 : j = mp := e
  omega
section
variable {w W W' : World} {k : LK} {c : C.CS} {q : Nat} {D : DataW Value}
/-- an empty tree on that store -/
theorem LS.rdy (h : LS w W k c q D) : RdyAs W.heap.size W k.p 0 := by
  intro W' hb
  have HP := Lib.hid ((h.below hb).hold0)
  clear h
  go_enter Tryz.func32, Tryz.ntmps32
  go_wp2_with (first
    | (go_at_call 66; (with_reducible refine HP.out.mono ?_); rintro e w1 ⟨rfl, hw⟩; subst w1)
    | fail)
  go_ret
  exact ⟨rfl, Below.refl _ _⟩
theorem LS.count (h : LS w W k c q D) (n : Nat) (hn : n < 2147483647) : Calls Tryz.prog 181 #[k.p, .int .u32 (n : Int)] W fun e w' => e = .returned (.int .u16 (C.lookN c.now (n : Int) : Int)) ∧ Below W.heap.size W w' := count_at h.st.c0 h.st.c20 h.am n hn
theorem LS.room (h : LS w W k c q D) : Calls Tryz.prog 85 #[k.p] W fun e w' => e = .returned (.tuple #[.int .i64 (C.roomN c c.now.length : Int), .int .i64 60]) ∧ w' = W.drew := by
  have hr : C.roomN ⟨List.replicate 60 0, List.replicate 60 0, 0, 0⟩ (List.replicate 60 0).length = 60 := by decide
  have := room_at h.st.c0 h.st.c20 h.st.c21 h.am h.at_
  rw [hr] at this
  exact this
set_option maxRecDepth 100000 in
theorem LS.super (h : LS w W k c q D) : Calls Tryz.prog 68 #[k.p] W fun e w' => e = .returned (.agg (uC 200 60).toArray) ∧ Below W.heap.size W w' := by
  have HNB := Lib.hid (none_no (h.below ((Below.refl _ W).alloc (Nat.le_refl _) (.cells zeroSC 144))).st.c0)
  have hr : W.rangeAt k.bs 1 (uC 200 60) := fun j u hu => by
    have hj : j < 19 := by
      have := (List.getElem?_eq_some_iff.1 hu).1
      rwa [uC_len] at this
    rw [h.st.c (1 + j)]
    have e : (stA k.bd (uC 200 60) (.pointer (some ⟨k.bm, 0, none⟩)) (.pointer (some ⟨k.bt, 0, none⟩)) k.mp false)[1 + j]? = (uC 200 60 ++ [.pointer (some ⟨k.bm, 0, none⟩), .pointer (some ⟨k.bt, 0, none⟩), .map (some k.mp), .bool false, .bool false])[j]? := by
      unfold stA
      rw [List.getElem?_toArray, Nat.add_comm, List.getElem?_cons_succ]
    rw [e, List.getElem?_append_left (by rw [uC_len]; exact hj)]
    exact hu
  have hb0 : Below W.heap.size W (W.alloc (.cells zeroSC 144)) := (Below.refl _ W).alloc (Nat.le_refl _) _
  have hbs := h.st.lt
  have hr2 : (W.alloc (.cells zeroSC 144)).rangeAt k.bs 1 (uC 200 60) := fun j u hu => (hb0.cell (p := ⟨k.bs, 1 + j, none⟩) hbs).trans (hr j u hu)
  have HR := Lib.hid hr2
  have hi : (Tryz.prog.info? 144).map (·.size) = some (uC 200 60).length := by rw [uC_len]; kernel_rfl
  have hone : (uC 200 60).toArray.all (·.oneCell') = true := by have := cellsS_all (firstU 200 60); rw [show (firstU 200 60).cells = (uC 200 60).toArray by simp [uC]] at this; exact this
  have hsto := run_storeVar_row (P := Tryz.prog) (W.alloc (.cells zeroSC 144)) W.heap.size 144 144 zeroSC (uC 200 60).toArray (heap_alloc_new W _) (by rw [hi]; simp) (by rfl) hone
  have hrow := setRow_at (ds := (uC 200 60).toArray) (heap_alloc_new W (.cells zeroSC 144))
  have hs19 : (uC 200 60).toArray.size = 19 := rfl
  have hzs := sup_zero
  have hbf := below_setRow hb0 (Nat.le_refl _) (uC 200 60).toArray
  obtain ⟨cl, hcl⟩ : ∃ cl, uC 200 60 = cl := ⟨_, rfl⟩
  rw [hcl] at HR hi hsto hrow hs19 hbf ⊢
  have HSTO := Lib.hid hsto
  have HROW := Lib.hid hrow
  have HBF := Lib.hid hbf
  clear h hr hr2 hcl hone hsto hrow hbf hb0
  unfold LK.p
  go_enter Tryz.func68, Tryz.ntmps68
  go_wp2_with (first
    | (go_at_call 103; (with_reducible refine HNB.out.mono ?_); rintro e w1 ⟨rfl, hw⟩; subst w1)
    | (refine wpList_load_mid rfl 144 (.tmp 8) rfl k.bs 1 rfl cl _ HR.out Tryz.underlying144 rfl hi ?_)
    | (refine wpList_store_run rfl 144 (.tmp 2) (.tmp 9) rfl W.heap.size 0 (.agg cl.toArray) _ rfl rfl HSTO.out ?_)
    | fail)
  exact bodyPost_ret (results_c rfl _ _ _ _ rfl (load_sup HROW.out hs19)) rfl ⟨rfl, HBF.out⟩
end
end Go.Proofs.YtoclhiaidbfheaaGreatDoor.T
end

section
set_option linter.unusedVariables false
namespace Go.Proofs.YtoclhiaidbfheaaGreatDoor.T
open Go.RowKit Q S

/-- a node whose lists lie in rows of their own -/
structure NO (W : World) (K V : Value) (ks vs : List Nat) : Prop where
  kr : W.ownsRow 0 23 1 K ks.length (nums64 ks)
  vr : W.ownsRow 0 23 1 V vs.length (nums64 vs)
theorem row_on {W W' : World} {K : Value} {ks : List Nat} {G : Nat → Prop} (h : W.ownsRow 0 23 1 K ks.length (nums64 ks)) (hs : Q.Stays W W' G) (hn : ∀ j cs, W.heap[j]? = some (.cells cs 23 (0, 0)) → ¬ G j) : W'.ownsRow 0 23 1 K ks.length (nums64 ks) :=
  rowS_on h (fun j hj => by
    obtain ⟨cs, hc⟩ := row_kind h hj
    exact hs.block j (Array.getElem?_eq_some_iff.1 hc).1 (hn j cs hc))
theorem NO.on {W W' : World} {K V : Value} {ks vs : List Nat} {G : Nat → Prop} (h : NO W K V ks vs) (hs : Q.Stays W W' G) (hn : ∀ j cs, W.heap[j]? = some (.cells cs 23 (0, 0)) → ¬ G j) : NO W' K V ks vs := ⟨row_on h.kr hs hn, row_on h.vr hs hn⟩
theorem NO.below {W W' : World} {K V : Value} {ks vs : List Nat} (h : NO W K V ks vs) (hb : Below W.heap.size W W') : NO W' K V ks vs := h.on (Q.Stays.of_below hb (fun _ => False)) (fun _ _ _ e => e)
/-- a node of the call's own rows, which lie from B on, apart -/
structure NB (W : World) (B : Nat) (K V : Value) (ks vs : List Nat) : Prop where
  kr : W.ownsRow B 23 1 K ks.length (nums64 ks)
  vr : W.ownsRow B 23 1 V vs.length (nums64 vs)
  sep : ∀ g, K.ownBlock = some g → V.ownBlock ≠ some g
theorem own_lo {W : World} {B n : Nat} {e : TypeId} {v : Value} {xs : List Value} (h : W.ownsRow B e 1 v n xs) {g : Nat} (hg : v.ownBlock = some g) : B ≤ g := by
  rcases h.2 with ⟨rfl, _⟩ | ⟨g', cap, cur, rfl, h2, _⟩
  · cases hg
  · injection hg with hg
    rw [← hg]
    exact h2
theorem own_mono {W : World} {B B' n : Nat} {e : TypeId} {v : Value} {xs : List Value} (h : W.ownsRow B e 1 v n xs) (hB : B' ≤ B) : W.ownsRow B' e 1 v n xs := by
  refine ⟨h.1, ?_⟩
  rcases h.2 with h | ⟨g, cap, cur, h1, h2, h3⟩
  · exact .inl h
  · exact .inr ⟨g, cap, cur, h1, Nat.le_trans hB h2, h3⟩
theorem own_off {W W' : World} {B n : Nat} {e : TypeId} {v : Value} {xs : List Value} {G : Nat → Prop} (h : W.ownsRow B e 1 v n xs) (hs : Q.Stays W W' G) (hn : ∀ g, v.ownBlock = some g → ¬ G g) : W'.ownsRow B e 1 v n xs :=
  rowS_on h (fun j hj => by
    obtain ⟨cs, hc⟩ := row_kind (C.own_base0 h) hj
    exact hs.block j (Array.getElem?_eq_some_iff.1 hc).1 (hn j hj))
theorem NB.no {W : World} {B : Nat} {K V : Value} {ks vs : List Nat} (h : NB W B K V ks vs) : NO W K V ks vs := ⟨C.own_base0 h.kr, C.own_base0 h.vr⟩
theorem NB.mono {W : World} {B B' : Nat} {K V : Value} {ks vs : List Nat} (h : NB W B K V ks vs) (hB : B' ≤ B) : NB W B' K V ks vs := ⟨own_mono h.kr hB, own_mono h.vr hB, h.sep⟩
theorem NB.off {W W' : World} {B : Nat} {K V : Value} {ks vs : List Nat} {G : Nat → Prop} (h : NB W B K V ks vs) (hs : Q.Stays W W' G) (hk : ∀ g, K.ownBlock = some g → ¬ G g) (hv : ∀ g, V.ownBlock = some g → ¬ G g) : NB W' B K V ks vs := ⟨own_off h.kr hs hk, own_off h.vr hs hv, h.sep⟩
theorem NO.off {W W' : World} {K V : Value} {ks vs : List Nat} {G : Nat → Prop} (h : NO W K V ks vs) (hs : Q.Stays W W' G) (hk : ∀ g, K.ownBlock = some g → ¬ G g) (hv : ∀ g, V.ownBlock = some g → ¬ G g) : NO W' K V ks vs := ⟨own_off h.kr hs hk, own_off h.vr hs hv⟩
theorem NB.on {W W' : World} {B : Nat} {K V : Value} {ks vs : List Nat} {G : Nat → Prop} (h : NB W B K V ks vs) (hs : Q.Stays W W' G) (hn : ∀ j cs, W.heap[j]? = some (.cells cs 23 (0, 0)) → ¬ G j) : NB W' B K V ks vs :=
  h.off hs (fun g hg => by obtain ⟨cs, hc⟩ := row_kind h.no.kr hg; exact hn g cs hc) (fun g hg => by obtain ⟨cs, hc⟩ := row_kind h.no.vr hg; exact hn g cs hc)
theorem NB.below {W W' : World} {B : Nat} {K V : Value} {ks vs : List Nat} (h : NB W B K V ks vs) (hb : Below W.heap.size W W') : NB W' B K V ks vs := h.on (Q.Stays.of_below hb (fun _ => False)) (fun _ _ _ e => e)
theorem cells_ne {W : World} {j : Nat} {cs ds : Array Value} {t : TypeId} (h : W.heap[j]? = some (.cells cs 23 (0, 0))) (h2 : W.heap[j]? = some (.cells ds t (0, 0))) : t = 23 := by
  rw [h] at h2
  injection h2 with h2
  injection h2 with _ h2
  exact h2.symm
theorem LS.nums {w W : World} {k : LK} {c : C.CS} {q : Nat} {D : DataW Value} (h : LS w W k c q D) : ∀ j cs, W.heap[j]? = some (.cells cs 23 (0, 0)) → ¬ k.touch j := by
  rintro j cs hc (e | rfl)
  · rcases e with rfl | rfl | rfl
    · exact absurd (cells_ne hc h.am.blk) (by decide)
    · obtain ⟨cur, hg, _⟩ := C.row_blk h.am.now
      exact absurd (cells_ne hc hg) (by decide)
    · obtain ⟨cur, hg, _⟩ := C.row_blk h.am.was
      exact absurd (cells_ne hc hg) (by decide)
  · obtain ⟨es, cl, hm, _⟩ := h.mp
    rw [hc] at hm
    injection hm with hm
    cases hm
theorem stays_touch {W W' : World} {k : LK} (h : Below W.heap.size W W') : Q.Stays W W' k.touch := Q.Stays.of_below h _
/-- all blocks of a store, but its disk's -/
def LK.mine (k : LK) (j : Nat) : Prop := k.touch j ∨ C.foot k.bt k.x0 k.x1 j ∨ j = k.bs
theorem LS.mlt {w W : World} {k : LK} {c : C.CS} {q : Nat} {D : DataW Value} (h : LS w W k c q D) {j : Nat} (hj : k.mine j) : j < W.heap.size := by
  rcases hj with e | e | rfl
  · exact h.tlt e
  · exact AX.lt h.at_ e
  · exact h.st.lt
/-- a box beside the store is written -/
theorem LS.keep {w W W' : World} {k : LK} {c : C.CS} {q : Nat} {D : DataW Value} {G : Nat → Prop} (h : LS w W k c q D) (hs : Q.Stays W W' G) (hm : ∀ j, k.mine j → ¬ G j) (hp : ∀ j, PKind W j → ¬ G j) (hG : ∀ j, G j → w.heap.size ≤ j) : LS w W' k c q D := by
  refine ⟨⟨(hs.block k.bs h.st.lt (hm _ (.inr (.inr rfl)))).trans h.st.blk⟩, AX.keep h.am hs (fun j hj => hm j (.inl (.inl hj))), AX.keep h.at_ hs (fun j hj => hm j (.inr (.inl hj))), h.mp.on (hs.block k.mp h.mp.lt (hm _ (.inl (.inr rfl)))), ?_, h.bel.trans (hs.below h.bel.size hG), h.lo, h.fm, h.ft⟩
  obtain ⟨F, h1, h2⟩ := h.pd
  exact ⟨F, h1.on (fun j hj => hs.block j (h1.lt hj) (hp j (h1.kind hj))), h2⟩
theorem nodeC (kd : Int) (bi : Int) (K V : Value) : (Tryz.prog.info? 45).map (·.size) = some ([.int .i64 kd, .int .u64 bi, K, V] : List Value).length := by kernel_rfl
/-- what a change of a store leaves -/
def Kept (w W W' : World) (k : LK) (c : C.CS) (q : Nat) (D : DataW Value) : Prop := LS w W' k c q D ∧ Q.Stays W W' k.touch
set_option maxRecDepth 100000 in
set_option maxHeartbeats 4000000 in
theorem LS.add {w W : World} {k : LK} {c : C.CS} {q j : Nat} {D : DataW Value} (h : LS w W k c q D) (hq : q < 900) (hk : C.allocK c = some j) (hj : C.turn c j < 4294967296) (kd bi : Nat) (KK VV : Value) (ks vs : List Nat) (hx : NO W KK VV ks vs) (hl : ks.length ≤ 1000) (hl2 : vs.length ≤ 1000) :
    Calls Tryz.prog 48 #[k.p, .agg #[.int .i64 (kd : Int), .int .u64 (bi : Int), KK, VV]] W fun e w' => e = .returned (.tuple #[.int .u32 ((C.turn c j : Nat) : Int), .int .i64 0]) ∧ Hid (∃ K2 V2, NO w' K2 V2 ks vs ∧ Kept w W w' k (C.allocS c j) (q + 1) (D.put (keyU (C.turn c j)) (.held (.agg #[.int .i64 (kd : Int), .int .u64 2, K2, V2])))) := by
  have hb0 : Below W.heap.size W (W.alloc (.cells #[.int .i64 (kd : Int), .int .u64 (bi : Int), KK, VV] 45)) := (Below.refl _ W).alloc (Nat.le_refl _) _
  have hbx := heap_alloc_new W (.cells #[.int .i64 (kd : Int), .int .u64 (bi : Int), KK, VV] 45)
  have HX := Lib.hid (hx.below hb0)
  have HL1 := Lib.hid (h.below hb0)
  have HT := Lib.hid (fun i (hi : k.touch i) => h.tlt hi)
  have HMI := Lib.hid (fun i (hi : k.mine i) => h.mlt hi)
  have HWL := Lib.hid h.bel.size
  have HB0 := Lib.hid hb0
  have HBX := Lib.hid hbx
  have HW := Lib.hid (h.st.lt)
  obtain ⟨W1, hW1⟩ : ∃ W1, W.alloc (.cells #[.int .i64 (kd : Int), .int .u64 (bi : Int), KK, VV] 45) = W1 := ⟨_, rfl⟩
  rw [hW1] at HX HL1 HB0 HBX
  have HAL := Lib.hid (C.alloc_any W1 k.bm k.g0 k.p0 k.g1 k.p1 c HL1.out.am j hk)
  have h20 := HL1.out.st.c20
  obtain ⟨n, hn⟩ : ∃ n, C.turn c j = n := ⟨_, rfl⟩
  rw [hn] at HAL hj ⊢
  have hn0 : (0 : Int) ≤ (n : Int) := by omega
  have hnI : (n : Int) < 4294967296 := by omega
  have hwn : IntKind.u32.wrap (n : Int) = (n : Int) := by rw [IntKind.wrap_u32]; omega
  clear h hx hb0 hbx hk hn
  unfold LK.p
  go_enter Tryz.func48, Tryz.ntmps48
  go_upto_region 1 with fail
  clear hW1
  go_upto_region 4 with (first
    | (go_at_call 106; (with_reducible refine HAL.out.mono ?_); rintro e w2 ⟨rfl, hax, hst⟩)
    | fail)
  obtain ⟨l2, t2⟩ := HL1.out.counts hax hst
  have HL2 := Lib.hid l2
  have HT2 := Lib.hid t2
  have hb2 := (t2.block W.heap.size (by have := (Array.getElem?_eq_some_iff.1 HBX.out).1; exact this) (fun e => by have := HT.out _ e; omega)).trans HBX.out
  have HB2 := Lib.hid hb2
  have HX2 := Lib.hid (HX.out.on t2 HL1.out.nums)
  have hc1 : w2.cell? ⟨k.bs, 1, none⟩ = some (.int .u64 1) := HL2.out.st.c 1
  have hcb : w2.cell? ⟨W.heap.size, 1, none⟩ = some (.int .u64 (bi : Int)) := (Joins.cell_of_block hb2 1).trans rfl
  have hfb := frozen_of_row w2 W.heap.size 1 _ _ hb2
  clear l2 t2 hax hst hb2 h20
  go_upto_region 5 with fail
  have HB3 : Hid ((w2.setCell ⟨W.heap.size, 1, none⟩ (.int .u64 2)).heap[W.heap.size]? = some (.cells #[.int .i64 (kd : Int), .int .u64 2, KK, VV] 45 (0, 0))) := Lib.hid (Joins.block_setCell HB2.out (i := 1) (.int .u64 2))
  have hs3 : Q.Stays w2 (w2.setCell ⟨W.heap.size, 1, none⟩ (.int .u64 2)) (fun j => j = W.heap.size) := (Q.Stays.refl w2 (fun j => j = W.heap.size)).set ⟨W.heap.size, 1, none⟩ (.inl rfl) _
  have HL3 := Lib.hid (HL2.out.keep hs3 (fun i hi e => by have := HMI.out i hi; omega) (fun i hi e => by rw [e] at hi; exact PKind.not HB2.out (by decide) (by decide) hi) (fun i e => by rw [e]; exact HWL.out))
  have HX3 := Lib.hid (HX2.out.on hs3 (fun i cs hc e => by rw [e] at hc; exact absurd (cells_ne hc HB2.out) (by decide)))
  have HS3 := Lib.hid hs3
  obtain ⟨w3, hw3⟩ : ∃ w3, w2.setCell ⟨W.heap.size, 1, none⟩ (.int .u64 2) = w3 := ⟨_, rfl⟩
  rw [hw3] at HB3 HL3 HX3 HS3 ⊢
  clear hw3 hs3 hc1 hcb hfb HX2
  obtain ⟨AK, ck, hK, _⟩ := _root_.Go.Proofs.YtoclhiaidbfheaaGreatDoor.K.own_form4 HX3.out.kr
  obtain ⟨AV, cv, hV, _⟩ := _root_.Go.Proofs.YtoclhiaidbfheaaGreatDoor.K.own_form4 HX3.out.vr
  have hko := HX3.out.kr
  have hvo := HX3.out.vr
  rw [hK] at hko
  rw [hV] at hvo
  have hcp := copy_any w3.drew (kd : Int) 2 ks vs AK AV ck cv (Shows.owned (w := w3.drew) hko) (Shows.owned (w := w3.drew) hvo) (by omega) (by omega)
  rw [← hK, ← hV] at hcp
  have HCP : Hid (Calls Tryz.prog 107 #[.agg #[.int .i64 (kd : Int), .int .u64 2, KK, VV]] w3.drew (CopyAs w3.drew (kd : Int) 2 ks vs)) := Lib.hid hcp
  have h22 : w3.drew.cell? ⟨k.bs, 22, none⟩ = some (.map (some k.mp)) := HL3.out.st.c 22
  clear hcp hK hV hko hvo
  refine wp_region_noPanic ?_
  refine wp_region_held_drew (S := fun w' => w'.cell? ⟨k.bs, 22, none⟩ = some (.map (some k.mp)) ∧ w'.rangeAt W.heap.size 0 [.int .i64 (kd : Int), .int .u64 2, KK, VV]) (by kernel_rfl) ⟨h22, by have := range_of HB3.out; exact this⟩ (fun hHeld => ?_)
  refine takeN (i := 0) (oi := _) (v := .pointer (some ⟨k.bs, 0, none⟩)) 26 rfl rfl (by kernel_rfl) (by kernel_rfl) (by kernel_rfl) (fun _ _ _ h => h) (Or.inl ⟨by rfl, fun w2 hSw => by go_simp⟩) hHeld ?_
  try simp only [Act.put, List.setIfInBounds_toArray, List.set_cons_zero, List.set_cons_succ]
  refine takeN (i := 1) (oi := _) (v := .pointer (some ⟨k.bs, 0, none⟩)) 27 rfl rfl (by kernel_rfl) (by kernel_rfl) (by kernel_rfl) (fun _ _ _ h => h) (Or.inl ⟨by rfl, fun w2 hSw => by go_simp⟩) hHeld ?_
  try simp only [Act.put, List.setIfInBounds_toArray, List.set_cons_zero, List.set_cons_succ]
  refine takeN (i := 2) (oi := _) (v := .pointer (some ⟨k.bs, 22, none⟩)) 28 rfl rfl (by kernel_rfl) (by kernel_rfl) (by kernel_rfl) (fun _ _ _ h => h) (Or.inl ⟨by rfl, fun w2 hSw => by go_simp⟩) hHeld ?_
  try simp only [Act.put, List.setIfInBounds_toArray, List.set_cons_zero, List.set_cons_succ]
  refine takeN (i := 3) (oi := _) (v := .map (some k.mp)) 29 rfl rfl (by kernel_rfl) (by kernel_rfl) (by kernel_rfl) (fun _ _ _ h => h) (Or.inl ⟨by rfl, fun w2 hSw => by (have hc := hSw.1; go_simp)⟩) hHeld ?_
  try simp only [Act.put, List.setIfInBounds_toArray, List.set_cons_zero, List.set_cons_succ]
  refine takeN (i := 4) (oi := _) (v := .int .i64 (n : Int)) 30 rfl rfl (by kernel_rfl) (by kernel_rfl) (by kernel_rfl) (fun _ _ _ h => h) (Or.inl ⟨by rfl, fun w2 hSw => by go_simp⟩) hHeld ?_
  try simp only [Act.put, List.setIfInBounds_toArray, List.set_cons_zero, List.set_cons_succ]
  refine takeN (i := 5) (oi := _) (v := .int .u32 (n : Int)) 31 rfl rfl (by kernel_rfl) (by kernel_rfl) (by kernel_rfl) (fun _ _ _ h => h) (Or.inl ⟨by rfl, fun w2 hSw => by go_simp⟩) hHeld ?_
  try simp only [Act.put, List.setIfInBounds_toArray, List.set_cons_zero, List.set_cons_succ]
  have hu := Tryz.underlying45
  refine takeN (i := 6) (oi := _) (v := .agg #[.int .i64 (kd : Int), .int .u64 2, KK, VV]) 32 rfl rfl (by kernel_rfl) (by kernel_rfl) (by kernel_rfl) (fun _ _ _ h => h) (yieldsIf_load_mid (by rfl) 45 (.tmp 3) rfl W.heap.size 0 rfl [.int .i64 (kd : Int), .int .u64 2, KK, VV] _ (fun w2 hSw => hSw.2) hu rfl (nodeC kd 2 KK VV)) hHeld ?_
  try simp only [Act.put, List.setIfInBounds_toArray, List.set_cons_zero, List.set_cons_succ]
  clear hu
  refine wpAnyH_ready (rs := [7]) (by kernel_rfl) (by simp) ?_
  refine AllReadyH.cons rfl (fun K hK => ?_) AllReadyH.nil
  go_simp
  go_wp2_with (first
    | (go_at_call 107; (with_reducible refine HCP.out.mono ?_); rintro e w4 ⟨K2, V2, rfl, hk2, hv2, _, hb4⟩)
    | fail)
  have HL4 := Lib.hid (HL3.out.drew.below hb4)
  have HB4 : Hid (w4.heap[W.heap.size]? = some (.cells #[.int .i64 (kd : Int), .int .u64 2, KK, VV] 45 (0, 0))) := Lib.hid ((hb4.block W.heap.size (Array.getElem?_eq_some_iff.1 HB3.out).1).trans HB3.out)
  have HX4 : Hid (NO w4 K2 V2 ks vs) := Lib.hid ⟨C.own_base0 hk2, C.own_base0 hv2⟩
  have HS4 := Lib.hid (stays_touch (k := k) hb4)
  clear hk2 hv2 hb4
  refine hK.out _ _ ⟨HL4.out.st.c 22, range_of HB4.out⟩ (fun hHeld => ?_)
  clear hK HCP
  try simp only [Act.put, List.setIfInBounds_toArray, List.set_cons_zero, List.set_cons_succ]
  obtain ⟨w5, hup, hfm5, hg5⟩ := HL4.out.mp.update (by omega) n hj (.agg #[.int .i64 (kd : Int), .int .u64 2, K2, V2])
  obtain ⟨l5, t5⟩ := HL4.out.nodes hfm5 hg5
  refine wpAnyH_ready (rs := [8]) (by kernel_rfl) (by simp) ?_
  refine AllReadyH.cons rfl (fun K hK => ?_) AllReadyH.nil
  rw [if_pos (by rfl)]
  refine wp_mapUpdate_run (.tmp 29) (.tmp 31) (.tmp 33) 167 rfl _ _ _ _ rfl rfl rfl hup ?_
  have hb5 : w5.heap[W.heap.size]? = some (.cells #[.int .i64 (kd : Int), .int .u64 2, KK, VV] 45 (0, 0)) := (t5.block W.heap.size (Array.getElem?_eq_some_iff.1 HB4.out).1 (fun e => by have := HT.out _ e; omega)).trans HB4.out
  refine hK.out _ _ ⟨l5.st.c 22, range_of hb5⟩ (fun hHeld => ?_)
  have HL5 := Lib.hid l5
  have HS5 := Lib.hid t5
  have HX5 := Lib.hid (HX4.out.on t5 HL4.out.nums)
  clear hK hup hfm5 hg5 l5 t5 hb5 hHeld
  try simp only [Act.put, List.setIfInBounds_toArray]
  refine wpAnyH_done (by kernel_rfl) ?_ _
  refine NoPanic.normal ?_
  go_wp2_with fail
  go_ret2
  have z0 : W.heap.size ≤ W1.heap.size := HB0.out.size
  have s1 : Q.Stays W W1 k.touch := stays_touch HB0.out
  have s2 := s1.trans HT2.out (fun _ e => .inl e)
  have s3 := s2.trans HS3.out (fun j hj => .inr (by rw [show j = W.heap.size from hj]; exact Nat.le_refl _))
  have s4 := (s3.trans (stays_touch (k := k) ((Below.refl _ w3).drew)) (fun _ e => .inl e)).trans HS4.out (fun _ e => .inl e)
  exact ⟨rfl, K2, V2, HX5.out, HL5.out, s4.trans HS5.out (fun _ e => .inl e)⟩
end Go.Proofs.YtoclhiaidbfheaaGreatDoor.T
end

section
set_option linter.unusedVariables false
namespace Go.Proofs.YtoclhiaidbfheaaGreatDoor.T
open Go.RowKit Q S

theorem NO.shows {W : World} {KK VV : Value} {ks vs : List Nat} (h : NO W KK VV ks vs) : ∃ A ck A' cv, KK = .slice A ks.length ck ∧ VV = .slice A' vs.length cv ∧ Shows W W.heap.size A ks.length (nums64 ks) ∧ Shows W W.heap.size A' vs.length (nums64 vs) := by
  obtain ⟨AK, ck, hK, _⟩ := _root_.Go.Proofs.YtoclhiaidbfheaaGreatDoor.K.own_form4 h.kr
  obtain ⟨AV, cv, hV, _⟩ := _root_.Go.Proofs.YtoclhiaidbfheaaGreatDoor.K.own_form4 h.vr
  have hko := h.kr
  have hvo := h.vr
  rw [hK] at hko
  rw [hV] at hvo
  exact ⟨AK, ck, AV, cv, hK, hV, Shows.owned hko, Shows.owned hvo⟩
theorem NO.may {W : World} {KK VV : Value} {ks vs : List Nat} (h : NO W KK VV ks vs) (kd bi : Nat) : Calls Tryz.prog 47 #[.agg #[.int .i64 (kd : Int), .int .u64 (bi : Int), KK, VV]] W fun e w' => e = .returned (.bool (mayB ⟨kd, bi, ks, vs⟩)) ∧ Below W.heap.size W w' := by
  obtain ⟨A, ck, A', cv, rfl, rfl, s1, s2⟩ := h.shows
  exact may_any W (kd : Int) bi ks vs A A' ck cv s1
theorem NO.copy {W : World} {KK VV : Value} {ks vs : List Nat} (h : NO W KK VV ks vs) (kd bi : Nat) (hl : ks.length ≤ 1000) (hl2 : vs.length ≤ 1000) : Calls Tryz.prog 107 #[.agg #[.int .i64 (kd : Int), .int .u64 (bi : Int), KK, VV]] W fun e w' => ∃ K2 V2, e = .returned (.agg #[.int .i64 (kd : Int), .int .u64 (bi : Int), K2, V2]) ∧ NO w' K2 V2 ks vs ∧ Below W.heap.size W w' := by
  obtain ⟨A, ck, A', cv, rfl, rfl, s1, s2⟩ := h.shows
  exact (copy_any W (kd : Int) bi ks vs A A' ck cv s1 s2 (by omega) (by omega)).mono fun e w' ⟨K2, V2, he, h1, h2, _, hb⟩ => ⟨K2, V2, he, ⟨C.own_base0 h1, C.own_base0 h2⟩, hb⟩
theorem NO.copyB {W : World} {KK VV : Value} {ks vs : List Nat} (h : NO W KK VV ks vs) (kd bi : Nat) (hl : ks.length ≤ 1000) (hl2 : vs.length ≤ 1000) : Calls Tryz.prog 107 #[.agg #[.int .i64 (kd : Int), .int .u64 (bi : Int), KK, VV]] W fun e w' => ∃ K2 V2, e = .returned (.agg #[.int .i64 (kd : Int), .int .u64 (bi : Int), K2, V2]) ∧ NB w' W.heap.size K2 V2 ks vs ∧ Below W.heap.size W w' := by
  obtain ⟨A, ck, A', cv, rfl, rfl, s1, s2⟩ := h.shows
  exact (copy_any W (kd : Int) bi ks vs A A' ck cv s1 s2 (by omega) (by omega)).mono fun e w' ⟨K2, V2, he, h1, h2, h3, hb⟩ => ⟨K2, V2, he, ⟨h1, h2, h3⟩, hb⟩
theorem NO.find {W : World} {KK VV : Value} {ks vs : List Nat} (h : NO W KK VV ks vs) (kd bi key : Nat) (hl : ks.length ≤ 1000) : Calls Tryz.prog 44 #[.agg #[.int .i64 (kd : Int), .int .u64 (bi : Int), KK, VV], .int .u64 (key : Int)] W fun e w' => FindAs ks key e ∧ Below W.heap.size W w' := by
  obtain ⟨A, ck, A', cv, rfl, rfl, s1, s2⟩ := h.shows
  exact find_any W (kd : Int) bi ks vs A A' ck cv s1 (by omega) key
section
variable {w W : World} {k : LK} {c : C.CS} {q : Nat} {D : DataW Value}
theorem Kept.trans {W W1 W2 : World} {c' : C.CS} {q' : Nat} {D' : DataW Value} (h1 : Q.Stays W W1 k.touch) (h2 : Kept w W1 W2 k c' q' D') : Kept w W W2 k c' q' D' := ⟨h2.1, h1.trans h2.2 (fun _ e => .inl e)⟩
set_option maxRecDepth 100000 in
set_option maxHeartbeats 4000000 in
theorem LS.new (h : LS w W k c q D) (hq : q < 900) {j : Nat} (hk : C.allocK c = some j) (hj : C.turn c j < 4294967296) (kd bi : Nat) (KK VV : Value) (ks vs : List Nat) (hx : NO W KK VV ks vs) (hl : ks.length ≤ 1000) (hl2 : vs.length ≤ 1000) (hm : mayB ⟨kd, bi, ks, vs⟩ = true) :
    Calls Tryz.prog 14 #[k.p, .agg #[.int .i64 (kd : Int), .int .u64 (bi : Int), KK, VV]] W fun e w' => e = .returned (.tuple #[.int .u32 ((C.turn c j : Nat) : Int), .int .i64 0]) ∧ Hid (∃ K2 V2, NO w' K2 V2 ks vs ∧ Kept w W w' k (C.allocS c j) (q + 1) (D.put (keyU (C.turn c j)) (.held (.agg #[.int .i64 (kd : Int), .int .u64 2, K2, V2])))) := by
  have hb0 : Below W.heap.size W (W.alloc (.cells #[.int .i64 (kd : Int), .int .u64 (bi : Int), KK, VV] 45)) := (Below.refl _ W).alloc (Nat.le_refl _) _
  have hbx := heap_alloc_new W (.cells #[.int .i64 (kd : Int), .int .u64 (bi : Int), KK, VV] 45)
  have hl1 := h.below hb0
  have hx1 := hx.below hb0
  have HMY := Lib.hid (hx1.may kd bi)
  rw [hm] at HMY
  have HRD := Lib.hid hl1.ready
  have HADD : Hid (∀ W', Below (W.alloc (.cells #[.int .i64 (kd : Int), .int .u64 (bi : Int), KK, VV] 45)).heap.size (W.alloc (.cells #[.int .i64 (kd : Int), .int .u64 (bi : Int), KK, VV] 45)) W' → Calls Tryz.prog 48 #[k.p, .agg #[.int .i64 (kd : Int), .int .u64 (bi : Int), KK, VV]] W' fun e w' => e = .returned (.tuple #[.int .u32 ((C.turn c j : Nat) : Int), .int .i64 0]) ∧ Hid (∃ K2 V2, NO w' K2 V2 ks vs ∧ Kept w W' w' k (C.allocS c j) (q + 1) (D.put (keyU (C.turn c j)) (.held (.agg #[.int .i64 (kd : Int), .int .u64 2, K2, V2]))))) := Lib.hid (fun W' hb => (hl1.below hb).add hq hk hj kd bi KK VV ks vs (hx1.below hb) hl hl2)
  have HB0 := Lib.hid hb0
  have HBX := Lib.hid hbx
  obtain ⟨W1, hW1⟩ : ∃ W1, W.alloc (.cells #[.int .i64 (kd : Int), .int .u64 (bi : Int), KK, VV] 45) = W1 := ⟨_, rfl⟩
  rw [hW1] at HMY HRD HADD HB0 HBX
  obtain ⟨n, hn⟩ : ∃ n, C.turn c j = n := ⟨_, rfl⟩
  rw [hn] at HADD ⊢
  have hnd := Tryz.underlying45
  clear h hx hb0 hbx hl1 hx1 hk hn hj hm
  unfold LK.p at *
  go_enter Tryz.func14, Tryz.ntmps14
  go_wp2_with (first
    | (refine wpList_load_mid rfl 45 (.tmp 3) rfl W.heap.size 0 rfl [.int .i64 (kd : Int), .int .u64 (bi : Int), KK, VV] _ ?hcl Tryz.underlying45 rfl (nodeC _ _ _ _) ?_; (case hcl => first | exact range_of HB2.out | exact range_of HBX.out))
    | (go_at_call 46; (with_reducible refine HRD.out.mono ?_); rintro e w1 ⟨rfl, hw⟩; subst w1)
    | (go_at_call 47; (with_reducible refine HMY.out.mono ?_); rintro e w2 ⟨rfl, hb2⟩; have HB2 := Lib.hid ((hb2.block W.heap.size (Array.getElem?_eq_some_iff.1 HBX.out).1).trans HBX.out); have HW2 := Lib.hid hb2; clear hb2)
    | (go_at_call 48; (with_reducible refine (HADD.out _ HW2.out).mono ?_); rintro e w3 ⟨rfl, hk3⟩)
    | fail)
  go_ret2
  obtain ⟨K2, V2, h1, h2⟩ := hk3.out
  exact ⟨rfl, K2, V2, h1, Kept.trans ((stays_touch HB0.out).trans (stays_touch (k := k) HW2.out) (fun _ e => .inl e)) h2⟩
end
end Go.Proofs.YtoclhiaidbfheaaGreatDoor.T
end
