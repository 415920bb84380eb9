/- BlockMeans, walked. -/
import Derived.Test.YtdcfplfeagpcdaaDoorBn
import Derived.Test.YtdcfplfeagpcdaaDoorBo
import Derived.Test.YtdcfplfeagpcdaaDoorBf
import Derived.Deep.DeepCutAuto
set_option linter.unusedVariables false
namespace Go.Proofs.YtdcfplfeagpcdaaDoor
open Go.RowKit

/-- the law's own variables: the node, the bytes -/
structure LW (w wr : World) (bn bb : Nat) (nd : Array Value) (l : List UInt8) : Prop where
  node : wr.heap[bn]? = some (.cells nd 27 (0, 0))
  blk : Holds8 wr bb 29 l
  bel : Below w.heap.size w wr
  n1 : w.heap.size ≤ bn ∧ bn < bb
theorem LW.on {w wr w2 : World} {bn bb : Nat} {nd : Array Value} {l : List UInt8} (h : LW w wr bn bb nd l) (hb : Below wr.heap.size wr w2) : LW w w2 bn bb nd l :=
  ⟨(hb.block bn (lt_of_block h.node)).trans h.node, h.blk.below hb, h.bel.trans (hb.mono h.bel.size), h.n1⟩
theorem LW.start (w : World) (nd : Array Value) (l : List UInt8) : LW w ((w.alloc (.cells nd 27)).alloc (.cells (cells8 l).toArray 29)) w.heap.size (w.heap.size + 1) nd l := by
  have h2 := Holds8.new (w.alloc (.cells nd 27)) 29 l _ rfl
  simp only [World.size_alloc] at h2
  exact ⟨heap_alloc' (heap_alloc_new w _), h2, ((Below.refl w.heap.size w).alloc (Nat.le_refl _) _).alloc (by simp) _, Nat.le_refl _, by omega⟩
theorem Holds8.range {w : World} {b : Nat} {t : TypeId} {l : List UInt8} (h : Holds8 w b t l) : w.rangeAt b 0 (cells8 l) := fun j v hv => by
  rw [Nat.zero_add, cell_of_row w b j _ _ _ h]
  simpa using hv
theorem LW.ss {w wr : World} {bn bb : Nat} {a b c d : Value} {l : List UInt8} (h : LW w wr bn bb #[a, b, c, d] l) : wr.cell? ⟨bn, 0, none⟩ = some a ∧ wr.cell? ⟨bn, 1, none⟩ = some b ∧ wr.cell? ⟨bn, 2, none⟩ = some c ∧ wr.cell? ⟨bn, 3, none⟩ = some d := by
  refine ⟨?_, ?_, ?_, ?_⟩ <;> (rw [cell_of_row wr bn _ _ _ _ h.node]; rfl)

def blkX (r : Bool) (no : Nat) (n : ND) : List UInt8 := match r with | true => img no n | false => noughts
def blkE (r : Bool) : Int := match r with | true => 0 | false => 2
theorem blkX_len (r : Bool) (no : Nat) (n : ND) (h : r = true → n.keys.length ≤ 6) : (blkX r no n).length = 256 := by
  cases r with
  | true => exact img_length no n (h rfl)
  | false => exact noughts_len
theorem block_any (w : World) (hT : Tabs w) (no : Nat) (hno : no < 4294967296) (kind : Int) (birth : Nat) (keys vals : List Nat) (A A' : Option Addr) (ck cv : Nat) (hs : Shows w w.heap.size A keys.length (nums64 keys)) (hv : Shows w w.heap.size A' vals.length (nums64 vals)) :
    Calls Tryd.prog 12 #[.int .u32 no, .agg #[.int .i64 kind, .int .u64 (birth : Int), .slice A keys.length ck, .slice A' vals.length cv]] w fun e w' => e = .returned (.tuple #[.agg (cells8 (blkX (mayB ⟨kind, birth, keys, vals⟩) no ⟨kind, birth, keys, vals⟩)).toArray, .int .i64 (blkE (mayB ⟨kind, birth, keys, vals⟩))]) ∧ Below w.heap.size w w' := by
  cases hm : mayB ⟨kind, birth, keys, vals⟩ with
  | true => exact block_ok w hT no hno kind birth keys vals hm A A' ck cv hs hv
  | false => exact block_bad w no kind birth keys vals hm A A' ck cv hs

set_option maxRecDepth 10000 in
set_option maxHeartbeats 4000000 in
theorem means_law (w : World) (hT : Tabs w) (no : Nat) (hno : no < 4294967296) (kind : Int) (birth : Nat) (keys vals : List Nat) (hf : (ND.mk kind birth keys vals).fits) (A A' : Option Addr) (ck cv : Nat) (hs : Shows w w.heap.size A keys.length (nums64 keys)) (hv : Shows w w.heap.size A' vals.length (nums64 vals)) (l : List UInt8) (hl : l.length = 256) (at_ : Int) (by_ : UInt8) :
    Calls Tryd.prog 3 #[.int .u32 no, .agg #[.int .i64 kind, .int .u64 (birth : Int), .slice A keys.length ck, .slice A' vals.length cv], .agg (cells8 l).toArray, .int .i64 at_, .int .u8 (by_.toNat : Int)] w fun e w' => e = .returned (.bool true) ∧ Below w.heap.size w w' := by
  have H0 := Lib.hid (LW.start w #[.int .i64 kind, .int .u64 (birth : Int), .slice A keys.length ck, .slice A' vals.length cv] l)
  have hK : Hid (∀ W, Below w.heap.size w W → Calls Tryd.prog 9 #[] W fun e w' => e = .returned (.bool true) ∧ Below w.heap.size w w') := fun W hW => (known_any W (hT.below hW hT.size)).mono fun e w' hp => ⟨hp.1, hW.trans (hp.2.mono hW.size)⟩
  by_cases hk20 : 20 < keys.length
  · have hk20I : (20 : Int) < (keys.length : Int) := by omega
    clear hs hv hf hl
    go_enter Tryd.func3, Tryd.ntmps3
    go_wp2_with (go_at_call 9; (with_reducible refine (hK.out _ H0.out.bel).mono ?_); rintro e w1 ⟨rfl, hb1⟩)
    go_ret
    exact ⟨rfl, hb1⟩
  by_cases hv20 : 20 < vals.length
  · have hv20I : (20 : Int) < (vals.length : Int) := by omega
    have hk20I : (keys.length : Int) ≤ 20 := by omega
    clear hs hv hf hl
    go_enter Tryd.func3, Tryd.ntmps3
    go_wp2_with (go_at_call 9; (with_reducible refine (hK.out _ H0.out.bel).mono ?_); rintro e w1 ⟨rfl, hb1⟩)
    go_ret
    exact ⟨rfl, hb1⟩
  have hv20I : (vals.length : Int) ≤ 20 := by omega
  have hk20I : (keys.length : Int) ≤ 20 := by omega
  have HS := Lib.hid hs
  have HV := Lib.hid hv
  have HL := Lib.hid hl
  have HF := Lib.hid hf
  clear hs hv hl hf hk20 hv20
  have HMAY : Hid (∀ W l2, LW w W w.heap.size (w.heap.size + 1) #[.int .i64 kind, .int .u64 (birth : Int), .slice A keys.length ck, .slice A' vals.length cv] l2 → Calls Tryd.prog 10 #[.agg #[.int .i64 kind, .int .u64 (birth : Int), .slice A keys.length ck, .slice A' vals.length cv]] W fun e w' => e = .returned (.bool (mayB ⟨kind, birth, keys, vals⟩)) ∧ (w'.cell? ⟨w.heap.size, 0, none⟩ = some (.int .i64 kind) ∧ w'.cell? ⟨w.heap.size, 1, none⟩ = some (.int .u64 (birth : Int)) ∧ w'.cell? ⟨w.heap.size, 2, none⟩ = some (.slice A keys.length ck) ∧ w'.cell? ⟨w.heap.size, 3, none⟩ = some (.slice A' vals.length cv)) ∧ Hid (LW w w' w.heap.size (w.heap.size + 1) #[.int .i64 kind, .int .u64 (birth : Int), .slice A keys.length ck, .slice A' vals.length cv] l2)) := fun W l2 h => (may_any W kind birth keys vals A A' ck cv (HS.out.on h.bel)).mono fun e w' hp => ⟨hp.1, (h.on hp.2).ss, h.on hp.2⟩
  have HRM2 : Hid (∀ W l2, LW w W w.heap.size (w.heap.size + 1) #[.int .i64 kind, .int .u64 (birth : Int), .slice A keys.length ck, .slice A' vals.length cv] l2 → Calls Tryd.prog 11 #[.agg #[.int .i64 kind, .int .u64 (birth : Int), .slice A keys.length ck, .slice A' vals.length cv]] W fun e w' => e = .returned (.bool (mayB ⟨kind, birth, keys, vals⟩)) ∧ Hid (LW w w' w.heap.size (w.heap.size + 1) #[.int .i64 kind, .int .u64 (birth : Int), .slice A keys.length ck, .slice A' vals.length cv] l2) ∧ Hid (Below W.heap.size W w')) := fun W l2 h => (rmay_any W kind birth keys vals A A' ck cv (HS.out.on h.bel)).mono fun e w' hp => ⟨hp.1, h.on hp.2, hp.2⟩
  have HRMAY : Hid (∀ W l2, LW w W w.heap.size (w.heap.size + 1) #[.int .i64 kind, .int .u64 (birth : Int), .slice A keys.length ck, .slice A' vals.length cv] l2 → Calls Tryd.prog 11 #[.agg #[.int .i64 kind, .int .u64 (birth : Int), .slice A keys.length ck, .slice A' vals.length cv]] W fun e w' => e = .returned (.bool (mayB ⟨kind, birth, keys, vals⟩)) ∧ (w'.cell? ⟨w.heap.size, 0, none⟩ = some (.int .i64 kind) ∧ w'.cell? ⟨w.heap.size, 1, none⟩ = some (.int .u64 (birth : Int)) ∧ w'.cell? ⟨w.heap.size, 2, none⟩ = some (.slice A keys.length ck) ∧ w'.cell? ⟨w.heap.size, 3, none⟩ = some (.slice A' vals.length cv)) ∧ Hid (LW w w' w.heap.size (w.heap.size + 1) #[.int .i64 kind, .int .u64 (birth : Int), .slice A keys.length ck, .slice A' vals.length cv] l2)) := fun W l2 h => (rmay_any W kind birth keys vals A A' ck cv (HS.out.on h.bel)).mono fun e w' hp => ⟨hp.1, (h.on hp.2).ss, h.on hp.2⟩
  have hblk := fun W l2 (h : LW w W w.heap.size (w.heap.size + 1) #[.int .i64 kind, .int .u64 (birth : Int), .slice A keys.length ck, .slice A' vals.length cv] l2) => (block_any W (hT.below h.bel hT.size) no hno kind birth keys vals A A' ck cv (HS.out.on h.bel) (HV.out.on h.bel)).mono fun e w' hp => (show e = .returned (.tuple #[.agg (cells8 (blkX (mayB ⟨kind, birth, keys, vals⟩) no ⟨kind, birth, keys, vals⟩)).toArray, .int .i64 (blkE (mayB ⟨kind, birth, keys, vals⟩))]) ∧ Hid (LW w w' w.heap.size (w.heap.size + 1) #[.int .i64 kind, .int .u64 (birth : Int), .slice A keys.length ck, .slice A' vals.length cv] l2) from ⟨hp.1, h.on hp.2⟩)
  have HBLK := Lib.hid hblk
  have hxl := blkX_len (mayB ⟨kind, birth, keys, vals⟩) no ⟨kind, birth, keys, vals⟩ (fun h => (mayB_yes h).2.1)
  clear hblk
  generalize hr : mayB ⟨kind, birth, keys, vals⟩ = r at *
  have HR := Lib.hid hr
  clear hr
  have hrr : (r != r) = false := by simp
  go_enter Tryd.func3, Tryd.ntmps3
  go_upto_region 3 with fail
  go_cut [34] (fun s wx => s = .bool false ∧ Hid (LW w wx w.heap.size (w.heap.size + 1) #[.int .i64 kind, .int .u64 (birth : Int), .slice A keys.length ck, .slice A' vals.length cv] l))
  case first =>
    have HS0 := Lib.hid (H0.out.on (Below.refl _ _).drew).ss
    have H0d := Lib.hid (H0.out.on (Below.refl _ _).drew)
    first | go_region_held3 (fun w' => w'.cell? ⟨w.heap.size, 0, none⟩ = some (.int .i64 kind) ∧ w'.cell? ⟨w.heap.size, 1, none⟩ = some (.int .u64 (birth : Int)) ∧ w'.cell? ⟨w.heap.size, 2, none⟩ = some (.slice A keys.length ck) ∧ w'.cell? ⟨w.heap.size, 3, none⟩ = some (.slice A' vals.length cv))
      (first | with_reducible exact HS0.out | with_reducible exact hSb | with_reducible exact hSa)
      (first
        | (go_at_call 10; first | ((with_reducible refine (HMAY.out _ _ hbb.out).mono ?_); rintro e wa ⟨rfl, hSa, hba⟩) | ((with_reducible refine (HMAY.out _ _ H0d.out).mono ?_); rintro e wa ⟨rfl, hSa, hba⟩))
        | (go_at_call 11; first | ((with_reducible refine (HRMAY.out _ _ hba.out).mono ?_); rintro e wb ⟨rfl, hSb, hbb⟩) | ((with_reducible refine (HRMAY.out _ _ H0d.out).mono ?_); rintro e wb ⟨rfl, hSb, hbb⟩))) | fail
    all_goals (go_wp2_with fail; go_meet; first | exact ⟨by first | rfl | rw [hrr], hbb⟩ | exact ⟨by first | rfl | rw [hrr], hba⟩)
  case rest =>
    obtain ⟨rfl, H1⟩ := hcut
    have hst := fun w => store_blk w noughts (blkX r no ⟨kind, birth, keys, vals⟩) noughts_len hxl
    have HXL := Lib.hid hxl
    have hcs : (cells8 (blkX r no ⟨kind, birth, keys, vals⟩)).toArray.size = 256 := (cells8_size _).trans hxl
    have hz := blk_zero
    have hz2 : (cells8 noughts).toArray.size = 256 := (cells8_size _).trans noughts_len
    clear hxl
    generalize hX : blkX r no ⟨kind, birth, keys, vals⟩ = X at *
    have HX := Lib.hid hX
    clear hX
    generalize hZ : noughts = z at hst hz hz2
    have HZ := Lib.hid hZ
    clear hZ
    generalize hE : blkE r = E at *
    have HE := Lib.hid hE
    clear hE
    go_wp2_with (first
      | refine wpList_load_row rfl 27 (.tmp 6) rfl w.heap.size rfl 27 #[.int .i64 kind, .int .u64 (birth : Int), .slice A keys.length ck, .slice A' vals.length cv] (0, 0) _ H1.out.node Tryd.underlying27 rfl (by rw [node_size]; rfl) ?_
      | fail)
    (with_reducible refine (HBLK.out _ _ H1.out).mono ?_)
    rintro e w3 ⟨rfl, H3⟩
    have H4 : Hid (LW w (w3.alloc (.cells (cells8 X).toArray 29)) w.heap.size (w.heap.size + 1) #[.int .i64 kind, .int .u64 (birth : Int), .slice A keys.length ck, .slice A' vals.length cv] l) := H3.out.on ((Below.refl _ _).alloc (Nat.le_refl _) _)
    have HXB : Hid (Holds8 (w3.alloc (.cells (cells8 X).toArray 29)) w3.heap.size 29 X) := Holds8.new w3 _ X _ rfl
    go_wp2_with (first
      | refine wpList_load_row rfl 27 (.tmp 6) rfl w.heap.size rfl 27 #[.int .i64 kind, .int .u64 (birth : Int), .slice A keys.length ck, .slice A' vals.length cv] (0, 0) _ H4.out.node Tryd.underlying27 rfl (by rw [node_size]; rfl) ?_
      | fail)
    (with_reducible refine (HRM2.out _ _ H4.out).mono ?_)
    rintro e w5 ⟨rfl, H5, hb5⟩
    have HX5 := Lib.hid (HXB.out.below hb5.out)
    clear HXB H4 H3 hb5
    generalize w3.heap.size = bx at *
    go_upto_if 43 with fail
    go_cut [10] (fun s wx => s = .bool false ∧ ∃ l2, Hid (l2.length = 256 ∧ LW w wx w.heap.size (w.heap.size + 1) #[.int .i64 kind, .int .u64 (birth : Int), .slice A keys.length ck, .slice A' vals.length cv] l2))
    case first =>
      cases r with
      | false =>
        have hE2 : E = 2 := HE.out.symm
        subst hE2
        have hneq := fun w => neq_blk X noughts HXL.out noughts_len w
        have hXn : (X == noughts) = true := by rw [← HX.out]; simp [blkX]
        rw [hXn, HZ.out] at hneq
        have HXS : Hid ((cells8 X).toArray.size = 256) := hcs
        clear hXn
        go_wp2_with fail
        refine wp_load_row 29 (.tmp 11) rfl bx rfl 29 (cells8 X).toArray (0, 0) _ HX5.out Tryd.underlying29 rfl (by rw [blk_size, HXS.out]) ?_
        have hneq2 : ∀ w : World, (binOp .neq 29 (.agg (cells8 X).toArray) (.agg (cells8 z).toArray)).run Tryd.prog w = .ok (.bool false) w := hneq
        clear hneq
        go_wp2_with fail
        go_meet
        exact ⟨rfl, l, HL.out, H5.out⟩
      | true =>
        have hE2 : E = 0 := HE.out.symm
        subst hE2
        have hXi : X = img no ⟨kind, birth, keys, vals⟩ := HX.out.symm
        have HRB : Hid (∀ W, Below w5.heap.size w5 W → Calls Tryd.prog 13 #[.int .u32 no, .agg #[.int .i64 kind, .int .u64 (birth : Int), .slice A keys.length ck, .slice A' vals.length cv]] W fun e w' => e = .returned (.agg (cells8 X).toArray) ∧ ((w'.cell? ⟨w.heap.size, 0, none⟩ = some (.int .i64 kind) ∧ w'.cell? ⟨w.heap.size, 1, none⟩ = some (.int .u64 (birth : Int)) ∧ w'.cell? ⟨w.heap.size, 2, none⟩ = some (.slice A keys.length ck) ∧ w'.cell? ⟨w.heap.size, 3, none⟩ = some (.slice A' vals.length cv)) ∧ w'.rangeAt bx 0 (cells8 X)) ∧ Hid (Below w5.heap.size w5 w')) := fun W hW => (rblock_any W no hno ⟨kind, birth, keys, vals⟩ HR.out HF.out A A' ck cv (HS.out.on (H5.out.bel.trans (hW.mono H5.out.bel.size))) (HV.out.on (H5.out.bel.trans (hW.mono H5.out.bel.size)))).mono fun e w' hp => by
          have hb := hW.trans (hp.2.mono hW.size)
          exact ⟨by rw [hXi]; exact hp.1, ⟨(H5.out.on hb).ss, (HX5.out.below hb).range⟩, hb⟩
        have HXI := Lib.hid hXi
        clear hXi
        have hneq := fun w => neq_blk X X HXL.out HXL.out w
        have hXn : (X == X) = true := by simp
        rw [hXn] at hneq
        have hneq2 : ∀ w : World, (binOp .neq 29 (.agg (cells8 X).toArray) (.agg (cells8 X).toArray)).run Tryd.prog w = .ok (.bool false) w := hneq
        clear hneq hXn
        have hu := Tryd.underlying29
        have z1 := blk_size' X HXL.out
        have HS0 : Hid (((w5.drew.cell? ⟨w.heap.size, 0, none⟩ = some (.int .i64 kind) ∧ w5.drew.cell? ⟨w.heap.size, 1, none⟩ = some (.int .u64 (birth : Int)) ∧ w5.drew.cell? ⟨w.heap.size, 2, none⟩ = some (.slice A keys.length ck) ∧ w5.drew.cell? ⟨w.heap.size, 3, none⟩ = some (.slice A' vals.length cv)) ∧ w5.drew.rangeAt bx 0 (cells8 X))) := ⟨(H5.out.on (Below.refl _ _).drew).ss, (HX5.out.below (Below.refl _ _).drew).range⟩
        go_wp2_with fail
        first | go_region_held3 (fun w' => (w'.cell? ⟨w.heap.size, 0, none⟩ = some (.int .i64 kind) ∧ w'.cell? ⟨w.heap.size, 1, none⟩ = some (.int .u64 (birth : Int)) ∧ w'.cell? ⟨w.heap.size, 2, none⟩ = some (.slice A keys.length ck) ∧ w'.cell? ⟨w.heap.size, 3, none⟩ = some (.slice A' vals.length cv)) ∧ w'.rangeAt bx 0 (cells8 X))
          (first | with_reducible exact HS0.out | with_reducible exact hSb)
          ((go_at_call 13; (with_reducible refine (HRB.out _ (Below.refl _ _).drew).mono ?_); rintro e wb ⟨rfl, hSb, hbb⟩)) | fail
        all_goals
          have HXb := Lib.hid (HX5.out.below hbb.out)
          have H6 := Lib.hid (H5.out.on hbb.out)
          have hof : ofB no X = some ⟨kind, birth, keys, vals⟩ := by rw [HXI.out]; exact of_img no ⟨kind, birth, keys, vals⟩ HR.out HF.out
          have hofc := of_any wb (hT.below H6.out.bel hT.size) no hno X HXL.out
          rw [hof] at hofc
          have HOF : Hid (Calls Tryd.prog 14 #[.int .u32 no, .agg (cells8 X).toArray] wb fun e w' => ∃ Ay Ay' cy cy', e = .returned (.tuple #[.agg #[.int .i64 kind, .int .u64 (birth : Int), .slice Ay keys.length cy, .slice Ay' vals.length cy'], .int .i64 0]) ∧ Shows w' w'.heap.size Ay keys.length (nums64 keys) ∧ Shows w' w'.heap.size Ay' vals.length (nums64 vals) ∧ Below wb.heap.size wb w') := hofc.mono fun e w' hp => by
            obtain ⟨hb, Ay, Ay', cy, cy', he, h1, h2⟩ := hp
            exact ⟨Ay, Ay', cy, cy', he, h1, h2, hb⟩
          have HXS : Hid ((cells8 X).toArray.size = 256) := hcs
          clear hof hofc hSb hu z1
          go_wp2_with (first
            | refine wpList_load_row rfl 29 (.tmp 11) rfl bx rfl 29 (cells8 X).toArray (0, 0) _ HXb.out Tryd.underlying29 rfl (by rw [blk_size, HXS.out]) ?_
            | fail)
          (with_reducible refine HOF.out.mono ?_)
          rintro e w6 ⟨Ay, Ay', cy, cy', rfl, hy1, hy2, hb6⟩
          have hb7 := hb6.alloc hb6.size (.cells #[.int .i64 kind, .int .u64 (birth : Int), .slice Ay keys.length cy, .slice Ay' vals.length cy'] 27)
          have H7 := Lib.hid (H6.out.on hb7)
          have HX7 := Lib.hid (HXb.out.below hb7)
          obtain ⟨d0, d1, d2, d3⟩ := H7.out.ss
          have hbn := (Below.refl w6.heap.size w6).alloc (Nat.le_refl _) (.cells #[.int .i64 kind, .int .u64 (birth : Int), .slice Ay keys.length cy, .slice Ay' vals.length cy'] 27)
          have hsm := rsame_any (w6.alloc (.cells #[.int .i64 kind, .int .u64 (birth : Int), .slice Ay keys.length cy, .slice Ay' vals.length cy'] 27)) kind kind birth birth keys vals keys vals Ay Ay' A A' cy cy' ck cv (hy1.on hbn) (hy2.on hbn) (HS.out.on H7.out.bel) (HV.out.on H7.out.bel) (by omega) (by omega)
          rw [(sameND_iff ⟨kind, birth, keys, vals⟩ ⟨kind, birth, keys, vals⟩).2 rfl] at hsm
          have HSM := Lib.hid hsm
          clear hsm hy1 hy2 hb6 hb7 hbn HOF
          by_cases hat : 0 ≤ at_
          · obtain ⟨n, rfl⟩ := Int.eq_ofNat_of_zero_le hat
            have hmod : ((n : Int) % 256) = ((n % 256 : Nat) : Int) := by omega
            have hmlt : n % 256 < 256 := by omega
            generalize n % 256 = m at *
            go_wp2_with fail
            (with_reducible refine HSM.out.mono ?_)
            rintro e w8 ⟨rfl, hb8⟩
            have H8 := Lib.hid (H7.out.on hb8)
            have HX8 := Lib.hid (HX7.out.below hb8)
            have HLS : Hid ((cells8 l).toArray.size = 256) := (cells8_size l).trans HL.out
            have HXR := H8.out.blk.row X
            have hcm := HXR.cell m (by rw [HXL.out]; exact hmlt)
            have hfm := HXR.frozen m
            have hxo : ∀ x : UInt8, bits .xor .u8 (x.toNat : Int) (by_.toNat : Int) = ((x ^^^ by_).toNat : Int) := fun x => by rw [u8_xor_nat _ _ x.toNat_lt by_.toNat_lt, UInt8.toNat_xor]
            have HSET := Lib.hid (HXR.set m ((X[m]'(by rw [HXL.out]; exact hmlt)) ^^^ by_))
            have HXRh := Lib.hid HXR
            clear d0 d1 d2 d3 HXR
            generalize X[m]'_ = x at hcm HSET
            have hxx := hxo x
            clear hxo
            go_wp2_with (first
              | refine wpList_load_row rfl 29 (.tmp 11) rfl bx rfl 29 (cells8 X).toArray (0, 0) _ HX8.out Tryd.underlying29 rfl (by rw [blk_size, HXS.out]) ?_
              | refine wpList_store_row rfl 29 (.tmp 7) (.tmp 76) rfl (w.heap.size + 1) (cells8 X).toArray rfl rfl 29 (cells8 l).toArray H8.out.blk (by rw [blk_size, HXS.out]) (by rw [HLS.out, HXS.out]) (cells8_all _) ?_
              | fail)
            go_meet
            refine ⟨rfl, X.set m (x ^^^ by_), ⟨by rw [List.length_set, HXL.out], ?_, HSET.out, ?_, H8.out.n1⟩⟩
            · exact (Below.heap_setCell _ _ _ _ (by simp)).trans ((setRow_other _ _ _ _ (by omega)).trans H8.out.node)
            · exact (below_setRow H8.out.bel (by omega) _).setCell (by simp) _
          · have hat2 : at_ < 0 := by omega
            go_wp2_with fail
            (with_reducible refine HSM.out.mono ?_)
            rintro e w8 ⟨rfl, hb8⟩
            have H8 := Lib.hid (H7.out.on hb8)
            clear d0 d1 d2 d3
            go_wp2_with fail
            go_meet
            exact ⟨rfl, l, HL.out, H8.out⟩
    case rest =>
      obtain ⟨rfl, l2, HL2⟩ := hcut
      have hL2 := HL2.out.2
      have hl2 := HL2.out.1
      have HLS : Hid ((cells8 l2).toArray.size = 256) := (cells8_size l2).trans hl2
      have hof := of_any wc (hT.below hL2.bel hT.size) no hno l2 hl2
      have hrof := fun W (h : LW w W w.heap.size (w.heap.size + 1) #[.int .i64 kind, .int .u64 (birth : Int), .slice A keys.length ck, .slice A' vals.length cv] l2) => rof_any W no hno l2 hl2
      clear hrr HRM2 HRMAY HMAY HBLK HE HX HX5 H5 H1 hst hcs hz hz2 HZ HXL
      cases hO : ofB no l2 with
      | none =>
        rw [hO] at hof hrof
        have HOF : Hid (Calls Tryd.prog 14 #[.int .u32 no, .agg (cells8 l2).toArray] wc fun e w' => e = .returned (.tuple #[.agg #[.int .i64 0, .int .u64 0, .slice none 0 0, .slice none 0 0], .int .i64 4]) ∧ Below wc.heap.size wc w') := hof.mono fun e w' hp => ⟨hp.2, hp.1⟩
        have HROF : Hid (∀ W, LW w W w.heap.size (w.heap.size + 1) #[.int .i64 kind, .int .u64 (birth : Int), .slice A keys.length ck, .slice A' vals.length cv] l2 → Calls Tryd.prog 16 #[.int .u32 no, .agg (cells8 l2).toArray] W fun e w' => e = .returned (.tuple #[.agg #[.int .i64 0, .int .u64 0, .slice none 0 0, .slice none 0 0], .bool false]) ∧ Below W.heap.size W w') := fun W h => (hrof W h).mono fun e w' hp => ⟨hp.2, hp.1⟩
        clear hof hrof hO
        go_wp2_with (first
          | refine wpList_load_row rfl 29 (.tmp 7) rfl (w.heap.size + 1) rfl 29 (cells8 l2).toArray (0, 0) _ hL2.blk Tryd.underlying29 rfl (by rw [blk_size, HLS.out]) ?_
          | fail)
        (with_reducible refine HOF.out.mono ?_)
        rintro e w6 ⟨rfl, hb6⟩
        have hb7 := hb6.alloc hb6.size (.cells #[.int .i64 0, .int .u64 0, .slice none 0 0, .slice none 0 0] 27)
        have H7 := Lib.hid (hL2.on hb7)
        have HB7 := Lib.hid hb7
        have HN7 := Lib.hid (heap_alloc_new w6 (.cells #[.int .i64 0, .int .u64 0, .slice none 0 0, .slice none 0 0] 27))
        have HRO := Lib.hid (HROF.out _ H7.out)
        clear hb7
        go_wp2_with (first
          | refine wpList_load_row rfl 29 (.tmp 7) rfl (w.heap.size + 1) rfl 29 (cells8 l2).toArray (0, 0) _ H7.out.blk Tryd.underlying29 rfl (by rw [blk_size, HLS.out]) ?_
          | fail)
        (with_reducible refine HRO.out.mono ?_)
        rintro e w8 ⟨rfl, hb8⟩
        have hb9 := hb8.alloc hb8.size (.cells #[.int .i64 0, .int .u64 0, .slice none 0 0, .slice none 0 0] 27)
        have H9 := Lib.hid (H7.out.on hb9)
        have hn9 := (hb9.block w6.heap.size (by simp)).trans HN7.out
        have q0 := cell_of_row _ w6.heap.size 0 _ _ _ hn9
        have q1 := cell_of_row _ w6.heap.size 1 _ _ _ hn9
        have q2 := cell_of_row _ w6.heap.size 2 _ _ _ hn9
        have q3 := cell_of_row _ w6.heap.size 3 _ _ _ hn9
        have hsm := rsame_any (w8.alloc (.cells #[.int .i64 0, .int .u64 0, .slice none 0 0, .slice none 0 0] 27)) 0 0 0 0 [] [] [] [] none none none none 0 0 0 0 (Shows.empty _ _ _) (Shows.empty _ _ _) (Shows.empty _ _ _) (Shows.empty _ _ _) (by simp) (by simp)
        rw [(sameND_iff ⟨0, 0, [], []⟩ ⟨0, 0, [], []⟩).2 rfl] at hsm
        have hsm : Calls Tryd.prog 15 #[.agg #[.int .i64 0, .int .u64 0, .slice none 0 0, .slice none 0 0], .agg #[.int .i64 0, .int .u64 0, .slice none 0 0, .slice none 0 0]] (w8.alloc (.cells #[.int .i64 0, .int .u64 0, .slice none 0 0, .slice none 0 0] 27)) fun e w' => e = .returned (.bool true) ∧ Below (w8.alloc (.cells #[.int .i64 0, .int .u64 0, .slice none 0 0, .slice none 0 0] 27)).heap.size (w8.alloc (.cells #[.int .i64 0, .int .u64 0, .slice none 0 0, .slice none 0 0] 27)) w' := hsm
        have HSM := Lib.hid hsm
        clear hsm hn9 hb9 HN7 HRO HB7
        go_wp2_with fail
        (with_reducible refine HSM.out.mono ?_)
        rintro e w10 ⟨rfl, hb10⟩
        have hbk := H9.out.bel.trans (hb10.mono H9.out.bel.size)
        have HKN := Lib.hid (hK.out _ hbk)
        clear q0 q1 q2 q3 hb10 hbk
        go_wp2_with fail
        (with_reducible refine HKN.out.mono ?_)
        rintro e w11 ⟨rfl, hb11⟩
        go_wp2_with fail
        go_ret
        exact ⟨rfl, hb11⟩
      | some n =>
        obtain ⟨nk, nb, nks, nvs⟩ := n
        have hlen : nks.length ≤ 1000000 ∧ nvs.length ≤ 1000000 := by
          unfold ofB at hO
          split at hO
          · rename_i hc
            have hm := mayB_yes hc.2.1
            rw [Option.some.inj hO] at hm
            have h1 : nks.length ≤ 6 := hm.2.1
            have h2 : nvs.length = nks.length := hm.2.2.1
            omega
          · cases hO
        rw [hO] at hof hrof
        have HOF : Hid (Calls Tryd.prog 14 #[.int .u32 no, .agg (cells8 l2).toArray] wc fun e w' => ∃ A A' ck cv, e = .returned (.tuple #[.agg #[.int .i64 nk, .int .u64 (nb : Int), .slice A nks.length ck, .slice A' nvs.length cv], .int .i64 0]) ∧ Shows w' w'.heap.size A nks.length (nums64 nks) ∧ Shows w' w'.heap.size A' nvs.length (nums64 nvs) ∧ Below wc.heap.size wc w') := hof.mono fun e w' hp => by
          obtain ⟨hb, A, A', ck, cv, he, h1, h2⟩ := hp
          exact ⟨A, A', ck, cv, he, h1, h2, hb⟩
        have HROF : Hid (∀ W, LW w W w.heap.size (w.heap.size + 1) #[.int .i64 kind, .int .u64 (birth : Int), .slice A keys.length ck, .slice A' vals.length cv] l2 → Calls Tryd.prog 16 #[.int .u32 no, .agg (cells8 l2).toArray] W fun e w' => ∃ A A' ck cv, e = .returned (.tuple #[.agg #[.int .i64 nk, .int .u64 (nb : Int), .slice A nks.length ck, .slice A' nvs.length cv], .bool true]) ∧ Shows w' w'.heap.size A nks.length (nums64 nks) ∧ Shows w' w'.heap.size A' nvs.length (nums64 nvs) ∧ Below W.heap.size W w') := fun W h => (hrof W h).mono fun e w' hp => by
          obtain ⟨hb, A, A', ck, cv, he, h1, h2⟩ := hp
          exact ⟨A, A', ck, cv, he, h1, h2, hb⟩
        clear hof hrof hO
        go_wp2_with (first
          | refine wpList_load_row rfl 29 (.tmp 7) rfl (w.heap.size + 1) rfl 29 (cells8 l2).toArray (0, 0) _ hL2.blk Tryd.underlying29 rfl (by rw [blk_size, HLS.out]) ?_
          | fail)
        (with_reducible refine HOF.out.mono ?_)
        rintro e w6 ⟨Ay, Ay', cy, cy', rfl, hy1, hy2, hb6⟩
        have hb7 := hb6.alloc hb6.size (.cells #[.int .i64 nk, .int .u64 (nb : Int), .slice Ay nks.length cy, .slice Ay' nvs.length cy'] 27)
        have H7 := Lib.hid (hL2.on hb7)
        have hbn := (Below.refl w6.heap.size w6).alloc (Nat.le_refl _) (.cells #[.int .i64 nk, .int .u64 (nb : Int), .slice Ay nks.length cy, .slice Ay' nvs.length cy'] 27)
        have HY1 := Lib.hid (hy1.on hbn)
        have HY2 := Lib.hid (hy2.on hbn)
        have HN7 := Lib.hid (heap_alloc_new w6 (.cells #[.int .i64 nk, .int .u64 (nb : Int), .slice Ay nks.length cy, .slice Ay' nvs.length cy'] 27))
        have HRO := Lib.hid (HROF.out _ H7.out)
        clear hb7 hbn hy1 hy2 hb6
        go_wp2_with (first
          | refine wpList_load_row rfl 29 (.tmp 7) rfl (w.heap.size + 1) rfl 29 (cells8 l2).toArray (0, 0) _ H7.out.blk Tryd.underlying29 rfl (by rw [blk_size, HLS.out]) ?_
          | fail)
        (with_reducible refine HRO.out.mono ?_)
        rintro e w8 ⟨Az, Az', cz, cz', rfl, hz1, hz2, hb8⟩
        have hb9 := hb8.alloc hb8.size (.cells #[.int .i64 nk, .int .u64 (nb : Int), .slice Az nks.length cz, .slice Az' nvs.length cz'] 27)
        have hbm := (Below.refl w8.heap.size w8).alloc (Nat.le_refl _) (.cells #[.int .i64 nk, .int .u64 (nb : Int), .slice Az nks.length cz, .slice Az' nvs.length cz'] 27)
        have H9 := Lib.hid (H7.out.on hb9)
        have hn9 := (hb9.block w6.heap.size (by simp)).trans HN7.out
        have q0 := cell_of_row _ w6.heap.size 0 _ _ _ hn9
        have q1 := cell_of_row _ w6.heap.size 1 _ _ _ hn9
        have q2 := cell_of_row _ w6.heap.size 2 _ _ _ hn9
        have q3 := cell_of_row _ w6.heap.size 3 _ _ _ hn9
        have hsm := rsame_any (w8.alloc (.cells #[.int .i64 nk, .int .u64 (nb : Int), .slice Az nks.length cz, .slice Az' nvs.length cz'] 27)) nk nk nb nb nks nvs nks nvs Ay Ay' Az Az' cy cy' cz cz' (HY1.out.on hb9) (HY2.out.on hb9) (hz1.on hbm) (hz2.on hbm) hlen.1 hlen.2
        rw [(sameND_iff ⟨nk, nb, nks, nvs⟩ ⟨nk, nb, nks, nvs⟩).2 rfl] at hsm
        have HSM := Lib.hid hsm
        clear hsm hn9 hb9 HN7 HRO hz1 hz2 hbm HY1 HY2 hlen
        go_wp2_with fail
        (with_reducible refine HSM.out.mono ?_)
        rintro e w10 ⟨rfl, hb10⟩
        have hbk := H9.out.bel.trans (hb10.mono H9.out.bel.size)
        have HKN := Lib.hid (hK.out _ hbk)
        clear q0 q1 q2 q3 hb10 hbk
        go_wp2_with fail
        (with_reducible refine HKN.out.mono ?_)
        rintro e w11 ⟨rfl, hb11⟩
        go_wp2_with fail
        go_ret
        exact ⟨rfl, hb11⟩
end Go.Proofs.YtdcfplfeagpcdaaDoor
