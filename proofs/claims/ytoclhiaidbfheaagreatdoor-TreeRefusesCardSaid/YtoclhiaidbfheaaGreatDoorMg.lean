/- TreeRefuses: the law. -/
import Derived.Test.YtoclhiaidbfheaaGreatDoorMf
set_option linter.unusedVariables false
namespace Go.Proofs.YtoclhiaidbfheaaGreatDoor.T
open Go.RowKit Q S Go.ChangeMaps Go.MapKept

/-- a store of the law whose next new node is x -/
structure RS (w W : World) (k : LK) (c : C.CS) (q : Nat) (D : DataW Value) (x j rn : Nat) : Prop where
  ls : LS w W k c q D
  len : c.now.length = 200
  room : C.roomN c c.now.length = rn
  al : C.allocK c = some j
  tu : C.turn c j = x
  x0 : 0 < x
  x2 : x < 200
  q9 : q < 900
  map : Maps.IsMap D
  len2 : (C.allocS c j).now.length = 200
theorem RS.below {w W W' : World} {k : LK} {c : C.CS} {q : Nat} {D : DataW Value} {x j rn : Nat} (h : RS w W k c q D x j rn) (hb : Below W.heap.size W W') : RS w W' k c q D x j rn := ⟨h.ls.below hb, h.len, h.room, h.al, h.tu, h.x0, h.x2, h.q9, h.map, h.len2⟩
theorem alloc_U : C.allocK cU = some 0 := by kernel_rfl
theorem turn_U : C.turn cU 0 = 5 := by kernel_rfl
theorem len_T : cT.now.length = 200 := by kernel_rfl
theorem len_U2 : (C.allocS cU 0).now.length = 200 := by kernel_rfl
theorem may_one (kd bi key val : Nat) (h : kd = 2 ∨ kd = 3) : mayB ⟨kd, bi, [key], [val]⟩ = true := by rcases h with rfl | rfl <;> rfl
theorem RS.start {w W : World} {k : LK} (h : LS w W k cT 0 dm0) : RS w W k cT 0 dm0 4 4 196 := ⟨h, len_T, room_T, alloc_T, turn_T, by omega, by omega, by omega, isMap0, len_U⟩
theorem RS.put {w W : World} {k : LK} {kd key : Nat} {K2 V2 : Value} (h : LS w W k cU 1 (dm1 4 (.agg #[.int .i64 (kd : Int), .int .u64 2, K2, V2]))) : RS w W k cU 1 (dm1 4 (.agg #[.int .i64 (kd : Int), .int .u64 2, K2, V2])) 5 0 195 := ⟨h, len_U, room_U, alloc_U, turn_U, by omega, by omega, by omega, isMap1 _ _, len_U2⟩
/-- a node that there is not -/
theorem RS.fl {w W : World} {k : LK} {c : C.CS} {q : Nat} {D : DataW Value} {x j rn : Nat} (h : RS w W k c q D x j rn) (n : Nat) (h2 : 200 ≤ n) (h4 : n < 4294967296) : FL W.heap.size W k n 2 :=
  ⟨h.ls.rdy, h.ls.lookE h.len n h2 h4, fun W' hb => (h.ls.below hb).super, by omega, h4⟩
/-- an inner node without children, new -/
theorem RS.fl2 {w W : World} {k : LK} {c : C.CS} {q : Nat} {D : DataW Value} {x j rn : Nat} {W2 : World} {K2 V2 : Value} (h : RS w W k c q D x j rn) (l2 : LS w W2 k (C.allocS c j) (q + 1) (D.put (keyU x) (.held (.agg #[.int .i64 ((1 : Nat) : Int), .int .u64 ((2 : Nat) : Int), K2, V2])))) (hx : NO W2 K2 V2 [] []) : FL W2.heap.size W2 k x 14 :=
  ⟨l2.rdy, l2.lookN (AtD.put h.map x _ (by have := h.x2; omega)) hx h.len2 h.x0 h.x2, fun W' hb => (l2.below hb).super, h.x0, by have := h.x2; omega⟩
theorem RS.new {w W : World} {k : LK} {c : C.CS} {q : Nat} {D : DataW Value} {x j rn : Nat} (h : RS w W k c q D x j rn) : Calls Tryz.prog 14 #[k.p, .agg #[.int .i64 1, .int .u64 0, .slice none 0 0, .slice none 0 0]] W fun e w' => e = .returned (.tuple #[.int .u32 (x : Int), .int .i64 0]) ∧ Hid (FL w'.heap.size w' k x 14 ∧ Below w.heap.size w w') := by
  have hn := h.ls.new h.q9 h.al (by rw [h.tu]; have := h.x2; omega) 1 0 (.slice none 0 0) (.slice none 0 0) [] [] ⟨⟨rfl, .inl ⟨rfl, rfl⟩⟩, ⟨rfl, .inl ⟨rfl, rfl⟩⟩⟩ (by simp) (by simp) rfl
  rw [h.tu] at hn
  exact hn.mono fun e w' ⟨he, h1⟩ => ⟨he, by obtain ⟨K2, V2, hx, hl, hs⟩ := h1.out; exact Lib.hid ⟨h.fl2 hl hx, hl.bel⟩⟩
set_option maxRecDepth 100000 in
set_option maxHeartbeats 16000000 in
theorem refuses_two_in (W : World) (hT : Tabs W) (hW : Wids W) (root key : Nat) (hr4 : root < 4294967296) (hk4 : key < 18446744073709551616) (hroot : root < 200) :
    Calls Tryz.prog 3 #[.int .u32 (root : Int), .int .i64 2, .int .u64 (key : Int)] W fun e w' => e = .returned (.bool true) ∧ Below W.heap.size W w' := by
  have HM : Hid (Calls Tryz.prog 6 #[] W fun e w' => ∃ k : LK, e = .returned (.pointer (some ⟨k.bs, 0, none⟩)) ∧ Hid (RS W w' k cT 0 dm0 4 4 196)) := Lib.hid ((made_ls hT hW (Below.refl _ W)).mono fun e w' ⟨k, he, h⟩ => ⟨k, he, Lib.hid (RS.start h.out)⟩)
  have HK : Hid (∀ W', Below W.heap.size W W' → Calls Tryz.prog 13 #[] W' fun e w' => e = .returned (.bool true) ∧ Below W.heap.size W w') := Lib.hid (fun W' hb => known_tree hT hW hb)
  clear hT hW
  go_enter Tryz.func3, Tryz.ntmps3
  go_upto_region 4 with (first
    | (go_at_call 6; (with_reducible refine HM.out.mono ?_); rintro e w0 ⟨k, rfl, h0⟩)
    | fail)
  have HPK : Hid (Calls Tryz.prog 7 #[.pointer (some ⟨k.bs, 0, none⟩), .int .u32 0, .int .i64 2, .int .u64 (key : Int), .int .u64 1] w0 fun e w' => e = .returned (.tuple #[.int .u32 4, .int .u64 0, .bool false, .int .i64 0]) ∧ Hid (∃ K2 V2, NO w' K2 V2 [key] [1] ∧ LS W w' k cU 1 (dm1 4 (.agg #[.int .i64 ((2 : Nat) : Int), .int .u64 2, K2, V2])))) := Lib.hid (by
    have hp := h0.out.ls.Put2 (by omega) 196 room_T (by omega) (by omega) (j := 4) alloc_T (by rw [turn_T]; omega) 2 key 1 rfl (may_one 2 0 key 1 (by omega))
    rw [turn_T] at hp
    exact hp.mono fun e w' ⟨he, h1⟩ => ⟨he, h1.out.2⟩)
  have HC : Hid (∀ (W' : World) (K2 V2 : Value) (kw : Nat) (er : Int), er = (if 2 = kw then 0 else 14) → LS W W' k cU 1 (dm1 4 (.agg #[.int .i64 ((2 : Nat) : Int), .int .u64 2, K2, V2])) → NO W' K2 V2 [key] [1] → Calls Tryz.prog 8 #[.pointer (some ⟨k.bs, 0, none⟩), .int .u32 4, .int .i64 (kw : Int)] W' fun e w' => e = .returned (.int .i64 er) ∧ Below W'.heap.size W' w') := Lib.hid (fun W' K2 V2 kw er her hl hx => hl.Check1 (r := 4) (kd := 2) (bi := 2) (kw := kw) (AtD.one 4 _ (by omega)) hx len_U (by omega) (by omega) (by omega) hk4 er her)
  have HC0 : Hid (∀ (W' : World) (K2 V2 : Value), LS W W' k cU 1 (dm1 4 (.agg #[.int .i64 ((2 : Nat) : Int), .int .u64 2, K2, V2])) → NO W' K2 V2 [key] [1] → Calls Tryz.prog 8 #[.pointer (some ⟨k.bs, 0, none⟩), .int .u32 4, .int .i64 2] W' fun e w' => e = .returned (.int .i64 0) ∧ Below W'.heap.size W' w') := Lib.hid (fun W' K2 V2 hl hx => HC.out W' K2 V2 2 0 rfl hl hx)
  have HC1 : Hid (∀ (W' : World) (K2 V2 : Value), LS W W' k cU 1 (dm1 4 (.agg #[.int .i64 ((2 : Nat) : Int), .int .u64 2, K2, V2])) → NO W' K2 V2 [key] [1] → Calls Tryz.prog 8 #[.pointer (some ⟨k.bs, 0, none⟩), .int .u32 4, .int .i64 3] W' fun e w' => e = .returned (.int .i64 14) ∧ Below W'.heap.size W' w') := Lib.hid (fun W' K2 V2 hl hx => HC.out W' K2 V2 3 14 rfl hl hx)
  clear HC
  go_upto_region 10 with (first
    | (go_at_call 7; (with_reducible refine HPK.out.mono ?_); rintro e w1 ⟨rfl, h1⟩; obtain ⟨K2, V2, x1, l1⟩ := h1.out; have HX1 := Lib.hid x1; have HL1 := Lib.hid l1; have HQ1 := Lib.hid (HC0.out w1 K2 V2 l1 x1); clear h1 x1 l1)
    | (go_at_call 8; (with_reducible refine HQ1.out.mono ?_); rintro e w2 ⟨rfl, hb2⟩; have HX2 := Lib.hid (HX1.out.below hb2); have HL2 := Lib.hid (HL1.out.below hb2); have HQ2 := Lib.hid (HC1.out w2 K2 V2 HL2.out HX2.out); clear hb2)
    | (go_at_call 8; (with_reducible refine HQ2.out.mono ?_); rintro e w3 ⟨rfl, hb3⟩; have HL3 := Lib.hid (HL2.out.below hb3); have HR3 := Lib.hid (RS.put (key := key) HL3.out); clear hb3)
    | fail)
  have HNW : Hid (Calls Tryz.prog 14 #[.pointer (some ⟨k.bs, 0, none⟩), .agg #[.int .i64 1, .int .u64 0, .slice none 0 0, .slice none 0 0]] w3 fun e w' => e = .returned (.tuple #[.int .u32 5, .int .i64 0]) ∧ Hid (FL w'.heap.size w' k 5 14 ∧ Below W.heap.size W w')) := Lib.hid HR3.out.new
  have hroot' : ¬ (200 : Int) ≤ (root : Int) := by omega
  clear h0 HM HPK HC0 HC1 HQ1 HQ2 HX1 HX2 HL1 HL2 HL3 HR3 hroot
  go_wp2_with (first
    | (go_at_call 14; (with_reducible refine HNW.out.mono ?_); rintro e v0 ⟨rfl, hv0⟩; have HF1 := Lib.hid hv0.out.1; have HBW := Lib.hid hv0.out.2; have HB0 : Hid (Below v0.heap.size v0 v0) := Lib.hid (Below.refl _ _); have HGE : Hid (∀ W', Below v0.heap.size v0 W' → Calls Tryz.prog 9 #[.pointer (some ⟨k.bs, 0, none⟩), .int .u32 5, .int .u64 (key : Int)] W' fun e w' => e = .returned (.tuple #[.int .u64 0, .bool false, .int .i64 14]) ∧ Below W'.heap.size W' w') := Lib.hid (fun W' hb => Get_F rfl HF1.out hb hb.size key); have HAE : Hid (∀ W', Below v0.heap.size v0 W' → Calls Tryz.prog 11 #[.pointer (some ⟨k.bs, 0, none⟩), .int .u32 5, .int .u64 0] W' fun e w' => e = .returned (.tuple #[.slice none 0 0, .int .i64 14]) ∧ Below W'.heap.size W' w') := Lib.hid (fun W' hb => all_F14 HF1.out hb hb.size 0); have HCE : Hid (∀ W', Below v0.heap.size v0 W' → Calls Tryz.prog 8 #[.pointer (some ⟨k.bs, 0, none⟩), .int .u32 5, .int .i64 2] W' fun e w' => e = .returned (.int .i64 14) ∧ Below W'.heap.size W' w') := Lib.hid (fun W' hb => check_F14 HF1.out hb hb.size 2); clear hv0)
    | (go_at_call 9; (with_reducible refine (HGE.out _ HB0.out).mono ?_); rintro e v1 ⟨rfl, hb1⟩; have HB1 := Lib.hid (HB0.out.trans (hb1.mono HB0.out.size)); clear hb1)
    | (go_at_call 11; (with_reducible refine (HAE.out _ HB1.out).mono ?_); rintro e v2 ⟨rfl, hb2⟩; have HB2 := Lib.hid (HB1.out.trans (hb2.mono HB1.out.size)); clear hb2)
    | (go_at_call 8; (with_reducible refine (HCE.out _ HB2.out).mono ?_); rintro e v3 ⟨rfl, hb3⟩; have HB3 := Lib.hid (HB2.out.trans (hb3.mono HB2.out.size)); clear hb3)
    | (go_at_call 13; (with_reducible refine (HK.out _ (HBW.out.trans (HB3.out.mono HBW.out.size))).mono ?_); rintro e v9 ⟨rfl, hb9⟩)
    | fail)
  go_ret
  exact ⟨rfl, hb9⟩
set_option maxRecDepth 100000 in
set_option maxHeartbeats 16000000 in
theorem refuses_two_out (W : World) (hT : Tabs W) (hW : Wids W) (root key : Nat) (hr4 : root < 4294967296) (hk4 : key < 18446744073709551616) (hroot : 200 ≤ root) :
    Calls Tryz.prog 3 #[.int .u32 (root : Int), .int .i64 2, .int .u64 (key : Int)] W fun e w' => e = .returned (.bool true) ∧ Below W.heap.size W w' := by
  have HM : Hid (Calls Tryz.prog 6 #[] W fun e w' => ∃ k : LK, e = .returned (.pointer (some ⟨k.bs, 0, none⟩)) ∧ Hid (RS W w' k cT 0 dm0 4 4 196)) := Lib.hid ((made_ls hT hW (Below.refl _ W)).mono fun e w' ⟨k, he, h⟩ => ⟨k, he, Lib.hid (RS.start h.out)⟩)
  have HK : Hid (∀ W', Below W.heap.size W W' → Calls Tryz.prog 13 #[] W' fun e w' => e = .returned (.bool true) ∧ Below W.heap.size W w') := Lib.hid (fun W' hb => known_tree hT hW hb)
  clear hT hW
  go_enter Tryz.func3, Tryz.ntmps3
  go_upto_region 4 with (first
    | (go_at_call 6; (with_reducible refine HM.out.mono ?_); rintro e w0 ⟨k, rfl, h0⟩)
    | fail)
  have HPK : Hid (Calls Tryz.prog 7 #[.pointer (some ⟨k.bs, 0, none⟩), .int .u32 0, .int .i64 2, .int .u64 (key : Int), .int .u64 1] w0 fun e w' => e = .returned (.tuple #[.int .u32 4, .int .u64 0, .bool false, .int .i64 0]) ∧ Hid (∃ K2 V2, NO w' K2 V2 [key] [1] ∧ LS W w' k cU 1 (dm1 4 (.agg #[.int .i64 ((2 : Nat) : Int), .int .u64 2, K2, V2])))) := Lib.hid (by
    have hp := h0.out.ls.Put2 (by omega) 196 room_T (by omega) (by omega) (j := 4) alloc_T (by rw [turn_T]; omega) 2 key 1 rfl (may_one 2 0 key 1 (by omega))
    rw [turn_T] at hp
    exact hp.mono fun e w' ⟨he, h1⟩ => ⟨he, h1.out.2⟩)
  have HC : Hid (∀ (W' : World) (K2 V2 : Value) (kw : Nat) (er : Int), er = (if 2 = kw then 0 else 14) → LS W W' k cU 1 (dm1 4 (.agg #[.int .i64 ((2 : Nat) : Int), .int .u64 2, K2, V2])) → NO W' K2 V2 [key] [1] → Calls Tryz.prog 8 #[.pointer (some ⟨k.bs, 0, none⟩), .int .u32 4, .int .i64 (kw : Int)] W' fun e w' => e = .returned (.int .i64 er) ∧ Below W'.heap.size W' w') := Lib.hid (fun W' K2 V2 kw er her hl hx => hl.Check1 (r := 4) (kd := 2) (bi := 2) (kw := kw) (AtD.one 4 _ (by omega)) hx len_U (by omega) (by omega) (by omega) hk4 er her)
  have HC0 : Hid (∀ (W' : World) (K2 V2 : Value), LS W W' k cU 1 (dm1 4 (.agg #[.int .i64 ((2 : Nat) : Int), .int .u64 2, K2, V2])) → NO W' K2 V2 [key] [1] → Calls Tryz.prog 8 #[.pointer (some ⟨k.bs, 0, none⟩), .int .u32 4, .int .i64 2] W' fun e w' => e = .returned (.int .i64 0) ∧ Below W'.heap.size W' w') := Lib.hid (fun W' K2 V2 hl hx => HC.out W' K2 V2 2 0 rfl hl hx)
  have HC1 : Hid (∀ (W' : World) (K2 V2 : Value), LS W W' k cU 1 (dm1 4 (.agg #[.int .i64 ((2 : Nat) : Int), .int .u64 2, K2, V2])) → NO W' K2 V2 [key] [1] → Calls Tryz.prog 8 #[.pointer (some ⟨k.bs, 0, none⟩), .int .u32 4, .int .i64 3] W' fun e w' => e = .returned (.int .i64 14) ∧ Below W'.heap.size W' w') := Lib.hid (fun W' K2 V2 hl hx => HC.out W' K2 V2 3 14 rfl hl hx)
  clear HC
  go_upto_region 10 with (first
    | (go_at_call 7; (with_reducible refine HPK.out.mono ?_); rintro e w1 ⟨rfl, h1⟩; obtain ⟨K2, V2, x1, l1⟩ := h1.out; have HX1 := Lib.hid x1; have HL1 := Lib.hid l1; have HQ1 := Lib.hid (HC0.out w1 K2 V2 l1 x1); clear h1 x1 l1)
    | (go_at_call 8; (with_reducible refine HQ1.out.mono ?_); rintro e w2 ⟨rfl, hb2⟩; have HX2 := Lib.hid (HX1.out.below hb2); have HL2 := Lib.hid (HL1.out.below hb2); have HQ2 := Lib.hid (HC1.out w2 K2 V2 HL2.out HX2.out); clear hb2)
    | (go_at_call 8; (with_reducible refine HQ2.out.mono ?_); rintro e w3 ⟨rfl, hb3⟩; have HL3 := Lib.hid (HL2.out.below hb3); have HR3 := Lib.hid (RS.put (key := key) HL3.out); clear hb3)
    | fail)
  have HF1 := Lib.hid (HR3.out.fl root hroot hr4)
  have HGE : Hid (∀ W', Below w3.heap.size w3 W' → Calls Tryz.prog 9 #[.pointer (some ⟨k.bs, 0, none⟩), .int .u32 (root : Int), .int .u64 (key : Int)] W' fun e w' => e = .returned (.tuple #[.int .u64 0, .bool false, .int .i64 2]) ∧ Below W'.heap.size W' w') := Lib.hid (fun W' hb => Get_F rfl (HF1.out) hb hb.size key)
  have HPE : Hid (∀ W', Below w3.heap.size w3 W' → Calls Tryz.prog 7 #[.pointer (some ⟨k.bs, 0, none⟩), .int .u32 (root : Int), .int .i64 2, .int .u64 (key : Int), .int .u64 1] W' fun e w' => e = .returned (.tuple #[.int .u32 0, .int .u64 0, .bool false, .int .i64 2]) ∧ Below W'.heap.size W' w') := Lib.hid (fun W' hb => (HR3.out.below hb).ls.PutE _ HR3.out.room root hroot hr4 2 key 1 rfl)
  have HDE : Hid (∀ W', Below w3.heap.size w3 W' → Calls Tryz.prog 10 #[.pointer (some ⟨k.bs, 0, none⟩), .int .u32 (root : Int), .int .u64 (key : Int)] W' fun e w' => e = .returned (.tuple #[.int .u32 0, .int .u64 0, .bool false, .int .i64 2]) ∧ Below W'.heap.size W' w') := Lib.hid (fun W' hb => del_F2 HF1.out hb hb.size key)
  have HAE : Hid (∀ W', Below w3.heap.size w3 W' → Calls Tryz.prog 11 #[.pointer (some ⟨k.bs, 0, none⟩), .int .u32 (root : Int), .int .u64 0] W' fun e w' => e = .returned (.tuple #[.slice none 0 0, .int .i64 2]) ∧ Below W'.heap.size W' w') := Lib.hid (fun W' hb => all_F2 HF1.out hb hb.size 0)
  have HNE : Hid (∀ W', Below w3.heap.size w3 W' → Calls Tryz.prog 12 #[.pointer (some ⟨k.bs, 0, none⟩), .int .u32 (root : Int)] W' fun e w' => e = .returned (.tuple #[.slice none 0 0, .int .i64 2]) ∧ Below W'.heap.size W' w') := Lib.hid (fun W' hb => nodes_F2 HF1.out hb hb.size)
  have HCE : Hid (∀ W', Below w3.heap.size w3 W' → Calls Tryz.prog 8 #[.pointer (some ⟨k.bs, 0, none⟩), .int .u32 (root : Int), .int .i64 2] W' fun e w' => e = .returned (.int .i64 2) ∧ Below W'.heap.size W' w') := Lib.hid (fun W' hb => check_F2 HF1.out hb hb.size 2)
  have HBW : Hid (Below W.heap.size W w3) := Lib.hid HR3.out.ls.bel
  have HB0 : Hid (Below w3.heap.size w3 w3) := Lib.hid (Below.refl _ _)
  have hroot' : (200 : Int) ≤ (root : Int) := by omega
  clear h0 HM HPK HC0 HC1 HQ1 HQ2 HX1 HX2 HL1 HL2 HL3 HR3 HF1 hroot
  go_wp2_with (first
    | (go_at_call 9; (with_reducible refine (HGE.out _ HB0.out).mono ?_); rintro e v1 ⟨rfl, hb1⟩; have HB1 := Lib.hid (HB0.out.trans (hb1.mono HB0.out.size)); clear hb1)
    | (go_at_call 7; (with_reducible refine (HPE.out _ HB1.out).mono ?_); rintro e v2 ⟨rfl, hb2⟩; have HB2 := Lib.hid (HB1.out.trans (hb2.mono HB1.out.size)); clear hb2)
    | (go_at_call 10; (with_reducible refine (HDE.out _ HB2.out).mono ?_); rintro e v3 ⟨rfl, hb3⟩; have HB3 := Lib.hid (HB2.out.trans (hb3.mono HB2.out.size)); clear hb3)
    | (go_at_call 11; (with_reducible refine (HAE.out _ HB3.out).mono ?_); rintro e v4 ⟨rfl, hb4⟩; have HB4 := Lib.hid (HB3.out.trans (hb4.mono HB3.out.size)); clear hb4)
    | (go_at_call 12; (with_reducible refine (HNE.out _ HB4.out).mono ?_); rintro e v5 ⟨rfl, hb5⟩; have HB5 := Lib.hid (HB4.out.trans (hb5.mono HB4.out.size)); clear hb5)
    | (go_at_call 8; (with_reducible refine (HCE.out _ HB5.out).mono ?_); rintro e v6 ⟨rfl, hb6⟩; have HB6 := Lib.hid (HB5.out.trans (hb6.mono HB5.out.size)); clear hb6)
    | (go_at_call 13; (with_reducible refine (HK.out _ (HBW.out.trans (HB6.out.mono HBW.out.size))).mono ?_); rintro e v9 ⟨rfl, hb9⟩)
    | fail)
  go_ret
  exact ⟨rfl, hb9⟩
set_option maxRecDepth 100000 in
set_option maxHeartbeats 16000000 in
theorem refuses_three_in (W : World) (hT : Tabs W) (hW : Wids W) (root key : Nat) (hr4 : root < 4294967296) (hk4 : key < 18446744073709551616) (hroot : root < 200) :
    Calls Tryz.prog 3 #[.int .u32 (root : Int), .int .i64 3, .int .u64 (key : Int)] W fun e w' => e = .returned (.bool true) ∧ Below W.heap.size W w' := by
  have HM : Hid (Calls Tryz.prog 6 #[] W fun e w' => ∃ k : LK, e = .returned (.pointer (some ⟨k.bs, 0, none⟩)) ∧ Hid (RS W w' k cT 0 dm0 4 4 196)) := Lib.hid ((made_ls hT hW (Below.refl _ W)).mono fun e w' ⟨k, he, h⟩ => ⟨k, he, Lib.hid (RS.start h.out)⟩)
  have HK : Hid (∀ W', Below W.heap.size W W' → Calls Tryz.prog 13 #[] W' fun e w' => e = .returned (.bool true) ∧ Below W.heap.size W w') := Lib.hid (fun W' hb => known_tree hT hW hb)
  clear hT hW
  go_enter Tryz.func3, Tryz.ntmps3
  go_upto_region 4 with (first
    | (go_at_call 6; (with_reducible refine HM.out.mono ?_); rintro e w0 ⟨k, rfl, h0⟩)
    | fail)
  have HPK : Hid (Calls Tryz.prog 7 #[.pointer (some ⟨k.bs, 0, none⟩), .int .u32 0, .int .i64 3, .int .u64 (key : Int), .int .u64 1] w0 fun e w' => e = .returned (.tuple #[.int .u32 4, .int .u64 0, .bool false, .int .i64 0]) ∧ Hid (∃ K2 V2, NO w' K2 V2 [key] [1] ∧ LS W w' k cU 1 (dm1 4 (.agg #[.int .i64 ((3 : Nat) : Int), .int .u64 2, K2, V2])))) := Lib.hid (by
    have hp := h0.out.ls.Put (by omega) 196 room_T (by omega) (by omega) (j := 4) alloc_T (by rw [turn_T]; omega) 3 key 1 rfl (may_one 3 0 key 1 (by omega))
    rw [turn_T] at hp
    exact hp.mono fun e w' ⟨he, h1⟩ => ⟨he, h1.out.2⟩)
  have HC : Hid (∀ (W' : World) (K2 V2 : Value) (kw : Nat) (er : Int), er = (if 3 = kw then 0 else 14) → LS W W' k cU 1 (dm1 4 (.agg #[.int .i64 ((3 : Nat) : Int), .int .u64 2, K2, V2])) → NO W' K2 V2 [key] [1] → Calls Tryz.prog 8 #[.pointer (some ⟨k.bs, 0, none⟩), .int .u32 4, .int .i64 (kw : Int)] W' fun e w' => e = .returned (.int .i64 er) ∧ Below W'.heap.size W' w') := Lib.hid (fun W' K2 V2 kw er her hl hx => hl.Check1 (r := 4) (kd := 3) (bi := 2) (kw := kw) (AtD.one 4 _ (by omega)) hx len_U (by omega) (by omega) (by omega) hk4 er her)
  have HC0 : Hid (∀ (W' : World) (K2 V2 : Value), LS W W' k cU 1 (dm1 4 (.agg #[.int .i64 ((3 : Nat) : Int), .int .u64 2, K2, V2])) → NO W' K2 V2 [key] [1] → Calls Tryz.prog 8 #[.pointer (some ⟨k.bs, 0, none⟩), .int .u32 4, .int .i64 3] W' fun e w' => e = .returned (.int .i64 0) ∧ Below W'.heap.size W' w') := Lib.hid (fun W' K2 V2 hl hx => HC.out W' K2 V2 3 0 rfl hl hx)
  have HC1 : Hid (∀ (W' : World) (K2 V2 : Value), LS W W' k cU 1 (dm1 4 (.agg #[.int .i64 ((3 : Nat) : Int), .int .u64 2, K2, V2])) → NO W' K2 V2 [key] [1] → Calls Tryz.prog 8 #[.pointer (some ⟨k.bs, 0, none⟩), .int .u32 4, .int .i64 2] W' fun e w' => e = .returned (.int .i64 14) ∧ Below W'.heap.size W' w') := Lib.hid (fun W' K2 V2 hl hx => HC.out W' K2 V2 2 14 rfl hl hx)
  clear HC
  go_upto_region 10 with (first
    | (go_at_call 7; (with_reducible refine HPK.out.mono ?_); rintro e w1 ⟨rfl, h1⟩; obtain ⟨K2, V2, x1, l1⟩ := h1.out; have HX1 := Lib.hid x1; have HL1 := Lib.hid l1; have HQ1 := Lib.hid (HC0.out w1 K2 V2 l1 x1); clear h1 x1 l1)
    | (go_at_call 8; (with_reducible refine HQ1.out.mono ?_); rintro e w2 ⟨rfl, hb2⟩; have HX2 := Lib.hid (HX1.out.below hb2); have HL2 := Lib.hid (HL1.out.below hb2); have HQ2 := Lib.hid (HC1.out w2 K2 V2 HL2.out HX2.out); clear hb2)
    | (go_at_call 8; (with_reducible refine HQ2.out.mono ?_); rintro e w3 ⟨rfl, hb3⟩; have HL3 := Lib.hid (HL2.out.below hb3); have HR3 := Lib.hid (RS.put (key := key) HL3.out); clear hb3)
    | fail)
  have HNW : Hid (Calls Tryz.prog 14 #[.pointer (some ⟨k.bs, 0, none⟩), .agg #[.int .i64 1, .int .u64 0, .slice none 0 0, .slice none 0 0]] w3 fun e w' => e = .returned (.tuple #[.int .u32 5, .int .i64 0]) ∧ Hid (FL w'.heap.size w' k 5 14 ∧ Below W.heap.size W w')) := Lib.hid HR3.out.new
  have hroot' : ¬ (200 : Int) ≤ (root : Int) := by omega
  clear h0 HM HPK HC0 HC1 HQ1 HQ2 HX1 HX2 HL1 HL2 HL3 HR3 hroot
  go_wp2_with (first
    | (go_at_call 14; (with_reducible refine HNW.out.mono ?_); rintro e v0 ⟨rfl, hv0⟩; have HF1 := Lib.hid hv0.out.1; have HBW := Lib.hid hv0.out.2; have HB0 : Hid (Below v0.heap.size v0 v0) := Lib.hid (Below.refl _ _); have HGE : Hid (∀ W', Below v0.heap.size v0 W' → Calls Tryz.prog 9 #[.pointer (some ⟨k.bs, 0, none⟩), .int .u32 5, .int .u64 (key : Int)] W' fun e w' => e = .returned (.tuple #[.int .u64 0, .bool false, .int .i64 14]) ∧ Below W'.heap.size W' w') := Lib.hid (fun W' hb => Get_F rfl HF1.out hb hb.size key); have HAE : Hid (∀ W', Below v0.heap.size v0 W' → Calls Tryz.prog 11 #[.pointer (some ⟨k.bs, 0, none⟩), .int .u32 5, .int .u64 0] W' fun e w' => e = .returned (.tuple #[.slice none 0 0, .int .i64 14]) ∧ Below W'.heap.size W' w') := Lib.hid (fun W' hb => all_F14 HF1.out hb hb.size 0); have HCE : Hid (∀ W', Below v0.heap.size v0 W' → Calls Tryz.prog 8 #[.pointer (some ⟨k.bs, 0, none⟩), .int .u32 5, .int .i64 2] W' fun e w' => e = .returned (.int .i64 14) ∧ Below W'.heap.size W' w') := Lib.hid (fun W' hb => check_F14 HF1.out hb hb.size 2); clear hv0)
    | (go_at_call 9; (with_reducible refine (HGE.out _ HB0.out).mono ?_); rintro e v1 ⟨rfl, hb1⟩; have HB1 := Lib.hid (HB0.out.trans (hb1.mono HB0.out.size)); clear hb1)
    | (go_at_call 11; (with_reducible refine (HAE.out _ HB1.out).mono ?_); rintro e v2 ⟨rfl, hb2⟩; have HB2 := Lib.hid (HB1.out.trans (hb2.mono HB1.out.size)); clear hb2)
    | (go_at_call 8; (with_reducible refine (HCE.out _ HB2.out).mono ?_); rintro e v3 ⟨rfl, hb3⟩; have HB3 := Lib.hid (HB2.out.trans (hb3.mono HB2.out.size)); clear hb3)
    | (go_at_call 13; (with_reducible refine (HK.out _ (HBW.out.trans (HB3.out.mono HBW.out.size))).mono ?_); rintro e v9 ⟨rfl, hb9⟩)
    | fail)
  go_ret
  exact ⟨rfl, hb9⟩
set_option maxRecDepth 100000 in
set_option maxHeartbeats 16000000 in
theorem refuses_three_out (W : World) (hT : Tabs W) (hW : Wids W) (root key : Nat) (hr4 : root < 4294967296) (hk4 : key < 18446744073709551616) (hroot : 200 ≤ root) :
    Calls Tryz.prog 3 #[.int .u32 (root : Int), .int .i64 3, .int .u64 (key : Int)] W fun e w' => e = .returned (.bool true) ∧ Below W.heap.size W w' := by
  have HM : Hid (Calls Tryz.prog 6 #[] W fun e w' => ∃ k : LK, e = .returned (.pointer (some ⟨k.bs, 0, none⟩)) ∧ Hid (RS W w' k cT 0 dm0 4 4 196)) := Lib.hid ((made_ls hT hW (Below.refl _ W)).mono fun e w' ⟨k, he, h⟩ => ⟨k, he, Lib.hid (RS.start h.out)⟩)
  have HK : Hid (∀ W', Below W.heap.size W W' → Calls Tryz.prog 13 #[] W' fun e w' => e = .returned (.bool true) ∧ Below W.heap.size W w') := Lib.hid (fun W' hb => known_tree hT hW hb)
  clear hT hW
  go_enter Tryz.func3, Tryz.ntmps3
  go_upto_region 4 with (first
    | (go_at_call 6; (with_reducible refine HM.out.mono ?_); rintro e w0 ⟨k, rfl, h0⟩)
    | fail)
  have HPK : Hid (Calls Tryz.prog 7 #[.pointer (some ⟨k.bs, 0, none⟩), .int .u32 0, .int .i64 3, .int .u64 (key : Int), .int .u64 1] w0 fun e w' => e = .returned (.tuple #[.int .u32 4, .int .u64 0, .bool false, .int .i64 0]) ∧ Hid (∃ K2 V2, NO w' K2 V2 [key] [1] ∧ LS W w' k cU 1 (dm1 4 (.agg #[.int .i64 ((3 : Nat) : Int), .int .u64 2, K2, V2])))) := Lib.hid (by
    have hp := h0.out.ls.Put (by omega) 196 room_T (by omega) (by omega) (j := 4) alloc_T (by rw [turn_T]; omega) 3 key 1 rfl (may_one 3 0 key 1 (by omega))
    rw [turn_T] at hp
    exact hp.mono fun e w' ⟨he, h1⟩ => ⟨he, h1.out.2⟩)
  have HC : Hid (∀ (W' : World) (K2 V2 : Value) (kw : Nat) (er : Int), er = (if 3 = kw then 0 else 14) → LS W W' k cU 1 (dm1 4 (.agg #[.int .i64 ((3 : Nat) : Int), .int .u64 2, K2, V2])) → NO W' K2 V2 [key] [1] → Calls Tryz.prog 8 #[.pointer (some ⟨k.bs, 0, none⟩), .int .u32 4, .int .i64 (kw : Int)] W' fun e w' => e = .returned (.int .i64 er) ∧ Below W'.heap.size W' w') := Lib.hid (fun W' K2 V2 kw er her hl hx => hl.Check1 (r := 4) (kd := 3) (bi := 2) (kw := kw) (AtD.one 4 _ (by omega)) hx len_U (by omega) (by omega) (by omega) hk4 er her)
  have HC0 : Hid (∀ (W' : World) (K2 V2 : Value), LS W W' k cU 1 (dm1 4 (.agg #[.int .i64 ((3 : Nat) : Int), .int .u64 2, K2, V2])) → NO W' K2 V2 [key] [1] → Calls Tryz.prog 8 #[.pointer (some ⟨k.bs, 0, none⟩), .int .u32 4, .int .i64 3] W' fun e w' => e = .returned (.int .i64 0) ∧ Below W'.heap.size W' w') := Lib.hid (fun W' K2 V2 hl hx => HC.out W' K2 V2 3 0 rfl hl hx)
  have HC1 : Hid (∀ (W' : World) (K2 V2 : Value), LS W W' k cU 1 (dm1 4 (.agg #[.int .i64 ((3 : Nat) : Int), .int .u64 2, K2, V2])) → NO W' K2 V2 [key] [1] → Calls Tryz.prog 8 #[.pointer (some ⟨k.bs, 0, none⟩), .int .u32 4, .int .i64 2] W' fun e w' => e = .returned (.int .i64 14) ∧ Below W'.heap.size W' w') := Lib.hid (fun W' K2 V2 hl hx => HC.out W' K2 V2 2 14 rfl hl hx)
  clear HC
  go_upto_region 10 with (first
    | (go_at_call 7; (with_reducible refine HPK.out.mono ?_); rintro e w1 ⟨rfl, h1⟩; obtain ⟨K2, V2, x1, l1⟩ := h1.out; have HX1 := Lib.hid x1; have HL1 := Lib.hid l1; have HQ1 := Lib.hid (HC0.out w1 K2 V2 l1 x1); clear h1 x1 l1)
    | (go_at_call 8; (with_reducible refine HQ1.out.mono ?_); rintro e w2 ⟨rfl, hb2⟩; have HX2 := Lib.hid (HX1.out.below hb2); have HL2 := Lib.hid (HL1.out.below hb2); have HQ2 := Lib.hid (HC1.out w2 K2 V2 HL2.out HX2.out); clear hb2)
    | (go_at_call 8; (with_reducible refine HQ2.out.mono ?_); rintro e w3 ⟨rfl, hb3⟩; have HL3 := Lib.hid (HL2.out.below hb3); have HR3 := Lib.hid (RS.put (key := key) HL3.out); clear hb3)
    | fail)
  have HF1 := Lib.hid (HR3.out.fl root hroot hr4)
  have HGE : Hid (∀ W', Below w3.heap.size w3 W' → Calls Tryz.prog 9 #[.pointer (some ⟨k.bs, 0, none⟩), .int .u32 (root : Int), .int .u64 (key : Int)] W' fun e w' => e = .returned (.tuple #[.int .u64 0, .bool false, .int .i64 2]) ∧ Below W'.heap.size W' w') := Lib.hid (fun W' hb => Get_F rfl (HF1.out) hb hb.size key)
  have HPE : Hid (∀ W', Below w3.heap.size w3 W' → Calls Tryz.prog 7 #[.pointer (some ⟨k.bs, 0, none⟩), .int .u32 (root : Int), .int .i64 2, .int .u64 (key : Int), .int .u64 1] W' fun e w' => e = .returned (.tuple #[.int .u32 0, .int .u64 0, .bool false, .int .i64 2]) ∧ Below W'.heap.size W' w') := Lib.hid (fun W' hb => (HR3.out.below hb).ls.PutE _ HR3.out.room root hroot hr4 2 key 1 rfl)
  have HDE : Hid (∀ W', Below w3.heap.size w3 W' → Calls Tryz.prog 10 #[.pointer (some ⟨k.bs, 0, none⟩), .int .u32 (root : Int), .int .u64 (key : Int)] W' fun e w' => e = .returned (.tuple #[.int .u32 0, .int .u64 0, .bool false, .int .i64 2]) ∧ Below W'.heap.size W' w') := Lib.hid (fun W' hb => del_F2 HF1.out hb hb.size key)
  have HAE : Hid (∀ W', Below w3.heap.size w3 W' → Calls Tryz.prog 11 #[.pointer (some ⟨k.bs, 0, none⟩), .int .u32 (root : Int), .int .u64 0] W' fun e w' => e = .returned (.tuple #[.slice none 0 0, .int .i64 2]) ∧ Below W'.heap.size W' w') := Lib.hid (fun W' hb => all_F2 HF1.out hb hb.size 0)
  have HNE : Hid (∀ W', Below w3.heap.size w3 W' → Calls Tryz.prog 12 #[.pointer (some ⟨k.bs, 0, none⟩), .int .u32 (root : Int)] W' fun e w' => e = .returned (.tuple #[.slice none 0 0, .int .i64 2]) ∧ Below W'.heap.size W' w') := Lib.hid (fun W' hb => nodes_F2 HF1.out hb hb.size)
  have HCE : Hid (∀ W', Below w3.heap.size w3 W' → Calls Tryz.prog 8 #[.pointer (some ⟨k.bs, 0, none⟩), .int .u32 (root : Int), .int .i64 2] W' fun e w' => e = .returned (.int .i64 2) ∧ Below W'.heap.size W' w') := Lib.hid (fun W' hb => check_F2 HF1.out hb hb.size 2)
  have HBW : Hid (Below W.heap.size W w3) := Lib.hid HR3.out.ls.bel
  have HB0 : Hid (Below w3.heap.size w3 w3) := Lib.hid (Below.refl _ _)
  have hroot' : (200 : Int) ≤ (root : Int) := by omega
  clear h0 HM HPK HC0 HC1 HQ1 HQ2 HX1 HX2 HL1 HL2 HL3 HR3 HF1 hroot
  go_wp2_with (first
    | (go_at_call 9; (with_reducible refine (HGE.out _ HB0.out).mono ?_); rintro e v1 ⟨rfl, hb1⟩; have HB1 := Lib.hid (HB0.out.trans (hb1.mono HB0.out.size)); clear hb1)
    | (go_at_call 7; (with_reducible refine (HPE.out _ HB1.out).mono ?_); rintro e v2 ⟨rfl, hb2⟩; have HB2 := Lib.hid (HB1.out.trans (hb2.mono HB1.out.size)); clear hb2)
    | (go_at_call 10; (with_reducible refine (HDE.out _ HB2.out).mono ?_); rintro e v3 ⟨rfl, hb3⟩; have HB3 := Lib.hid (HB2.out.trans (hb3.mono HB2.out.size)); clear hb3)
    | (go_at_call 11; (with_reducible refine (HAE.out _ HB3.out).mono ?_); rintro e v4 ⟨rfl, hb4⟩; have HB4 := Lib.hid (HB3.out.trans (hb4.mono HB3.out.size)); clear hb4)
    | (go_at_call 12; (with_reducible refine (HNE.out _ HB4.out).mono ?_); rintro e v5 ⟨rfl, hb5⟩; have HB5 := Lib.hid (HB4.out.trans (hb5.mono HB4.out.size)); clear hb5)
    | (go_at_call 8; (with_reducible refine (HCE.out _ HB5.out).mono ?_); rintro e v6 ⟨rfl, hb6⟩; have HB6 := Lib.hid (HB5.out.trans (hb6.mono HB5.out.size)); clear hb6)
    | (go_at_call 13; (with_reducible refine (HK.out _ (HBW.out.trans (HB6.out.mono HBW.out.size))).mono ?_); rintro e v9 ⟨rfl, hb9⟩)
    | fail)
  go_ret
  exact ⟨rfl, hb9⟩
set_option maxRecDepth 100000 in
set_option maxHeartbeats 16000000 in
theorem refuses_else_in (W : World) (hT : Tabs W) (hW : Wids W) (root key : Nat) (kind : Int) (hk2 : ¬ kind = 2) (hk3 : ¬ kind = 3) (hr4 : root < 4294967296) (hk4 : key < 18446744073709551616) (hroot : root < 200) :
    Calls Tryz.prog 3 #[.int .u32 (root : Int), .int .i64 kind, .int .u64 (key : Int)] W fun e w' => e = .returned (.bool true) ∧ Below W.heap.size W w' := by
  have HM : Hid (Calls Tryz.prog 6 #[] W fun e w' => ∃ k : LK, e = .returned (.pointer (some ⟨k.bs, 0, none⟩)) ∧ Hid (RS W w' k cT 0 dm0 4 4 196)) := Lib.hid ((made_ls hT hW (Below.refl _ W)).mono fun e w' ⟨k, he, h⟩ => ⟨k, he, Lib.hid (RS.start h.out)⟩)
  have HK : Hid (∀ W', Below W.heap.size W W' → Calls Tryz.prog 13 #[] W' fun e w' => e = .returned (.bool true) ∧ Below W.heap.size W w') := Lib.hid (fun W' hb => known_tree hT hW hb)
  have n2 : (kind != 2) = true := by simpa using hk2
  have n3 : (kind != 3) = true := by simpa using hk3
  clear hT hW
  go_enter Tryz.func3, Tryz.ntmps3
  go_upto_region 4 with (first
    | (go_at_call 6; (with_reducible refine HM.out.mono ?_); rintro e w0 ⟨k, rfl, h0⟩)
    | fail)
  have HPK : Hid (Calls Tryz.prog 7 #[.pointer (some ⟨k.bs, 0, none⟩), .int .u32 0, .int .i64 kind, .int .u64 (key : Int), .int .u64 1] w0 fun e w' => e = .returned (.tuple #[.int .u32 0, .int .u64 0, .bool false, .int .i64 2]) ∧ Below w0.heap.size w0 w') := Lib.hid (h0.out.ls.PutK kind key 1 hk2 hk3)
  go_upto_region 10 with (first
    | (go_at_call 7; (with_reducible refine HPK.out.mono ?_); rintro e w1 ⟨rfl, hb1⟩; have HR1 := Lib.hid (h0.out.below hb1); clear hb1)
    | fail)
  have HNW : Hid (Calls Tryz.prog 14 #[.pointer (some ⟨k.bs, 0, none⟩), .agg #[.int .i64 1, .int .u64 0, .slice none 0 0, .slice none 0 0]] w1 fun e w' => e = .returned (.tuple #[.int .u32 4, .int .i64 0]) ∧ Hid (FL w'.heap.size w' k 4 14 ∧ Below W.heap.size W w')) := Lib.hid HR1.out.new
  have hroot' : ¬ (200 : Int) ≤ (root : Int) := by omega
  clear h0 HM HPK HR1 hroot
  go_wp2_with (first
    | (go_at_call 14; (with_reducible refine HNW.out.mono ?_); rintro e v0 ⟨rfl, hv0⟩; have HF1 := Lib.hid hv0.out.1; have HBW := Lib.hid hv0.out.2; have HB0 : Hid (Below v0.heap.size v0 v0) := Lib.hid (Below.refl _ _); have HGE : Hid (∀ W', Below v0.heap.size v0 W' → Calls Tryz.prog 9 #[.pointer (some ⟨k.bs, 0, none⟩), .int .u32 4, .int .u64 (key : Int)] W' fun e w' => e = .returned (.tuple #[.int .u64 0, .bool false, .int .i64 14]) ∧ Below W'.heap.size W' w') := Lib.hid (fun W' hb => Get_F rfl HF1.out hb hb.size key); have HAE : Hid (∀ W', Below v0.heap.size v0 W' → Calls Tryz.prog 11 #[.pointer (some ⟨k.bs, 0, none⟩), .int .u32 4, .int .u64 0] W' fun e w' => e = .returned (.tuple #[.slice none 0 0, .int .i64 14]) ∧ Below W'.heap.size W' w') := Lib.hid (fun W' hb => all_F14 HF1.out hb hb.size 0); have HCE : Hid (∀ W', Below v0.heap.size v0 W' → Calls Tryz.prog 8 #[.pointer (some ⟨k.bs, 0, none⟩), .int .u32 4, .int .i64 2] W' fun e w' => e = .returned (.int .i64 14) ∧ Below W'.heap.size W' w') := Lib.hid (fun W' hb => check_F14 HF1.out hb hb.size 2); clear hv0)
    | (go_at_call 9; (with_reducible refine (HGE.out _ HB0.out).mono ?_); rintro e v1 ⟨rfl, hb1⟩; have HB1 := Lib.hid (HB0.out.trans (hb1.mono HB0.out.size)); clear hb1)
    | (go_at_call 11; (with_reducible refine (HAE.out _ HB1.out).mono ?_); rintro e v2 ⟨rfl, hb2⟩; have HB2 := Lib.hid (HB1.out.trans (hb2.mono HB1.out.size)); clear hb2)
    | (go_at_call 8; (with_reducible refine (HCE.out _ HB2.out).mono ?_); rintro e v3 ⟨rfl, hb3⟩; have HB3 := Lib.hid (HB2.out.trans (hb3.mono HB2.out.size)); clear hb3)
    | (go_at_call 13; (with_reducible refine (HK.out _ (HBW.out.trans (HB3.out.mono HBW.out.size))).mono ?_); rintro e v9 ⟨rfl, hb9⟩)
    | fail)
  go_ret
  exact ⟨rfl, hb9⟩
set_option maxRecDepth 100000 in
set_option maxHeartbeats 16000000 in
theorem refuses_else_out (W : World) (hT : Tabs W) (hW : Wids W) (root key : Nat) (kind : Int) (hk2 : ¬ kind = 2) (hk3 : ¬ kind = 3) (hr4 : root < 4294967296) (hk4 : key < 18446744073709551616) (hroot : 200 ≤ root) :
    Calls Tryz.prog 3 #[.int .u32 (root : Int), .int .i64 kind, .int .u64 (key : Int)] W fun e w' => e = .returned (.bool true) ∧ Below W.heap.size W w' := by
  have HM : Hid (Calls Tryz.prog 6 #[] W fun e w' => ∃ k : LK, e = .returned (.pointer (some ⟨k.bs, 0, none⟩)) ∧ Hid (RS W w' k cT 0 dm0 4 4 196)) := Lib.hid ((made_ls hT hW (Below.refl _ W)).mono fun e w' ⟨k, he, h⟩ => ⟨k, he, Lib.hid (RS.start h.out)⟩)
  have HK : Hid (∀ W', Below W.heap.size W W' → Calls Tryz.prog 13 #[] W' fun e w' => e = .returned (.bool true) ∧ Below W.heap.size W w') := Lib.hid (fun W' hb => known_tree hT hW hb)
  have n2 : (kind != 2) = true := by simpa using hk2
  have n3 : (kind != 3) = true := by simpa using hk3
  clear hT hW
  go_enter Tryz.func3, Tryz.ntmps3
  go_upto_region 4 with (first
    | (go_at_call 6; (with_reducible refine HM.out.mono ?_); rintro e w0 ⟨k, rfl, h0⟩)
    | fail)
  have HPK : Hid (Calls Tryz.prog 7 #[.pointer (some ⟨k.bs, 0, none⟩), .int .u32 0, .int .i64 kind, .int .u64 (key : Int), .int .u64 1] w0 fun e w' => e = .returned (.tuple #[.int .u32 0, .int .u64 0, .bool false, .int .i64 2]) ∧ Below w0.heap.size w0 w') := Lib.hid (h0.out.ls.PutK kind key 1 hk2 hk3)
  go_upto_region 10 with (first
    | (go_at_call 7; (with_reducible refine HPK.out.mono ?_); rintro e w1 ⟨rfl, hb1⟩; have HR1 := Lib.hid (h0.out.below hb1); clear hb1)
    | fail)
  have HF1 := Lib.hid (HR1.out.fl root hroot hr4)
  have HGE : Hid (∀ W', Below w1.heap.size w1 W' → Calls Tryz.prog 9 #[.pointer (some ⟨k.bs, 0, none⟩), .int .u32 (root : Int), .int .u64 (key : Int)] W' fun e w' => e = .returned (.tuple #[.int .u64 0, .bool false, .int .i64 2]) ∧ Below W'.heap.size W' w') := Lib.hid (fun W' hb => Get_F rfl (HF1.out) hb hb.size key)
  have HPE : Hid (∀ W', Below w1.heap.size w1 W' → Calls Tryz.prog 7 #[.pointer (some ⟨k.bs, 0, none⟩), .int .u32 (root : Int), .int .i64 2, .int .u64 (key : Int), .int .u64 1] W' fun e w' => e = .returned (.tuple #[.int .u32 0, .int .u64 0, .bool false, .int .i64 2]) ∧ Below W'.heap.size W' w') := Lib.hid (fun W' hb => (HR1.out.below hb).ls.PutE _ HR1.out.room root hroot hr4 2 key 1 rfl)
  have HDE : Hid (∀ W', Below w1.heap.size w1 W' → Calls Tryz.prog 10 #[.pointer (some ⟨k.bs, 0, none⟩), .int .u32 (root : Int), .int .u64 (key : Int)] W' fun e w' => e = .returned (.tuple #[.int .u32 0, .int .u64 0, .bool false, .int .i64 2]) ∧ Below W'.heap.size W' w') := Lib.hid (fun W' hb => del_F2 HF1.out hb hb.size key)
  have HAE : Hid (∀ W', Below w1.heap.size w1 W' → Calls Tryz.prog 11 #[.pointer (some ⟨k.bs, 0, none⟩), .int .u32 (root : Int), .int .u64 0] W' fun e w' => e = .returned (.tuple #[.slice none 0 0, .int .i64 2]) ∧ Below W'.heap.size W' w') := Lib.hid (fun W' hb => all_F2 HF1.out hb hb.size 0)
  have HNE : Hid (∀ W', Below w1.heap.size w1 W' → Calls Tryz.prog 12 #[.pointer (some ⟨k.bs, 0, none⟩), .int .u32 (root : Int)] W' fun e w' => e = .returned (.tuple #[.slice none 0 0, .int .i64 2]) ∧ Below W'.heap.size W' w') := Lib.hid (fun W' hb => nodes_F2 HF1.out hb hb.size)
  have HCE : Hid (∀ W', Below w1.heap.size w1 W' → Calls Tryz.prog 8 #[.pointer (some ⟨k.bs, 0, none⟩), .int .u32 (root : Int), .int .i64 2] W' fun e w' => e = .returned (.int .i64 2) ∧ Below W'.heap.size W' w') := Lib.hid (fun W' hb => check_F2 HF1.out hb hb.size 2)
  have HBW : Hid (Below W.heap.size W w1) := Lib.hid HR1.out.ls.bel
  have HB0 : Hid (Below w1.heap.size w1 w1) := Lib.hid (Below.refl _ _)
  have hroot' : (200 : Int) ≤ (root : Int) := by omega
  clear h0 HM HPK HR1 HF1 hroot
  go_wp2_with (first
    | (go_at_call 9; (with_reducible refine (HGE.out _ HB0.out).mono ?_); rintro e v1 ⟨rfl, hb1⟩; have HB1 := Lib.hid (HB0.out.trans (hb1.mono HB0.out.size)); clear hb1)
    | (go_at_call 7; (with_reducible refine (HPE.out _ HB1.out).mono ?_); rintro e v2 ⟨rfl, hb2⟩; have HB2 := Lib.hid (HB1.out.trans (hb2.mono HB1.out.size)); clear hb2)
    | (go_at_call 10; (with_reducible refine (HDE.out _ HB2.out).mono ?_); rintro e v3 ⟨rfl, hb3⟩; have HB3 := Lib.hid (HB2.out.trans (hb3.mono HB2.out.size)); clear hb3)
    | (go_at_call 11; (with_reducible refine (HAE.out _ HB3.out).mono ?_); rintro e v4 ⟨rfl, hb4⟩; have HB4 := Lib.hid (HB3.out.trans (hb4.mono HB3.out.size)); clear hb4)
    | (go_at_call 12; (with_reducible refine (HNE.out _ HB4.out).mono ?_); rintro e v5 ⟨rfl, hb5⟩; have HB5 := Lib.hid (HB4.out.trans (hb5.mono HB4.out.size)); clear hb5)
    | (go_at_call 8; (with_reducible refine (HCE.out _ HB5.out).mono ?_); rintro e v6 ⟨rfl, hb6⟩; have HB6 := Lib.hid (HB5.out.trans (hb6.mono HB5.out.size)); clear hb6)
    | (go_at_call 13; (with_reducible refine (HK.out _ (HBW.out.trans (HB6.out.mono HBW.out.size))).mono ?_); rintro e v9 ⟨rfl, hb9⟩)
    | fail)
  go_ret
  exact ⟨rfl, hb9⟩
theorem refuses_law (W : World) (hT : Tabs W) (hW : Wids W) (root : Nat) (kind : Int) (key : Nat) (hr4 : root < 4294967296) (hk4 : key < 18446744073709551616) :
    Calls Tryz.prog 3 #[.int .u32 (root : Int), .int .i64 kind, .int .u64 (key : Int)] W fun e w' => e = .returned (.bool true) ∧ Below W.heap.size W w' := by
  by_cases h2 : kind = 2
  · subst h2
    rcases Nat.lt_or_ge root 200 with h | h
    · exact refuses_two_in W hT hW root key hr4 hk4 h
    · exact refuses_two_out W hT hW root key hr4 hk4 h
  by_cases h3 : kind = 3
  · subst h3
    rcases Nat.lt_or_ge root 200 with h | h
    · exact refuses_three_in W hT hW root key hr4 hk4 h
    · exact refuses_three_out W hT hW root key hr4 hk4 h
  rcases Nat.lt_or_ge root 200 with h | h
  · exact refuses_else_in W hT hW root key kind h2 h3 hr4 hk4 h
  · exact refuses_else_out W hT hW root key kind h2 h3 hr4 hk4 h
end Go.Proofs.YtoclhiaidbfheaaGreatDoor.T
