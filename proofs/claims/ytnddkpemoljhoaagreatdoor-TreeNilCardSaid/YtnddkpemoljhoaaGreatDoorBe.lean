/- The program's Block, of a node that may be. -/
import Derived.Test.YtnddkpemoljhoaaGreatDoorBd
set_option linter.unusedVariables false
namespace Go.Proofs.YtnddkpemoljhoaaGreatDoor
open Go.RowKit

/-- while a block is laid -/
structure LS (w wr : World) (bn rc bb ba : Nat) (nd : Array Value) (pre : List UInt8) : Prop where
  node : wr.heap[bn]? = some (.cells nd 62 (0, 0))
  res : Holds8 wr rc 153 noughts
  blk : Holds8 wr bb 153 ([0, 0, 0, 0] ++ pre ++ List.replicate (252 - pre.length) 0)
  at_ : wr.heap[ba]? = some (.cells #[.int .i64 ((4 + pre.length : Nat) : Int)] 3 (0, 0))
  bel : Below w.heap.size w wr
  n1 : bn ≠ bb
  n2 : bn ≠ ba
  n3 : rc ≠ bb
  n4 : rc ≠ ba
  n5 : bb ≠ ba
  n6 : w.heap.size ≤ bb
  n7 : w.heap.size ≤ ba
theorem LS.cell {w wr : World} {bn rc bb ba : Nat} {nd : Array Value} {pre : List UInt8} (h : LS w wr bn rc bb ba nd pre) (i : Nat) : wr.cell? ⟨bn, i, none⟩ = nd[i]? := by
  rw [cell_of_row wr bn i _ _ _ h.node]
theorem LS.lay {w wr : World} {bn rc bb ba : Nat} {nd : Array Value} {pre : List UInt8} (h : LS w wr bn rc bb ba nd pre) (k n : Nat) (h8 : k ≤ 8) (hl : pre.length + k ≤ 252) :
    Calls Tryz.prog 190 #[.int .i64 (k : Int), .int .u64 (n : Int), .pointer (some ⟨bb, 0, none⟩), .pointer (some ⟨ba, 0, none⟩)] wr fun e w' => e = .returned (.tuple #[]) ∧ LS w w' bn rc bb ba nd (pre ++ leN k n) := by
  have hb := h.blk
  have hr : List.replicate (252 - pre.length) (0 : UInt8) = List.replicate k 0 ++ List.replicate (252 - (pre ++ leN k n).length) 0 := by
    rw [List.replicate_append_replicate]
    congr 1
    simp [leN_length]; omega
  rw [hr] at hb
  have hlen : ([0, 0, 0, 0] ++ pre).length = 4 + pre.length := by simp; omega
  have ha := h.at_
  rw [← hlen] at ha
  have hc := lay_any wr bb ba ([0, 0, 0, 0] ++ pre) (List.replicate (252 - (pre ++ leN k n).length) 0) (List.replicate k 0) n (by simpa using h8) (by simp [leN_length]; omega) hb ha h.n5
  rw [List.length_replicate] at hc
  refine hc.mono fun e w' hp => ?_
  obtain ⟨he, h1, h2, h3⟩ := hp
  refine ⟨he, (h3.block _ h.n1 h.n2).trans h.node, (h3.block _ h.n3 h.n4).trans h.res, ?_, ?_, h.bel.trans (h3.below h.n6 h.n7), h.n1, h.n2, h.n3, h.n4, h.n5, h.n6, h.n7⟩
  · have e : [0, 0, 0, 0] ++ (pre ++ leN k n) ++ List.replicate (252 - (pre ++ leN k n).length) 0 = [0, 0, 0, 0] ++ pre ++ (leN k n ++ List.replicate (252 - (pre ++ leN k n).length) 0) := by simp [List.append_assoc]
    rw [e]
    exact h1
  · rw [h2, hlen, List.length_append, leN_length]
    congr 5
    omega
theorem LS.lay' {w wr : World} {bn rc bb ba : Nat} {nd : Array Value} {pre : List UInt8} (h : LS w wr bn rc bb ba nd pre) (k n : Nat) (K N : Int) (hK : K = k) (hN : N = n) (h8 : k ≤ 8) (hl : pre.length + k ≤ 252) :
    Calls Tryz.prog 190 #[.int .i64 K, .int .u64 N, .pointer (some ⟨bb, 0, none⟩), .pointer (some ⟨ba, 0, none⟩)] wr fun e w' => e = .returned (.tuple #[]) ∧ Hid (LS w w' bn rc bb ba nd (pre ++ leN k n)) := by
  subst hK hN
  exact h.lay k n h8 hl
theorem leN_one (n : Nat) : leN 1 n = [UInt8.ofNat n] := rfl
theorem LS.start {w w1 : World} {nd : Array Value} (hb : Below w.heap.size w w1) (hz : w.heap.size + 1 < w1.heap.size) (hg : w1.heap[w.heap.size]? = some (.cells nd 62 (0, 0))) (hr : Holds8 w1 (w.heap.size + 1) 153 noughts) :
    LS w ((w1.alloc (.cells (cells8 noughts).toArray 153)).alloc (.cells #[.int .i64 4] 3)) w.heap.size (w.heap.size + 1) w1.heap.size (w1.heap.size + 1) nd [] := by
  have h2 : ((w1.alloc (.cells (cells8 noughts).toArray 153)).alloc (.cells #[.int .i64 4] 3)).heap[w1.heap.size + 1]? = some (.cells #[.int .i64 4] 3 (0, 0)) := by
    have := heap_alloc_new (w1.alloc (.cells (cells8 noughts).toArray 153)) (.cells #[.int .i64 4] 3)
    simpa using this
  refine ⟨?_, (hr.alloc _).alloc _, ((Holds8.new w1 _ noughts _ rfl).alloc _), h2, (hb.alloc hb.size _).alloc (by have := hb.size; simp; omega) _, by omega, by omega, by omega, by omega, by omega, by omega, by omega⟩
  rw [Below.heap_alloc _ _ _ (by simp; omega), Below.heap_alloc _ _ _ (by omega)]
  exact hg

theorem LS.final {w wr : World} {bn rc bb ba : Nat} {nd : Array Value} {pre : List UInt8} (h : LS w wr bn rc bb ba nd pre) (h252 : pre.length ≤ 252) (hT : Tabs w) :
    (∀ W, W = wr.setCell ⟨ba, 0, none⟩ (.int .i64 0) → Calls Tryz.prog 141 #[.slice (some ⟨bb, 4, none⟩) 252 252] W fun e w' => e = .returned (.int .u32 ((sumB (padB pre) : Nat) : Int)) ∧
      ∀ N : Int, N = (sumB (padB pre) : Nat) → Calls Tryz.prog 190 #[.int .i64 4, .int .u64 N, .pointer (some ⟨bb, 0, none⟩), .pointer (some ⟨ba, 0, none⟩)] w' fun e w2 => e = .returned (.tuple #[]) ∧ Hid (Holds8 w2 bb 153 (summed (padB pre)) ∧ Holds8 w2 rc 153 noughts ∧ Below w.heap.size w w2)) := by
  intro W hW
  subst hW
  have hp := padB_length pre h252
  have hb0 : Holds8 (wr.setCell ⟨ba, 0, none⟩ (.int .i64 0)) bb 153 ([0, 0, 0, 0] ++ padB pre) := by
    have := h.blk.other (a := ⟨ba, 0, none⟩) h.n5 (.int .i64 0)
    rw [List.append_assoc] at this
    exact this
  have ha0 : (wr.setCell ⟨ba, 0, none⟩ (.int .i64 0)).heap[ba]? = some (.cells #[.int .i64 0] 3 (0, 0)) := one_setCell h.at_
  have hbel : Below w.heap.size w (wr.setCell ⟨ba, 0, none⟩ (.int .i64 0)) := h.bel.setCell h.n7 _
  have hr0 := h.res.other (a := ⟨ba, 0, none⟩) h.n4 (.int .i64 0)
  generalize wr.setCell ⟨ba, 0, none⟩ (.int .i64 0) = W at *
  have hsh : Shows W W.heap.size (some ⟨bb, 4, none⟩) (padB pre).length (cells8 (padB pre)) := by
    have := hb0.shows.from_ (k := 4) (cap := 256) (by simp) (by simp [hp])
    rw [if_neg (by omega), ← cells8_drop] at this
    simpa [Addr.add] using this
  have hsum := sum_any W.heap.size (some ⟨bb, 4, none⟩) 252 (padB pre) W (hT.below hbel hT.size) hsh (Nat.le_refl _) (by omega)
  rw [hp] at hsum
  refine hsum.mono fun e w' hq => ⟨hq.1, fun N hN => ?_⟩
  subst hN
  have hb1 : Holds8 w' bb 153 ([] ++ ([0, 0, 0, 0] ++ padB pre)) := hb0.below hq.2
  have ha1 : w'.heap[ba]? = some (.cells #[.int .i64 ((([] : List UInt8).length : Nat) : Int)] 3 (0, 0)) := (hq.2.block ba (lt_of_block ha0)).trans ha0
  refine (lay_any w' bb ba [] (padB pre) [0, 0, 0, 0] _ (by simp) (by simp [hp]) hb1 ha1 h.n5).mono fun e w2 hq2 => ?_
  obtain ⟨he, k1, k2, k3⟩ := hq2
  refine ⟨he, k1, (k3.block _ h.n3 h.n4).trans (hr0.below hq.2), (hbel.trans (hq.2.mono hbel.size)).trans (k3.below h.n6 h.n7)⟩

set_option maxHeartbeats 2000000 in
set_option maxRecDepth 10000 in
theorem block_okn (w : World) (hT : Tabs w) (no : Nat) (hno : no < 4294967296) (kind : Nat) (birth : Nat) (keys vals : List Nat) (hm : mayB ⟨(kind : Int), birth, keys, vals⟩ = true) (A A' : Option Addr) (ck cv : Nat) (hs : Shows w w.heap.size A keys.length (nums64 keys)) (hv : Shows w w.heap.size A' vals.length (nums64 vals)) :
    Calls Tryz.prog 184 #[.int .u32 no, .agg #[.int .i64 (kind : Int), .int .u64 (birth : Int), .slice A keys.length ck, .slice A' vals.length cv]] w fun e w' => e = .returned (.tuple #[.agg (cells8 (img no ⟨(kind : Int), birth, keys, vals⟩)).toArray, .int .i64 0]) ∧ Below w.heap.size w w' := by
  have hz := blk_zero
  have hcs := cells8_size noughts
  have hl := noughts_len
  obtain ⟨⟨hk1, hk3⟩, h6, hvk, _⟩ := mayB_yes hm
  simp only at hk1 hk3 h6 hvk
  have HM := Lib.hid (fun (w' : World) (hb : Below w.heap.size w w') => may_any w' (kind : Int) birth keys vals A A' ck cv (hs.on hb))
  rw [hm] at HM
  have hmf : ∀ (fn : Fn) (first cap : Array Value) (w : World), (Instr.makeFunc fn first cap).run Tryz.prog w = .ok (.func fn first cap) w := fun _ _ _ _ => rfl
  have HVK := Lib.hid hvk
  have HL := Lib.hid hl
  have HCS := Lib.hid hcs
  have HS := Lib.hid hs
  have HV := Lib.hid hv
  have HT := Lib.hid hT
  clear hm hs hv hvk hl hcs hT
  have h000 : ([0, 0, 0, 0] ++ [] ++ List.replicate (252 - ([] : List UInt8).length) 0 : List UInt8) = noughts := by unfold noughts; rfl
  have H000 := Lib.hid h000
  clear h000
  generalize hnz : noughts = z at *
  go_enter Tryz.func184, Tryz.ntmps184
  go_wp2_with fail
  have hb0 := ((Below.refl w.heap.size w).alloc (Nat.le_refl _) (.cells #[.int .i64 (kind : Int), .int .u64 (birth : Int), .slice A keys.length ck, .slice A' vals.length cv] 62)).alloc (by simp) (.cells (cells8 z).toArray 153)
  have g0 : Holds8 ((w.alloc (.cells #[.int .i64 (kind : Int), .int .u64 (birth : Int), .slice A keys.length ck, .slice A' vals.length cv] 62)).alloc (.cells (cells8 z).toArray 153)) (w.heap.size + 1) 153 z := by
    have := Holds8.new (w.alloc (.cells #[.int .i64 (kind : Int), .int .u64 (birth : Int), .slice A keys.length ck, .slice A' vals.length cv] 62)) 153 z _ rfl
    simpa using this
  refine (HM.out _ hb0).mono ?_
  rintro e w1 ⟨rfl, hb1⟩
  have hg1 := (Below.heap_alloc _ (.cells (cells8 z).toArray 153) w.heap.size (by simp)).trans (heap_alloc_new w (.cells #[.int .i64 (kind : Int), .int .u64 (birth : Int), .slice A keys.length ck, .slice A' vals.length cv] 62))
  have hg2 := (hb1.block _ (by simp; omega)).trans hg1
  have hz1 : w.heap.size + 1 < w1.heap.size := by have := hb1.size; simp at this; omega
  have hg := g0.below hb1
  rw [← hnz] at hg
  have hLS := LS.start (hb0.trans (hb1.mono hb0.size)) hz1 hg2 hg
  rw [hnz] at hLS
  have H2 := Lib.hid hLS
  have c0 : ((w1.alloc (.cells (cells8 z).toArray 153)).alloc (.cells #[.int .i64 4] 3)).cell? ⟨w.heap.size, 0, none⟩ = some (.int .i64 (kind : Int)) := hLS.cell 0
  have hL2 := H2.out.lay' 1 kind 1 (kind : Int) rfl rfl (by omega) (by simp)
  have HZ := Lib.hid hnz
  clear hg1 hg2 hb0 hb1 g0 hLS hg hnz
  have HL2 := Lib.hid hL2
  clear hL2 H2
  go_wp2_with fail
  (with_reducible refine HL2.out.mono ?_)
  rintro e w2 ⟨rfl, H3⟩
  have c2 : w2.cell? ⟨w.heap.size, 2, none⟩ = some (.slice A keys.length ck) := H3.out.cell 2
  have hL2 := H3.out.lay' 1 keys.length 1 (keys.length : Int) rfl rfl (by omega) (by simp [leN_length])
  clear HL2 H3 c0
  have HL2 := Lib.hid hL2
  clear hL2
  go_wp2_with fail
  (with_reducible refine HL2.out.mono ?_)
  rintro e w3 ⟨rfl, H3⟩
  have hL2 := H3.out.lay' 2 0 2 0 rfl rfl (by omega) (by simp [leN_length])
  clear HL2 H3 c2
  have HL2 := Lib.hid hL2
  clear hL2
  go_wp2_with fail
  (with_reducible refine HL2.out.mono ?_)
  rintro e w4 ⟨rfl, H3⟩
  have hL2 := H3.out.lay' 4 no 4 (no : Int) rfl rfl (by omega) (by simp [leN_length])
  clear HL2 H3
  have HL2 := Lib.hid hL2
  clear hL2
  go_wp2_with fail
  (with_reducible refine HL2.out.mono ?_)
  rintro e w5 ⟨rfl, H3⟩
  have c1 : w5.cell? ⟨w.heap.size, 1, none⟩ = some (.int .u64 (birth : Int)) := H3.out.cell 1
  have hL2 := H3.out.lay' 8 birth 8 (birth : Int) rfl rfl (by omega) (by simp [leN_length])
  clear HL2 H3
  have HL2 := Lib.hid hL2
  clear hL2
  go_wp2_with fail
  (with_reducible refine HL2.out.mono ?_)
  rintro e w6 ⟨rfl, H3⟩
  have c2 : w6.cell? ⟨w.heap.size, 2, none⟩ = some (.slice A keys.length ck) := H3.out.cell 2
  have hh : [] ++ leN 1 kind ++ leN 1 keys.length ++ leN 2 0 ++ leN 4 no ++ leN 8 birth = headB no ⟨(kind : Int), birth, keys, vals⟩ := by simp [leN, headB]
  rw [hh] at H3
  clear HL2 hh c1
  go_wp2
  have hnl := headB_length no ⟨(kind : Int), birth, keys, vals⟩
  have HNL := Lib.hid hnl
  clear hnl c2
  go_loopw [40] (fun j wr => ∃ i : Nat, i ≤ keys.length ∧ j = .int .i64 (i : Int) ∧ Hid (LS w wr w.heap.size (w.heap.size + 1) w1.heap.size (w1.heap.size + 1) #[.int .i64 (kind : Int), .int .u64 (birth : Int), .slice A keys.length ck, .slice A' vals.length cv] (headB no ⟨(kind : Int), birth, keys, vals⟩ ++ pairsB keys vals i))) (fun j _ => keys.length - (intOf j).toNat)
  case atStart => exact ⟨0, Nat.zero_le _, rfl, by rw [pairsB, List.append_nil]; exact H3⟩
  case round =>
    obtain ⟨i, hi, rfl, H4⟩ := hrel
    by_cases hlt : i < keys.length
    · have hpl := pairsB_length keys vals i
      obtain ⟨p, rfl, hp, hck⟩ := (HS.out.below H4.out.bel).num i hlt
      obtain ⟨p2, rfl, hp2, hcv⟩ := (HV.out.below H4.out.bel).num i (by rw [HVK.out]; exact hlt)
      have hltI : (i : Int) < (keys.length : Int) := by omega
      have hltV : (i : Int) < (vals.length : Int) := by rw [HVK.out]; exact hltI
      have hL1 := H4.out.lay' 8 (keys.getD i 0) 8 (keys.getD i 0 : Nat) rfl rfl (by omega) (by rw [List.length_append, HNL.out, hpl]; omega)
      have hsuc : headB no ⟨(kind : Int), birth, keys, vals⟩ ++ pairsB keys vals (i + 1) = headB no ⟨(kind : Int), birth, keys, vals⟩ ++ pairsB keys vals i ++ leN 8 (keys.getD i 0) ++ leN 8 (vals.getD i 0) := by rw [pairsB]; simp [List.append_assoc]
      have hlen : (headB no ⟨(kind : Int), birth, keys, vals⟩ ++ pairsB keys vals i ++ leN 8 (keys.getD i 0)).length + 8 ≤ 252 := by simp only [List.length_append, HNL.out, hpl, leN_length]; omega
      have HSUC := Lib.hid hsuc
      have HLEN := Lib.hid hlen
      have HL1 := Lib.hid hL1
      have HCV : Hid (∀ W, Below w.heap.size w W → W.cell? (p2.add i) = some (.int .u64 ((vals.getD i 0 : Nat) : Int))) := fun W hW => by
        rw [hW.cell (p := p2.add i) (by rw [addr_block]; exact hp2)]
        rw [H4.out.bel.cell (p := p2.add i) (by rw [addr_block]; exact hp2)] at hcv
        exact hcv
      clear hL1 hsuc hlen hpl hcv H4
      generalize keys.getD i 0 = x at *
      generalize vals.getD i 0 = y at *
      go_wp2_with fail
      (with_reducible refine HL1.out.mono ?_)
      rintro e w7 ⟨rfl, H5⟩
      have c3 : w7.cell? ⟨w.heap.size, 3, none⟩ = some (.slice (some p2) vals.length cv) := H5.out.cell 3
      have hcv := HCV.out _ H5.out.bel
      have hL1 := H5.out.lay' 8 y 8 (y : Int) rfl rfl (by omega) HLEN.out
      clear HL1 H5 hck
      have HL1 := Lib.hid hL1
      clear hL1
      go_wp2_with fail
      (with_reducible refine HL1.out.mono ?_)
      rintro e w8 ⟨rfl, H5⟩
      rw [← HSUC.out] at H5
      clear HL1 hcv c3
      go_wp2
      go_roundw
      case rel => exact ⟨i + 1, hlt, by go_num, H5⟩
      case measure => simp [intOf]; omega
    · obtain rfl : i = keys.length := by omega
      have hltI : ¬ (keys.length : Int) < (keys.length : Int) := by omega
      have c7 : wr.cell? ⟨w1.heap.size + 1, 0, none⟩ = some (.int .i64 ((4 + (headB no ⟨(kind : Int), birth, keys, vals⟩ ++ pairsB keys vals keys.length).length : Nat) : Int)) := cell_of_one H4.out.at_
      have f7 := free_of_one H4.out.at_
      have hb7 := H4.out.blk
      have HF := Lib.hid (H4.out.final (by rw [List.length_append, HNL.out, pairsB_length]; omega) HT.out)
      have himg : summed (padB (headB no ⟨(kind : Int), birth, keys, vals⟩ ++ pairsB keys vals keys.length)) = img no ⟨(kind : Int), birth, keys, vals⟩ := rfl
      have hil := img_length no ⟨(kind : Int), birth, keys, vals⟩ h6
      rw [himg, HZ.out] at HF
      have hs32 := sumB_lt (padB (headB no ⟨(kind : Int), birth, keys, vals⟩ ++ pairsB keys vals keys.length))
      clear H4 himg hb7
      generalize ((4 + (headB no ⟨(kind : Int), birth, keys, vals⟩ ++ pairsB keys vals keys.length).length : Nat) : Int) = q at *
      generalize sumB (padB (headB no ⟨(kind : Int), birth, keys, vals⟩ ++ pairsB keys vals keys.length)) = s at *
      generalize hI : img no ⟨(kind : Int), birth, keys, vals⟩ = I at *
      have HI := Lib.hid hI
      have HIL : Hid ((cells8 I).toArray.size = 256) := (cells8_size I).trans hil
      clear hI hil
      go_wp2_with fail
      (with_reducible refine (HF.out _ rfl).mono ?_)
      rintro e w8 ⟨rfl, HQ⟩
      go_wp2_with fail
      (with_reducible refine (HQ _ rfl).mono ?_)
      rintro e w9 ⟨rfl, HR⟩
      clear HQ HF c7 f7
      go_wp2_with (first
        | refine wpList_load_row rfl 153 (.tmp 6) rfl w1.heap.size rfl 153 (cells8 I).toArray (0, 0) _ HR.out.1 Tryz.underlying153 rfl (by rw [blk_size, HIL.out]) ?_
        | refine wpList_store_row rfl 153 (.tmp 4) (.tmp 61) rfl (w.heap.size + 1) (cells8 I).toArray rfl rfl 153 (cells8 z).toArray HR.out.2.1 (by rw [blk_size, HIL.out]) (by rw [HCS.out, HL.out, HIL.out]) (cells8_all _) ?_
        | fail)
      exact bodyPost_ret (results_cell_tmp rfl _ _ (w.heap.size + 1) 153 (cells8 I).toArray (0, 0) _ (.int .i64 0) rfl rfl (HR.out.2.1.row I) Tryz.underlying153 rfl (by rw [blk_size, HIL.out])) rfl ⟨by rw [HI.out], below_setRow HR.out.2.2 (by simp) _⟩

theorem block_ok (w : World) (hT : Tabs w) (no : Nat) (hno : no < 4294967296) (kind : Int) (birth : Nat) (keys vals : List Nat) (hm : mayB ⟨kind, birth, keys, vals⟩ = true) (A A' : Option Addr) (ck cv : Nat) (hs : Shows w w.heap.size A keys.length (nums64 keys)) (hv : Shows w w.heap.size A' vals.length (nums64 vals)) :
    Calls Tryz.prog 184 #[.int .u32 no, .agg #[.int .i64 kind, .int .u64 (birth : Int), .slice A keys.length ck, .slice A' vals.length cv]] w fun e w' => e = .returned (.tuple #[.agg (cells8 (img no ⟨kind, birth, keys, vals⟩)).toArray, .int .i64 0]) ∧ Below w.heap.size w w' := by
  obtain ⟨k, rfl⟩ := Int.eq_ofNat_of_zero_le (show 0 ≤ kind by have := (mayB_yes hm).1.1; simp only at this; omega)
  exact block_okn w hT no hno k birth keys vals hm A A' ck cv hs hv
end Go.Proofs.YtnddkpemoljhoaaGreatDoor
