/- The document's sum, Number, Flag, Bytes and Block. -/
import Derived.Test.YthjbchdpnlenjaaRpa
import Derived.Great.BuildSlice
import Derived.Great.Walk
import Derived.Laws.Rows
namespace Go.Proofs.Ythjbchdpnlenjaa
open Go.RowKit

theorem unit_lt (i : Nat) (h : i < 8) : 256 ^ i < 18446744073709551616 := Nat.lt_of_le_of_lt (Nat.pow_le_pow_right (by omega) (show i ≤ 7 by omega)) (by decide)
theorem sum_step (n b i : Nat) (hi : i < 8) (hn : n < 256 ^ i) (hb : b < 256) : n + b * 256 ^ i < 18446744073709551616 := by
  have h1 : n + b * 256 ^ i < 256 ^ (i + 1) := by
    rw [Nat.pow_succ]
    have : b * 256 ^ i ≤ 255 * 256 ^ i := Nat.mul_le_mul_right _ (by omega)
    omega
  exact Nat.lt_of_lt_of_le h1 (Nat.le_trans (Nat.pow_le_pow_right (by omega) (show i + 1 ≤ 8 by omega)) (by decide))

theorem w64 (n : Nat) (h : n < 18446744073709551616) : IntKind.u64.wrap (n : Int) = (n : Int) := by rw [IntKind.wrap_u64]; omega
theorem sum_wrap1 (b u : Nat) (h : b * u < 18446744073709551616) : IntKind.u64.wrap ((b : Int) * (u : Int)) = ((b * u : Nat) : Int) := by rw [← Int.natCast_mul]; exact w64 _ h
theorem sum_wrap2 (n m : Nat) (h : n + m < 18446744073709551616) : IntKind.u64.wrap ((n : Int) + (m : Int)) = ((n + m : Nat) : Int) := by rw [← Int.natCast_add]; exact w64 _ h

set_option maxRecDepth 10000 in
set_option maxHeartbeats 1000000 in
theorem rsum_any (B : Nat) (A : Option Addr) (c : Nat) (l : List UInt8) (w : World) (hs : Shows w B A l.length (cells8 l)) (hl : l.length ≤ 8) :
    Calls Try.prog 36 #[.slice A l.length c] w fun e w' => e = .returned (.int .u64 (num8 l : Int)) ∧ w = w' := by
  go_enter Try.func36, Try.ntmps36
  go_wp2
  go_loop [3, 4, 5] (fun x q j => ∃ i u : Nat, i ≤ l.length ∧ j = .int .i64 i ∧ x = .int .u64 ((num8 (l.take i) : Nat) : Int) ∧ q = .int .u64 (u : Int) ∧ Hid (i < 8 → u = 256 ^ i))
    (fun _ _ j => l.length - (intOf j).toNat)
  case atStart => exact ⟨0, 1, Nat.zero_le _, rfl, by simp [num8], rfl, fun _ => rfl⟩
  case round =>
    obtain ⟨i, u, hiw, rfl, rfl, rfl, HU⟩ := hrel
    by_cases hlt : i < l.length
    · obtain ⟨p, u1, rfl, hp, hu, hcell⟩ := hs.cell hlt
      rw [cells8_get l i hlt] at hu
      injection hu with hu
      subst hu
      have hu2 := HU.out (by omega)
      subst hu2
      have hxl : num8 (l.take i) < 256 ^ i := by
        have := num8_lt (l.take i)
        rw [List.length_take, Nat.min_eq_left (by omega)] at this
        exact this
      have hstep := sum_step _ (l[i]).toNat i (by omega) hxl (l[i]).toNat_lt
      have hnx : num8 (l.take (i + 1)) = num8 (l.take i) + (l[i]).toNat * 256 ^ i := by
        rw [List.take_succ_eq_append_getElem hlt, num8_snoc, List.length_take, Nat.min_eq_left (by omega)]
      have h1 := sum_wrap1 (l[i]).toNat (256 ^ i) (by omega)
      have h2 := sum_wrap2 (num8 (l.take i)) ((l[i]).toNat * 256 ^ i) hstep
      rw [← hnx] at h2
      obtain ⟨m, hm, hm2⟩ : ∃ m : Nat, IntKind.u64.wrap (((256 ^ i : Nat) : Int) * 256) = (m : Int) ∧ (i + 1 < 8 → m = 256 ^ (i + 1)) := by
        refine ⟨(IntKind.u64.wrap (((256 ^ i : Nat) : Int) * 256)).toNat, ?_, fun h => ?_⟩
        · rw [IntKind.wrap_u64]; omega
        · have := unit_lt (i + 1) h
          rw [IntKind.wrap_u64]
          rw [Nat.pow_succ] at this ⊢
          omega
      have hbw := w64 (l[i]).toNat (by have := (l[i]).toNat_lt; omega)
      have HM := Lib.hid hm2
      generalize num8 (l.take i) = x at *
      generalize hx2 : num8 (l.take (i + 1)) = x2 at *
      have HX2 := Lib.hid hx2
      clear hx2
      generalize (l[i]).toNat * 256 ^ i = y at *
      generalize 256 ^ i = u at *
      generalize (l[i]).toNat = b at *
      clear hnx hm2 hxl hstep hs HU
      go_wp2
      go_round
      case rel => exact ⟨i + 1, m, hlt, by go_num, by rw [HX2.out], rfl, HM⟩
      case measure => simp [intOf]; omega
    · go_wp2
      go_ret
      obtain rfl : i = l.length := by omega
      rw [List.take_length]
      exact ⟨rfl, rfl⟩

/-- the document's values -/
def lvN (n : Nat) : LVal := ⟨56, n, false, [], zeros256⟩
def lvF (b : Bool) : LVal := ⟨63, 0, b, [], zeros256⟩
def lvB (l : List UInt8) : LVal := ⟨42, 0, false, l, zeros256⟩
def lvX (l : List UInt8) : LVal := ⟨35, 0, false, [], l⟩
theorem lv0_len : (lvCells lv0 none 0).length = 260 := lv_length zeros256_length _ _

theorem built_num (n : Nat) : Try.prog.built 54 [(0, .int .u8 56), (1, .int .u64 (n : Int))] = some (lvCells (lvN n) none 0).toArray := by kernel_rfl
theorem built_flag (b : Bool) : Try.prog.built 54 [(0, .int .u8 63), (2, .bool b)] = some (lvCells (lvF b) none 0).toArray := by kernel_rfl
theorem built_blob (l : List UInt8) (A : Option Addr) (cap : Nat) : Try.prog.built 54 [(0, .int .u8 42), (3, .slice A l.length cap)] = some (lvCells (lvB l) A cap).toArray := by kernel_rfl

theorem cells_sz {v : LVal} (h : v.x.length = 256) (A : Option Addr) (cap : Nat) : (lvCells v A cap).toArray.size = 260 := by rw [List.size_toArray, lv_length h]
theorem cells_one (v : LVal) (A : Option Addr) (cap : Nat) : (lvCells v A cap).toArray.all (·.oneCell') = true := all_oneCell_toArray (lv_one v A cap)

set_option maxRecDepth 10000 in
set_option maxHeartbeats 1000000 in
theorem number_val (n : Nat) (w : World) :
    Calls Try.prog 39 #[.int .u64 n] w fun e w' => e = .returned (.agg (lvCells (lvN n) none 0).toArray) ∧ Below w.heap.size w w' := by
  have hzv := zero_val
  go_enter Try.func39, Try.ntmps39
  go_wp2_with (first
    | refine wpList_buildTo rfl 54 _ rfl (some 4) rfl (lvCells (lvN n) none 0).toArray (built_num n) ?_
    | (refine wpList_store_row rfl 54 (.tmp 2) (.tmp 4) rfl w.heap.size (lvCells (lvN n) none 0).toArray rfl rfl 54 (lvCells lv0 none 0).toArray (heap_alloc_new w _) (by rw [val_size, cells_sz zeros256_length]) (by rw [cells_sz zeros256_length, cells_sz zeros256_length]) (cells_one _ _ _) ?_; rw [World.setRow_alloc_new])
    | fail)
  exact bodyPost_ret (results_cell_row rfl _ _ w.heap.size 54 (lvCells (lvN n) none 0).toArray (0, 0) _ rfl (heap_alloc_new w _) Try.underlying54 rfl (by rw [val_size, cells_sz zeros256_length])) rfl ⟨rfl, (Below.refl _ _).alloc (Nat.le_refl _) _⟩

set_option maxRecDepth 10000 in
set_option maxHeartbeats 1000000 in
theorem flag_val (b : Bool) (w : World) :
    Calls Try.prog 35 #[.bool b] w fun e w' => e = .returned (.agg (lvCells (lvF b) none 0).toArray) ∧ Below w.heap.size w w' := by
  have hzv := zero_val
  go_enter Try.func35, Try.ntmps35
  go_wp2_with (first
    | refine wpList_buildTo rfl 54 _ rfl (some 4) rfl (lvCells (lvF b) none 0).toArray (built_flag b) ?_
    | (refine wpList_store_row rfl 54 (.tmp 2) (.tmp 4) rfl w.heap.size (lvCells (lvF b) none 0).toArray rfl rfl 54 (lvCells lv0 none 0).toArray (heap_alloc_new w _) (by rw [val_size, cells_sz zeros256_length]) (by rw [cells_sz zeros256_length, cells_sz zeros256_length]) (cells_one _ _ _) ?_; rw [World.setRow_alloc_new])
    | fail)
  exact bodyPost_ret (results_cell_row rfl _ _ w.heap.size 54 (lvCells (lvF b) none 0).toArray (0, 0) _ rfl (heap_alloc_new w _) Try.underlying54 rfl (by rw [val_size, cells_sz zeros256_length])) rfl ⟨rfl, (Below.refl _ _).alloc (Nat.le_refl _) _⟩

set_option maxRecDepth 10000 in
set_option maxHeartbeats 1000000 in
theorem bytes_val (l : List UInt8) (A : Option Addr) (cap : Nat) (w : World) :
    Calls Try.prog 37 #[.slice A l.length cap] w fun e w' => e = .returned (.agg (lvCells (lvB l) A cap).toArray) ∧ Below w.heap.size w w' := by
  have hzv := zero_val
  go_enter Try.func37, Try.ntmps37
  go_wp2_with (first
    | refine wpList_buildTo rfl 54 _ rfl (some 4) rfl (lvCells (lvB l) A cap).toArray (built_blob l A cap) ?_
    | (refine wpList_store_row rfl 54 (.tmp 2) (.tmp 4) rfl w.heap.size (lvCells (lvB l) A cap).toArray rfl rfl 54 (lvCells lv0 none 0).toArray (heap_alloc_new w _) (by rw [val_size, cells_sz zeros256_length]) (by rw [cells_sz zeros256_length, cells_sz zeros256_length]) (cells_one _ _ _) ?_; rw [World.setRow_alloc_new])
    | fail)
  exact bodyPost_ret (results_cell_row rfl _ _ w.heap.size 54 (lvCells (lvB l) A cap).toArray (0, 0) _ rfl (heap_alloc_new w _) Try.underlying54 rfl (by rw [val_size, cells_sz zeros256_length])) rfl ⟨rfl, (Below.refl _ _).alloc (Nat.le_refl _) _⟩

theorem fill_block (cs : Array Value) : Try.prog.built 54 [(0, .int .u8 35), (4, .agg cs)] = Instr.fill (fun i => #[(0, 1), (1, 1), (2, 1), (3, 1), (4, 256)][i]?) (lvCells (lvX zeros256) none 0).toArray [(4, .agg cs)] := by kernel_rfl
theorem built_block (l : List UInt8) (h : l.length = 256) : Try.prog.built 54 [(0, .int .u8 35), (4, .agg (cells8 l).toArray)] = some (lvCells (lvX l) none 0).toArray := by
  have hs : (cells8 l).toArray.size = 256 := by rw [List.size_toArray, cells8_length, h]
  rw [fill_block]
  obtain ⟨g1, g2⟩ := Great.foldl_set 4 (cells8 l) 0 (lvCells (lvX zeros256) none 0).toArray
  have hz : (lvCells (lvX zeros256) none 0).toArray.size = 260 := cells_sz zeros256_length _ _
  have hl : (cells8 l).length = 256 := by rw [cells8_length, h]
  have hfold : (((cells8 l).toArray.zipIdx).foldl (fun cs (x : Value × Nat) => cs.setIfInBounds (4 + x.2) x.1) (lvCells (lvX zeros256) none 0).toArray) = (lvCells (lvX l) none 0).toArray := by
    have e0 : (((cells8 l).toArray.zipIdx).foldl (fun cs (x : Value × Nat) => cs.setIfInBounds (4 + x.2) x.1) (lvCells (lvX zeros256) none 0).toArray) = (((cells8 l).zipIdx 0).foldl (fun cs (x : Value × Nat) => cs.setIfInBounds (4 + x.2) x.1) (lvCells (lvX zeros256) none 0).toArray) := by simp
    rw [e0]
    apply Array.ext_getElem?
    intro k
    rw [g2 k, hz, hl]
    by_cases hk : 4 ≤ k
    · by_cases hk2 : k < 260
      · rw [if_pos ⟨by omega, by omega, hk2⟩]
        simp only [List.getElem?_toArray, lvCells]
        obtain ⟨m, rfl⟩ : ∃ m, k = m + 4 := ⟨k - 4, by omega⟩
        simp [lvX]
      · rw [if_neg (by omega), Array.getElem?_eq_none (by omega), Array.getElem?_eq_none (by rw [cells_sz h]; omega)]
    · rw [if_neg (by omega)]
      match k, hk with
      | 0, _ => rfl
      | 1, _ => rfl
      | 2, _ => rfl
      | 3, _ => rfl
      | k + 4, hk => omega
  unfold Instr.fill
  have hp : (#[(0, 1), (1, 1), (2, 1), (3, 1), (4, 256)] : Array (Nat × Nat))[4]? = some (4, 256) := rfl
  simp only [hp, Value.cells, hs, hz]
  rw [if_neg (by decide)]
  unfold Instr.fill
  rw [← hfold]

end Go.Proofs.Ythjbchdpnlenjaa
