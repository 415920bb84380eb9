/- The walk of Hex of package wire. -/
import Derived.Test.YthjbchdpnlenjaaHexc
import Derived.Deep.RegionLaw
namespace Go.Proofs.Ythjbchdpnlenjaa
open Go.RowKit

/-- a letter of hex -/
def hexD (n : Nat) : UInt8 := UInt8.ofNat (if n < 10 then 48 + n else 87 + n)
def hexS : List UInt8 → List UInt8
  | [] => []
  | b :: l => hexD (b.toNat / 16) :: hexD (b.toNat % 16) :: hexS l
theorem hexS_snoc (l : List UInt8) (b : UInt8) : hexS (l ++ [b]) = hexS l ++ [hexD (b.toNat / 16), hexD (b.toNat % 16)] := by
  induction l with
  | nil => rfl
  | cons a l ih => simp [hexS, ih]
theorem hexS_length (l : List UInt8) : (hexS l).length = 2 * l.length := by
  induction l with
  | nil => rfl
  | cons a l ih => simp only [hexS, List.length_cons, ih]; omega

theorem grew_drew {a b : World} {u v : Value} (h : Grew a b u v) : Grew a b.drew u v := ⟨⟨h.by_.os, h.by_.tape, h.by_.output, h.by_.size, h.by_.block⟩, h.at_⟩

/-- append of whatever slice shows its cells, as a step of a region that draws its order -/
theorem step_append_shows {P : Program} (w : World) {ops : Array Oper} {o : Oper} {a : Act} {K : Act → World → Prop} {Q : Exit → Act → World → Prop} {E : Prop} (hgd : o.guard = none) (s x : Operand) (t : TypeId)
    (ho : o.op = .call { callee := .builtin .append, args := #[s, x], argTypes := #[t, t] })
    (base : Nat) (e : TypeId) (i : TypeInfo) (z : Value) (bytes : Nat) (ht : P.underlying t = some (.slice e)) (hi : P.info? e = some i) (hz : i.zero = some z)
    (hsize : i.size = 1) (hby : i.bytes = bytes) (hzs : z.cells.size = 1)
    (v : Value) (n : Nat) (xs : List Value) (hev : a.eval s = v) (hown : w.ownsRow base e 1 v n xs)
    (B : Nat) (A : Option Addr) (m c : Nat) (news : List Value) (hx : a.eval x = .slice A m c) (hs : Shows w B A m news) (h1 : ∀ u ∈ news, u.oneCell' = true)
    (h63 : n + m ≤ maxLen) (hbytes : (n + m) * bytes ≤ 140737488355328) (hbase : base ≤ w.heap.size)
    (h : ∀ v' w', w'.ownsRow base e 1 v' (n + m) (xs ++ news) → Grew w w' v v' → K (a.put o.dst v') w') :
    if Region.wanted o (yielded ops a.tmps) = true then Oper.wp P o a w K Q else E := by
  have hw : Region.wanted o (yielded ops a.tmps) = true := by simp [Region.wanted, hgd]
  rw [if_pos hw]
  obtain ⟨v', w', hr, h2, h3⟩ := run_append_shows (P := P) w base t o.type e i z bytes ht hi hz hsize hby hzs v n xs hown B A m c news hs h1 h63 hbytes hbase
  unfold Oper.wp execOp
  simp only [ho, resolve, invoke, builtin, Sem.run_bind, Sem.run_pure, Result.andThen_ok, List.map_toArray, List.map_cons, List.map_nil, hev, hx, hr]
  exact h v' w' h2 h3

/- a letter out of the text of all letters: closed facts -/
theorem hexl0 (w : World) : (Instr.index 9 (.string ⟨#[48, 49, 50, 51, 52, 53, 54, 55, 56, 57, 97, 98, 99, 100, 101, 102]⟩) (.int .u8 0)).run Try.prog w = .ok (.int .u8 ((hexD 0).toNat : Int)) w := by kernel_rfl
theorem hexl1 (w : World) : (Instr.index 9 (.string ⟨#[48, 49, 50, 51, 52, 53, 54, 55, 56, 57, 97, 98, 99, 100, 101, 102]⟩) (.int .u8 1)).run Try.prog w = .ok (.int .u8 ((hexD 1).toNat : Int)) w := by kernel_rfl
theorem hexl2 (w : World) : (Instr.index 9 (.string ⟨#[48, 49, 50, 51, 52, 53, 54, 55, 56, 57, 97, 98, 99, 100, 101, 102]⟩) (.int .u8 2)).run Try.prog w = .ok (.int .u8 ((hexD 2).toNat : Int)) w := by kernel_rfl
theorem hexl3 (w : World) : (Instr.index 9 (.string ⟨#[48, 49, 50, 51, 52, 53, 54, 55, 56, 57, 97, 98, 99, 100, 101, 102]⟩) (.int .u8 3)).run Try.prog w = .ok (.int .u8 ((hexD 3).toNat : Int)) w := by kernel_rfl
theorem hexl4 (w : World) : (Instr.index 9 (.string ⟨#[48, 49, 50, 51, 52, 53, 54, 55, 56, 57, 97, 98, 99, 100, 101, 102]⟩) (.int .u8 4)).run Try.prog w = .ok (.int .u8 ((hexD 4).toNat : Int)) w := by kernel_rfl
theorem hexl5 (w : World) : (Instr.index 9 (.string ⟨#[48, 49, 50, 51, 52, 53, 54, 55, 56, 57, 97, 98, 99, 100, 101, 102]⟩) (.int .u8 5)).run Try.prog w = .ok (.int .u8 ((hexD 5).toNat : Int)) w := by kernel_rfl
theorem hexl6 (w : World) : (Instr.index 9 (.string ⟨#[48, 49, 50, 51, 52, 53, 54, 55, 56, 57, 97, 98, 99, 100, 101, 102]⟩) (.int .u8 6)).run Try.prog w = .ok (.int .u8 ((hexD 6).toNat : Int)) w := by kernel_rfl
theorem hexl7 (w : World) : (Instr.index 9 (.string ⟨#[48, 49, 50, 51, 52, 53, 54, 55, 56, 57, 97, 98, 99, 100, 101, 102]⟩) (.int .u8 7)).run Try.prog w = .ok (.int .u8 ((hexD 7).toNat : Int)) w := by kernel_rfl
theorem hexl8 (w : World) : (Instr.index 9 (.string ⟨#[48, 49, 50, 51, 52, 53, 54, 55, 56, 57, 97, 98, 99, 100, 101, 102]⟩) (.int .u8 8)).run Try.prog w = .ok (.int .u8 ((hexD 8).toNat : Int)) w := by kernel_rfl
theorem hexl9 (w : World) : (Instr.index 9 (.string ⟨#[48, 49, 50, 51, 52, 53, 54, 55, 56, 57, 97, 98, 99, 100, 101, 102]⟩) (.int .u8 9)).run Try.prog w = .ok (.int .u8 ((hexD 9).toNat : Int)) w := by kernel_rfl
theorem hexl10 (w : World) : (Instr.index 9 (.string ⟨#[48, 49, 50, 51, 52, 53, 54, 55, 56, 57, 97, 98, 99, 100, 101, 102]⟩) (.int .u8 10)).run Try.prog w = .ok (.int .u8 ((hexD 10).toNat : Int)) w := by kernel_rfl
theorem hexl11 (w : World) : (Instr.index 9 (.string ⟨#[48, 49, 50, 51, 52, 53, 54, 55, 56, 57, 97, 98, 99, 100, 101, 102]⟩) (.int .u8 11)).run Try.prog w = .ok (.int .u8 ((hexD 11).toNat : Int)) w := by kernel_rfl
theorem hexl12 (w : World) : (Instr.index 9 (.string ⟨#[48, 49, 50, 51, 52, 53, 54, 55, 56, 57, 97, 98, 99, 100, 101, 102]⟩) (.int .u8 12)).run Try.prog w = .ok (.int .u8 ((hexD 12).toNat : Int)) w := by kernel_rfl
theorem hexl13 (w : World) : (Instr.index 9 (.string ⟨#[48, 49, 50, 51, 52, 53, 54, 55, 56, 57, 97, 98, 99, 100, 101, 102]⟩) (.int .u8 13)).run Try.prog w = .ok (.int .u8 ((hexD 13).toNat : Int)) w := by kernel_rfl
theorem hexl14 (w : World) : (Instr.index 9 (.string ⟨#[48, 49, 50, 51, 52, 53, 54, 55, 56, 57, 97, 98, 99, 100, 101, 102]⟩) (.int .u8 14)).run Try.prog w = .ok (.int .u8 ((hexD 14).toNat : Int)) w := by kernel_rfl
theorem hexl15 (w : World) : (Instr.index 9 (.string ⟨#[48, 49, 50, 51, 52, 53, 54, 55, 56, 57, 97, 98, 99, 100, 101, 102]⟩) (.int .u8 15)).run Try.prog w = .ok (.int .u8 ((hexD 15).toNat : Int)) w := by kernel_rfl
theorem hex_letter (n : Nat) (hn : n < 16) (w : World) : (Instr.index 9 (.string ⟨#[48, 49, 50, 51, 52, 53, 54, 55, 56, 57, 97, 98, 99, 100, 101, 102]⟩) (.int .u8 (n : Int))).run Try.prog w = .ok (.int .u8 ((hexD n).toNat : Int)) w := by
  match n, hn with
  | 0, _ => exact hexl0 w
  | 1, _ => exact hexl1 w
  | 2, _ => exact hexl2 w
  | 3, _ => exact hexl3 w
  | 4, _ => exact hexl4 w
  | 5, _ => exact hexl5 w
  | 6, _ => exact hexl6 w
  | 7, _ => exact hexl7 w
  | 8, _ => exact hexl8 w
  | 9, _ => exact hexl9 w
  | 10, _ => exact hexl10 w
  | 11, _ => exact hexl11 w
  | 12, _ => exact hexl12 w
  | 13, _ => exact hexl13 w
  | 14, _ => exact hexl14 w
  | 15, _ => exact hexl15 w
  | n + 16, h => exact absurd h (by omega)
set_option maxRecDepth 100000 in
theorem u8_low (b : Nat) (h : b < 256) : bits .and .u8 (b : Int) 15 = ((b % 16 : Nat) : Int) := by
  have key : ∀ b, b < 256 → bits .and .u8 ((b : Nat) : Int) 15 = ((b % 16 : Nat) : Int) := by decide
  exact key b h

set_option maxHeartbeats 2000000 in
theorem hex_any (B : Nat) (A : Option Addr) (cap : Nat) (l : List UInt8) (w : World) (hl : Shows w B A l.length (cells8 l)) (hB : B ≤ w.heap.size) (hn : l.length ≤ 1000000) :
    Calls Try.prog 27 #[.slice A l.length cap] w fun e w' => e = .returned (.string ⟨(hexS l).toArray⟩) ∧ Below w.heap.size w w' := by
  obtain ⟨i0, hi, hz0, hz1, hz2⟩ := info_parts u8_info
  go_enter Try.func27, Try.ntmps27
  go_wp2_with (at_make; refine wpList_make_own _ rfl _ _ 25 rfl w.heap.size 5 i0 _ 1 Try.underlying25 hi hz0 hz1 _ _ _ (2 * l.length) rfl rfl (by omega) (by rw [hz2]; omega) (by unfold maxLen; omega) (Nat.le_refl _) ?_; intro w3 hown3 hg3)
  have hb3 : Below w.heap.size w w3 := (Below.refl _ _).grown hg3 (Nat.le_refl _) (by simp)
  clear hg3
  go_loopw [3, 12] (fun v j wr => ∃ i : Nat, i ≤ l.length ∧ j = .int .i64 (i : Int) ∧ wr.ownsRow w.heap.size 5 1 v (2 * i) (cells8 (hexS (l.take i))) ∧ Below w.heap.size w wr) (fun _ j _ => l.length - (intOf j).toNat)
  case atStart => exact ⟨0, Nat.zero_le _, rfl, hown3, hb3⟩
  case round =>
    obtain ⟨i, hp, rfl, hown, hbr⟩ := hrel
    by_cases hlt : i < l.length
    · obtain ⟨p, u, rfl, hpb, hu, hcell⟩ := (hl.below (hbr.mono hB)).cell hlt
      rw [cells8_get l i hlt] at hu
      injection hu with hu
      subst hu
      have hb := (l[i]'hlt).toNat_lt
      generalize hbv : (l[i]'hlt).toNat = b at *
      have HBV := Lib.hid hbv
      clear hbv hown3 hb3
      go_wp2_with fail
      have ix0 := fun W => hex_letter (b / 16) (by omega) W
      have ix1 := fun W => hex_letter (b % 16) (by omega) W
      have hlo := u8_low b hb
      have hhi : ((b / 16 : Nat) : Int) = (b : Int) / 16 := by omega
      rw [hhi] at ix0
      rw [← hlo] at ix1
      clear hhi hlo
      go_region_law (refine step_append_shows _ rfl (.tmp 16) (.tmp 23) 25 rfl w.heap.size 5 i0 (.int .u8 0) 1 Try.underlying25 hi hz0 hz1 hz2 rfl _ _ _ (by simp [Act.eval]; rfl) (by exact (World.ownsRow.alloc hown.drew _)) (wr.heap.size + 1) _ 2 2 (cells8 [hexD (b / 16), hexD (b % 16)]) (by simp [Act.eval]; rfl) (by exact shows_new wr.drew _ _) (cells8_one _) (by unfold maxLen; omega) (by omega) (by have := hbr.size; simp; omega) ?_; intro v' w1 hown' hgrow)
      all_goals
        have hgr : Grew wr w1 u3 v' := (grew_drew ((Grew.refl wr u3).alloc _)).trans hgrow
        have hb1 : Below w.heap.size w w1 := hbr.trans (hgr.below hown (Nat.le_refl _) hbr.size)
        have hown2 : w1.ownsRow w.heap.size 5 1 v' (2 * i + 2) (cells8 (hexS (l.take i)) ++ cells8 [hexD (b / 16), hexD (b % 16)]) := hown'
        clear hgr hgrow hown' hcell
        go_wp2
        go_roundw
        case rel =>
          refine ⟨i + 1, hlt, by go_num, ?_, hb1⟩
          rw [List.take_succ_eq_append_getElem hlt, hexS_snoc, HBV.out, cells8_append]
          exact hown2
        case measure => simp [intOf]; omega
    · obtain rfl : i = l.length := by omega
      rw [List.take_length] at hown
      have hstr := str_own hown
      go_wp2
      go_ret
      exact ⟨rfl, hbr⟩

end Go.Proofs.Ythjbchdpnlenjaa
