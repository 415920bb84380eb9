/- The walk of the law WireUnpacks. -/
import Derived.Test.YthjbchdpnlenjaaRuj
import Derived.Test.YthjbchdpnlenjaaAre
import Derived.Test.YthjbchdpnlenjaaMuch
namespace Go.Proofs.Ythjbchdpnlenjaa
open Go.RowKit

theorem vrow_nil (w : World) (B : Nat) (A : Option Addr) : VRow w B A [] := fun h => absurd h (by simp)

set_option maxRecDepth 100000 in
set_option maxHeartbeats 4000000 in
theorem unpacks_walk (s : ByteArray) (A : Option Addr) (cap : Nat) (l : List UInt8) (w : World) (hl : Shows w w.heap.size A l.length (cells8 l)) (hc : l.length ≤ cap) (hcm : cap ≤ 9223372036854775807) (hs : s.size ≤ maxLen) :
    Calls Try.prog 4 #[.string s, .slice A l.length cap] w fun e w' => e = .returned (.bool true) ∧ Below w.heap.size w w' := by
  obtain ⟨i0, hi, hz0, hz1, hz2⟩ := info_parts u8_info
  have hmu := much_any s none 0 [] w w.heap.size (vrow_nil _ _ _) hs (by simp)
  rw [List.length_nil] at hmu
  have HMU := Lib.hid hmu
  clear hmu
  cases hM : muchB s [] with
  | true =>
    rw [hM] at HMU
    clear hM
    go_enter Try.func4, Try.ntmps4
    go_wp2_with fail
    refine HMU.out.mono ?_
    rintro e w1 ⟨rfl, rfl⟩
    go_wp2_with fail
    refine (known_any w).mono ?_
    rintro e w1 ⟨rfl, hb1⟩
    go_wp2
    go_ret
    exact ⟨rfl, hb1⟩
  | false =>
    obtain ⟨h40, -, -⟩ := muchB_no hM
    rw [hM] at HMU
    clear hM
    by_cases h20 : l.length ≤ 20000
    · have hd : decide ((20000 : Int) < (l.length : Int)) = false := by simp; omega
      go_enter Try.func4, Try.ntmps4
      go_wp2_with fail
      refine HMU.out.mono ?_
      rintro e w1 ⟨rfl, rfl⟩
      go_wp2_with (at_builtin; refine wpList_append_shows w rfl (.const (.slice none 0 0)) (.tmp 21) 25 rfl w.heap.size 5 i0 (.int .u8 0) 1 Try.underlying25 hi hz0 hz1 hz2 rfl _ 0 [] rfl (World.ownsRow_nil _ _ _ _) w.heap.size A l.length cap (cells8 l) rfl hl (cells8_one l) (by unfold maxLen; omega) (by omega) (Nat.le_refl _) ?_; intro v1 w1 hown1 hg1; replace hg1 : Grew w w1 (.slice none 0 0) v1 := hg1)
      have hb1 : Below w.heap.size w w1 := hg1.below_from (Nat.le_refl _) (by simp [Value.ownBlock])
      rw [Nat.zero_add, List.nil_append] at hown1
      obtain ⟨A1, c1, rfl, hc1, hm1⟩ := own_form hown1
      have hsz1 := hb1.size
      have hl1 := hl.below hb1
      clear hg1 HMU
      refine (unpack_any s w1.heap.size A1 c1 l w1 (by omega) (Shows.owned hown1) (Nat.le_refl _) hc1 hm1).mono ?_
      intro e w2 hu
      obtain ⟨A2, c2, us, rfl, ho2, hv2, hb2⟩ := hu.t
      clear hu
      have hsz2 := hb2.size
      have hb12 := hb1.trans (hb2.mono hsz1)
      go_wp2_with fail
      refine (runpack_any s w.heap.size A cap l w2 (by omega) (hl.below hb12) (by omega) hc hcm (by omega)).mono ?_
      intro e w3 hu
      obtain ⟨A3, c3, xs, vals, rfl, ho3, hva3, hmap, hb3⟩ := hu.t
      clear hu
      have hlen := unpS_len (bs s) l
      rw [bs_length] at hlen
      have hoth := unpS_other (bs s) l
      have hsz3 := hb3.size
      have ho23 := own_below ho2 hb3
      have hv23 := hv2.on hb3
      have hown13 := own_below (own_below hown1 hb2) hb3
      have hB3 := hb12.trans (hb3.mono (by omega))
      have hrow : ∀ k, (Value.slice A1 l.length c1).ownBlock = some k → w.heap.size ≤ k ∧ k < w1.heap.size := fun k hk => hown1.lt k hk
      have HROW := Lib.hid hrow
      have hno : ∀ v ∈ vals, toldP v ≠ .other := fun v hv => hoth _ (by rw [← hmap]; exact List.mem_map_of_mem hv)
      have HNO := Lib.hid hno
      have hvl : vals.length ≤ 40 := by
        rw [← hmap, List.length_map] at hlen
        omega
      rw [← hmap] at ho23 hv23 ⊢
      rw [List.length_map] at ho23 ⊢
      have HV3 := Lib.hid hva3
      clear hown1 hrow ho2 hv2 hoth hno hmap hlen hva3
      generalize (unpS (bs s) l).2.1 = nn at *
      generalize (unpS (bs s) l).2.2 = ee at *
      go_wp2_with fail
      go_loopw [12] (fun j wr => ∃ (i : Nat) (m : List UInt8), i ≤ l.length ∧ j = .int .i64 (i : Int) ∧ m.length = l.length ∧ wr.ownsRow w.heap.size 5 1 (.slice A1 l.length c1) l.length (cells8 m) ∧ w3.grownBy wr (Value.slice A1 l.length c1).ownBlock) (fun j _ => l.length - (intOf j).toNat)
      case atStart => exact ⟨0, l, Nat.zero_le _, rfl, rfl, hown13, World.grownBy.refl _ _⟩
      case round =>
        obtain ⟨i, m, hil, rfl, hml, hownr, hgr⟩ := hrel
        by_cases hlt : i < l.length
        · obtain ⟨g, cg, hvg⟩ := own_some hownr (by omega)
          injection hvg with hA1
          subst hA1
          have hmi : i < m.length := by omega
          obtain ⟨hcell, hfro⟩ := own_cell hownr i _ (cells8_get m i hmi)
          have hset := own_set hownr i (.int .u8 (((m[i] + 1).toNat : Nat) : Int))
          rw [cells8_set] at hset
          have HSET := Lib.hid hset
          have hinc := inc_u8 m[i]
          have hgs := grown_set (a := ⟨g, i, none⟩) hgr rfl (.int .u8 (((m[i] + 1).toNat : Nat) : Int))
          have HGS := Lib.hid hgs
          have hl2 : (m.set i (m[i] + 1)).length = l.length := by rw [List.length_set]; exact hml
          have HL2 := Lib.hid hl2
          have hbb := m[i].toNat_lt
          clear hset hgs hl2 hown13 hownr hgr
          generalize m.set i (m[i] + 1) = m2 at *
          generalize (m[i] + 1).toNat = z at *
          generalize m[i].toNat = y at *
          go_wp2
          go_roundw
          case rel => exact ⟨i + 1, m2, hlt, by go_num, HL2.out, HSET.out, HGS.out⟩
          case measure => simp [intOf]; omega
        · have hkr : ∀ k, (Value.slice A1 l.length c1).ownBlock = some k → k < w1.heap.size := fun k hk => (HROW.out k hk).2
          have hor := row_grown ho23 hgr hkr
          have hvr := hv23.grown hgr hkr
          have ho3r := row_grown ho3 hgr (fun k hk => by have := (HROW.out k hk).2; omega)
          have hBr : Below w.heap.size w3 wr := (Below.refl _ _).grown hgr (by omega) (fun k hk => (HROW.out k hk).1)
          have hszr := hBr.size
          have hvrow := HV3.out.vrow ho3r rfl ((hb3.mono (by omega)).trans hBr) (by omega)
          have hBw := hB3.trans hBr
          clear hown13 hownr hgr ho23 hv23 ho3 HV3 hkr
          go_wp2_with fail
          refine (are_any A2 c2 us A3 c3 vals wr (Shows.owned hor) (told_iv hvr) HNO.out hvrow (by omega)).mono ?_
          rintro e w7 ⟨rfl, hb7⟩
          have hB7 := hBw.trans (hb7.mono (by omega))
          clear hor hvr ho3r hvrow
          go_wp2_with fail
          refine (num_any _ _).mono ?_
          rintro e w' ⟨rfl, rfl⟩
          go_wp2_with fail
          refine (known_any _).mono ?_
          rintro e w8 ⟨rfl, hb8⟩
          go_wp2
          go_ret
          exact ⟨rfl, hB7.trans (hb8.mono hB7.size)⟩
    · have hd : decide ((20000 : Int) < (l.length : Int)) = true := by simp; omega
      go_enter Try.func4, Try.ntmps4
      go_wp2_with fail
      refine HMU.out.mono ?_
      rintro e w1 ⟨rfl, rfl⟩
      go_wp2_with fail
      refine (known_any w).mono ?_
      rintro e w1 ⟨rfl, hb1⟩
      go_wp2
      go_ret
      exact ⟨rfl, hb1⟩
end Go.Proofs.Ythjbchdpnlenjaa
