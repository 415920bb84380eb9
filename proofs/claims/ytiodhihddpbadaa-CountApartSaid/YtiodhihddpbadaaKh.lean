/- The document's area: Free, Room, Alloc, Clone. -/
import Derived.Test.YtiodhihddpbadaaKg
namespace Go.Proofs.Ytiodhihddpbadaa
open Go.RowKit

theorem int_info : (Try.prog.info? 3).map (fun i => (i.zero, i.size, i.bytes)) = some (some (.int .i64 0), 1, 8) := by kernel_rfl
section
variable (w : World) (b g0 p0 g1 p1 : Nat) (c : CS)
theorem rfree_any (h : RX w b g0 p0 g1 p1 c) (n : Nat) (hn : n < c.now.length) : Calls Try.prog 33 #[.pointer (some ⟨b, 0, none⟩), .int .i64 (n : Int)] w fun e w' => e = .returned (.bool (freeB c n)) ∧ w = w' := by
  have c0 := h.c0
  have c1 := h.c1
  have cn := h.n_at n hn
  have cw := h.w_at n hn
  have hnI : (n : Int) < (c.now.length : Int) := by omega
  have e1 : freeB c n = ((nowAt c n == 0) && (wasAt c n == 0)) := rfl
  rw [e1]
  clear h e1
  generalize nowAt c n = x at *
  generalize wasAt c n = y at *
  by_cases hx : x = 0
  · subst hx
    have cn' : w.cell? ⟨g0, n, none⟩ = some (.int .i64 0) := cn
    clear cn
    by_cases hy : y = 0
    · subst hy
      have cw' : w.cell? ⟨g1, n, none⟩ = some (.int .i64 0) := cw
      clear cw
      go_enter Try.func33, Try.ntmps33
      go_wp2
      go_ret
      exact ⟨rfl, rfl⟩
    · have b1 : ((y : Int) == 0) = false := by rw [beq_eq_false_iff_ne]; omega
      have e2 : ((0 == 0) && (y == 0)) = false := by simpa using hy
      rw [e2]
      clear e2
      go_enter Try.func33, Try.ntmps33
      go_wp2
      go_ret
      exact ⟨rfl, rfl⟩
  · have b1 : ((x : Int) == 0) = false := by rw [beq_eq_false_iff_ne]; omega
    have e2 : ((x == 0) && (y == 0)) = false := by simp [hx]
    rw [e2]
    clear e2
    go_enter Try.func33, Try.ntmps33
    go_wp2
    go_ret
    exact ⟨rfl, rfl⟩
theorem rroom_any (h : RX w b g0 p0 g1 p1 c) : Calls Try.prog 28 #[.pointer (some ⟨b, 0, none⟩)] w fun e w' => e = .returned (.int .i64 (roomN c c.now.length : Int)) ∧ w = w' := by
  have HF := Lib.hid (fun n hn => rfree_any w b g0 p0 g1 p1 c h n hn)
  have n1 := h.ok.n1
  have c0 := h.c0
  clear h
  go_enter Try.func28, Try.ntmps28
  go_wp2
  go_loopw [4, 3] (fun j r wr => ∃ i : Nat, i ≤ c.now.length ∧ j = .int .i64 (i : Int) ∧ r = .int .i64 (roomN c i : Int) ∧ wr = w) (fun j _ _ => c.now.length - (intOf j).toNat)
  case atStart => exact ⟨0, Nat.zero_le _, rfl, rfl, rfl⟩
  case round =>
    obtain ⟨i, hi, rfl, rfl, rfl⟩ := hrel
    by_cases hlt : i < c.now.length
    · have hltI : (i : Int) < (c.now.length : Int) := by omega
      have hr := roomN_le c i
      have hF := HF.out i hlt
      have hs : roomN c (i + 1) = roomN c i + (if freeB c i = true then 1 else 0) := rfl
      cases hb : freeB c i with
      | true =>
        rw [hb] at hF hs
        have HFi := Lib.hid hF
        rw [if_pos rfl] at hs
        have HS := Lib.hid hs
        clear hF hs hb
        go_wp2_with (first
          | (go_at_call 33; refine HFi.out.mono ?_; rintro e w' ⟨rfl, rfl⟩)
          | fail)
        go_roundw
        case rel => exact ⟨i + 1, hlt, by go_num, by rw [HS.out]; go_num, trivial⟩
        case measure => simp [intOf]; omega
      | false =>
        rw [hb] at hF hs
        have HFi := Lib.hid hF
        rw [if_neg (by simp), Nat.add_zero] at hs
        have HS := Lib.hid hs
        clear hF hs hb
        go_wp2_with (first
          | (go_at_call 33; refine HFi.out.mono ?_; rintro e w' ⟨rfl, rfl⟩)
          | fail)
        go_roundw
        case rel => exact ⟨i + 1, hlt, by go_num, by rw [HS.out]; rfl, trivial⟩
        case measure => simp [intOf]; omega
    · obtain rfl : i = c.now.length := by omega
      go_wp2
      go_ret
      exact ⟨rfl, rfl⟩
theorem rclone_any (B : Nat) (p : Addr) (l : List Nat) (cap : Nat) (h0 : 0 < l.length) (h8 : l.length ≤ 100000) (hs : Shows w B (some p) l.length (nz .i64 l)) :
    Calls Try.prog 12 #[.slice (some p) l.length cap] w fun e w' => ∃ g q, e = .returned (.slice (some ⟨g, 0, none⟩) l.length q) ∧ w'.ownsRow 0 3 1 (.slice (some ⟨g, 0, none⟩) l.length q) l.length (nz .i64 l) ∧ w.heap.size ≤ g ∧ g < w'.heap.size ∧ Below w.heap.size w w' := by
  obtain ⟨i0, hi0, hz0, hz1, hz2⟩ := info_parts int_info
  have HS := Lib.hid hs
  clear hs
  go_enter Try.func12, Try.ntmps12
  go_wp2_with (first
    | (at_builtin; refine wpList_append_shows _ rfl (.const (.slice none 0 0)) (.tmp 3) 38 rfl w.heap.size 3 i0 (.int .i64 0) 8 Try.underlying38 hi0 hz0 hz1 hz2 rfl (.slice none 0 0) 0 [] rfl (World.ownsRow_nil _ _ _ _) B _ l.length cap (nz .i64 l) rfl HS.out (nz_one _ _) (by unfold maxLen; omega) (by omega) (Nat.le_refl _) ?_; intro v2 w2 ho2 hg2; simp only [Nat.zero_add, List.nil_append] at ho2; obtain ⟨g, q, rfl, hgg⟩ := row_slice ho2 h0; have HB : Hid (Below w.heap.size w w2) := (Below.refl _ _).grown hg2.by_ (Nat.le_refl _) (fun k hk => by cases hk); have HO := Lib.hid ho2; clear ho2 hg2)
    | fail)
  go_ret
  exact ⟨g, q, rfl, own_base0 HO.out, hgg, (HO.out.lt g rfl).2, HB.out⟩
theorem rarea_none (h : RX w b g0 p0 g1 p1 c) (hk : allocK c = none) : Calls Try.prog 29 #[.pointer (some ⟨b, 0, none⟩)] w fun e w' => e = .returned (.int .i64 (-1)) ∧ w = w' := by
  have HF := Lib.hid (fun n hn => rfree_any w b g0 p0 g1 p1 c h n hn)
  have HK := Lib.hid (allocK_none hk)
  have n0 := h.ok.n0
  have n1 := h.ok.n1
  have a1 := h.ok.a1
  have c2 := h.c2
  have c0 := h.c0
  clear h hk
  go_enter Try.func29, Try.ntmps29
  go_wp2
  go_loopw [3] (fun j wr => ∃ i : Nat, i ≤ c.now.length ∧ j = .int .i64 (i : Int) ∧ wr = w) (fun j _ => c.now.length - (intOf j).toNat)
  case atStart => exact ⟨0, Nat.zero_le _, rfl, rfl⟩
  case round =>
    obtain ⟨i, hi, rfl, rfl⟩ := hrel
    by_cases hlt : i < c.now.length
    · have hltI : (i : Int) < (c.now.length : Int) := by omega
      have hF := HF.out (turn c i) (Nat.mod_lt _ n0)
      rw [HK.out i hlt] at hF
      have ht : turn c i = (c.at_ + i) % c.now.length := rfl
      by_cases hge : c.at_ + i < c.now.length
      · have et : (turn c i : Int) = (c.at_ : Int) + (i : Int) := by rw [ht, Nat.mod_eq_of_lt hge]; omega
        rw [et] at hF
        have HFi := Lib.hid hF
        clear hF ht et
        go_wp2_with (first
          | (go_at_call 33; refine HFi.out.mono ?_; rintro e w' ⟨rfl, rfl⟩)
          | fail)
        go_roundw
        case rel => exact ⟨i + 1, hlt, by go_num, trivial⟩
        case measure => simp [intOf]; omega
      · have et : (turn c i : Int) = (c.at_ : Int) + (i : Int) - (c.now.length : Int) := by
          rw [ht, Nat.mod_eq_sub_mod (by omega), Nat.mod_eq_of_lt (by omega)]; omega
        rw [et] at hF
        have HFi := Lib.hid hF
        clear hF ht et
        go_wp2_with (first
          | (go_at_call 33; refine HFi.out.mono ?_; rintro e w' ⟨rfl, rfl⟩)
          | fail)
        go_roundw
        case rel => exact ⟨i + 1, hlt, by go_num, trivial⟩
        case measure => simp [intOf]; omega
    · obtain rfl : i = c.now.length := by omega
      go_wp2
      go_ret
      exact ⟨rfl, rfl⟩
end
end Go.Proofs.Ytiodhihddpbadaa
