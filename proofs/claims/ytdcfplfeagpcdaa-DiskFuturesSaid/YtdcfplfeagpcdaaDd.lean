/- The document's disk: more. -/
import Derived.Test.YtdcfplfeagpcdaaDc
namespace Go.Proofs.Ytdcfplfeagpcdaa
open Go.RowKit

theorem past_info : (Try.prog.info? 44).map (fun i => (i.zero, i.size, i.bytes)) = some (some (.agg #[.slice none 0 0]), 1, 24) := by kernel_rfl

/-- how long the slice in the disk's first field is -/
def slen (w : World) (b : Nat) : Nat := match w.cell? ⟨b, 0, none⟩ with
  | some (.slice _ n _) => n
  | _ => 0
theorem RDisk.form {w : World} {base b : Nat} {v : Value} {d : RD} (h : RDisk w base b v d) : ∃ A c, v = .slice A d.s.length c := by
  obtain ⟨_, _, xs, ho, _⟩ := h
  rcases ho.2 with ⟨rfl, h0⟩ | ⟨g, cap, cur, rfl, _⟩
  · exact ⟨none, 0, by rw [h0]⟩
  · exact ⟨_, cap, rfl⟩
theorem RDisk.slen {w : World} {base b : Nat} {v : Value} {d : RD} (h : RDisk w base b v d) : slen w b = d.s.length := by
  obtain ⟨A, c, rfl⟩ := h.form
  unfold Go.Proofs.Ytdcfplfeagpcdaa.slen
  rw [h.c0]
theorem RDisk.row_ne {w : World} {base b : Nat} {v : Value} {d : RD} (h : RDisk w base b v d) : v.ownBlock ≠ some b := by
  obtain ⟨_, h2, xs, ho, _⟩ := h
  rcases ho.2 with ⟨rfl, _⟩ | ⟨g, cap, cur, rfl, _, hh, _⟩
  · simp [Value.ownBlock]
  · intro e
    injection e with e
    have e' : g = b := e
    subst e'
    rw [hh] at h2
    injection h2 with h2
    injection h2 with _ h3
    exact ne_types.2.2 h3.symm
/-- one sector more: what the append, and the store of its slice, leave -/
theorem RDisk.more1 {w w2 w4 : World} {base b : Nat} {v v3 x : Value} {d : RD} {xs : List Value} {l : List UInt8} (h : RDisk w base b v d) (hx : w.ownsRow base 44 1 v d.s.length xs ∧ Pasts w base xs d.s) (hb2 : Below w.heap.size w w2) (hg : Grew w2 w4 v v3)
    (ho4 : w4.ownsRow base 44 1 v3 (d.s.length + 1) (xs ++ [x])) (hn : w2.ownsRow base 5 1 x l.length (cells8 l)) (h0 : 0 < l.length) (hl : l.length ≤ 1000000) :
    RDisk (w4.setCell ⟨b, 0, none⟩ v3) base b v3 { d with s := d.s ++ [l] } ∧ Own2 w (w4.setCell ⟨b, 0, none⟩ v3) b v ∧ (v3.ownBlock = v.ownBlock ∨ ∃ k, v3.ownBlock = some k ∧ w.heap.size ≤ k) ∧ BytesKept w (w4.setCell ⟨b, 0, none⟩ v3) := by
  have hne := h.row_ne
  obtain ⟨h1, h2, _⟩ := h
  obtain ⟨ho, hp⟩ := hx
  have hlt := (Array.getElem?_eq_some_iff.1 h2).1
  have h22 : w2.heap[b]? = some (.cells #[v, .int .i64 d.fuse, .bool d.dead] 47 (0, 0)) := (hb2.block b hlt).trans h2
  have h24 : w4.heap[b]? = some (.cells #[v, .int .i64 d.fuse, .bool d.dead] 47 (0, 0)) := by
    rw [hg.by_.block b (Nat.lt_of_lt_of_le hlt hb2.size) (fun e => hne e.symm)]
    exact h22
  have ho2 : w2.ownsRow base 44 1 v d.s.length xs := row_on ho (fun k cur _ hh => (hb2.block k (Array.getElem?_eq_some_iff.1 hh).1).trans hh)
  have k24 : BytesKept w2 w4 := fun g cur hgg => by
    rw [hg.by_.block g (Array.getElem?_eq_some_iff.1 hgg).1 ?_]
    · exact hgg
    · intro e
      rcases ho2.2 with ⟨rfl, _⟩ | ⟨g', cap, c2, rfl, _, hh, _⟩
      · cases e
      · injection e with e
        have e' : g = g' := e
        subst e'
        rw [hh] at hgg; injection hgg with hgg; injection hgg with _ h3; exact ne_types.2.1 h3
  have k45 : BytesKept w4 (w4.setCell ⟨b, 0, none⟩ v3) := BytesKept.setCell (a := ⟨b, 0, none⟩) h24 ne_types.1 v3
  have kall := ((BytesKept.of_below hb2).trans k24).trans k45
  have hv3 : v3.ownBlock = v.ownBlock ∨ ∃ k, v3.ownBlock = some k ∧ w.heap.size ≤ k := by
    rcases hg.at_ with e | ⟨g, e, hgs⟩
    · exact .inl e
    · exact .inr ⟨g, e, Nat.le_trans hb2.size hgs⟩
  refine ⟨⟨h1, by rw [Joins.block_setCell h24]; rfl, xs ++ [x], ?_, ?_⟩, ?_, hv3, kall⟩
  · rw [List.length_append]
    refine row_on ho4 (fun k cur _ hh => ?_)
    rw [Below.heap_setCell _ _ _ _ (fun e => by subst e; rw [h24] at hh; injection hh with hh; injection hh with _ h3; exact ne_types.2.2 h3)]
    exact hh
  · refine ⟨by rw [List.length_append, List.length_append, hp.1]; rfl, fun i hi => ?_⟩
    rcases Nat.lt_or_ge i d.s.length with hlt' | hge
    · obtain ⟨y, hy, hoy, hr⟩ := (hp.kept kall).2 i hlt'
      refine ⟨y, by rw [List.getElem?_append_left (by rw [hp.1]; exact hlt')]; exact hy, ?_⟩
      simp only [List.getElem_append_left hlt']
      exact ⟨hoy, hr⟩
    · have e : i = d.s.length := by simp at hi; omega
      subst e
      refine ⟨x, by rw [← hp.1]; simp, ?_⟩
      simp only [List.getElem_concat_length]
      exact ⟨row_on hn (fun k c _ hc => k45 k c (k24 k c hc)), h0, hl⟩
  · refine ⟨hg.by_.os.trans hb2.os, hg.by_.tape.trans hb2.tape, hg.by_.output.trans hb2.output, by have := hg.by_.size; have := hb2.size; simp [World.setCell]; omega, fun k hk hkb hkv => ?_⟩
    rw [Below.heap_setCell _ _ _ _ hkb, hg.by_.block k (Nat.lt_of_lt_of_le hk hb2.size) (fun e => hkv e.symm)]
    exact hb2.block k hk

theorem row_form {w : World} {base n : Nat} {e : TypeId} {v : Value} {xs : List Value} (h : w.ownsRow base e 1 v n xs) : ∃ A c, v = .slice A n c := by
  rcases h.2 with ⟨rfl, rfl⟩ | ⟨g, cap, cur, rfl, _⟩
  · exact ⟨none, 0, rfl⟩
  · exact ⟨_, cap, rfl⟩
theorem more1_b {w w2 w4 : World} {base b : Nat} {v v3 : Value} {d : RD} (h : RDisk w base b v d) (hb2 : Below w.heap.size w w2) (hg : Grew w2 w4 v v3) : w4.heap[b]? = some (.cells #[v, .int .i64 d.fuse, .bool d.dead] 47 (0, 0)) := by
  rw [hg.by_.block b (Nat.lt_of_lt_of_le h.lt hb2.size) (fun e => h.row_ne e.symm)]
  exact (hb2.block b h.lt).trans h.2.1

def moreD (d : RD) (m : Nat) : RD := { d with s := d.s ++ List.replicate m [0] }
theorem moreD_succ (d : RD) (m : Nat) : moreD d (m + 1) = { moreD d m with s := (moreD d m).s ++ [[0]] } := by simp [moreD, List.replicate_succ']
theorem moreD_len (d : RD) (m : Nat) : (moreD d m).s.length = d.s.length + m := by simp [moreD]

set_option maxHeartbeats 2000000 in
theorem more_any (w : World) (base b : Nat) (v : Value) (d : RD) (h : RDisk w base b v d) (n : Nat) (hn : n ≤ 100000) (hbase : base ≤ w.heap.size) :
    Calls Try.prog 41 #[.pointer (some ⟨b, 0, none⟩), .int .i64 n] w fun e w' => e = .returned (.tuple #[]) ∧ ∃ v', RDisk w' base b v' (moreD d (n - d.s.length)) ∧ Own2 w w' b v ∧ (v'.ownBlock = v.ownBlock ∨ ∃ k, v'.ownBlock = some k ∧ w.heap.size ≤ k) ∧ BytesKept w w' := by
  obtain ⟨i0, hi, hz0, hz1, hz2⟩ := info_parts past_info
  go_enter Try.func41, Try.ntmps41
  go_wp2
  go_loopw [4] (fun _ wr => ∃ (v' : Value) (m : Nat), RDisk wr base b v' (moreD d m) ∧ Hid (m ≤ n - d.s.length) ∧ Own2 w wr b v ∧ (v'.ownBlock = v.ownBlock ∨ ∃ k, v'.ownBlock = some k ∧ w.heap.size ≤ k) ∧ BytesKept w wr) (fun _ wr => n - slen wr b)
  case atStart => exact ⟨v, 0, by simpa [moreD] using h, Nat.zero_le _, Own2.refl _ _ _, .inl rfl, BytesKept.refl _⟩
  case round =>
    obtain ⟨v', m, hr, HM, hO, hvb, hbk⟩ := hrel
    have HLEN := Lib.hid (moreD_len d m)
    have HSUC := Lib.hid (moreD_succ d m)
    have HEQ : Hid (moreD d m = moreD d m) := rfl
    generalize hd1 : moreD d m = d1 at *
    clear HEQ
    have HD1 := Lib.hid hd1
    clear hd1
    have hsl := hr.slen
    have HSL := Lib.hid hsl
    have c0 := hr.c0
    have hsz := hO.size
    clear hsl
    obtain ⟨A', c', hv'⟩ := hr.form
    subst hv'
    by_cases hlt : d1.s.length < n
    · obtain ⟨_, _, xs, ho, hp⟩ := id hr
      have hb2 : Below wr.heap.size wr ((wr.alloc (.cells #[.int .u8 0] 5)).alloc (.cells #[.slice (some ⟨wr.heap.size, 0, none⟩) 1 1] 44)) := ((Below.refl _ _).alloc (Nat.le_refl _) _).alloc (by simp) _
      have hnew : ((wr.alloc (.cells #[.int .u8 0] 5)).alloc (.cells #[.slice (some ⟨wr.heap.size, 0, none⟩) 1 1] 44)).ownsRow base 5 1 (.slice (some ⟨wr.heap.size, 0, none⟩) 1 1) [(0 : UInt8)].length (cells8 [0]) :=
        ⟨rfl, .inr ⟨wr.heap.size, 1, #[.int .u8 0], rfl, by omega, by rw [Below.heap_alloc _ _ _ (by simp)]; exact heap_alloc_new wr _, Nat.le_refl _, by unfold maxLen; omega, rfl, rfl⟩⟩
      have HNEW := Lib.hid hnew
      have HR := Lib.hid hr
      clear hnew hr
      go_wp2_with (first
        | (at_builtin; refine wpList_append_shows _ rfl (.tmp 15) (.tmp 18) 45 rfl base 44 i0 (.agg #[.slice none 0 0]) 24 Try.underlying45 hi hz0 hz1 hz2 rfl _ _ _ rfl ((ho.alloc _).alloc _) (wr.heap.size + 2) _ 1 1 [.slice (some ⟨wr.heap.size, 0, none⟩) 1 1] rfl (by have := shows_new (wr.alloc (.cells #[.int .u8 0] 5)) #[.slice (some ⟨wr.heap.size, 0, none⟩) 1 1] 44; simpa using this) (by simp [Value.oneCell']) (by unfold maxLen; omega) (by omega) (by simp; omega) ?_; intro v3 w4 ho4 hg4; obtain ⟨hm1, hm2, hm3, hm4⟩ := HR.out.more1 ⟨ho, hp⟩ hb2 hg4 ho4 HNEW.out (by simp) (by simp); have hb4 : w4.heap[b]? = _ := more1_b HR.out hb2 hg4; have hcb := Joins.cell_of_block hb4 0; have hfb := Joins.unfrozen_of_block hb4 0; have HM1 := Lib.hid hm1; have HM2 := Lib.hid hm2; have HM3 := Lib.hid hm3; have HM4 := Lib.hid hm4; clear hm1 hm2 hm3 hm4 hb4; obtain ⟨A3, c3, hv3⟩ := row_form ho4; subst hv3)
        | fail)
      go_roundw
      case rel => exact ⟨_, m + 1, by rw [HSUC.out]; exact HM1.out, by have := HM.out; have := HLEN.out; show m + 1 ≤ _; omega, hO.trans HM2.out hvb, HM3.out.elim (fun e => e ▸ hvb) (fun ⟨k, e, hk⟩ => .inr ⟨k, e, by omega⟩), hbk.trans HM4.out⟩
      case measure =>
        have e1 := HM1.out.slen
        rw [e1, HSL.out]
        simp
        omega
    · have hm : m = n - d.s.length := by have := HM.out; have := HLEN.out; omega
      have HR := Lib.hid hr
      clear hr
      go_wp2
      go_end0
      exact ⟨rfl, _, by rw [← hm, HD1.out]; exact HR.out, hO, hvb, hbk⟩
end Go.Proofs.Ytdcfplfeagpcdaa
