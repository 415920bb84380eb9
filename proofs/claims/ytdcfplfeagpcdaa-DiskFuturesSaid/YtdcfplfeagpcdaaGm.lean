/- DiskCommits: the disk, and the row of what is to be there. -/
import Derived.Test.YtdcfplfeagpcdaaGl
import Derived.Test.YtdcfplfeagpcdaaGk
set_option linter.unusedVariables false
namespace Go.Proofs.Ytdcfplfeagpcdaa
open Go.RowKit

structure KW (w W : World) (b : Nat) (d : RD) (q : Nat) (l : List UInt8) : Prop where
  kn : Kn w W b d
  q0 : w.heap.size ≤ q
  row : W.heap[q]? = some (.cells (cells8 l).toArray 5 (0, 0))
theorem KW.b {w W : World} {b q : Nat} {d : RD} {l : List UInt8} (h : KW w W b d q l) : Below w.heap.size w W := h.kn.b
theorem KW.lt {w W : World} {b q : Nat} {d : RD} {l : List UInt8} (h : KW w W b d q l) : q < W.heap.size := (Array.getElem?_eq_some_iff.1 h.row).1
theorem KW.below {w W W' : World} {b q : Nat} {d : RD} {l : List UInt8} (h : KW w W b d q l) (hb : Below W.heap.size W W') : KW w W' b d q l :=
  ⟨h.kn.below hb, h.q0, (hb.block q h.lt).trans h.row⟩
theorem byte_ne : 5 ≠ 70 ∧ 5 ≠ 38 := by decide
theorem KW.op {w W : World} {b q : Nat} {d d' : RD} {l : List UInt8} {er : Int} {f : FuncId} {args : Array Value} (h : KW w W b d q l) (hc : ∀ F, PD W F b d → (∀ k, F k → w.heap.size ≤ k) → Calls Try.prog f args W (PDone W F b er d')) :
    Calls Try.prog f args W fun e w' => e = .returned (.int .i64 er) ∧ KW w w' b d' q l := by
  have hq := h.lt
  obtain ⟨hk, q0, row⟩ := h
  have hk0 := hk
  obtain ⟨F, h1, h2, h3⟩ := hk
  refine (hc F h1 h2).mono fun e w' hp => ⟨hp.1, hk0.done F h2 hp, q0, ?_⟩
  obtain ⟨_, F', _, _, hS⟩ := hp
  exact (hS.block q hq (fun hF => PKind.not row byte_ne.1 byte_ne.2 (h1.kind hF))).trans row
theorem KW.fuse {w W : World} {b q : Nat} {d : RD} {l : List UInt8} (h : KW w W b d q l) (n : Int) (hn : n ≤ 9223372036854775807) :
    Calls Try.prog 20 #[.pointer (some ⟨b, 0, none⟩), .int .i64 n] W fun e w' => e = .returned (.int .i64 (fuR n)) ∧ KW w w' b (fuD d n) q l := h.op fun F h1 _ => pd_fuse W F b d h1 n hn
theorem KW.flush {w W : World} {b q : Nat} {d : RD} {l : List UInt8} (h : KW w W b d q l) :
    Calls Try.prog 22 #[.pointer (some ⟨b, 0, none⟩)] W fun e w' => e = .returned (.int .i64 (flR d)) ∧ KW w w' b (flD d) q l := h.op fun F h1 _ => pd_flush W F b d h1
theorem KW.write {w W : World} {b q : Nat} {d : RD} {l : List UInt8} (h : KW w W b d q l) (n : Int) (c : UInt8) {k : Nat} (hf : Fine d k) (hk : k < 1000000) :
    Calls Try.prog 23 #[.pointer (some ⟨b, 0, none⟩), .int .i64 n, .agg (sec c).toArray] W fun e w' => e = .returned (.int .i64 (wrR d n)) ∧ KW w w' b (wrD d n c) q l := h.op fun F h1 _ => pd_write W F b d h1 n c (fun i hi => by have := hf.ver i hi; omega)
theorem KW.doo {w W : World} {b q : Nat} {d : RD} {l : List UInt8} (h : KW w W b d q l) (x : ST) (A : Option Addr) (cap : Nat) (hx : x.ok) {n : Nat} (hf : Fine d n) (hn : n < 1000000) (hp : Shows w w.heap.size A x.picks.length (nums x.picks)) (hpc : x.picks.length ≤ 1000000) :
    Calls Try.prog 21 #[.pointer (some ⟨b, 0, none⟩), .agg #[.int .i64 x.kind, .int .i64 x.n, .int .u8 (x.fill.toNat : Int), .slice A x.picks.length cap]] W fun e w' => e = .returned (.int .i64 (stR d x)) ∧ KW w w' b (stD d x) q l :=
  h.op fun F h1 _ => pdo_all W F b d h1 x A cap hx.2 (fun i hi => by have := hf.ver i hi; omega) ((hp.below h.b).wide h.b.size) hpc
theorem KW.crash {w W : World} {b q : Nat} {d : RD} {l : List UInt8} (h : KW w W b d q l) (A : Option Addr) (cap : Nat) (picks : List Int) (hs : Shows w w.heap.size A picks.length (nums picks)) (hpc : picks.length ≤ 1000000) :
    Calls Try.prog 11 #[.pointer (some ⟨b, 0, none⟩), .slice A picks.length cap] W fun e w' => e = .returned (.int .i64 0) ∧ KW w w' b (crashD d picks) q l :=
  h.op fun F h1 h2 => pd_crash W F b d h1 A cap picks ((hs.below h.b).wide h.b.size) hpc (fun p hA h0 hF => by
    obtain ⟨p', u, e, hb, _⟩ := hs.cell h0
    rw [hA] at e
    injection e with e
    subst e
    have := h2 _ hF
    omega)
theorem KW.read {w W : World} {b q : Nat} {d : RD} {l : List UInt8} (h : KW w W b d q l) (n : Int) :
    Calls Try.prog 16 #[.pointer (some ⟨b, 0, none⟩), .int .i64 n] W fun e w' => e = .returned (.tuple #[.agg (sec (rdC d n)).toArray, .int .i64 (rdR d n)]) ∧ Below W.heap.size W w' := by
  obtain ⟨F, h1, _⟩ := h.kn
  exact pd_read W F b d h1 n
theorem KW.set {w W : World} {b q : Nat} {d : RD} {l : List UInt8} (h : KW w W b d q l) (i : Nat) (c : UInt8) : KW w (W.setCell ⟨q, i, none⟩ (.int .u8 (c.toNat : Int))) b d q (l.set i c) := by
  obtain ⟨⟨F, h1, h2, h3⟩, q0, row⟩ := h
  refine ⟨⟨F, h1.on (fun k hk => Below.heap_setCell _ _ _ _ (fun e => PKind.not row byte_ne.1 byte_ne.2 (h1.kind (by have e2 : k = q := e; rw [← e2]; exact hk)))), h2, h3.setCell (by simpa using q0) _⟩, q0, ?_⟩
  have e : (cells8 (l.set i c)).toArray = (cells8 l).toArray.setIfInBounds i (.int .u8 (c.toNat : Int)) := by
    apply Array.ext'
    simp [cells8, List.map_set]
  rw [e]
  exact Joins.block_setCell row _
theorem KW.cell {w W : World} {b q : Nat} {d : RD} {l : List UInt8} (h : KW w W b d q l) (i : Nat) (hi : i < l.length) : W.cell? ⟨q, i, none⟩ = some (.int .u8 ((l.getD i 0).toNat : Int)) := by
  rw [cell_of_row W q i _ _ _ h.row]
  simp [cells8, List.getD, hi]
theorem KW.fr {w W : World} {b q : Nat} {d : RD} {l : List UInt8} (h : KW w W b d q l) (i : Nat) : W.frozen? ⟨q, i, none⟩ = false := Joins.unfrozen_of_block h.row i
theorem Kn.kw {w W : World} {b : Nat} {d : RD} (h : Kn w W b d) (l : List UInt8) : KW w (W.alloc (.cells (cells8 l).toArray 5)) b d W.heap.size l :=
  ⟨h.below ((Below.refl _ _).alloc (Nat.le_refl _) _), h.b.size, heap_alloc_new W _⟩
end Go.Proofs.Ytdcfplfeagpcdaa
