
import Derived.Test.YtjooabgjkjnhhaaGreatDoorT24Ka
/-! Of token's laws: while a token is narrowed. -/
namespace Go.Proofs.YtjooabgjkjnhhaaGreatDoor
open Go.RowKit
set_option linter.unusedVariables false
set_option linter.unusedSimpArgs false
set_option maxRecDepth 100000

theorem TkO.but {ct N : Nat} {W W2 : World} {x : Tk} {io : Option Addr} {ic : Nat} {lo : Option Addr} {lc g t' : Nat} {cs : List Value} (h : TkO ct N W x io ic lo lc) (hs : SameBut g W W2) (hr : Row W g t' cs) (h5 : t' ≠ 5) (hc : t' ≠ ct) : TkO ct N W2 x io ic lo lc :=
  ⟨own_butr h.id hs hr h5, owB_but h.cs hs hr hc, h.tag, h.ok, h.big⟩
/-- While the token is narrowed. -/
structure IQ (W0 : World) (y : Tk) (Ev : Int) (q6 q7 q8 q10 q11 : Bool) (x39 x32 x40 x11 : Value) (W : World) : Prop where
  bel : Below W0.heap.size W0 W
  c7 : q7 = true → q6 = true
  c8 : q8 = true → q7 = true
  c11 : q11 = true → q8 = true ∧ q10 = true
  v : q6 = true → ∃ io ic lo lc, TkO 52 W0.heap.size W y io ic lo lc ∧ x39 = .tuple #[.agg (tkCells y io ic lo lc).toArray, .int .i64 Ev] ∧ (q7 = true → x32 = .tuple #[.agg (tkCells y io ic lo lc).toArray, .int .i64 Ev]) ∧ (q8 = true → x40 = .agg (tkCells y io ic lo lc).toArray) ∧ (q11 = true → ∃ g, x11 = .pointer (some ⟨g, 0, none⟩) ∧ W0.heap.size ≤ g ∧ Row W g 40 (tkCells y io ic lo lc))
  a : q10 = true → q11 = false → ∃ g, x11 = .pointer (some ⟨g, 0, none⟩) ∧ W0.heap.size ≤ g ∧ Row W g 40 zTk
section
variable {W0 : World} {y : Tk} {Ev : Int} {q6 q7 q8 q10 q11 : Bool} {x39 x32 x40 x11 : Value} {W W2 : World}
theorem IQ.zero (W0 : World) (y : Tk) (Ev : Int) (x39 x32 x40 x11 : Value) : IQ W0 y Ev false false false false false x39 x32 x40 x11 W0.drew :=
  ⟨(Below.refl _ _).drew, fun h => (by cases h), fun h => (by cases h), fun h => (by cases h), fun h => (by cases h), fun h => (by cases h)⟩
theorem IQ.keep (h : IQ W0 y Ev q6 q7 q8 q10 q11 x39 x32 x40 x11 W) (hb : Below W.heap.size W W2) : IQ W0 y Ev q6 q7 q8 q10 q11 x39 x32 x40 x11 W2 :=
  ⟨h.bel.trans (hb.mono h.bel.size), h.c7, h.c8, h.c11, fun e => let ⟨a, b, c, d, k1, k2, k3, k4, k5⟩ := h.v e; ⟨a, b, c, d, k1.keep hb, k2, k3, k4, fun f => let ⟨g, m1, m2, m3⟩ := k5 f; ⟨g, m1, m2, m3.below hb m3.lt⟩⟩, fun e f => let ⟨g, m1, m2, m3⟩ := h.a e f; ⟨g, m1, m2, m3.below hb m3.lt⟩⟩
theorem IQ.s6 (h : IQ W0 y Ev q6 q7 q8 q10 q11 x39 x32 x40 x11 W) (hq : q6 = false) (hb : Below W.heap.size W W2) {io : Option Addr} {ic : Nat} {lo : Option Addr} {lc : Nat} (ho : TkO 52 W.heap.size W2 y io ic lo lc) {q' : Bool} (hq' : q' = true) : IQ W0 y Ev q' q7 q8 q10 q11 (.tuple #[.agg (tkCells y io ic lo lc).toArray, .int .i64 Ev]) x32 x40 x11 W2 := by
  subst hq; subst hq'
  have h7 : q7 = false := Bool.eq_false_iff.2 fun e => Bool.noConfusion (h.c7 e)
  have h8 : q8 = false := Bool.eq_false_iff.2 fun e => Bool.noConfusion ((h.c7 (h.c8 e)))
  have h11 : q11 = false := Bool.eq_false_iff.2 fun e => by rw [(h.c11 e).1] at h8; exact Bool.noConfusion h8
  have k := h.keep hb
  exact ⟨k.bel, fun _ => rfl, h.c8, h.c11, fun _ => ⟨io, ic, lo, lc, ho.low h.bel.size, rfl, fun e => (by rw [h7] at e; cases e), fun e => (by rw [h8] at e; cases e), fun e => (by rw [h11] at e; cases e)⟩, k.a⟩
theorem IQ.s7 (h : IQ W0 y Ev q6 q7 q8 q10 q11 x39 x32 x40 x11 W) (h6 : q6 = true) {q' : Bool} (hq' : q' = true) : IQ W0 y Ev q6 q' q8 q10 q11 x39 x39 x40 x11 W :=
  ⟨h.bel, fun _ => h6, fun _ => hq', h.c11, fun e => let ⟨a, b, c, d, k1, k2, k3, k4, k5⟩ := h.v e; ⟨a, b, c, d, k1, k2, fun _ => k2, k4, k5⟩, h.a⟩
theorem IQ.s8 (h : IQ W0 y Ev q6 q7 q8 q10 q11 x39 x32 x40 x11 W) (h7 : q7 = true) {A : List Value} {B : Value} (e : x32 = .tuple #[.agg A.toArray, B]) {q' : Bool} (hq' : q' = true) : IQ W0 y Ev q6 q7 q' q10 q11 x39 x32 (.agg A.toArray) x11 W :=
  ⟨h.bel, h.c7, fun _ => h7, fun f => ⟨hq', (h.c11 f).2⟩, fun f => let ⟨a, b, c, d, k1, k2, k3, k4, k5⟩ := h.v f; ⟨a, b, c, d, k1, k2, k3, fun _ => (by have := k3 h7; rw [e] at this; injection this with this; have h2 := congrArg (fun z : Array Value => z[0]!) this; exact h2), k5⟩, h.a⟩
theorem IQ.s10 (h : IQ W0 y Ev q6 q7 q8 q10 q11 x39 x32 x40 x11 W) (hq : q10 = false) {q' : Bool} (hq' : q' = true) : IQ W0 y Ev q6 q7 q8 q' q11 x39 x32 x40 (.pointer (some ⟨W.heap.size, 0, none⟩)) (W.alloc (.cells zTk.toArray 40)) := by
  have h11 : q11 = false := Bool.eq_false_iff.2 fun e => by rw [(h.c11 e).2] at hq; exact Bool.noConfusion hq
  have hb : Below W.heap.size W (W.alloc (.cells zTk.toArray 40)) := (Below.refl _ _).alloc (Nat.le_refl _) _
  have k := h.keep hb
  exact ⟨k.bel, h.c7, h.c8, fun e => (by rw [h11] at e; cases e), fun f => let ⟨a, b, c, d, k1, k2, k3, k4, k5⟩ := k.v f; ⟨a, b, c, d, k1, k2, k3, k4, fun e => (by rw [h11] at e; cases e)⟩, fun _ _ => ⟨_, rfl, h.bel.size, zRow W⟩⟩
theorem IQ.s11 (h : IQ W0 y Ev q6 q7 q8 q10 q11 x39 x32 x40 x11 W) (h8 : q8 = true) (h10 : q10 = true) {io : Option Addr} {ic : Nat} {lo : Option Addr} {lc g : Nat} (e40 : x40 = .agg (tkCells y io ic lo lc).toArray) (e11 : x11 = .pointer (some ⟨g, 0, none⟩)) (hg : W0.heap.size ≤ g) (hz : Row W g 40 zTk) (hr : Row W2 g 40 (tkCells y io ic lo lc)) (hs : SameBut g W W2) {q' : Bool} (hq' : q' = true) : IQ W0 y Ev q6 q7 q8 q10 q' x39 x32 x40 x11 W2 :=
  ⟨hs.below h.bel hg, h.c7, h.c8, fun _ => ⟨h8, h10⟩, fun f => let ⟨a, b, c, d, k1, k2, k3, k4, k5⟩ := h.v f; ⟨a, b, c, d, k1.but hs hz (by decide) (by decide), k2, k3, k4, fun _ => ⟨g, e11, hg, (by have := k4 h8; rw [e40] at this; injection this with this; have h2 : tkCells y io ic lo lc = tkCells y a b c d := (by simpa using congrArg Array.toList this); rw [← h2]; exact hr)⟩⟩, fun _ f => (by rw [hq'] at f; cases f)⟩
end
end Go.Proofs.YtjooabgjkjnhhaaGreatDoor
