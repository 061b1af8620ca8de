
import Derived.Test.YtpcgkjngpdplmaaGreatDoorN19L
/-! The code's model: what a stage does. (Printed by tools/genn19.py.) -/
namespace Go.Proofs.YtpcgkjngpdplmaaGreatDoor
open Go.RowKit Go.Maps
set_option linter.unusedVariables false
set_option linter.unusedSimpArgs false

/-- Two copies of a state in new memory. -/
structure B2 (p : World → Prop) (lo : Nat) (new : List Value) (a1 a2 s1 s2 : Bool) (x y : Value) (W : World) : Prop where
  pw : p W
  hlo : lo ≤ W.heap.size
  n1 : a1 = true → ∃ G, x = .pointer (some ⟨G, 0, none⟩) ∧ lo ≤ G ∧ Row W G 67 (if s1 then new else csC zCS)
  n2 : a2 = true → ∃ G, y = .pointer (some ⟨G, 0, none⟩) ∧ lo ≤ G ∧ Row W G 67 (if s2 then new else csC zCS)
  ne : ∀ G H, a1 = true → a2 = true → x = .pointer (some ⟨G, 0, none⟩) → y = .pointer (some ⟨H, 0, none⟩) → G ≠ H
theorem ptr_inj {G H : Nat} (h : Value.pointer (some ⟨G, 0, none⟩) = .pointer (some ⟨H, 0, none⟩)) : G = H := by
  injection h with h; injection h with h; injection h with h
section
variable {p : World → Prop} {lo : Nat} {new : List Value} {a1 a2 s1 s2 : Bool} {x y : Value} {W W2 : World}
theorem B2.start (hp : p W) (hl : lo ≤ W.heap.size) : B2 p lo new false false false false x y W := ⟨hp, hl, (fun e => by cases e), (fun e => by cases e), (fun _ _ e => by cases e)⟩
theorem B2.al1 (h : B2 p lo new a1 a2 s1 s2 x y W) (e1 : a1 = false) (e2 : s1 = false) (C : Array Value) (hC : C = (csC zCS).toArray) (hp : p (W.alloc (.cells C 67))) : B2 p lo new true a2 s1 s2 (.pointer (some ⟨W.heap.size, 0, none⟩)) y (W.alloc (.cells C 67)) := by
  subst e1; subst e2
  refine ⟨hp, by have := h.hlo; simp; omega, fun _ => ⟨_, rfl, h.hlo, Row.at W 67 (csC zCS) C _ rfl hC⟩, fun e => let ⟨G, a, b, d⟩ := h.n2 e; ⟨G, a, b, d.alloc _⟩, fun G H _ e hx hy => ?_⟩
  obtain ⟨G', a, b, d⟩ := h.n2 e
  have := d.lt
  have h1 := ptr_inj hx
  have h2 := ptr_inj (a.symm.trans hy)
  omega
theorem B2.al2 (h : B2 p lo new a1 a2 s1 s2 x y W) (e1 : a2 = false) (e2 : s2 = false) (C : Array Value) (hC : C = (csC zCS).toArray) (hp : p (W.alloc (.cells C 67))) : B2 p lo new a1 true s1 s2 x (.pointer (some ⟨W.heap.size, 0, none⟩)) (W.alloc (.cells C 67)) := by
  subst e1; subst e2
  refine ⟨hp, by have := h.hlo; simp; omega, fun e => let ⟨G, a, b, d⟩ := h.n1 e; ⟨G, a, b, d.alloc _⟩, fun _ => ⟨_, rfl, h.hlo, Row.at W 67 (csC zCS) C _ rfl hC⟩, fun G H e _ hx hy => ?_⟩
  obtain ⟨G', a, b, d⟩ := h.n1 e
  have := d.lt
  have h1 := ptr_inj hy
  have h2 := ptr_inj (a.symm.trans hx)
  omega
theorem B2.st1 {G : Nat} (h : B2 p lo new a1 a2 s1 s2 (.pointer (some ⟨G, 0, none⟩)) y W) (e1 : a1 = true) (hp : p W2) (hr : Row W2 G 67 new) (hs : SameBut G W W2) : B2 p lo new a1 a2 true s2 (.pointer (some ⟨G, 0, none⟩)) y W2 := by
  obtain ⟨G', hx, hlo, _⟩ := h.n1 e1
  obtain rfl := ptr_inj hx
  refine ⟨hp, by have := h.hlo; have := hs.size; omega, fun _ => ⟨_, rfl, hlo, hr⟩, fun e => ?_, h.ne⟩
  obtain ⟨H, a, b, d⟩ := h.n2 e
  exact ⟨H, a, b, d.but hs (fun e2 => h.ne G H e1 e rfl a e2.symm)⟩
theorem B2.st2 {G : Nat} (h : B2 p lo new a1 a2 s1 s2 x (.pointer (some ⟨G, 0, none⟩)) W) (e1 : a2 = true) (hp : p W2) (hr : Row W2 G 67 new) (hs : SameBut G W W2) : B2 p lo new a1 a2 s1 true x (.pointer (some ⟨G, 0, none⟩)) W2 := by
  obtain ⟨G', hx, hlo, _⟩ := h.n2 e1
  obtain rfl := ptr_inj hx
  refine ⟨hp, by have := h.hlo; have := hs.size; omega, fun e => ?_, fun _ => ⟨_, rfl, hlo, hr⟩, h.ne⟩
  obtain ⟨H, a, b, d⟩ := h.n1 e
  exact ⟨H, a, b, d.but hs (fun e2 => h.ne H G e e1 a rfl e2)⟩
end
/-- Both turned. -/
structure C2 (p : World → Prop) (lo G H : Nat) (s t u : CS) (q1 q2 : Bool) (W : World) : Prop where
  pw : p W
  r1 : Row W G 67 (csC (if q1 then t else s))
  r2 : Row W H 67 (csC (if q2 then u else s))
  ne : G ≠ H
  l1 : lo ≤ G
  l2 : lo ≤ H
section
variable {p : World → Prop} {lo G H : Nat} {s t u : CS} {q1 q2 : Bool} {W W2 : World}
theorem C2.set1 (h : C2 p lo G H s t u q1 q2 W) (e : q1 = false) (i : Nat) (v : Value) (hp : p (W.setCell ⟨G, i, none⟩ v)) (ht : (csC s).set i v = csC t) : C2 p lo G H s t u true q2 (W.setCell ⟨G, i, none⟩ v) := by
  subst e
  exact ⟨hp, by have := h.r1.set i v; rw [if_neg (by decide), ht] at this; exact this, h.r2.but (SameBut.setCell G i v W) h.ne.symm, h.ne, h.l1, h.l2⟩
theorem C2.set2 (h : C2 p lo G H s t u q1 q2 W) (e : q2 = false) (i : Nat) (v : Value) (hp : p (W.setCell ⟨H, i, none⟩ v)) (ht : (csC s).set i v = csC u) : C2 p lo G H s t u q1 true (W.setCell ⟨H, i, none⟩ v) := by
  subst e
  exact ⟨hp, h.r1.but (SameBut.setCell H i v W) h.ne, by have := h.r2.set i v; rw [if_neg (by decide), ht] at this; exact this, h.ne, h.l1, h.l2⟩
end
/-- Four states beside what is told. -/
structure Q4 (ab nb mb : Nat) (aa : AN) (n : Nat) (LL : List CS) (w : World) (T : TL) (g0 g1 g2 g3 : Nat) (s0 s1 s2 s3 : CS) (W : World) : Prop where
  tel : TelQ ab nb mb aa n LL T w W
  r0 : Row W g0 67 (csC s0)
  r1 : Row W g1 67 (csC s1)
  r2 : Row W g2 67 (csC s2)
  r3 : Row W g3 67 (csC s3)
  le : w.heap.size ≤ g0 ∧ w.heap.size ≤ g1 ∧ w.heap.size ≤ g2 ∧ w.heap.size ≤ g3
theorem Q4.told {ab nb mb : Nat} {aa : AN} {n : Nat} {LL : List CS} {w W W' : World} {T U : TL} {g0 g1 g2 g3 : Nat} {s0 s1 s2 s3 : CS} (h : Q4 ab nb mb aa n LL w T g0 g1 g2 g3 s0 s1 s2 s3 W) (h2 : TelQ ab nb mb aa n LL U w W') (hg : W.grownBy W' (some mb)) : Q4 ab nb mb aa n LL w U g0 g1 g2 g3 s0 s1 s2 s3 W' :=
  have hm := h.tel.lm
  have hl := h.le
  ⟨h2, h.r0.grown hg (by omega), h.r1.grown hg (by omega), h.r2.grown hg (by omega), h.r3.grown hg (by omega), hl⟩
/-- One more, in new memory; then a cell of it set. -/
theorem C2.laid {ab nb mb : Nat} {aa : AN} {n : Nat} {LL : List CS} {w W W2 : World} {N G H : Nat} {s t u v : CS} (h : C2 (DW ab nb mb aa n LL w N [] s false) (w.heap.size + 1) G H s t u true true W) {C : Array Value} (hs : SameBut W.heap.size (W.alloc (.cells C 67)) W2) (hr : Row W2 W.heap.size 67 (csC v)) : Q4 ab nb mb aa n LL w [] w.heap.size G H W.heap.size s t u v W2 := by
  have h0 := h.pw.st.lt
  have h1 := h.r1.lt
  have h2 := h.r2.lt
  have l1 := h.l1
  have l2 := h.l2
  exact ⟨(h.pw.tel.alloc _).but hs (by omega), (h.pw.st.alloc _).but hs (by omega), (h.r1.alloc _).but hs (by omega), (h.r2.alloc _).but hs (by omega), hr, by omega, by omega, by omega, by omega⟩
theorem Q4.last {ab nb mb : Nat} {aa : AN} {n : Nat} {LL : List CS} {w W W2 : World} {N G H : Nat} {s t u v v' : CS} (h : Q4 ab nb mb aa n LL w [] w.heap.size G H W.heap.size s t u v W2) (h2 : C2 (DW ab nb mb aa n LL w N [] s false) (w.heap.size + 1) G H s t u true true W) (i : Nat) (x : Value) (e : (csC v).set i x = csC v') : Q4 ab nb mb aa n LL w [] w.heap.size G H W.heap.size s t u v' (W2.setCell ⟨W.heap.size, i, none⟩ x) := by
  have h0 := h2.pw.st.lt
  have h1 := h2.r1.lt
  have h3 := h2.r2.lt
  have hs := SameBut.setCell W.heap.size i x W2
  exact ⟨h.tel.but hs (by omega), h.r0.but hs (by omega), h.r1.but hs (by omega), h.r2.but hs (by omega), by rw [← e]; exact h.r3.set i x, h.le⟩
theorem DW.set {ab nb mb : Nat} {aa : AN} {n : Nat} {LL : List CS} {w W : World} {N : Nat} {T : TL} {s : CS} {q : Bool} (h : DW ab nb mb aa n LL w N T s q W) {G : Nat} (hG : w.heap.size + 1 ≤ G) (i : Nat) (v : Value) : DW ab nb mb aa n LL w N T s q (W.setCell ⟨G, i, none⟩ v) := h.but (SameBut.setCell G i v W) hG
theorem DW.alloc {ab nb mb : Nat} {aa : AN} {n : Nat} {LL : List CS} {w W : World} {N : Nat} {T : TL} {s : CS} {q : Bool} (h : DW ab nb mb aa n LL w N T s q W) (o : Obj) : DW ab nb mb aa n LL w N T s q (W.alloc o) := h.keep ((Below.refl _ _).alloc (Nat.le_refl _) _)
structure SG2N (W1 : World) (ab nb mb : Nat) (aa : AN) (n : Nat) (LL : List CS) (w : World) (N : Nat) (T : TL) (s : CS) (E : Int) (L : Nat → Bool) (x17 x18 x19 x20 x21 x22 x23 x24 x25 x26 x27 : Value) (W : World) : Prop where
  x : DW ab nb mb aa n LL w N T s false W
  p0 : L 0 = true → x17 = .int .i64 E
  p1 : L 1 = true → x18 = .bool false
  p2 : L 2 = true → x19 = .bool false
  p10 : L 10 = true → x27 = .bool false
section
variable {W1 : World} {ab nb mb : Nat} {aa : AN} {n : Nat} {LL : List CS} {w : World} {N : Nat} {T : TL} {s : CS} {E : Int} {L : Nat → Bool} {x17 x18 x19 x20 x21 x22 x23 x24 x25 x26 x27 : Value} {W W2 : World}
theorem SG2N.s0 (h : SG2N W1 ab nb mb aa n LL w N T s E L x17 x18 x19 x20 x21 x22 x23 x24 x25 x26 x27 W) : SG2N W1 ab nb mb aa n LL w N T s E (upd L 0) (.int .i64 E) x18 x19 x20 x21 x22 x23 x24 x25 x26 x27 W :=
  ⟨h.x, fun _ => rfl, h.p1, h.p2, h.p10⟩
theorem SG2N.s1 (h : SG2N W1 ab nb mb aa n LL w N T s E L x17 x18 x19 x20 x21 x22 x23 x24 x25 x26 x27 W) : SG2N W1 ab nb mb aa n LL w N T s E (upd L 1) x17 (.bool false) x19 x20 x21 x22 x23 x24 x25 x26 x27 W :=
  ⟨h.x, h.p0, fun _ => rfl, h.p2, h.p10⟩
theorem SG2N.s2 (h : SG2N W1 ab nb mb aa n LL w N T s E L x17 x18 x19 x20 x21 x22 x23 x24 x25 x26 x27 W) : SG2N W1 ab nb mb aa n LL w N T s E (upd L 2) x17 x18 (.bool false) x20 x21 x22 x23 x24 x25 x26 x27 W :=
  ⟨h.x, h.p0, h.p1, fun _ => rfl, h.p10⟩
theorem SG2N.s3 (h : SG2N W1 ab nb mb aa n LL w N T s E L x17 x18 x19 x20 x21 x22 x23 x24 x25 x26 x27 W) : SG2N W1 ab nb mb aa n LL w N T s E (upd L 3) x17 x18 x19 undef x21 x22 x23 x24 x25 x26 x27 W :=
  ⟨h.x, h.p0, h.p1, h.p2, h.p10⟩
theorem SG2N.s4 (h : SG2N W1 ab nb mb aa n LL w N T s E L x17 x18 x19 x20 x21 x22 x23 x24 x25 x26 x27 W) : SG2N W1 ab nb mb aa n LL w N T s E (upd L 4) x17 x18 x19 x20 undef x22 x23 x24 x25 x26 x27 W :=
  ⟨h.x, h.p0, h.p1, h.p2, h.p10⟩
theorem SG2N.s5 (h : SG2N W1 ab nb mb aa n LL w N T s E L x17 x18 x19 x20 x21 x22 x23 x24 x25 x26 x27 W) : SG2N W1 ab nb mb aa n LL w N T s E (upd L 5) x17 x18 x19 x20 x21 undef x23 x24 x25 x26 x27 W :=
  ⟨h.x, h.p0, h.p1, h.p2, h.p10⟩
theorem SG2N.s6 (h : SG2N W1 ab nb mb aa n LL w N T s E L x17 x18 x19 x20 x21 x22 x23 x24 x25 x26 x27 W) : SG2N W1 ab nb mb aa n LL w N T s E (upd L 6) x17 x18 x19 x20 x21 x22 undef x24 x25 x26 x27 W :=
  ⟨h.x, h.p0, h.p1, h.p2, h.p10⟩
theorem SG2N.s7 (h : SG2N W1 ab nb mb aa n LL w N T s E L x17 x18 x19 x20 x21 x22 x23 x24 x25 x26 x27 W) : SG2N W1 ab nb mb aa n LL w N T s E (upd L 7) x17 x18 x19 x20 x21 x22 x23 undef x25 x26 x27 W :=
  ⟨h.x, h.p0, h.p1, h.p2, h.p10⟩
theorem SG2N.s8 (h : SG2N W1 ab nb mb aa n LL w N T s E L x17 x18 x19 x20 x21 x22 x23 x24 x25 x26 x27 W) : SG2N W1 ab nb mb aa n LL w N T s E (upd L 8) x17 x18 x19 x20 x21 x22 x23 x24 undef x26 x27 W :=
  ⟨h.x, h.p0, h.p1, h.p2, h.p10⟩
theorem SG2N.s9 (h : SG2N W1 ab nb mb aa n LL w N T s E L x17 x18 x19 x20 x21 x22 x23 x24 x25 x26 x27 W) : SG2N W1 ab nb mb aa n LL w N T s E (upd L 9) x17 x18 x19 x20 x21 x22 x23 x24 x25 undef x27 W :=
  ⟨h.x, h.p0, h.p1, h.p2, h.p10⟩
theorem SG2N.s10 (h : SG2N W1 ab nb mb aa n LL w N T s E L x17 x18 x19 x20 x21 x22 x23 x24 x25 x26 x27 W) : SG2N W1 ab nb mb aa n LL w N T s E (upd L 10) x17 x18 x19 x20 x21 x22 x23 x24 x25 x26 (.bool false) W :=
  ⟨h.x, h.p0, h.p1, h.p2, fun _ => rfl⟩
end
@[reducible] def ISG2N (W1 : World) (ab nb mb : Nat) (aa : AN) (n : Nat) (LL : List CS) (w : World) (N : Nat) (T : TL) (s : CS) (E : Int) (y0 y1 y2 y3 y4 y5 y6 y7 y8 y9 y10 y11 y12 y13 y14 y15 y16 y28 y29 y30 y31 y32 y33 y34 y35 y36 y37 y38 y39 y40 y41 y42 y43 y44 y45 y46 y47 y48 y49 y50 y51 y52 y53 y54 y55 y56 y57 y58 y59 y60 y61 : Value) : (Nat → Bool) → Act → World → Prop := fun L a W => ∃ x17 x18 x19 x20 x21 x22 x23 x24 x25 x26 x27, a = ⟨#[y0, y1, y2, y3, y4, y5, y6, y7, y8, y9, y10, y11, y12, y13, y14, y15, y16, x17, x18, x19, x20, x21, x22, x23, x24, x25, x26, x27, y28, y29, y30, y31, y32, y33, y34, y35, y36, y37, y38, y39, y40, y41, y42, y43, y44, y45, y46, y47, y48, y49, y50, y51, y52, y53, y54, y55, y56, y57, y58, y59, y60, y61], []⟩ ∧ SG2N W1 ab nb mb aa n LL w N T s E L x17 x18 x19 x20 x21 x22 x23 x24 x25 x26 x27 W
theorem SG2N.step {W1 : World} {ab nb mb : Nat} {aa : AN} {n : Nat} {LL : List CS} {w : World} {N : Nat} {T : TL} {s : CS} {E : Int} {y0 y1 y2 y3 y4 y5 y6 y7 y8 y9 y10 y11 y12 y13 y14 y15 y16 y28 y29 y30 y31 y32 y33 y34 y35 y36 y37 y38 y39 y40 y41 y42 y43 y44 y45 y46 y47 y48 y49 y50 y51 y52 y53 y54 y55 y56 y57 y58 y59 y60 y61 : Value} {P : Program} {ops : Array Oper} {Q : Exit → Act → World → Prop} {i : Nat} {o : Oper} (hq : ∀ x17 x18 x19 x20 x21 x22 x23 x24 x25 x26 x27 (L : Nat → Bool) (W : World), SG2N W1 ab nb mb aa n LL w N T s E L x17 x18 x19 x20 x21 x22 x23 x24 x25 x26 x27 W → L i = false → (∀ j ∈ onesOf o, L j = true) → ∀ K : Act → World → Prop, Shut (∀ a' w', ISG2N W1 ab nb mb aa n LL w N T s E y0 y1 y2 y3 y4 y5 y6 y7 y8 y9 y10 y11 y12 y13 y14 y15 y16 y28 y29 y30 y31 y32 y33 y34 y35 y36 y37 y38 y39 y40 y41 y42 y43 y44 y45 y46 y47 y48 y49 y50 y51 y52 y53 y54 y55 y56 y57 y58 y59 y60 y61 (upd L i) a' w' → K a' w') → if Region.wanted o (yielded ops (⟨#[y0, y1, y2, y3, y4, y5, y6, y7, y8, y9, y10, y11, y12, y13, y14, y15, y16, x17, x18, x19, x20, x21, x22, x23, x24, x25, x26, x27, y28, y29, y30, y31, y32, y33, y34, y35, y36, y37, y38, y39, y40, y41, y42, y43, y44, y45, y46, y47, y48, y49, y50, y51, y52, y53, y54, y55, y56, y57, y58, y59, y60, y61], []⟩ : Act).tmps) = true then Oper.wp P o ⟨#[y0, y1, y2, y3, y4, y5, y6, y7, y8, y9, y10, y11, y12, y13, y14, y15, y16, x17, x18, x19, x20, x21, x22, x23, x24, x25, x26, x27, y28, y29, y30, y31, y32, y33, y34, y35, y36, y37, y38, y39, y40, y41, y42, y43, y44, y45, y46, y47, y48, y49, y50, y51, y52, y53, y54, y55, y56, y57, y58, y59, y60, y61], []⟩ W K Q else K ((⟨#[y0, y1, y2, y3, y4, y5, y6, y7, y8, y9, y10, y11, y12, y13, y14, y15, y16, x17, x18, x19, x20, x21, x22, x23, x24, x25, x26, x27, y28, y29, y30, y31, y32, y33, y34, y35, y36, y37, y38, y39, y40, y41, y42, y43, y44, y45, y46, y47, y48, y49, y50, y51, y52, y53, y54, y55, y56, y57, y58, y59, y60, y61], []⟩ : Act).put o.dst undef) W) : StepI P ops (ISG2N W1 ab nb mb aa n LL w N T s E y0 y1 y2 y3 y4 y5 y6 y7 y8 y9 y10 y11 y12 y13 y14 y15 y16 y28 y29 y30 y31 y32 y33 y34 y35 y36 y37 y38 y39 y40 y41 y42 y43 y44 y45 y46 y47 y48 y49 y50 y51 y52 y53 y54 y55 y56 y57 y58 y59 y60 y61) Q i o := by
  rintro L a W ⟨x17, x18, x19, x20, x21, x22, x23, x24, x25, x26, x27, rfl, h⟩
  exact hq _ _ _ _ _ _ _ _ _ _ _ _ _ h
theorem SG2N.ends {W1 : World} {ab nb mb : Nat} {aa : AN} {n : Nat} {LL : List CS} {w : World} {N : Nat} {T : TL} {s : CS} {E : Int} {y0 y1 y2 y3 y4 y5 y6 y7 y8 y9 y10 y11 y12 y13 y14 y15 y16 y28 y29 y30 y31 y32 y33 y34 y35 y36 y37 y38 y39 y40 y41 y42 y43 y44 y45 y46 y47 y48 y49 y50 y51 y52 y53 y54 y55 y56 y57 y58 y59 y60 y61 : Value} {mm_ : Nat} {Q : Exit → Act → World → Prop} (hq : ∀ x17 x18 x19 x20 x21 x22 x23 x24 x25 x26 x27 (L : Nat → Bool) (W : World), (∀ j, j < mm_ → L j = true) → SG2N W1 ab nb mb aa n LL w N T s E L x17 x18 x19 x20 x21 x22 x23 x24 x25 x26 x27 W → Q .normal ⟨#[y0, y1, y2, y3, y4, y5, y6, y7, y8, y9, y10, y11, y12, y13, y14, y15, y16, x17, x18, x19, x20, x21, x22, x23, x24, x25, x26, x27, y28, y29, y30, y31, y32, y33, y34, y35, y36, y37, y38, y39, y40, y41, y42, y43, y44, y45, y46, y47, y48, y49, y50, y51, y52, y53, y54, y55, y56, y57, y58, y59, y60, y61], []⟩ W) : ∀ L a' w', (∀ j, j < mm_ → L j = true) → ISG2N W1 ab nb mb aa n LL w N T s E y0 y1 y2 y3 y4 y5 y6 y7 y8 y9 y10 y11 y12 y13 y14 y15 y16 y28 y29 y30 y31 y32 y33 y34 y35 y36 y37 y38 y39 y40 y41 y42 y43 y44 y45 y46 y47 y48 y49 y50 y51 y52 y53 y54 y55 y56 y57 y58 y59 y60 y61 L a' w' → Q .normal a' w' := by
  rintro L a W hall ⟨x17, x18, x19, x20, x21, x22, x23, x24, x25, x26, x27, rfl, h⟩
  exact hq _ _ _ _ _ _ _ _ _ _ _ _ _ hall h
structure SG2T (W1 : World) (ab nb mb : Nat) (aa : AN) (n : Nat) (LL : List CS) (w : World) (N : Nat) (T : TL) (s : CS) (bo : Option Addr) (bl bc mg : Nat) (SZ : Int) (L : Nat → Bool) (x17 x18 x19 x20 x21 x22 x23 x24 x25 x26 x27 : Value) (W : World) : Prop where
  x : DW ab nb mb aa n LL w N T s false W
  p0 : L 0 = true → x17 = .int .i64 0
  p1 : L 1 = true → x18 = .bool true
  p2 : L 2 = true → x19 = .bool true
  p3 : L 3 = true → x20 = .slice bo bl bc
  p4 : L 4 = true → x21 = .int .i64 (bl : Int)
  p5 : L 5 = true → x22 = .pointer (some ⟨mg, 0, none⟩)
  p6 : L 6 = true → x23 = .pointer (some ⟨mg, 0, none⟩)
  p7 : L 7 = true → x24 = .pointer (some ⟨mg, 9, none⟩)
  p8 : L 8 = true → x25 = .int .i64 SZ
  p9 : L 9 = true → x26 = .bool true
  p10 : L 10 = true → x27 = .bool true
section
variable {W1 : World} {ab nb mb : Nat} {aa : AN} {n : Nat} {LL : List CS} {w : World} {N : Nat} {T : TL} {s : CS} {bo : Option Addr} {bl bc mg : Nat} {SZ : Int} {L : Nat → Bool} {x17 x18 x19 x20 x21 x22 x23 x24 x25 x26 x27 : Value} {W W2 : World}
theorem SG2T.s0 (h : SG2T W1 ab nb mb aa n LL w N T s bo bl bc mg SZ L x17 x18 x19 x20 x21 x22 x23 x24 x25 x26 x27 W) : SG2T W1 ab nb mb aa n LL w N T s bo bl bc mg SZ (upd L 0) (.int .i64 0) x18 x19 x20 x21 x22 x23 x24 x25 x26 x27 W :=
  ⟨h.x, fun _ => rfl, h.p1, h.p2, h.p3, h.p4, h.p5, h.p6, h.p7, h.p8, h.p9, h.p10⟩
theorem SG2T.s1 (h : SG2T W1 ab nb mb aa n LL w N T s bo bl bc mg SZ L x17 x18 x19 x20 x21 x22 x23 x24 x25 x26 x27 W) : SG2T W1 ab nb mb aa n LL w N T s bo bl bc mg SZ (upd L 1) x17 (.bool true) x19 x20 x21 x22 x23 x24 x25 x26 x27 W :=
  ⟨h.x, h.p0, fun _ => rfl, h.p2, h.p3, h.p4, h.p5, h.p6, h.p7, h.p8, h.p9, h.p10⟩
theorem SG2T.s2 (h : SG2T W1 ab nb mb aa n LL w N T s bo bl bc mg SZ L x17 x18 x19 x20 x21 x22 x23 x24 x25 x26 x27 W) : SG2T W1 ab nb mb aa n LL w N T s bo bl bc mg SZ (upd L 2) x17 x18 (.bool true) x20 x21 x22 x23 x24 x25 x26 x27 W :=
  ⟨h.x, h.p0, h.p1, fun _ => rfl, h.p3, h.p4, h.p5, h.p6, h.p7, h.p8, h.p9, h.p10⟩
theorem SG2T.s3 (h : SG2T W1 ab nb mb aa n LL w N T s bo bl bc mg SZ L x17 x18 x19 x20 x21 x22 x23 x24 x25 x26 x27 W) : SG2T W1 ab nb mb aa n LL w N T s bo bl bc mg SZ (upd L 3) x17 x18 x19 (.slice bo bl bc) x21 x22 x23 x24 x25 x26 x27 W :=
  ⟨h.x, h.p0, h.p1, h.p2, fun _ => rfl, h.p4, h.p5, h.p6, h.p7, h.p8, h.p9, h.p10⟩
theorem SG2T.s4 (h : SG2T W1 ab nb mb aa n LL w N T s bo bl bc mg SZ L x17 x18 x19 x20 x21 x22 x23 x24 x25 x26 x27 W) : SG2T W1 ab nb mb aa n LL w N T s bo bl bc mg SZ (upd L 4) x17 x18 x19 x20 (.int .i64 (bl : Int)) x22 x23 x24 x25 x26 x27 W :=
  ⟨h.x, h.p0, h.p1, h.p2, h.p3, fun _ => rfl, h.p5, h.p6, h.p7, h.p8, h.p9, h.p10⟩
theorem SG2T.s5 (h : SG2T W1 ab nb mb aa n LL w N T s bo bl bc mg SZ L x17 x18 x19 x20 x21 x22 x23 x24 x25 x26 x27 W) : SG2T W1 ab nb mb aa n LL w N T s bo bl bc mg SZ (upd L 5) x17 x18 x19 x20 x21 (.pointer (some ⟨mg, 0, none⟩)) x23 x24 x25 x26 x27 W :=
  ⟨h.x, h.p0, h.p1, h.p2, h.p3, h.p4, fun _ => rfl, h.p6, h.p7, h.p8, h.p9, h.p10⟩
theorem SG2T.s6 (h : SG2T W1 ab nb mb aa n LL w N T s bo bl bc mg SZ L x17 x18 x19 x20 x21 x22 x23 x24 x25 x26 x27 W) : SG2T W1 ab nb mb aa n LL w N T s bo bl bc mg SZ (upd L 6) x17 x18 x19 x20 x21 x22 (.pointer (some ⟨mg, 0, none⟩)) x24 x25 x26 x27 W :=
  ⟨h.x, h.p0, h.p1, h.p2, h.p3, h.p4, h.p5, fun _ => rfl, h.p7, h.p8, h.p9, h.p10⟩
theorem SG2T.s7 (h : SG2T W1 ab nb mb aa n LL w N T s bo bl bc mg SZ L x17 x18 x19 x20 x21 x22 x23 x24 x25 x26 x27 W) : SG2T W1 ab nb mb aa n LL w N T s bo bl bc mg SZ (upd L 7) x17 x18 x19 x20 x21 x22 x23 (.pointer (some ⟨mg, 9, none⟩)) x25 x26 x27 W :=
  ⟨h.x, h.p0, h.p1, h.p2, h.p3, h.p4, h.p5, h.p6, fun _ => rfl, h.p8, h.p9, h.p10⟩
theorem SG2T.s8 (h : SG2T W1 ab nb mb aa n LL w N T s bo bl bc mg SZ L x17 x18 x19 x20 x21 x22 x23 x24 x25 x26 x27 W) : SG2T W1 ab nb mb aa n LL w N T s bo bl bc mg SZ (upd L 8) x17 x18 x19 x20 x21 x22 x23 x24 (.int .i64 SZ) x26 x27 W :=
  ⟨h.x, h.p0, h.p1, h.p2, h.p3, h.p4, h.p5, h.p6, h.p7, fun _ => rfl, h.p9, h.p10⟩
theorem SG2T.s9 (h : SG2T W1 ab nb mb aa n LL w N T s bo bl bc mg SZ L x17 x18 x19 x20 x21 x22 x23 x24 x25 x26 x27 W) : SG2T W1 ab nb mb aa n LL w N T s bo bl bc mg SZ (upd L 9) x17 x18 x19 x20 x21 x22 x23 x24 x25 (.bool true) x27 W :=
  ⟨h.x, h.p0, h.p1, h.p2, h.p3, h.p4, h.p5, h.p6, h.p7, h.p8, fun _ => rfl, h.p10⟩
theorem SG2T.s10 (h : SG2T W1 ab nb mb aa n LL w N T s bo bl bc mg SZ L x17 x18 x19 x20 x21 x22 x23 x24 x25 x26 x27 W) : SG2T W1 ab nb mb aa n LL w N T s bo bl bc mg SZ (upd L 10) x17 x18 x19 x20 x21 x22 x23 x24 x25 x26 (.bool true) W :=
  ⟨h.x, h.p0, h.p1, h.p2, h.p3, h.p4, h.p5, h.p6, h.p7, h.p8, h.p9, fun _ => rfl⟩
end
@[reducible] def ISG2T (W1 : World) (ab nb mb : Nat) (aa : AN) (n : Nat) (LL : List CS) (w : World) (N : Nat) (T : TL) (s : CS) (bo : Option Addr) (bl bc mg : Nat) (SZ : Int) (y0 y1 y2 y3 y4 y5 y6 y7 y8 y9 y10 y11 y12 y13 y14 y15 y16 y28 y29 y30 y31 y32 y33 y34 y35 y36 y37 y38 y39 y40 y41 y42 y43 y44 y45 y46 y47 y48 y49 y50 y51 y52 y53 y54 y55 y56 y57 y58 y59 y60 y61 : Value) : (Nat → Bool) → Act → World → Prop := fun L a W => ∃ x17 x18 x19 x20 x21 x22 x23 x24 x25 x26 x27, a = ⟨#[y0, y1, y2, y3, y4, y5, y6, y7, y8, y9, y10, y11, y12, y13, y14, y15, y16, x17, x18, x19, x20, x21, x22, x23, x24, x25, x26, x27, y28, y29, y30, y31, y32, y33, y34, y35, y36, y37, y38, y39, y40, y41, y42, y43, y44, y45, y46, y47, y48, y49, y50, y51, y52, y53, y54, y55, y56, y57, y58, y59, y60, y61], []⟩ ∧ SG2T W1 ab nb mb aa n LL w N T s bo bl bc mg SZ L x17 x18 x19 x20 x21 x22 x23 x24 x25 x26 x27 W
theorem SG2T.step {W1 : World} {ab nb mb : Nat} {aa : AN} {n : Nat} {LL : List CS} {w : World} {N : Nat} {T : TL} {s : CS} {bo : Option Addr} {bl bc mg : Nat} {SZ : Int} {y0 y1 y2 y3 y4 y5 y6 y7 y8 y9 y10 y11 y12 y13 y14 y15 y16 y28 y29 y30 y31 y32 y33 y34 y35 y36 y37 y38 y39 y40 y41 y42 y43 y44 y45 y46 y47 y48 y49 y50 y51 y52 y53 y54 y55 y56 y57 y58 y59 y60 y61 : Value} {P : Program} {ops : Array Oper} {Q : Exit → Act → World → Prop} {i : Nat} {o : Oper} (hq : ∀ x17 x18 x19 x20 x21 x22 x23 x24 x25 x26 x27 (L : Nat → Bool) (W : World), SG2T W1 ab nb mb aa n LL w N T s bo bl bc mg SZ L x17 x18 x19 x20 x21 x22 x23 x24 x25 x26 x27 W → L i = false → (∀ j ∈ onesOf o, L j = true) → ∀ K : Act → World → Prop, Shut (∀ a' w', ISG2T W1 ab nb mb aa n LL w N T s bo bl bc mg SZ y0 y1 y2 y3 y4 y5 y6 y7 y8 y9 y10 y11 y12 y13 y14 y15 y16 y28 y29 y30 y31 y32 y33 y34 y35 y36 y37 y38 y39 y40 y41 y42 y43 y44 y45 y46 y47 y48 y49 y50 y51 y52 y53 y54 y55 y56 y57 y58 y59 y60 y61 (upd L i) a' w' → K a' w') → if Region.wanted o (yielded ops (⟨#[y0, y1, y2, y3, y4, y5, y6, y7, y8, y9, y10, y11, y12, y13, y14, y15, y16, x17, x18, x19, x20, x21, x22, x23, x24, x25, x26, x27, y28, y29, y30, y31, y32, y33, y34, y35, y36, y37, y38, y39, y40, y41, y42, y43, y44, y45, y46, y47, y48, y49, y50, y51, y52, y53, y54, y55, y56, y57, y58, y59, y60, y61], []⟩ : Act).tmps) = true then Oper.wp P o ⟨#[y0, y1, y2, y3, y4, y5, y6, y7, y8, y9, y10, y11, y12, y13, y14, y15, y16, x17, x18, x19, x20, x21, x22, x23, x24, x25, x26, x27, y28, y29, y30, y31, y32, y33, y34, y35, y36, y37, y38, y39, y40, y41, y42, y43, y44, y45, y46, y47, y48, y49, y50, y51, y52, y53, y54, y55, y56, y57, y58, y59, y60, y61], []⟩ W K Q else K ((⟨#[y0, y1, y2, y3, y4, y5, y6, y7, y8, y9, y10, y11, y12, y13, y14, y15, y16, x17, x18, x19, x20, x21, x22, x23, x24, x25, x26, x27, y28, y29, y30, y31, y32, y33, y34, y35, y36, y37, y38, y39, y40, y41, y42, y43, y44, y45, y46, y47, y48, y49, y50, y51, y52, y53, y54, y55, y56, y57, y58, y59, y60, y61], []⟩ : Act).put o.dst undef) W) : StepI P ops (ISG2T W1 ab nb mb aa n LL w N T s bo bl bc mg SZ y0 y1 y2 y3 y4 y5 y6 y7 y8 y9 y10 y11 y12 y13 y14 y15 y16 y28 y29 y30 y31 y32 y33 y34 y35 y36 y37 y38 y39 y40 y41 y42 y43 y44 y45 y46 y47 y48 y49 y50 y51 y52 y53 y54 y55 y56 y57 y58 y59 y60 y61) Q i o := by
  rintro L a W ⟨x17, x18, x19, x20, x21, x22, x23, x24, x25, x26, x27, rfl, h⟩
  exact hq _ _ _ _ _ _ _ _ _ _ _ _ _ h
theorem SG2T.ends {W1 : World} {ab nb mb : Nat} {aa : AN} {n : Nat} {LL : List CS} {w : World} {N : Nat} {T : TL} {s : CS} {bo : Option Addr} {bl bc mg : Nat} {SZ : Int} {y0 y1 y2 y3 y4 y5 y6 y7 y8 y9 y10 y11 y12 y13 y14 y15 y16 y28 y29 y30 y31 y32 y33 y34 y35 y36 y37 y38 y39 y40 y41 y42 y43 y44 y45 y46 y47 y48 y49 y50 y51 y52 y53 y54 y55 y56 y57 y58 y59 y60 y61 : Value} {mm_ : Nat} {Q : Exit → Act → World → Prop} (hq : ∀ x17 x18 x19 x20 x21 x22 x23 x24 x25 x26 x27 (L : Nat → Bool) (W : World), (∀ j, j < mm_ → L j = true) → SG2T W1 ab nb mb aa n LL w N T s bo bl bc mg SZ L x17 x18 x19 x20 x21 x22 x23 x24 x25 x26 x27 W → Q .normal ⟨#[y0, y1, y2, y3, y4, y5, y6, y7, y8, y9, y10, y11, y12, y13, y14, y15, y16, x17, x18, x19, x20, x21, x22, x23, x24, x25, x26, x27, y28, y29, y30, y31, y32, y33, y34, y35, y36, y37, y38, y39, y40, y41, y42, y43, y44, y45, y46, y47, y48, y49, y50, y51, y52, y53, y54, y55, y56, y57, y58, y59, y60, y61], []⟩ W) : ∀ L a' w', (∀ j, j < mm_ → L j = true) → ISG2T W1 ab nb mb aa n LL w N T s bo bl bc mg SZ y0 y1 y2 y3 y4 y5 y6 y7 y8 y9 y10 y11 y12 y13 y14 y15 y16 y28 y29 y30 y31 y32 y33 y34 y35 y36 y37 y38 y39 y40 y41 y42 y43 y44 y45 y46 y47 y48 y49 y50 y51 y52 y53 y54 y55 y56 y57 y58 y59 y60 y61 L a' w' → Q .normal a' w' := by
  rintro L a W hall ⟨x17, x18, x19, x20, x21, x22, x23, x24, x25, x26, x27, rfl, h⟩
  exact hq _ _ _ _ _ _ _ _ _ _ _ _ _ hall h
structure SG2F (W1 : World) (ab nb mb : Nat) (aa : AN) (n : Nat) (LL : List CS) (w : World) (N : Nat) (T : TL) (s : CS) (bo : Option Addr) (bl bc mg : Nat) (SZ : Int) (L : Nat → Bool) (x17 x18 x19 x20 x21 x22 x23 x24 x25 x26 x27 : Value) (W : World) : Prop where
  x : DW ab nb mb aa n LL w N T s false W
  p0 : L 0 = true → x17 = .int .i64 0
  p1 : L 1 = true → x18 = .bool true
  p2 : L 2 = true → x19 = .bool true
  p3 : L 3 = true → x20 = .slice bo bl bc
  p4 : L 4 = true → x21 = .int .i64 (bl : Int)
  p5 : L 5 = true → x22 = .pointer (some ⟨mg, 0, none⟩)
  p6 : L 6 = true → x23 = .pointer (some ⟨mg, 0, none⟩)
  p7 : L 7 = true → x24 = .pointer (some ⟨mg, 9, none⟩)
  p8 : L 8 = true → x25 = .int .i64 SZ
  p9 : L 9 = true → x26 = .bool false
  p10 : L 10 = true → x27 = .bool false
section
variable {W1 : World} {ab nb mb : Nat} {aa : AN} {n : Nat} {LL : List CS} {w : World} {N : Nat} {T : TL} {s : CS} {bo : Option Addr} {bl bc mg : Nat} {SZ : Int} {L : Nat → Bool} {x17 x18 x19 x20 x21 x22 x23 x24 x25 x26 x27 : Value} {W W2 : World}
theorem SG2F.s0 (h : SG2F W1 ab nb mb aa n LL w N T s bo bl bc mg SZ L x17 x18 x19 x20 x21 x22 x23 x24 x25 x26 x27 W) : SG2F W1 ab nb mb aa n LL w N T s bo bl bc mg SZ (upd L 0) (.int .i64 0) x18 x19 x20 x21 x22 x23 x24 x25 x26 x27 W :=
  ⟨h.x, fun _ => rfl, h.p1, h.p2, h.p3, h.p4, h.p5, h.p6, h.p7, h.p8, h.p9, h.p10⟩
theorem SG2F.s1 (h : SG2F W1 ab nb mb aa n LL w N T s bo bl bc mg SZ L x17 x18 x19 x20 x21 x22 x23 x24 x25 x26 x27 W) : SG2F W1 ab nb mb aa n LL w N T s bo bl bc mg SZ (upd L 1) x17 (.bool true) x19 x20 x21 x22 x23 x24 x25 x26 x27 W :=
  ⟨h.x, h.p0, fun _ => rfl, h.p2, h.p3, h.p4, h.p5, h.p6, h.p7, h.p8, h.p9, h.p10⟩
theorem SG2F.s2 (h : SG2F W1 ab nb mb aa n LL w N T s bo bl bc mg SZ L x17 x18 x19 x20 x21 x22 x23 x24 x25 x26 x27 W) : SG2F W1 ab nb mb aa n LL w N T s bo bl bc mg SZ (upd L 2) x17 x18 (.bool true) x20 x21 x22 x23 x24 x25 x26 x27 W :=
  ⟨h.x, h.p0, h.p1, fun _ => rfl, h.p3, h.p4, h.p5, h.p6, h.p7, h.p8, h.p9, h.p10⟩
theorem SG2F.s3 (h : SG2F W1 ab nb mb aa n LL w N T s bo bl bc mg SZ L x17 x18 x19 x20 x21 x22 x23 x24 x25 x26 x27 W) : SG2F W1 ab nb mb aa n LL w N T s bo bl bc mg SZ (upd L 3) x17 x18 x19 (.slice bo bl bc) x21 x22 x23 x24 x25 x26 x27 W :=
  ⟨h.x, h.p0, h.p1, h.p2, fun _ => rfl, h.p4, h.p5, h.p6, h.p7, h.p8, h.p9, h.p10⟩
theorem SG2F.s4 (h : SG2F W1 ab nb mb aa n LL w N T s bo bl bc mg SZ L x17 x18 x19 x20 x21 x22 x23 x24 x25 x26 x27 W) : SG2F W1 ab nb mb aa n LL w N T s bo bl bc mg SZ (upd L 4) x17 x18 x19 x20 (.int .i64 (bl : Int)) x22 x23 x24 x25 x26 x27 W :=
  ⟨h.x, h.p0, h.p1, h.p2, h.p3, fun _ => rfl, h.p5, h.p6, h.p7, h.p8, h.p9, h.p10⟩
theorem SG2F.s5 (h : SG2F W1 ab nb mb aa n LL w N T s bo bl bc mg SZ L x17 x18 x19 x20 x21 x22 x23 x24 x25 x26 x27 W) : SG2F W1 ab nb mb aa n LL w N T s bo bl bc mg SZ (upd L 5) x17 x18 x19 x20 x21 (.pointer (some ⟨mg, 0, none⟩)) x23 x24 x25 x26 x27 W :=
  ⟨h.x, h.p0, h.p1, h.p2, h.p3, h.p4, fun _ => rfl, h.p6, h.p7, h.p8, h.p9, h.p10⟩
theorem SG2F.s6 (h : SG2F W1 ab nb mb aa n LL w N T s bo bl bc mg SZ L x17 x18 x19 x20 x21 x22 x23 x24 x25 x26 x27 W) : SG2F W1 ab nb mb aa n LL w N T s bo bl bc mg SZ (upd L 6) x17 x18 x19 x20 x21 x22 (.pointer (some ⟨mg, 0, none⟩)) x24 x25 x26 x27 W :=
  ⟨h.x, h.p0, h.p1, h.p2, h.p3, h.p4, h.p5, fun _ => rfl, h.p7, h.p8, h.p9, h.p10⟩
theorem SG2F.s7 (h : SG2F W1 ab nb mb aa n LL w N T s bo bl bc mg SZ L x17 x18 x19 x20 x21 x22 x23 x24 x25 x26 x27 W) : SG2F W1 ab nb mb aa n LL w N T s bo bl bc mg SZ (upd L 7) x17 x18 x19 x20 x21 x22 x23 (.pointer (some ⟨mg, 9, none⟩)) x25 x26 x27 W :=
  ⟨h.x, h.p0, h.p1, h.p2, h.p3, h.p4, h.p5, h.p6, fun _ => rfl, h.p8, h.p9, h.p10⟩
theorem SG2F.s8 (h : SG2F W1 ab nb mb aa n LL w N T s bo bl bc mg SZ L x17 x18 x19 x20 x21 x22 x23 x24 x25 x26 x27 W) : SG2F W1 ab nb mb aa n LL w N T s bo bl bc mg SZ (upd L 8) x17 x18 x19 x20 x21 x22 x23 x24 (.int .i64 SZ) x26 x27 W :=
  ⟨h.x, h.p0, h.p1, h.p2, h.p3, h.p4, h.p5, h.p6, h.p7, fun _ => rfl, h.p9, h.p10⟩
theorem SG2F.s9 (h : SG2F W1 ab nb mb aa n LL w N T s bo bl bc mg SZ L x17 x18 x19 x20 x21 x22 x23 x24 x25 x26 x27 W) : SG2F W1 ab nb mb aa n LL w N T s bo bl bc mg SZ (upd L 9) x17 x18 x19 x20 x21 x22 x23 x24 x25 (.bool false) x27 W :=
  ⟨h.x, h.p0, h.p1, h.p2, h.p3, h.p4, h.p5, h.p6, h.p7, h.p8, fun _ => rfl, h.p10⟩
theorem SG2F.s10 (h : SG2F W1 ab nb mb aa n LL w N T s bo bl bc mg SZ L x17 x18 x19 x20 x21 x22 x23 x24 x25 x26 x27 W) : SG2F W1 ab nb mb aa n LL w N T s bo bl bc mg SZ (upd L 10) x17 x18 x19 x20 x21 x22 x23 x24 x25 x26 (.bool false) W :=
  ⟨h.x, h.p0, h.p1, h.p2, h.p3, h.p4, h.p5, h.p6, h.p7, h.p8, h.p9, fun _ => rfl⟩
end
@[reducible] def ISG2F (W1 : World) (ab nb mb : Nat) (aa : AN) (n : Nat) (LL : List CS) (w : World) (N : Nat) (T : TL) (s : CS) (bo : Option Addr) (bl bc mg : Nat) (SZ : Int) (y0 y1 y2 y3 y4 y5 y6 y7 y8 y9 y10 y11 y12 y13 y14 y15 y16 y28 y29 y30 y31 y32 y33 y34 y35 y36 y37 y38 y39 y40 y41 y42 y43 y44 y45 y46 y47 y48 y49 y50 y51 y52 y53 y54 y55 y56 y57 y58 y59 y60 y61 : Value) : (Nat → Bool) → Act → World → Prop := fun L a W => ∃ x17 x18 x19 x20 x21 x22 x23 x24 x25 x26 x27, a = ⟨#[y0, y1, y2, y3, y4, y5, y6, y7, y8, y9, y10, y11, y12, y13, y14, y15, y16, x17, x18, x19, x20, x21, x22, x23, x24, x25, x26, x27, y28, y29, y30, y31, y32, y33, y34, y35, y36, y37, y38, y39, y40, y41, y42, y43, y44, y45, y46, y47, y48, y49, y50, y51, y52, y53, y54, y55, y56, y57, y58, y59, y60, y61], []⟩ ∧ SG2F W1 ab nb mb aa n LL w N T s bo bl bc mg SZ L x17 x18 x19 x20 x21 x22 x23 x24 x25 x26 x27 W
theorem SG2F.step {W1 : World} {ab nb mb : Nat} {aa : AN} {n : Nat} {LL : List CS} {w : World} {N : Nat} {T : TL} {s : CS} {bo : Option Addr} {bl bc mg : Nat} {SZ : Int} {y0 y1 y2 y3 y4 y5 y6 y7 y8 y9 y10 y11 y12 y13 y14 y15 y16 y28 y29 y30 y31 y32 y33 y34 y35 y36 y37 y38 y39 y40 y41 y42 y43 y44 y45 y46 y47 y48 y49 y50 y51 y52 y53 y54 y55 y56 y57 y58 y59 y60 y61 : Value} {P : Program} {ops : Array Oper} {Q : Exit → Act → World → Prop} {i : Nat} {o : Oper} (hq : ∀ x17 x18 x19 x20 x21 x22 x23 x24 x25 x26 x27 (L : Nat → Bool) (W : World), SG2F W1 ab nb mb aa n LL w N T s bo bl bc mg SZ L x17 x18 x19 x20 x21 x22 x23 x24 x25 x26 x27 W → L i = false → (∀ j ∈ onesOf o, L j = true) → ∀ K : Act → World → Prop, Shut (∀ a' w', ISG2F W1 ab nb mb aa n LL w N T s bo bl bc mg SZ y0 y1 y2 y3 y4 y5 y6 y7 y8 y9 y10 y11 y12 y13 y14 y15 y16 y28 y29 y30 y31 y32 y33 y34 y35 y36 y37 y38 y39 y40 y41 y42 y43 y44 y45 y46 y47 y48 y49 y50 y51 y52 y53 y54 y55 y56 y57 y58 y59 y60 y61 (upd L i) a' w' → K a' w') → if Region.wanted o (yielded ops (⟨#[y0, y1, y2, y3, y4, y5, y6, y7, y8, y9, y10, y11, y12, y13, y14, y15, y16, x17, x18, x19, x20, x21, x22, x23, x24, x25, x26, x27, y28, y29, y30, y31, y32, y33, y34, y35, y36, y37, y38, y39, y40, y41, y42, y43, y44, y45, y46, y47, y48, y49, y50, y51, y52, y53, y54, y55, y56, y57, y58, y59, y60, y61], []⟩ : Act).tmps) = true then Oper.wp P o ⟨#[y0, y1, y2, y3, y4, y5, y6, y7, y8, y9, y10, y11, y12, y13, y14, y15, y16, x17, x18, x19, x20, x21, x22, x23, x24, x25, x26, x27, y28, y29, y30, y31, y32, y33, y34, y35, y36, y37, y38, y39, y40, y41, y42, y43, y44, y45, y46, y47, y48, y49, y50, y51, y52, y53, y54, y55, y56, y57, y58, y59, y60, y61], []⟩ W K Q else K ((⟨#[y0, y1, y2, y3, y4, y5, y6, y7, y8, y9, y10, y11, y12, y13, y14, y15, y16, x17, x18, x19, x20, x21, x22, x23, x24, x25, x26, x27, y28, y29, y30, y31, y32, y33, y34, y35, y36, y37, y38, y39, y40, y41, y42, y43, y44, y45, y46, y47, y48, y49, y50, y51, y52, y53, y54, y55, y56, y57, y58, y59, y60, y61], []⟩ : Act).put o.dst undef) W) : StepI P ops (ISG2F W1 ab nb mb aa n LL w N T s bo bl bc mg SZ y0 y1 y2 y3 y4 y5 y6 y7 y8 y9 y10 y11 y12 y13 y14 y15 y16 y28 y29 y30 y31 y32 y33 y34 y35 y36 y37 y38 y39 y40 y41 y42 y43 y44 y45 y46 y47 y48 y49 y50 y51 y52 y53 y54 y55 y56 y57 y58 y59 y60 y61) Q i o := by
  rintro L a W ⟨x17, x18, x19, x20, x21, x22, x23, x24, x25, x26, x27, rfl, h⟩
  exact hq _ _ _ _ _ _ _ _ _ _ _ _ _ h
theorem SG2F.ends {W1 : World} {ab nb mb : Nat} {aa : AN} {n : Nat} {LL : List CS} {w : World} {N : Nat} {T : TL} {s : CS} {bo : Option Addr} {bl bc mg : Nat} {SZ : Int} {y0 y1 y2 y3 y4 y5 y6 y7 y8 y9 y10 y11 y12 y13 y14 y15 y16 y28 y29 y30 y31 y32 y33 y34 y35 y36 y37 y38 y39 y40 y41 y42 y43 y44 y45 y46 y47 y48 y49 y50 y51 y52 y53 y54 y55 y56 y57 y58 y59 y60 y61 : Value} {mm_ : Nat} {Q : Exit → Act → World → Prop} (hq : ∀ x17 x18 x19 x20 x21 x22 x23 x24 x25 x26 x27 (L : Nat → Bool) (W : World), (∀ j, j < mm_ → L j = true) → SG2F W1 ab nb mb aa n LL w N T s bo bl bc mg SZ L x17 x18 x19 x20 x21 x22 x23 x24 x25 x26 x27 W → Q .normal ⟨#[y0, y1, y2, y3, y4, y5, y6, y7, y8, y9, y10, y11, y12, y13, y14, y15, y16, x17, x18, x19, x20, x21, x22, x23, x24, x25, x26, x27, y28, y29, y30, y31, y32, y33, y34, y35, y36, y37, y38, y39, y40, y41, y42, y43, y44, y45, y46, y47, y48, y49, y50, y51, y52, y53, y54, y55, y56, y57, y58, y59, y60, y61], []⟩ W) : ∀ L a' w', (∀ j, j < mm_ → L j = true) → ISG2F W1 ab nb mb aa n LL w N T s bo bl bc mg SZ y0 y1 y2 y3 y4 y5 y6 y7 y8 y9 y10 y11 y12 y13 y14 y15 y16 y28 y29 y30 y31 y32 y33 y34 y35 y36 y37 y38 y39 y40 y41 y42 y43 y44 y45 y46 y47 y48 y49 y50 y51 y52 y53 y54 y55 y56 y57 y58 y59 y60 y61 L a' w' → Q .normal a' w' := by
  rintro L a W hall ⟨x17, x18, x19, x20, x21, x22, x23, x24, x25, x26, x27, rfl, h⟩
  exact hq _ _ _ _ _ _ _ _ _ _ _ _ _ hall h
structure SG7 (W1 : World) (ab nb mb : Nat) (aa : AN) (n : Nat) (LL : List CS) (w : World) (N : Nat) (s : CS) (L : Nat → Bool) (x37 x38 x10 x11 : Value) (W : World) : Prop where
  x : B2 (DW ab nb mb aa n LL w N [] s false) (w.heap.size + 1) (csC s) (L 2) (L 3) (L 4) (L 5) x10 x11 W
  p0 : L 0 = true → x37 = .agg (csC s).toArray
  p1 : L 1 = true → x38 = .agg (csC s).toArray
  c4_2 : L 4 = true → L 2 = true
  c5_3 : L 5 = true → L 3 = true
section
variable {W1 : World} {ab nb mb : Nat} {aa : AN} {n : Nat} {LL : List CS} {w : World} {N : Nat} {s : CS} {L : Nat → Bool} {x37 x38 x10 x11 : Value} {W W2 : World}
theorem SG7.s0 (h : SG7 W1 ab nb mb aa n LL w N s L x37 x38 x10 x11 W) : SG7 W1 ab nb mb aa n LL w N s (upd L 0) (.agg (csC s).toArray) x38 x10 x11 W :=
  ⟨h.x, fun _ => rfl, h.p1, h.c4_2, h.c5_3⟩
theorem SG7.s1 (h : SG7 W1 ab nb mb aa n LL w N s L x37 x38 x10 x11 W) : SG7 W1 ab nb mb aa n LL w N s (upd L 1) x37 (.agg (csC s).toArray) x10 x11 W :=
  ⟨h.x, h.p0, fun _ => rfl, h.c4_2, h.c5_3⟩
theorem SG7.s2 (h : SG7 W1 ab nb mb aa n LL w N s L x37 x38 x10 x11 W) {v : Value} (hX : B2 (DW ab nb mb aa n LL w N [] s false) (w.heap.size + 1) (csC s) ((upd L 2) 2) ((upd L 2) 3) ((upd L 2) 4) ((upd L 2) 5) v x11 W2) : SG7 W1 ab nb mb aa n LL w N s (upd L 2) x37 x38 v x11 W2 :=
  ⟨hX, h.p0, h.p1, fun _ => rfl, h.c5_3⟩
theorem SG7.s3 (h : SG7 W1 ab nb mb aa n LL w N s L x37 x38 x10 x11 W) {v : Value} (hX : B2 (DW ab nb mb aa n LL w N [] s false) (w.heap.size + 1) (csC s) ((upd L 3) 2) ((upd L 3) 3) ((upd L 3) 4) ((upd L 3) 5) x10 v W2) : SG7 W1 ab nb mb aa n LL w N s (upd L 3) x37 x38 x10 v W2 :=
  ⟨hX, h.p0, h.p1, h.c4_2, fun _ => rfl⟩
theorem SG7.s4 (h : SG7 W1 ab nb mb aa n LL w N s L x37 x38 x10 x11 W) (hX : B2 (DW ab nb mb aa n LL w N [] s false) (w.heap.size + 1) (csC s) ((upd L 4) 2) ((upd L 4) 3) ((upd L 4) 4) ((upd L 4) 5) x10 x11 W2) (hc2 : L 2 = true) : SG7 W1 ab nb mb aa n LL w N s (upd L 4) x37 x38 x10 x11 W2 :=
  ⟨hX, h.p0, h.p1, fun _ => hc2, h.c5_3⟩
theorem SG7.s5 (h : SG7 W1 ab nb mb aa n LL w N s L x37 x38 x10 x11 W) (hX : B2 (DW ab nb mb aa n LL w N [] s false) (w.heap.size + 1) (csC s) ((upd L 5) 2) ((upd L 5) 3) ((upd L 5) 4) ((upd L 5) 5) x10 x11 W2) (hc3 : L 3 = true) : SG7 W1 ab nb mb aa n LL w N s (upd L 5) x37 x38 x10 x11 W2 :=
  ⟨hX, h.p0, h.p1, h.c4_2, fun _ => hc3⟩
end
@[reducible] def ISG7 (W1 : World) (ab nb mb : Nat) (aa : AN) (n : Nat) (LL : List CS) (w : World) (N : Nat) (s : CS) (y0 y1 y2 y3 y4 y5 y6 y7 y8 y9 y12 y13 y14 y15 y16 y17 y18 y19 y20 y21 y22 y23 y24 y25 y26 y27 y28 y29 y30 y31 y32 y33 y34 y35 y36 y39 y40 y41 y42 y43 y44 y45 y46 y47 y48 y49 y50 y51 y52 y53 y54 y55 y56 y57 y58 y59 y60 y61 : Value) : (Nat → Bool) → Act → World → Prop := fun L a W => ∃ x37 x38 x10 x11, a = ⟨#[y0, y1, y2, y3, y4, y5, y6, y7, y8, y9, x10, x11, y12, y13, y14, y15, y16, y17, y18, y19, y20, y21, y22, y23, y24, y25, y26, y27, y28, y29, y30, y31, y32, y33, y34, y35, y36, x37, x38, y39, y40, y41, y42, y43, y44, y45, y46, y47, y48, y49, y50, y51, y52, y53, y54, y55, y56, y57, y58, y59, y60, y61], []⟩ ∧ SG7 W1 ab nb mb aa n LL w N s L x37 x38 x10 x11 W
theorem SG7.step {W1 : World} {ab nb mb : Nat} {aa : AN} {n : Nat} {LL : List CS} {w : World} {N : Nat} {s : CS} {y0 y1 y2 y3 y4 y5 y6 y7 y8 y9 y12 y13 y14 y15 y16 y17 y18 y19 y20 y21 y22 y23 y24 y25 y26 y27 y28 y29 y30 y31 y32 y33 y34 y35 y36 y39 y40 y41 y42 y43 y44 y45 y46 y47 y48 y49 y50 y51 y52 y53 y54 y55 y56 y57 y58 y59 y60 y61 : Value} {P : Program} {ops : Array Oper} {Q : Exit → Act → World → Prop} {i : Nat} {o : Oper} (hq : ∀ x37 x38 x10 x11 (L : Nat → Bool) (W : World), SG7 W1 ab nb mb aa n LL w N s L x37 x38 x10 x11 W → L i = false → (∀ j ∈ onesOf o, L j = true) → ∀ K : Act → World → Prop, Shut (∀ a' w', ISG7 W1 ab nb mb aa n LL w N s y0 y1 y2 y3 y4 y5 y6 y7 y8 y9 y12 y13 y14 y15 y16 y17 y18 y19 y20 y21 y22 y23 y24 y25 y26 y27 y28 y29 y30 y31 y32 y33 y34 y35 y36 y39 y40 y41 y42 y43 y44 y45 y46 y47 y48 y49 y50 y51 y52 y53 y54 y55 y56 y57 y58 y59 y60 y61 (upd L i) a' w' → K a' w') → if Region.wanted o (yielded ops (⟨#[y0, y1, y2, y3, y4, y5, y6, y7, y8, y9, x10, x11, y12, y13, y14, y15, y16, y17, y18, y19, y20, y21, y22, y23, y24, y25, y26, y27, y28, y29, y30, y31, y32, y33, y34, y35, y36, x37, x38, y39, y40, y41, y42, y43, y44, y45, y46, y47, y48, y49, y50, y51, y52, y53, y54, y55, y56, y57, y58, y59, y60, y61], []⟩ : Act).tmps) = true then Oper.wp P o ⟨#[y0, y1, y2, y3, y4, y5, y6, y7, y8, y9, x10, x11, y12, y13, y14, y15, y16, y17, y18, y19, y20, y21, y22, y23, y24, y25, y26, y27, y28, y29, y30, y31, y32, y33, y34, y35, y36, x37, x38, y39, y40, y41, y42, y43, y44, y45, y46, y47, y48, y49, y50, y51, y52, y53, y54, y55, y56, y57, y58, y59, y60, y61], []⟩ W K Q else K ((⟨#[y0, y1, y2, y3, y4, y5, y6, y7, y8, y9, x10, x11, y12, y13, y14, y15, y16, y17, y18, y19, y20, y21, y22, y23, y24, y25, y26, y27, y28, y29, y30, y31, y32, y33, y34, y35, y36, x37, x38, y39, y40, y41, y42, y43, y44, y45, y46, y47, y48, y49, y50, y51, y52, y53, y54, y55, y56, y57, y58, y59, y60, y61], []⟩ : Act).put o.dst undef) W) : StepI P ops (ISG7 W1 ab nb mb aa n LL w N s y0 y1 y2 y3 y4 y5 y6 y7 y8 y9 y12 y13 y14 y15 y16 y17 y18 y19 y20 y21 y22 y23 y24 y25 y26 y27 y28 y29 y30 y31 y32 y33 y34 y35 y36 y39 y40 y41 y42 y43 y44 y45 y46 y47 y48 y49 y50 y51 y52 y53 y54 y55 y56 y57 y58 y59 y60 y61) Q i o := by
  rintro L a W ⟨x37, x38, x10, x11, rfl, h⟩
  exact hq _ _ _ _ _ _ h
theorem SG7.ends {W1 : World} {ab nb mb : Nat} {aa : AN} {n : Nat} {LL : List CS} {w : World} {N : Nat} {s : CS} {y0 y1 y2 y3 y4 y5 y6 y7 y8 y9 y12 y13 y14 y15 y16 y17 y18 y19 y20 y21 y22 y23 y24 y25 y26 y27 y28 y29 y30 y31 y32 y33 y34 y35 y36 y39 y40 y41 y42 y43 y44 y45 y46 y47 y48 y49 y50 y51 y52 y53 y54 y55 y56 y57 y58 y59 y60 y61 : Value} {mm_ : Nat} {Q : Exit → Act → World → Prop} (hq : ∀ x37 x38 x10 x11 (L : Nat → Bool) (W : World), (∀ j, j < mm_ → L j = true) → SG7 W1 ab nb mb aa n LL w N s L x37 x38 x10 x11 W → Q .normal ⟨#[y0, y1, y2, y3, y4, y5, y6, y7, y8, y9, x10, x11, y12, y13, y14, y15, y16, y17, y18, y19, y20, y21, y22, y23, y24, y25, y26, y27, y28, y29, y30, y31, y32, y33, y34, y35, y36, x37, x38, y39, y40, y41, y42, y43, y44, y45, y46, y47, y48, y49, y50, y51, y52, y53, y54, y55, y56, y57, y58, y59, y60, y61], []⟩ W) : ∀ L a' w', (∀ j, j < mm_ → L j = true) → ISG7 W1 ab nb mb aa n LL w N s y0 y1 y2 y3 y4 y5 y6 y7 y8 y9 y12 y13 y14 y15 y16 y17 y18 y19 y20 y21 y22 y23 y24 y25 y26 y27 y28 y29 y30 y31 y32 y33 y34 y35 y36 y39 y40 y41 y42 y43 y44 y45 y46 y47 y48 y49 y50 y51 y52 y53 y54 y55 y56 y57 y58 y59 y60 y61 L a' w' → Q .normal a' w' := by
  rintro L a W hall ⟨x37, x38, x10, x11, rfl, h⟩
  exact hq _ _ _ _ _ _ hall h
structure SG8 (W1 : World) (ab nb mb : Nat) (aa : AN) (n : Nat) (LL : List CS) (w : World) (N : Nat) (s : CS) (tA tC : CS) (G H tt k : Nat) (L : Nat → Bool) (x39 x40 x41 x42 x43 x44 x45 : Value) (W : World) : Prop where
  x : C2 (DW ab nb mb aa n LL w N [] s false) (w.heap.size + 1) G H s tA tC (L 5) (L 8) W
  p0 : L 0 = true → x39 = .int .i8 (tt : Int)
  p1 : L 1 = true → x40 = .int .i8 (tt : Int)
  p2 : L 2 = true → x41 = .int .i64 (k : Int)
  p3 : L 3 = true → x42 = .pointer (some ⟨G, 9, none⟩)
  p4 : L 4 = true → x43 = .pointer (some ⟨G, 9 + tt, none⟩)
  p6 : L 6 = true → x44 = .pointer (some ⟨H, 9, none⟩)
  p7 : L 7 = true → x45 = .pointer (some ⟨H, 9 + tt, none⟩)
section
variable {W1 : World} {ab nb mb : Nat} {aa : AN} {n : Nat} {LL : List CS} {w : World} {N : Nat} {s : CS} {tA tC : CS} {G H tt k : Nat} {L : Nat → Bool} {x39 x40 x41 x42 x43 x44 x45 : Value} {W W2 : World}
theorem SG8.s0 (h : SG8 W1 ab nb mb aa n LL w N s tA tC G H tt k L x39 x40 x41 x42 x43 x44 x45 W) : SG8 W1 ab nb mb aa n LL w N s tA tC G H tt k (upd L 0) (.int .i8 (tt : Int)) x40 x41 x42 x43 x44 x45 W :=
  ⟨h.x, fun _ => rfl, h.p1, h.p2, h.p3, h.p4, h.p6, h.p7⟩
theorem SG8.s1 (h : SG8 W1 ab nb mb aa n LL w N s tA tC G H tt k L x39 x40 x41 x42 x43 x44 x45 W) : SG8 W1 ab nb mb aa n LL w N s tA tC G H tt k (upd L 1) x39 (.int .i8 (tt : Int)) x41 x42 x43 x44 x45 W :=
  ⟨h.x, h.p0, fun _ => rfl, h.p2, h.p3, h.p4, h.p6, h.p7⟩
theorem SG8.s2 (h : SG8 W1 ab nb mb aa n LL w N s tA tC G H tt k L x39 x40 x41 x42 x43 x44 x45 W) : SG8 W1 ab nb mb aa n LL w N s tA tC G H tt k (upd L 2) x39 x40 (.int .i64 (k : Int)) x42 x43 x44 x45 W :=
  ⟨h.x, h.p0, h.p1, fun _ => rfl, h.p3, h.p4, h.p6, h.p7⟩
theorem SG8.s3 (h : SG8 W1 ab nb mb aa n LL w N s tA tC G H tt k L x39 x40 x41 x42 x43 x44 x45 W) : SG8 W1 ab nb mb aa n LL w N s tA tC G H tt k (upd L 3) x39 x40 x41 (.pointer (some ⟨G, 9, none⟩)) x43 x44 x45 W :=
  ⟨h.x, h.p0, h.p1, h.p2, fun _ => rfl, h.p4, h.p6, h.p7⟩
theorem SG8.s4 (h : SG8 W1 ab nb mb aa n LL w N s tA tC G H tt k L x39 x40 x41 x42 x43 x44 x45 W) : SG8 W1 ab nb mb aa n LL w N s tA tC G H tt k (upd L 4) x39 x40 x41 x42 (.pointer (some ⟨G, 9 + tt, none⟩)) x44 x45 W :=
  ⟨h.x, h.p0, h.p1, h.p2, h.p3, fun _ => rfl, h.p6, h.p7⟩
theorem SG8.s5 (h : SG8 W1 ab nb mb aa n LL w N s tA tC G H tt k L x39 x40 x41 x42 x43 x44 x45 W) (hX : C2 (DW ab nb mb aa n LL w N [] s false) (w.heap.size + 1) G H s tA tC ((upd L 5) 5) ((upd L 5) 8) W2) : SG8 W1 ab nb mb aa n LL w N s tA tC G H tt k (upd L 5) x39 x40 x41 x42 x43 x44 x45 W2 :=
  ⟨hX, h.p0, h.p1, h.p2, h.p3, h.p4, h.p6, h.p7⟩
theorem SG8.s6 (h : SG8 W1 ab nb mb aa n LL w N s tA tC G H tt k L x39 x40 x41 x42 x43 x44 x45 W) : SG8 W1 ab nb mb aa n LL w N s tA tC G H tt k (upd L 6) x39 x40 x41 x42 x43 (.pointer (some ⟨H, 9, none⟩)) x45 W :=
  ⟨h.x, h.p0, h.p1, h.p2, h.p3, h.p4, fun _ => rfl, h.p7⟩
theorem SG8.s7 (h : SG8 W1 ab nb mb aa n LL w N s tA tC G H tt k L x39 x40 x41 x42 x43 x44 x45 W) : SG8 W1 ab nb mb aa n LL w N s tA tC G H tt k (upd L 7) x39 x40 x41 x42 x43 x44 (.pointer (some ⟨H, 9 + tt, none⟩)) W :=
  ⟨h.x, h.p0, h.p1, h.p2, h.p3, h.p4, h.p6, fun _ => rfl⟩
theorem SG8.s8 (h : SG8 W1 ab nb mb aa n LL w N s tA tC G H tt k L x39 x40 x41 x42 x43 x44 x45 W) (hX : C2 (DW ab nb mb aa n LL w N [] s false) (w.heap.size + 1) G H s tA tC ((upd L 8) 5) ((upd L 8) 8) W2) : SG8 W1 ab nb mb aa n LL w N s tA tC G H tt k (upd L 8) x39 x40 x41 x42 x43 x44 x45 W2 :=
  ⟨hX, h.p0, h.p1, h.p2, h.p3, h.p4, h.p6, h.p7⟩
end
@[reducible] def ISG8 (W1 : World) (ab nb mb : Nat) (aa : AN) (n : Nat) (LL : List CS) (w : World) (N : Nat) (s : CS) (tA tC : CS) (G H tt k : Nat) (y0 y1 y2 y3 y4 y5 y6 y7 y8 y9 y10 y11 y12 y13 y14 y15 y16 y17 y18 y19 y20 y21 y22 y23 y24 y25 y26 y27 y28 y29 y30 y31 y32 y33 y34 y35 y36 y37 y38 y46 y47 y48 y49 y50 y51 y52 y53 y54 y55 y56 y57 y58 y59 y60 y61 : Value) : (Nat → Bool) → Act → World → Prop := fun L a W => ∃ x39 x40 x41 x42 x43 x44 x45, a = ⟨#[y0, y1, y2, y3, y4, y5, y6, y7, y8, y9, y10, y11, y12, y13, y14, y15, y16, y17, y18, y19, y20, y21, y22, y23, y24, y25, y26, y27, y28, y29, y30, y31, y32, y33, y34, y35, y36, y37, y38, x39, x40, x41, x42, x43, x44, x45, y46, y47, y48, y49, y50, y51, y52, y53, y54, y55, y56, y57, y58, y59, y60, y61], []⟩ ∧ SG8 W1 ab nb mb aa n LL w N s tA tC G H tt k L x39 x40 x41 x42 x43 x44 x45 W
theorem SG8.step {W1 : World} {ab nb mb : Nat} {aa : AN} {n : Nat} {LL : List CS} {w : World} {N : Nat} {s : CS} {tA tC : CS} {G H tt k : Nat} {y0 y1 y2 y3 y4 y5 y6 y7 y8 y9 y10 y11 y12 y13 y14 y15 y16 y17 y18 y19 y20 y21 y22 y23 y24 y25 y26 y27 y28 y29 y30 y31 y32 y33 y34 y35 y36 y37 y38 y46 y47 y48 y49 y50 y51 y52 y53 y54 y55 y56 y57 y58 y59 y60 y61 : Value} {P : Program} {ops : Array Oper} {Q : Exit → Act → World → Prop} {i : Nat} {o : Oper} (hq : ∀ x39 x40 x41 x42 x43 x44 x45 (L : Nat → Bool) (W : World), SG8 W1 ab nb mb aa n LL w N s tA tC G H tt k L x39 x40 x41 x42 x43 x44 x45 W → L i = false → (∀ j ∈ onesOf o, L j = true) → ∀ K : Act → World → Prop, Shut (∀ a' w', ISG8 W1 ab nb mb aa n LL w N s tA tC G H tt k y0 y1 y2 y3 y4 y5 y6 y7 y8 y9 y10 y11 y12 y13 y14 y15 y16 y17 y18 y19 y20 y21 y22 y23 y24 y25 y26 y27 y28 y29 y30 y31 y32 y33 y34 y35 y36 y37 y38 y46 y47 y48 y49 y50 y51 y52 y53 y54 y55 y56 y57 y58 y59 y60 y61 (upd L i) a' w' → K a' w') → if Region.wanted o (yielded ops (⟨#[y0, y1, y2, y3, y4, y5, y6, y7, y8, y9, y10, y11, y12, y13, y14, y15, y16, y17, y18, y19, y20, y21, y22, y23, y24, y25, y26, y27, y28, y29, y30, y31, y32, y33, y34, y35, y36, y37, y38, x39, x40, x41, x42, x43, x44, x45, y46, y47, y48, y49, y50, y51, y52, y53, y54, y55, y56, y57, y58, y59, y60, y61], []⟩ : Act).tmps) = true then Oper.wp P o ⟨#[y0, y1, y2, y3, y4, y5, y6, y7, y8, y9, y10, y11, y12, y13, y14, y15, y16, y17, y18, y19, y20, y21, y22, y23, y24, y25, y26, y27, y28, y29, y30, y31, y32, y33, y34, y35, y36, y37, y38, x39, x40, x41, x42, x43, x44, x45, y46, y47, y48, y49, y50, y51, y52, y53, y54, y55, y56, y57, y58, y59, y60, y61], []⟩ W K Q else K ((⟨#[y0, y1, y2, y3, y4, y5, y6, y7, y8, y9, y10, y11, y12, y13, y14, y15, y16, y17, y18, y19, y20, y21, y22, y23, y24, y25, y26, y27, y28, y29, y30, y31, y32, y33, y34, y35, y36, y37, y38, x39, x40, x41, x42, x43, x44, x45, y46, y47, y48, y49, y50, y51, y52, y53, y54, y55, y56, y57, y58, y59, y60, y61], []⟩ : Act).put o.dst undef) W) : StepI P ops (ISG8 W1 ab nb mb aa n LL w N s tA tC G H tt k y0 y1 y2 y3 y4 y5 y6 y7 y8 y9 y10 y11 y12 y13 y14 y15 y16 y17 y18 y19 y20 y21 y22 y23 y24 y25 y26 y27 y28 y29 y30 y31 y32 y33 y34 y35 y36 y37 y38 y46 y47 y48 y49 y50 y51 y52 y53 y54 y55 y56 y57 y58 y59 y60 y61) Q i o := by
  rintro L a W ⟨x39, x40, x41, x42, x43, x44, x45, rfl, h⟩
  exact hq _ _ _ _ _ _ _ _ _ h
theorem SG8.ends {W1 : World} {ab nb mb : Nat} {aa : AN} {n : Nat} {LL : List CS} {w : World} {N : Nat} {s : CS} {tA tC : CS} {G H tt k : Nat} {y0 y1 y2 y3 y4 y5 y6 y7 y8 y9 y10 y11 y12 y13 y14 y15 y16 y17 y18 y19 y20 y21 y22 y23 y24 y25 y26 y27 y28 y29 y30 y31 y32 y33 y34 y35 y36 y37 y38 y46 y47 y48 y49 y50 y51 y52 y53 y54 y55 y56 y57 y58 y59 y60 y61 : Value} {mm_ : Nat} {Q : Exit → Act → World → Prop} (hq : ∀ x39 x40 x41 x42 x43 x44 x45 (L : Nat → Bool) (W : World), (∀ j, j < mm_ → L j = true) → SG8 W1 ab nb mb aa n LL w N s tA tC G H tt k L x39 x40 x41 x42 x43 x44 x45 W → Q .normal ⟨#[y0, y1, y2, y3, y4, y5, y6, y7, y8, y9, y10, y11, y12, y13, y14, y15, y16, y17, y18, y19, y20, y21, y22, y23, y24, y25, y26, y27, y28, y29, y30, y31, y32, y33, y34, y35, y36, y37, y38, x39, x40, x41, x42, x43, x44, x45, y46, y47, y48, y49, y50, y51, y52, y53, y54, y55, y56, y57, y58, y59, y60, y61], []⟩ W) : ∀ L a' w', (∀ j, j < mm_ → L j = true) → ISG8 W1 ab nb mb aa n LL w N s tA tC G H tt k y0 y1 y2 y3 y4 y5 y6 y7 y8 y9 y10 y11 y12 y13 y14 y15 y16 y17 y18 y19 y20 y21 y22 y23 y24 y25 y26 y27 y28 y29 y30 y31 y32 y33 y34 y35 y36 y37 y38 y46 y47 y48 y49 y50 y51 y52 y53 y54 y55 y56 y57 y58 y59 y60 y61 L a' w' → Q .normal a' w' := by
  rintro L a W hall ⟨x39, x40, x41, x42, x43, x44, x45, rfl, h⟩
  exact hq _ _ _ _ _ _ _ _ _ hall h
set_option maxHeartbeats 4000000 in
set_option maxRecDepth 100000 in
theorem stage_deed {c : Cfg} (hs8 : c.slots ≤ 8) (hk64 : c.keys ≤ 64) {l : Secs} {W0 : World} {mg so cap pb fb bb kb : Nat} {B : List (List By)} (hB : B.length ≤ 4611686018427387903) (hg : SgV W0 mg so cap c l B) {b : List By} {bo : Option Addr} {bc k : Nat} (hk : k < B.length + 1) (hlast : c.last ≤ 4611686018427387904)
    (hp : Row W0 pb 59 [.pointer (some ⟨mg, 0, none⟩)]) (hr : Row W0 fb 89 (fdC (findC c l b))) (hbb : Row W0 bb 32 [.slice bo b.length bc]) (hkb : Row W0 kb 3 [.int .i64 (k : Int)]) :
    DeedIs c (B.length + 1) W0 76 #[] #[.pointer (some ⟨pb, 0, none⟩), .pointer (some ⟨fb, 0, none⟩), .pointer (some ⟨bb, 0, none⟩), .pointer (some ⟨kb, 0, none⟩)] (stageC c l B b k) := by
  intro w hb ab nb mb aa n LL hm hT ha hn s ho hs
  obtain ⟨w1, hw1⟩ : ∃ w1, w1 = w.alloc (.cells (csC s).toArray 67) := ⟨_, rfl⟩
  have D1 : DW ab nb mb aa n LL w W0.heap.size [] s false w1 := by rw [hw1]; exact DW.start hb hm hT
  have hz1 : w.heap.size + 1 ≤ w1.heap.size := by rw [hw1]; simp
  have SG : Hid (∀ W, Below W0.heap.size w W → SgV W mg so cap c l B) := fun W h => hg.keep (hb.trans (h.mono (Nat.le_refl _)))
  have CP : Hid (∀ W, Below W0.heap.size w W → W.cell? ⟨pb, 0, none⟩ = some (.pointer (some ⟨mg, 0, none⟩))) := fun W h => ((hp.below hb hp.lt).below h hp.lt).cell 0 _ rfl
  have CB : Hid (∀ W, Below W0.heap.size w W → W.cell? ⟨bb, 0, none⟩ = some (.slice bo b.length bc)) := fun W h => ((hbb.below hb hbb.lt).below h hbb.lt).cell 0 _ rfl
  have CN : Hid (∀ W, Below W0.heap.size w W → W.cell? ⟨kb, 0, none⟩ = some (.int .i64 (k : Int))) := fun W h => ((hkb.below hb hkb.lt).below h hkb.lt).cell 0 _ rfl
  have CK := check_any c mg (findC c l b) s hs (fun e => have q := find_ok hs8 hk64 b e; ⟨q.1, q.2.1⟩) w1 (SG.out _ D1.bel).la
  have hrg := check_rng c (findC c l b) s (find_rng c l b)
  have r1 := D1.st
  have rf : Row w1 fb 89 (fdC (findC c l b)) := (hr.below hb hr.lt).below D1.bel hr.lt
  have cp := CP.out _ D1.bel
  have HD1 : Hid (DW ab nb mb aa n LL w W0.heap.size [] s false w1) := D1
  have HCS : Hid (((csC s).drop 0).take 19 = csC s) := cs_all hs.len
  have LCS : Hid ((csC s).length = 19) := csC_len hs.len
  have LF : Hid ((fdC (findC c l b)).length = 5) := rfl
  have ON : Hid (∀ er, -9223372036854775808 ≤ er ∧ er ≤ 9223372036854775807 → ∀ W, TelQ ab nb mb aa n LL [] w W → _) := fun er he W h => only_more h ha (by show n + 0 < _; omega) er he s hs
  obtain ⟨TT, HT⟩ : ∃ TT, Hid (TT = stageC c l B b k s) := ⟨_, rfl⟩
  rw [← HT.out]
  unfold stageC at HT
  simp only at HT
  change Calls Tryz.prog 76 #[.agg (csC s).toArray, .func (.func 26) #[] #[.pointer (some ⟨ab, 0, none⟩), .pointer (some ⟨nb, 0, none⟩)], .pointer (some ⟨pb, 0, none⟩), .pointer (some ⟨fb, 0, none⟩), .pointer (some ⟨bb, 0, none⟩), .pointer (some ⟨kb, 0, none⟩)] w _
  by_cases hE : checkC c (findC c l b) s ≠ 0
  · have HT2 : Hid (TT = [(an0 (checkC c (findC c l b) s), s)]) := HT.out.trans (if_pos hE)
    have ON2 := ON.out (checkC c (findC c l b) s) (by omega)
    generalize hN0 : W0.heap.size = N at *
    clear hT ha hn hm hb ho hs D1 hs8 hk64 hB hg HT hrg hN0 hp hr hbb hkb ON
    generalize checkC c (findC c l b) s = E at *
    generalize fdC (findC c l b) = FV at *
    have hEd : (E == 0) = false := beq_false_of_ne hE
    go_enter Tryz.func76, Tryz.ntmps76
    go_wp2_with (first
      | (rw [← hw1]; have hz := hw1; clear hz hw1)
      | (refine wpList_load_whole_g ?_ 89 (.tmp 3) rfl fb 89 5 FV rf rfl _ LF.out Tryz.underlying89 rfl (by kernel_rfl) ?_; · rfl)
      | (refine wpList_load_whole_g ?_ 67 (.tmp 6) rfl w.heap.size 67 19 (csC s) r1 rfl _ LCS.out Tryz.underlying67 rfl (by kernel_rfl) ?_; · rfl))
    refine CK.mono ?_
    rintro e w2 ⟨rfl, hb2⟩
    dsimp only
    have HS : Hid (DW ab nb mb aa n LL w N [] s false w2) := HD1.out.keep hb2
    clear hb2 r1 HD1 CK rf cp
    go_wp2
    refine wp_region_inv (ISG2N w ab nb mb aa n LL w N [] s E _ _ _ _ _ _ _ _ _ _ _ _ _ _ _ _ _ _ _ _ _ _ _ _ _ _ _ _ _ _ _ _ _ _ _ _ _ _ _ _ _ _ _ _ _ _ _ _ _ _ _) (by kernel_rfl) (by kernel_rfl) ⟨_, _, _, _, _, _, _, _, _, _, _, rfl, ⟨HS.out.drew, fun k => (by cases k), fun k => (by cases k), fun k => (by cases k), fun k => (by cases k)⟩⟩ ?_ ?_
    · refine .cons ?_ (.cons ?_ (.cons ?_ (.cons ?_ (.cons ?_ (.cons ?_ (.cons ?_ (.cons ?_ (.cons ?_ (.cons ?_ (.cons ?_ .nil))))))))))
      all_goals (refine SG2N.step ?_; intro x17 x18 x19 x20 x21 x22 x23 x24 x25 x26 x27 L W hI hL hd K hK)
      · rw [if_pos (by rfl)]
        go_simp
        exact hK.out _ _ ⟨_, _, _, _, _, _, _, _, _, _, _, rfl, hI.s0⟩
      · have hx0 := hI.p0 (hd 0 (by decide))
        subst hx0
        rw [if_pos (by rfl)]
        go_simp
        exact hK.out _ _ ⟨_, _, _, _, _, _, _, _, _, _, _, rfl, hI.s1⟩
      · have hx1 := hI.p1 (hd 1 (by decide))
        subst hx1
        rw [if_pos (by rfl)]
        go_simp
        exact hK.out _ _ ⟨_, _, _, _, _, _, _, _, _, _, _, rfl, hI.s2⟩
      · have hx2 := hI.p2 (hd 2 (by decide))
        subst hx2
        rw [if_neg (by first | decide | exact Bool.false_ne_true)]
        exact hK.out _ _ ⟨_, _, _, _, _, _, _, _, _, _, _, rfl, hI.s3⟩
      · have hx2 := hI.p2 (hd 2 (by decide))
        subst hx2
        rw [if_neg (by first | decide | exact Bool.false_ne_true)]
        exact hK.out _ _ ⟨_, _, _, _, _, _, _, _, _, _, _, rfl, hI.s4⟩
      · have hx2 := hI.p2 (hd 2 (by decide))
        subst hx2
        rw [if_neg (by first | decide | exact Bool.false_ne_true)]
        exact hK.out _ _ ⟨_, _, _, _, _, _, _, _, _, _, _, rfl, hI.s5⟩
      · have hx2 := hI.p2 (hd 2 (by decide))
        subst hx2
        rw [if_neg (by first | decide | exact Bool.false_ne_true)]
        exact hK.out _ _ ⟨_, _, _, _, _, _, _, _, _, _, _, rfl, hI.s6⟩
      · have hx2 := hI.p2 (hd 2 (by decide))
        subst hx2
        rw [if_neg (by first | decide | exact Bool.false_ne_true)]
        exact hK.out _ _ ⟨_, _, _, _, _, _, _, _, _, _, _, rfl, hI.s7⟩
      · have hx2 := hI.p2 (hd 2 (by decide))
        subst hx2
        rw [if_neg (by first | decide | exact Bool.false_ne_true)]
        exact hK.out _ _ ⟨_, _, _, _, _, _, _, _, _, _, _, rfl, hI.s8⟩
      · have hx2 := hI.p2 (hd 2 (by decide))
        subst hx2
        rw [if_neg (by first | decide | exact Bool.false_ne_true)]
        exact hK.out _ _ ⟨_, _, _, _, _, _, _, _, _, _, _, rfl, hI.s9⟩
      · have hx2 := hI.p2 (hd 2 (by decide))
        subst hx2
        rw [if_pos (by rfl)]
        go_simp
        exact hK.out _ _ ⟨_, _, _, _, _, _, _, _, _, _, _, rfl, hI.s10⟩
    · refine SG2N.ends ?_; intro x17 x18 x19 x20 x21 x22 x23 x24 x25 x26 x27 L W hall hI
      have hx0 := hI.p0 (hall 0 (by decide))
      subst hx0
      have hx1 := hI.p1 (hall 1 (by decide))
      subst hx1
      have hx2 := hI.p2 (hall 2 (by decide))
      subst hx2
      have hx10 := hI.p10 (hall 10 (by decide))
      subst hx10
      have hXe := hI.x
      clear hI hall
      try dsimp only
      have HQ : Hid (TelQ ab nb mb aa n LL [] w W) := hXe.tel
      have r5 : Row W w.heap.size 67 (csC s) := hXe.st
      clear hXe HS
      go_wp2_with (refine wpList_load_whole_g ?_ 67 (.tmp 6) rfl w.heap.size 67 19 (csC s) r5 rfl _ LCS.out Tryz.underlying67 rfl (by kernel_rfl) ?_; · rfl)
      refine (ON2 _ HQ.out).mono ?_
      rintro e w3 ⟨rfl, hq, _⟩
      dsimp only
      go_wp2
      refine bodyPost_ret (results_none rfl _ _ _) rfl ?_
      exact ⟨rfl, by rw [HT2.out]; exact hq⟩
  · have HT2 : Hid _ := HT.out.trans (if_neg hE)
    have hE0 : checkC c (findC c l b) s = 0 := Classical.not_not.1 hE
    rw [hE0] at CK
    clear HT hE
    by_cases hL : c.size19 < b.length
    · have HT3 : Hid (TT = [(an0 4, s)]) := HT2.out.trans (if_pos hL)
      have ON2 := ON.out 4 (by omega)
      have CZ : Hid (∀ W, Below W0.heap.size w W → W.cell? ⟨mg, 9, none⟩ = some (.int .i64 c.size19)) := fun W h => (SG.out W h).sz
      have hLd : decide (c.size19 < (b.length : Int)) = true := decide_eq_true hL
      generalize hN0 : W0.heap.size = N at *
      clear hT ha hn hm hb ho hs D1 hs8 hk64 hB hg HT2 hrg hN0 hp hr hbb hkb ON hE0 SG
      generalize fdC (findC c l b) = FV at *
      generalize c.size19 = SZ at *
      generalize b.length = bl at *
      go_enter Tryz.func76, Tryz.ntmps76
      go_wp2_with (first
        | (rw [← hw1]; have hz := hw1; clear hz hw1)
        | (refine wpList_load_whole_g ?_ 89 (.tmp 3) rfl fb 89 5 FV rf rfl _ LF.out Tryz.underlying89 rfl (by kernel_rfl) ?_; · rfl)
        | (refine wpList_load_whole_g ?_ 67 (.tmp 6) rfl w.heap.size 67 19 (csC s) r1 rfl _ LCS.out Tryz.underlying67 rfl (by kernel_rfl) ?_; · rfl))
      refine CK.mono ?_
      rintro e w2 ⟨rfl, hb2⟩
      dsimp only
      have HS : Hid (DW ab nb mb aa n LL w N [] s false w2) := HD1.out.keep hb2
      clear hb2 r1 HD1 CK rf cp
      go_wp2
      refine wp_region_inv (ISG2T w ab nb mb aa n LL w N [] s bo bl bc mg SZ _ _ _ _ _ _ _ _ _ _ _ _ _ _ _ _ _ _ _ _ _ _ _ _ _ _ _ _ _ _ _ _ _ _ _ _ _ _ _ _ _ _ _ _ _ _ _ _ _ _ _) (by kernel_rfl) (by kernel_rfl) ⟨_, _, _, _, _, _, _, _, _, _, _, rfl, ⟨HS.out.drew, fun k => (by cases k), fun k => (by cases k), fun k => (by cases k), fun k => (by cases k), fun k => (by cases k), fun k => (by cases k), fun k => (by cases k), fun k => (by cases k), fun k => (by cases k), fun k => (by cases k), fun k => (by cases k)⟩⟩ ?_ ?_
      · refine .cons ?_ (.cons ?_ (.cons ?_ (.cons ?_ (.cons ?_ (.cons ?_ (.cons ?_ (.cons ?_ (.cons ?_ (.cons ?_ (.cons ?_ .nil))))))))))
        all_goals (refine SG2T.step ?_; intro x17 x18 x19 x20 x21 x22 x23 x24 x25 x26 x27 L W hI hL hd K hK)
        · rw [if_pos (by rfl)]
          go_simp
          exact hK.out _ _ ⟨_, _, _, _, _, _, _, _, _, _, _, rfl, hI.s0⟩
        · have hx0 := hI.p0 (hd 0 (by decide))
          subst hx0
          rw [if_pos (by rfl)]
          go_simp
          exact hK.out _ _ ⟨_, _, _, _, _, _, _, _, _, _, _, rfl, hI.s1⟩
        · have hx1 := hI.p1 (hd 1 (by decide))
          subst hx1
          rw [if_pos (by rfl)]
          go_simp
          exact hK.out _ _ ⟨_, _, _, _, _, _, _, _, _, _, _, rfl, hI.s2⟩
        · have hx2 := hI.p2 (hd 2 (by decide))
          subst hx2
          rw [if_pos (by rfl)]
          have hc := CB.out _ hI.x.bel
          go_simp
          exact hK.out _ _ ⟨_, _, _, _, _, _, _, _, _, _, _, rfl, hI.s3⟩
        · have hx3 := hI.p3 (hd 3 (by decide))
          subst hx3
          have hx2 := hI.p2 (hd 2 (by decide))
          subst hx2
          rw [if_pos (by rfl)]
          go_simp
          exact hK.out _ _ ⟨_, _, _, _, _, _, _, _, _, _, _, rfl, hI.s4⟩
        · have hx2 := hI.p2 (hd 2 (by decide))
          subst hx2
          rw [if_pos (by rfl)]
          have hc := CP.out _ hI.x.bel
          go_simp
          exact hK.out _ _ ⟨_, _, _, _, _, _, _, _, _, _, _, rfl, hI.s5⟩
        · have hx5 := hI.p5 (hd 5 (by decide))
          subst hx5
          have hx2 := hI.p2 (hd 2 (by decide))
          subst hx2
          rw [if_pos (by rfl)]
          go_simp
          exact hK.out _ _ ⟨_, _, _, _, _, _, _, _, _, _, _, rfl, hI.s6⟩
        · have hx6 := hI.p6 (hd 6 (by decide))
          subst hx6
          have hx2 := hI.p2 (hd 2 (by decide))
          subst hx2
          rw [if_pos (by rfl)]
          go_simp
          exact hK.out _ _ ⟨_, _, _, _, _, _, _, _, _, _, _, rfl, hI.s7⟩
        · have hx7 := hI.p7 (hd 7 (by decide))
          subst hx7
          have hx2 := hI.p2 (hd 2 (by decide))
          subst hx2
          rw [if_pos (by rfl)]
          have hc := CZ.out _ hI.x.bel
          go_simp
          exact hK.out _ _ ⟨_, _, _, _, _, _, _, _, _, _, _, rfl, hI.s8⟩
        · have hx4 := hI.p4 (hd 4 (by decide))
          subst hx4
          have hx8 := hI.p8 (hd 8 (by decide))
          subst hx8
          have hx2 := hI.p2 (hd 2 (by decide))
          subst hx2
          rw [if_pos (by rfl)]
          go_simp
          exact hK.out _ _ ⟨_, _, _, _, _, _, _, _, _, _, _, rfl, hI.s9⟩
        · have hx2 := hI.p2 (hd 2 (by decide))
          subst hx2
          have hx9 := hI.p9 (hd 9 (by decide))
          subst hx9
          rw [if_pos (by rfl)]
          go_simp
          exact hK.out _ _ ⟨_, _, _, _, _, _, _, _, _, _, _, rfl, hI.s10⟩
      · refine SG2T.ends ?_; intro x17 x18 x19 x20 x21 x22 x23 x24 x25 x26 x27 L W hall hI
        have hx0 := hI.p0 (hall 0 (by decide))
        subst hx0
        have hx1 := hI.p1 (hall 1 (by decide))
        subst hx1
        have hx2 := hI.p2 (hall 2 (by decide))
        subst hx2
        have hx3 := hI.p3 (hall 3 (by decide))
        subst hx3
        have hx4 := hI.p4 (hall 4 (by decide))
        subst hx4
        have hx5 := hI.p5 (hall 5 (by decide))
        subst hx5
        have hx6 := hI.p6 (hall 6 (by decide))
        subst hx6
        have hx7 := hI.p7 (hall 7 (by decide))
        subst hx7
        have hx8 := hI.p8 (hall 8 (by decide))
        subst hx8
        have hx9 := hI.p9 (hall 9 (by decide))
        subst hx9
        have hx10 := hI.p10 (hall 10 (by decide))
        subst hx10
        have hXe := hI.x
        clear hI hall
        try dsimp only
        have HQ : Hid (TelQ ab nb mb aa n LL [] w W) := hXe.tel
        have r5 : Row W w.heap.size 67 (csC s) := hXe.st
        clear hXe HS
        go_wp2_with (refine wpList_load_whole_g ?_ 67 (.tmp 6) rfl w.heap.size 67 19 (csC s) r5 rfl _ LCS.out Tryz.underlying67 rfl (by kernel_rfl) ?_; · rfl)
        refine (ON2 _ HQ.out).mono ?_
        rintro e w3 ⟨rfl, hq, _⟩
        dsimp only
        go_wp2
        refine bodyPost_ret (results_none rfl _ _ _) rfl ?_
        exact ⟨rfl, by rw [HT3.out]; exact hq⟩
    · have HT3 : Hid _ := HT2.out.trans (if_neg hL)
      have CZ : Hid (∀ W, Below W0.heap.size w W → W.cell? ⟨mg, 9, none⟩ = some (.int .i64 c.size19)) := fun W h => (SG.out W h).sz
      have hLd : decide (c.size19 < (b.length : Int)) = false := decide_eq_false hL
      have TG : Hid (∀ W, Below W0.heap.size w W → _) := fun W h => target_any mg so cap c hs8 hk64 l B hB s ho hs W (SG.out W h)
      have htl := @target_le c l B s
      have hA : CS.Wf (s.lay (targetC c l B s) 0) := (ho.lay (targetC c l B s) 0 (by omega)).wf (c := c) hlast (by omega)
      have hC : CS.Wf (s.lay (targetC c l B s) k) := (ho.lay (targetC c l B s) k hk).wf (c := c) hlast (by omega)
      have hD : CS.Wf { s.lay (targetC c l B s) k with first := targetC c l B s } := ((ho.lay (targetC c l B s) k hk).setFirst _ htl).wf (c := c) hlast (by omega)
      have E1 : Hid ((csC s).set (9 + targetC c l B s) (.int .i64 0) = csC (s.lay (targetC c l B s) 0)) := csC_setLay hs.len _ 0 htl
      have E2 : Hid ((csC s).set (9 + targetC c l B s) (.int .i64 (k : Int)) = csC (s.lay (targetC c l B s) k)) := csC_setLay hs.len _ k htl
      have E3 : Hid ((csC (s.lay (targetC c l B s) k)).set 16 (.int .i8 (targetC c l B s : Int)) = csC { s.lay (targetC c l B s) k with first := targetC c l B s }) := csC_setFirst hC.len _
      have KL : Hid ((csC s)[9 + targetC c l B s]? = some (.int .i64 (s.lies (targetC c l B s) : Int))) := by
        rcases (by omega : targetC c l B s = 0 ∨ targetC c l B s = 1) with e | e <;> rw [e]
        · exact csC_at hs.len 1
        · exact csC_at hs.len 2
      have LA : Hid ((csC (s.lay (targetC c l B s) 0)).length = 19) := csC_len hA.len
      have LC : Hid ((csC (s.lay (targetC c l B s) k)).length = 19) := csC_len hC.len
      have LD : Hid ((csC { s.lay (targetC c l B s) k with first := targetC c l B s }).length = 19) := csC_len hD.len
      have K6 : Hid ((csC (s.lay (targetC c l B s) k))[16]? = some (.int .i8 (s.first : Int))) := by
        have := csC_at hC.len 8
        rw [this]
        unfold CS.lay
        split <;> rfl
      have O1 : Hid (∀ W, TelQ ab nb mb aa n LL [] w W → _) := fun W h => only_more h ha (by show n + 0 < _; omega) 0 (by omega) { s.lay (targetC c l B s) k with first := targetC c l B s } hD
      have O2 : Hid (∀ W, TelQ ab nb mb aa n LL [(an0 0, { s.lay (targetC c l B s) k with first := targetC c l B s })] w W → _) := fun W h => only_more h ha (by show n + 1 < _; omega) 9 (by omega) s hs
      have O3 : Hid (∀ W, TelQ ab nb mb aa n LL [(an0 0, { s.lay (targetC c l B s) k with first := targetC c l B s }), (an0 9, s)] w W → ∀ g, Row W g 67 ([s, s.lay (targetC c l B s) 0, s.lay (targetC c l B s) k, { s.lay (targetC c l B s) k with first := targetC c l B s }].flatMap csC) → _) := fun W hW g hg => goes_more hW ha [s, s.lay (targetC c l B s) 0, s.lay (targetC c l B s) k, { s.lay (targetC c l B s) k with first := targetC c l B s }] (by show n + 2 + 4 < _; omega) (by simp only [List.mem_cons, List.not_mem_nil, or_false]; rintro u (rfl | rfl | rfl | rfl) <;> assumption) g hg 4 4 rfl
      have m0 : Hid (s.num.length = 8) := hs.len
      have m1 : Hid ((s.lay (targetC c l B s) 0).num.length = 8) := hA.len
      have m2 : Hid ((s.lay (targetC c l B s) k).num.length = 8) := hC.len
      have m3 : Hid (({ s.lay (targetC c l B s) k with first := targetC c l B s } : CS).num.length = 8) := hD.len
      have v0 : (0 : Int) ≤ (targetC c l B s : Int) := by omega
      have v1 : (targetC c l B s : Int) < 2 := by omega
      generalize hN0 : W0.heap.size = N at *
      clear hT ha hn hm hb ho hs D1 hs8 hk64 hB hg HT2 hrg hN0 hp hr hbb hkb ON hE0 SG hA hC hD hlast
      obtain ⟨tD, hTD⟩ : ∃ tD, ({ s.lay (targetC c l B s) k with first := targetC c l B s } : CS) = tD := ⟨_, rfl⟩
      rw [hTD] at E3 LD O1 O2 O3 HT3 m3
      clear hTD
      generalize s.lay (targetC c l B s) 0 = tA at *
      generalize s.lay (targetC c l B s) k = tC at *
      generalize s.lies (targetC c l B s) = lv at *
      generalize targetC c l B s = tt at *
      generalize fdC (findC c l b) = FV at *
      generalize c.size19 = SZ at *
      generalize b.length = bl at *
      go_enter Tryz.func76, Tryz.ntmps76
      go_wp2_with (first
        | (rw [← hw1]; have hz := hw1; clear hz hw1)
        | (refine wpList_load_whole_g ?_ 89 (.tmp 3) rfl fb 89 5 FV rf rfl _ LF.out Tryz.underlying89 rfl (by kernel_rfl) ?_; · rfl)
        | (refine wpList_load_whole_g ?_ 67 (.tmp 6) rfl w.heap.size 67 19 (csC s) r1 rfl _ LCS.out Tryz.underlying67 rfl (by kernel_rfl) ?_; · rfl))
      refine CK.mono ?_
      rintro e w2 ⟨rfl, hb2⟩
      dsimp only
      have HS : Hid (DW ab nb mb aa n LL w N [] s false w2) := HD1.out.keep hb2
      have hz2 : w.heap.size + 1 ≤ w2.heap.size := Nat.le_trans hz1 hb2.size
      have SZ2 : Hid (w.heap.size + 1 ≤ w2.heap.size) := hz2
      clear hb2 r1 HD1 CK rf cp hz1 hz2
      go_wp2
      refine wp_region_inv (ISG2F w ab nb mb aa n LL w N [] s bo bl bc mg SZ _ _ _ _ _ _ _ _ _ _ _ _ _ _ _ _ _ _ _ _ _ _ _ _ _ _ _ _ _ _ _ _ _ _ _ _ _ _ _ _ _ _ _ _ _ _ _ _ _ _ _) (by kernel_rfl) (by kernel_rfl) ⟨_, _, _, _, _, _, _, _, _, _, _, rfl, ⟨HS.out.drew, fun k => (by cases k), fun k => (by cases k), fun k => (by cases k), fun k => (by cases k), fun k => (by cases k), fun k => (by cases k), fun k => (by cases k), fun k => (by cases k), fun k => (by cases k), fun k => (by cases k), fun k => (by cases k)⟩⟩ ?_ ?_
      · refine .cons ?_ (.cons ?_ (.cons ?_ (.cons ?_ (.cons ?_ (.cons ?_ (.cons ?_ (.cons ?_ (.cons ?_ (.cons ?_ (.cons ?_ .nil))))))))))
        all_goals (refine SG2F.step ?_; intro x17 x18 x19 x20 x21 x22 x23 x24 x25 x26 x27 L W hI hL hd K hK)
        · rw [if_pos (by rfl)]
          go_simp
          exact hK.out _ _ ⟨_, _, _, _, _, _, _, _, _, _, _, rfl, hI.s0⟩
        · have hx0 := hI.p0 (hd 0 (by decide))
          subst hx0
          rw [if_pos (by rfl)]
          go_simp
          exact hK.out _ _ ⟨_, _, _, _, _, _, _, _, _, _, _, rfl, hI.s1⟩
        · have hx1 := hI.p1 (hd 1 (by decide))
          subst hx1
          rw [if_pos (by rfl)]
          go_simp
          exact hK.out _ _ ⟨_, _, _, _, _, _, _, _, _, _, _, rfl, hI.s2⟩
        · have hx2 := hI.p2 (hd 2 (by decide))
          subst hx2
          rw [if_pos (by rfl)]
          have hc := CB.out _ hI.x.bel
          go_simp
          exact hK.out _ _ ⟨_, _, _, _, _, _, _, _, _, _, _, rfl, hI.s3⟩
        · have hx3 := hI.p3 (hd 3 (by decide))
          subst hx3
          have hx2 := hI.p2 (hd 2 (by decide))
          subst hx2
          rw [if_pos (by rfl)]
          go_simp
          exact hK.out _ _ ⟨_, _, _, _, _, _, _, _, _, _, _, rfl, hI.s4⟩
        · have hx2 := hI.p2 (hd 2 (by decide))
          subst hx2
          rw [if_pos (by rfl)]
          have hc := CP.out _ hI.x.bel
          go_simp
          exact hK.out _ _ ⟨_, _, _, _, _, _, _, _, _, _, _, rfl, hI.s5⟩
        · have hx5 := hI.p5 (hd 5 (by decide))
          subst hx5
          have hx2 := hI.p2 (hd 2 (by decide))
          subst hx2
          rw [if_pos (by rfl)]
          go_simp
          exact hK.out _ _ ⟨_, _, _, _, _, _, _, _, _, _, _, rfl, hI.s6⟩
        · have hx6 := hI.p6 (hd 6 (by decide))
          subst hx6
          have hx2 := hI.p2 (hd 2 (by decide))
          subst hx2
          rw [if_pos (by rfl)]
          go_simp
          exact hK.out _ _ ⟨_, _, _, _, _, _, _, _, _, _, _, rfl, hI.s7⟩
        · have hx7 := hI.p7 (hd 7 (by decide))
          subst hx7
          have hx2 := hI.p2 (hd 2 (by decide))
          subst hx2
          rw [if_pos (by rfl)]
          have hc := CZ.out _ hI.x.bel
          go_simp
          exact hK.out _ _ ⟨_, _, _, _, _, _, _, _, _, _, _, rfl, hI.s8⟩
        · have hx4 := hI.p4 (hd 4 (by decide))
          subst hx4
          have hx8 := hI.p8 (hd 8 (by decide))
          subst hx8
          have hx2 := hI.p2 (hd 2 (by decide))
          subst hx2
          rw [if_pos (by rfl)]
          go_simp
          exact hK.out _ _ ⟨_, _, _, _, _, _, _, _, _, _, _, rfl, hI.s9⟩
        · have hx2 := hI.p2 (hd 2 (by decide))
          subst hx2
          have hx9 := hI.p9 (hd 9 (by decide))
          subst hx9
          rw [if_pos (by rfl)]
          go_simp
          exact hK.out _ _ ⟨_, _, _, _, _, _, _, _, _, _, _, rfl, hI.s10⟩
      · refine SG2F.ends ?_; intro x17 x18 x19 x20 x21 x22 x23 x24 x25 x26 x27 L W hall hI
        have hx0 := hI.p0 (hall 0 (by decide))
        subst hx0
        have hx1 := hI.p1 (hall 1 (by decide))
        subst hx1
        have hx2 := hI.p2 (hall 2 (by decide))
        subst hx2
        have hx3 := hI.p3 (hall 3 (by decide))
        subst hx3
        have hx4 := hI.p4 (hall 4 (by decide))
        subst hx4
        have hx5 := hI.p5 (hall 5 (by decide))
        subst hx5
        have hx6 := hI.p6 (hall 6 (by decide))
        subst hx6
        have hx7 := hI.p7 (hall 7 (by decide))
        subst hx7
        have hx8 := hI.p8 (hall 8 (by decide))
        subst hx8
        have hx9 := hI.p9 (hall 9 (by decide))
        subst hx9
        have hx10 := hI.p10 (hall 10 (by decide))
        subst hx10
        have hXe := hI.x
        clear hI hall
        try dsimp only
        have cp := CP.out _ hXe.bel
        have r5 : Row W w.heap.size 67 (csC s) := hXe.st
        have HX : Hid (DW ab nb mb aa n LL w N [] s false W) := hXe
        clear hXe HS
        go_wp2_with (refine wpList_load_whole_g ?_ 67 (.tmp 6) rfl w.heap.size 67 19 (csC s) r5 rfl _ LCS.out Tryz.underlying67 rfl (by kernel_rfl) ?_; · rfl)
        refine (TG.out _ HX.out.bel).mono ?_
        rintro e w3 ⟨rfl, hb3⟩
        dsimp only
        have HS3 : Hid (DW ab nb mb aa n LL w N [] s false w3) := HX.out.keep hb3
        have SZ3 : Hid (w.heap.size + 1 ≤ w3.drew.heap.size) := HS3.out.st.lt
        clear HX hb3 r5 cp TG
        go_wp2
        refine wp_region_inv (ISG7 w ab nb mb aa n LL w N s _ _ _ _ _ _ _ _ _ _ _ _ _ _ _ _ _ _ _ _ _ _ _ _ _ _ _ _ _ _ _ _ _ _ _ _ _ _ _ _ _ _ _ _ _ _ _ _ _ _ _ _ _ _ _ _ _ _) (by kernel_rfl) (by kernel_rfl) ⟨_, _, _, _, rfl, ⟨(B2.start HS3.out.drew SZ3.out), fun k => (by cases k), fun k => (by cases k), fun k => (by cases k), fun k => (by cases k)⟩⟩ ?_ ?_
        · refine .cons ?_ (.cons ?_ (.cons ?_ (.cons ?_ (.cons ?_ (.cons ?_ .nil)))))
          all_goals (refine SG7.step ?_; intro x37 x38 x10 x11 L W hI hL hd K hK)
          · refine step_load_part (by rfl) 67 _ rfl (w.heap.size) 0 67 19 (csC s) hI.x.pw.st rfl _ (csC s) HCS.out LCS.out Tryz.underlying67 rfl (by kernel_rfl) ?_
            exact hK.out _ _ ⟨_, _, _, _, rfl, hI.s0⟩
          · refine step_load_part (by rfl) 67 _ rfl (w.heap.size) 0 67 19 (csC s) hI.x.pw.st rfl _ (csC s) HCS.out LCS.out Tryz.underlying67 rfl (by kernel_rfl) ?_
            exact hK.out _ _ ⟨_, _, _, _, rfl, hI.s1⟩
          · have hn_ : L 4 = false := Bool.eq_false_iff.2 (fun e => (by have h7 := hI.c4_2 e; rw [hL] at h7; exact Bool.noConfusion h7))
            rw [if_pos (by rfl)]
            go_simp
            have hX := hI.x.al1 hL hn_ #[.int .i64 0, .int .i64 0, .int .i64 0, .int .i64 0, .int .i64 0, .int .i64 0, .int .i64 0, .int .i64 0, .int .u64 0, .int .i64 0, .int .i64 0, .bool false, .int .i64 0, .int .i64 0, .int .i16 0, .int .i8 0, .int .i8 0, .bool false, .bool false] rfl (hI.x.pw.alloc _)
            exact hK.out _ _ ⟨_, _, _, _, rfl, hI.s2 hX⟩
          · have hn_ : L 5 = false := Bool.eq_false_iff.2 (fun e => (by have h7 := hI.c5_3 e; rw [hL] at h7; exact Bool.noConfusion h7))
            rw [if_pos (by rfl)]
            go_simp
            have hX := hI.x.al2 hL hn_ #[.int .i64 0, .int .i64 0, .int .i64 0, .int .i64 0, .int .i64 0, .int .i64 0, .int .i64 0, .int .i64 0, .int .u64 0, .int .i64 0, .int .i64 0, .bool false, .int .i64 0, .int .i64 0, .int .i16 0, .int .i8 0, .int .i8 0, .bool false, .bool false] rfl (hI.x.pw.alloc _)
            exact hK.out _ _ ⟨_, _, _, _, rfl, hI.s3 hX⟩
          · have hx0 := hI.p0 (hd 0 (by decide))
            subst hx0
            obtain ⟨G, hx, hlo, hrow⟩ := hI.x.n1 (hd 2 (by decide))
            have hrow2 : Row W G 67 (csC zCS) := by rw [hL] at hrow; exact hrow
            subst hx
            refine step_store_Row rfl 67 _ _ rfl G 67 (csC zCS) (csC s) hrow2 (by rw [LCS.out]; rfl) rfl rfl (by rw [LCS.out]; kernel_rfl) (csC_one _) ?_
            intro W2 hr2 hs2
            have hX := hI.x.st1 (hd 2 (by decide)) (hI.x.pw.but hs2 hlo) hr2 hs2
            exact hK.out _ _ ⟨_, _, _, _, rfl, hI.s4 hX (hd 2 (by decide))⟩
          · have hx1 := hI.p1 (hd 1 (by decide))
            subst hx1
            obtain ⟨G, hx, hlo, hrow⟩ := hI.x.n2 (hd 3 (by decide))
            have hrow2 : Row W G 67 (csC zCS) := by rw [hL] at hrow; exact hrow
            subst hx
            refine step_store_Row rfl 67 _ _ rfl G 67 (csC zCS) (csC s) hrow2 (by rw [LCS.out]; rfl) rfl rfl (by rw [LCS.out]; kernel_rfl) (csC_one _) ?_
            intro W2 hr2 hs2
            have hX := hI.x.st2 (hd 3 (by decide)) (hI.x.pw.but hs2 hlo) hr2 hs2
            exact hK.out _ _ ⟨_, _, _, _, rfl, hI.s5 hX (hd 3 (by decide))⟩
        · refine SG7.ends ?_; intro x37 x38 x10 x11 L W hall hI
          have hx0 := hI.p0 (hall 0 (by decide))
          subst hx0
          have hx1 := hI.p1 (hall 1 (by decide))
          subst hx1
          have hXe := hI.x
          rw [hall 2 (by decide)] at hXe
          rw [hall 3 (by decide)] at hXe
          rw [hall 4 (by decide)] at hXe
          rw [hall 5 (by decide)] at hXe
          clear hI hall
          try dsimp only
          obtain ⟨G, hx, hl1, hr1⟩ := hXe.n1 rfl
          obtain ⟨H, hy, hl2, hr2⟩ := hXe.n2 rfl
          have hne := hXe.ne G H rfl rfl hx hy
          subst hx
          subst hy
          have HS7 : Hid (C2 (DW ab nb mb aa n LL w N [] s false) (w.heap.size + 1) G H s tA tC false false W) := ⟨hXe.pw, hr1, hr2, hne, hl1, hl2⟩
          clear hXe HS3 SZ3 hr1 hr2
          go_wp2
          refine wp_region_inv (ISG8 w ab nb mb aa n LL w N s tA tC G H tt k _ _ _ _ _ _ _ _ _ _ _ _ _ _ _ _ _ _ _ _ _ _ _ _ _ _ _ _ _ _ _ _ _ _ _ _ _ _ _ _ _ _ _ _ _ _ _ _ _ _ _ _ _ _ _) (by kernel_rfl) (by kernel_rfl) ⟨_, _, _, _, _, _, _, rfl, ⟨⟨HS7.out.pw.drew, HS7.out.r1.drew, HS7.out.r2.drew, HS7.out.ne, HS7.out.l1, HS7.out.l2⟩, fun k => (by cases k), fun k => (by cases k), fun k => (by cases k), fun k => (by cases k), fun k => (by cases k), fun k => (by cases k), fun k => (by cases k)⟩⟩ ?_ ?_
          · refine .cons ?_ (.cons ?_ (.cons ?_ (.cons ?_ (.cons ?_ (.cons ?_ (.cons ?_ (.cons ?_ (.cons ?_ .nil))))))))
            all_goals (refine SG8.step ?_; intro x39 x40 x41 x42 x43 x44 x45 L W hI hL hd K hK)
            · rw [if_pos (by rfl)]
              go_simp
              exact hK.out _ _ ⟨_, _, _, _, _, _, _, rfl, hI.s0⟩
            · rw [if_pos (by rfl)]
              go_simp
              exact hK.out _ _ ⟨_, _, _, _, _, _, _, rfl, hI.s1⟩
            · rw [if_pos (by rfl)]
              have hc := CN.out _ hI.x.pw.bel
              go_simp
              exact hK.out _ _ ⟨_, _, _, _, _, _, _, rfl, hI.s2⟩
            · rw [if_pos (by rfl)]
              go_simp
              exact hK.out _ _ ⟨_, _, _, _, _, _, _, rfl, hI.s3⟩
            · have hx3 := hI.p3 (hd 3 (by decide))
              subst hx3
              have hx0 := hI.p0 (hd 0 (by decide))
              subst hx0
              rw [if_pos (by rfl)]
              go_simp
              exact hK.out _ _ ⟨_, _, _, _, _, _, _, rfl, hI.s4⟩
            · have hx4 := hI.p4 (hd 4 (by decide))
              subst hx4
              have hr1 : Row W G 67 (csC s) := by have := hI.x.r1; rw [hL] at this; exact this
              have hc := hr1.cell (9 + tt) _ KL.out
              have hf : W.frozen? ⟨G, 9 + tt, none⟩ = false := hr1.frozen _
              rw [if_pos (by rfl)]
              go_simp
              have hX := hI.x.set1 hL (9 + tt) _ (hI.x.pw.set hI.x.l1 _ _) E1.out
              exact hK.out _ _ ⟨_, _, _, _, _, _, _, rfl, hI.s5 hX⟩
            · rw [if_pos (by rfl)]
              go_simp
              exact hK.out _ _ ⟨_, _, _, _, _, _, _, rfl, hI.s6⟩
            · have hx6 := hI.p6 (hd 6 (by decide))
              subst hx6
              have hx1 := hI.p1 (hd 1 (by decide))
              subst hx1
              rw [if_pos (by rfl)]
              go_simp
              exact hK.out _ _ ⟨_, _, _, _, _, _, _, rfl, hI.s7⟩
            · have hx7 := hI.p7 (hd 7 (by decide))
              subst hx7
              have hx2 := hI.p2 (hd 2 (by decide))
              subst hx2
              have hr1 : Row W H 67 (csC s) := by have := hI.x.r2; rw [hL] at this; exact this
              have hc := hr1.cell (9 + tt) _ KL.out
              have hf : W.frozen? ⟨H, 9 + tt, none⟩ = false := hr1.frozen _
              rw [if_pos (by rfl)]
              go_simp
              have hX := hI.x.set2 hL (9 + tt) _ (hI.x.pw.set hI.x.l2 _ _) E2.out
              exact hK.out _ _ ⟨_, _, _, _, _, _, _, rfl, hI.s8 hX⟩
          · refine SG8.ends ?_; intro x39 x40 x41 x42 x43 x44 x45 L W hall hI
            have hx0 := hI.p0 (hall 0 (by decide))
            subst hx0
            have hx1 := hI.p1 (hall 1 (by decide))
            subst hx1
            have hx2 := hI.p2 (hall 2 (by decide))
            subst hx2
            have hx3 := hI.p3 (hall 3 (by decide))
            subst hx3
            have hx4 := hI.p4 (hall 4 (by decide))
            subst hx4
            have hx6 := hI.p6 (hall 6 (by decide))
            subst hx6
            have hx7 := hI.p7 (hall 7 (by decide))
            subst hx7
            have hXe := hI.x
            rw [hall 5 (by decide)] at hXe
            rw [hall 8 (by decide)] at hXe
            clear hI hall
            try dsimp only
            have r8 : Row W H 67 (csC tC) := hXe.r2
            have HX8 : Hid (C2 (DW ab nb mb aa n LL w N [] s false) (w.heap.size + 1) G H s tA tC true true W) := hXe
            clear hXe HS7
            obtain ⟨w9, hw9⟩ : ∃ w9, w9 = W.alloc (.cells #[.int .i64 0, .int .i64 0, .int .i64 0, .int .i64 0, .int .i64 0, .int .i64 0, .int .i64 0, .int .i64 0, .int .u64 0, .int .i64 0, .int .i64 0, .bool false, .int .i64 0, .int .i64 0, .int .i16 0, .int .i8 0, .int .i8 0, .bool false, .bool false] 67) := ⟨_, rfl⟩
            have r9 : Row w9 W.heap.size 67 (csC zCS) := by rw [hw9]; exact Row.at W 67 (csC zCS) _ _ rfl rfl
            go_wp2_with (first
              | (refine wpList_load_whole_g ?_ 67 (.tmp 11) rfl H 67 19 (csC tC) r8 rfl _ LC.out Tryz.underlying67 rfl (by kernel_rfl) ?_; · rfl)
              | (refine wpList_store_Row rfl 67 (.tmp 12) (.tmp 46) rfl W.heap.size 67 0 (csC zCS) (csC tC) r9 (by rw [LC.out]; decide) rfl rfl (by rw [LC.out]; kernel_rfl) (csC_one _) ?_; intro w10 hr10 hs10; have q10 := row_whole hr10 (by rw [LC.out]; decide); rw [hw9] at hs10; have G10 := HX8.out.laid hs10 q10; clear hr10 hs10 r9; have c10 : w10.cell? ⟨W.heap.size, 16, none⟩ = some (.int .i8 (s.first : Int)) := q10.cell 16 _ K6.out; have f10 : w10.frozen? ⟨W.heap.size, 16, none⟩ = false := q10.frozen 16; obtain ⟨w11, hw11⟩ : ∃ w11, w11 = w10.setCell ⟨W.heap.size, 16, none⟩ (.int .i8 (tt : Int)) := ⟨_, rfl⟩; have Q11 : Q4 ab nb mb aa n LL w [] w.heap.size G H W.heap.size s tA tC tD w11 := (by rw [hw11]; exact G10.last HX8.out 16 _ E3.out); have q11 := Q11.r3)
              | (rw [← hw9]; have hz := hw9; clear hz)
              | (rw [← hw11]; have hz := hw11; clear hz hw11)
              | (refine wpList_load_whole_g ?_ 67 (.tmp 12) rfl W.heap.size 67 19 (csC tD) q11 rfl _ LD.out Tryz.underlying67 rfl (by kernel_rfl) ?_; · rfl))
            refine (O1.out _ Q11.tel).mono ?_
            rintro e w12 ⟨rfl, h12, g12⟩
            dsimp only
            have Q12 := Q11.told h12 g12
            have q12 := Q12.r0
            have HQ12 : Hid (Q4 ab nb mb aa n LL w [(an0 0, tD)] w.heap.size G H W.heap.size s tA tC tD w12) := Q12
            clear h12 g12 Q12 Q11 q11 O1
            go_wp2_with (refine wpList_load_whole_g ?_ 67 (.tmp 6) rfl w.heap.size 67 19 (csC s) q12 rfl _ LCS.out Tryz.underlying67 rfl (by kernel_rfl) ?_; · rfl)
            refine (O2.out _ HQ12.out.tel).mono ?_
            rintro e w13 ⟨rfl, h13, g13⟩
            dsimp only
            have Q13 := HQ12.out.told h13 g13
            have a0 := Q13.r0
            have a1 := Q13.r1
            have a2 := Q13.r2
            have a3 := Q13.r3
            have HQ13 : Hid (Q4 ab nb mb aa n LL w [(an0 0, tD), (an0 9, s)] w.heap.size G H W.heap.size s tA tC tD w13) := Q13
            clear h13 g13 Q13 HQ12 q12 O2
            go_wp2_with (first
              | (refine wpList_load_whole_g ?_ 67 (.tmp 6) rfl w.heap.size 67 19 (csC s) a0 rfl _ LCS.out Tryz.underlying67 rfl (by kernel_rfl) ?_; · rfl)
              | (refine wpList_load_whole_g ?_ 67 (.tmp 10) rfl G 67 19 (csC tA) a1 rfl _ LA.out Tryz.underlying67 rfl (by kernel_rfl) ?_; · rfl)
              | (refine wpList_load_whole_g ?_ 67 (.tmp 11) rfl H 67 19 (csC tC) a2 rfl _ LC.out Tryz.underlying67 rfl (by kernel_rfl) ?_; · rfl)
              | (refine wpList_load_whole_g ?_ 67 (.tmp 12) rfl W.heap.size 67 19 (csC tD) a3 rfl _ LD.out Tryz.underlying67 rfl (by kernel_rfl) ?_; · rfl)
              | (refine wpList_buildC4 rfl (.tmp 56) (.tmp 57) (.tmp 58) (.tmp 59) rfl s tA tC tD m0.out m1.out m2.out m3.out rfl rfl rfl rfl ?_))
            refine (O3.out _ (HQ13.out.tel.alloc _) w13.heap.size (Row.at w13 67 ([s, tA, tC, tD].flatMap csC) _ _ rfl (by simp))).mono ?_
            rintro e w14 ⟨rfl, h14, g14⟩
            dsimp only
            go_wp2
            go_end0
            exact ⟨rfl, by rw [HT3.out]; exact h14⟩
end Go.Proofs.YtpcgkjngpdplmaaGreatDoor
