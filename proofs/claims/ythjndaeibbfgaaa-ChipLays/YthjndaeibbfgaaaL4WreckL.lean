import Derived.Test.YthjndaeibbfgaaaL4Fix
/-! The statements' own function wreck: a state is written over, and grown. (Printed by tools/genwreck.py.) -/
namespace Go.Proofs.Ythjndaeibbfgaaa
open Go.RowKit

/-- A slice with its own block (or nil), whatever is in it. -/
def OS (W : World) (ao : Option Addr) (n cap e size : Nat) : Prop := ∃ xs, W.ownsRow 0 e size (.slice ao n cap) n xs
theorem OS.of_row {W : World} {B n cap e size : Nat} {cs : List Value} (h : Row W B e cs) (hl : cs.length = cap * size) (hn : n ≤ cap) (hm : cap ≤ maxLen) : OS W (some ⟨B, 0, none⟩) n cap e size :=
  ⟨cs.take (n * size), by rw [List.length_take, hl, Nat.min_eq_left (Nat.mul_le_mul_right _ hn)], .inr ⟨B, cap, cs.toArray, rfl, Nat.zero_le _, h, hn, hm, by simpa using hl, by simp⟩⟩
theorem OS.row {W : World} {B n cap e size : Nat} (h : OS W (some ⟨B, 0, none⟩) n cap e size) : ∃ cs, Row W B e cs ∧ cs.length = cap * size ∧ n ≤ cap ∧ cap ≤ maxLen := by
  obtain ⟨xs, _, h⟩ := h
  rcases h with ⟨h1, _⟩ | ⟨g, c, cur, h1, _, h3, h4, h5, h6, _⟩
  · cases h1
  · injection h1 with e1 e2 e3
    injection e1 with e1
    injection e1 with e1
    subst e1 e3
    exact ⟨cur.toList, h3, by simpa using h6, h4, h5⟩
theorem OS.keep {W W' : World} {ao : Option Addr} {n cap e size : Nat} (h : OS W ao n cap e size) (hb : ∀ g, ao = some ⟨g, 0, none⟩ → W'.heap[g]? = W.heap[g]?) : OS W' ao n cap e size := by
  obtain ⟨xs, h⟩ := h
  exact ⟨xs, owns_kept h hb⟩
theorem OS.lt {W : World} {ao : Option Addr} {n cap e size : Nat} (h : OS W ao n cap e size) : ∀ g, ao = some ⟨g, 0, none⟩ → g < W.heap.size := by
  rintro g rfl
  obtain ⟨cs, h1, _⟩ := h.row
  exact h1.lt
theorem OS.form {W : World} {ao : Option Addr} {n cap e size : Nat} (h : OS W ao n cap e size) : (ao = none ∧ n = 0 ∧ cap = 0) ∨ ∃ B, ao = some ⟨B, 0, none⟩ := by
  obtain ⟨xs, _, h⟩ := h
  rcases h with ⟨h1, h2⟩ | ⟨g, c, cur, h1, _⟩
  · injection h1 with e1 e2 e3
    exact .inl ⟨e1, h2, e3⟩
  · injection h1 with e1
    exact .inr ⟨g, e1⟩

/-- append onto such a slice. -/
theorem wpList_append_os {T e size bytes : Nat} {z : Value} (E : ElT T e size bytes z) {ops : Array Oper} {rest : List Oper} {o : Oper} {a : Act} {w : World} {Q : Exit → Act → World → Prop} (hgd : o.guard = none) (s x : Operand)
    (ho : o.op = .call { callee := .builtin .append, args := #[s, x], argTypes := #[T, T] })
    (aoD : Option Addr) (nD capD : Nat) (hs : a.eval s = .slice aoD nD capD) (hown : OS w aoD nD capD e size)
    (B cap t : Nat) (news : List Value) (hx : a.eval x = .slice (some ⟨B, 0, none⟩) 1 cap) (hn : news.length = 1 * size) (hr : Row w B t news) (h1 : ∀ u ∈ news, u.oneCell' = true) (hm : nD + 1 ≤ maxLen) (hl : (nD + 1) * bytes ≤ 140737488355328)
    (h : ∀ ao' cap' w', OS w' ao' (nD + 1) cap' e size → w'.os = w.os → w'.tape = w.tape → w'.output = w.output → w.heap.size ≤ w'.heap.size → (∀ k, k < w.heap.size → (∀ g, aoD = some ⟨g, 0, none⟩ → k ≠ g) → w'.heap[k]? = w.heap[k]?) → (ao' = aoD ∨ ao' = some ⟨w.heap.size, 0, none⟩) → wpList Try.prog ops Q rest (a.put o.dst (.slice ao' (nD + 1) cap')) w') : wpList Try.prog ops Q (o :: rest) a w := by
  obtain ⟨vs, hown⟩ := hown
  refine wpList_plain hgd fun K hK => ?_
  have hc : ∀ j u, news[j]? = some u → w.cell? ⟨B, 0 + j, none⟩ = some u := fun j u hu => by rw [Nat.zero_add]; exact hr.cell j u hu
  obtain ⟨ao', cap', w', hrun, h2, h3, h4, h5⟩ := run_append_gen E 0 w w o.type aoD nD capD vs hown (Nat.zero_le _) (Below.refl _ _) (some ⟨B, 0, none⟩) 1 cap news hn (.inr ⟨B, 0, rfl, hc⟩) h1 (by simp) hm hl
  have hwh := append_where E 0 w o.type aoD nD capD vs hown ⟨B, 0, none⟩ 1 cap news hn (fun j u hu => by rw [Addr.add_mid]; exact hc j u hu) h1 (by omega) hm hl ao' _ cap' w' hrun
  unfold Oper.wp execOp
  simp only [ho, resolve, invoke, builtin, Sem.run_bind, Sem.run_pure, Result.andThen_ok, List.map_toArray, List.map_cons, List.map_nil, hs, hx, hrun]
  exact hK _ _ (h ao' cap' w' ⟨_, h2⟩ h3.os h3.tape h3.output h4 h5 (hwh.imp (·.1) (·.1)))

/-- A page's slice: its block, its length, its capacity. -/
abbrev Pg := Nat × Nat × Nat
def pgV (q : Pg) : Value := .slice (some ⟨q.1, 0, none⟩) q.2.1 q.2.2

structure WrI (w0 : World) (sB bB nb bc j : Nat) (v : Bool) (L : Nat → Bool) (x64 x65 x66 x67 x68 x69 x70 x71 x72 x73 : Value) (W : World) : Prop where
  wz : L 10 = false → W = w0
  wo : L 10 = true → W = w0.setCell ⟨bB, j, none⟩ (.bool (!v))
  p0 : L 0 = true → x64 = .pointer (some ⟨sB, 2, none⟩)
  p1 : L 1 = true → x65 = .slice (some ⟨bB, 0, none⟩) nb bc
  p2 : L 2 = true → x66 = .int .i64 (j : Int)
  p3 : L 3 = true → x67 = .pointer (some ⟨sB, 2, none⟩)
  p4 : L 4 = true → x68 = .slice (some ⟨bB, 0, none⟩) nb bc
  p5 : L 5 = true → x69 = .int .i64 (j : Int)
  p6 : L 6 = true → x70 = .pointer (some ⟨bB, j, none⟩)
  p7 : L 7 = true → x71 = .bool v
  p8 : L 8 = true → x72 = .bool (!v)
  p9 : L 9 = true → x73 = .pointer (some ⟨bB, j, none⟩)
  l10_9 : L 10 = true → L 9 = true
  l9_1 : L 9 = true → L 1 = true
  l10_8 : L 10 = true → L 8 = true
  l8_7 : L 8 = true → L 7 = true
  l7_6 : L 7 = true → L 6 = true
  l6_4 : L 6 = true → L 4 = true
section
variable {w0 : World} {sB bB nb bc j : Nat} {v : Bool} {L : Nat → Bool} {x64 x65 x66 x67 x68 x69 x70 x71 x72 x73 : Value} {W : World}
theorem WrI.zero (w0 : World) (sB bB nb bc j : Nat) (v : Bool) (x64 x65 x66 x67 x68 x69 x70 x71 x72 x73 : Value) : WrI w0 sB bB nb bc j v (fun _ => false) x64 x65 x66 x67 x68 x69 x70 x71 x72 x73 (w0) := by
  constructor <;> first | exact fun _ => rfl | (intros; contradiction)
theorem WrI.s0 (h : WrI w0 sB bB nb bc j v L x64 x65 x66 x67 x68 x69 x70 x71 x72 x73 W) : WrI w0 sB bB nb bc j v (upd L 0) (.pointer (some ⟨sB, 2, none⟩)) x65 x66 x67 x68 x69 x70 x71 x72 x73 W :=
  ⟨h.wz, h.wo, fun _ => rfl, h.p1, h.p2, h.p3, h.p4, h.p5, h.p6, h.p7, h.p8, h.p9, h.l10_9, h.l9_1, h.l10_8, h.l8_7, h.l7_6, h.l6_4⟩
theorem WrI.s1 (h : WrI w0 sB bB nb bc j v L x64 x65 x66 x67 x68 x69 x70 x71 x72 x73 W) : WrI w0 sB bB nb bc j v (upd L 1) x64 (.slice (some ⟨bB, 0, none⟩) nb bc) x66 x67 x68 x69 x70 x71 x72 x73 W :=
  ⟨h.wz, h.wo, h.p0, fun _ => rfl, h.p2, h.p3, h.p4, h.p5, h.p6, h.p7, h.p8, h.p9, h.l10_9, fun _ => rfl, h.l10_8, h.l8_7, h.l7_6, h.l6_4⟩
theorem WrI.s2 (h : WrI w0 sB bB nb bc j v L x64 x65 x66 x67 x68 x69 x70 x71 x72 x73 W) : WrI w0 sB bB nb bc j v (upd L 2) x64 x65 (.int .i64 (j : Int)) x67 x68 x69 x70 x71 x72 x73 W :=
  ⟨h.wz, h.wo, h.p0, h.p1, fun _ => rfl, h.p3, h.p4, h.p5, h.p6, h.p7, h.p8, h.p9, h.l10_9, h.l9_1, h.l10_8, h.l8_7, h.l7_6, h.l6_4⟩
theorem WrI.s3 (h : WrI w0 sB bB nb bc j v L x64 x65 x66 x67 x68 x69 x70 x71 x72 x73 W) : WrI w0 sB bB nb bc j v (upd L 3) x64 x65 x66 (.pointer (some ⟨sB, 2, none⟩)) x68 x69 x70 x71 x72 x73 W :=
  ⟨h.wz, h.wo, h.p0, h.p1, h.p2, fun _ => rfl, h.p4, h.p5, h.p6, h.p7, h.p8, h.p9, h.l10_9, h.l9_1, h.l10_8, h.l8_7, h.l7_6, h.l6_4⟩
theorem WrI.s4 (h : WrI w0 sB bB nb bc j v L x64 x65 x66 x67 x68 x69 x70 x71 x72 x73 W) : WrI w0 sB bB nb bc j v (upd L 4) x64 x65 x66 x67 (.slice (some ⟨bB, 0, none⟩) nb bc) x69 x70 x71 x72 x73 W :=
  ⟨h.wz, h.wo, h.p0, h.p1, h.p2, h.p3, fun _ => rfl, h.p5, h.p6, h.p7, h.p8, h.p9, h.l10_9, h.l9_1, h.l10_8, h.l8_7, h.l7_6, fun _ => rfl⟩
theorem WrI.s5 (h : WrI w0 sB bB nb bc j v L x64 x65 x66 x67 x68 x69 x70 x71 x72 x73 W) : WrI w0 sB bB nb bc j v (upd L 5) x64 x65 x66 x67 x68 (.int .i64 (j : Int)) x70 x71 x72 x73 W :=
  ⟨h.wz, h.wo, h.p0, h.p1, h.p2, h.p3, h.p4, fun _ => rfl, h.p6, h.p7, h.p8, h.p9, h.l10_9, h.l9_1, h.l10_8, h.l8_7, h.l7_6, h.l6_4⟩
theorem WrI.s6 (h : WrI w0 sB bB nb bc j v L x64 x65 x66 x67 x68 x69 x70 x71 x72 x73 W) (h4 : L 4 = true) : WrI w0 sB bB nb bc j v (upd L 6) x64 x65 x66 x67 x68 x69 (.pointer (some ⟨bB, j, none⟩)) x71 x72 x73 W :=
  ⟨h.wz, h.wo, h.p0, h.p1, h.p2, h.p3, h.p4, h.p5, fun _ => rfl, h.p7, h.p8, h.p9, h.l10_9, h.l9_1, h.l10_8, h.l8_7, fun _ => rfl, fun _ => h4⟩
theorem WrI.s7 (h : WrI w0 sB bB nb bc j v L x64 x65 x66 x67 x68 x69 x70 x71 x72 x73 W) (h6 : L 6 = true) : WrI w0 sB bB nb bc j v (upd L 7) x64 x65 x66 x67 x68 x69 x70 (.bool v) x72 x73 W :=
  ⟨h.wz, h.wo, h.p0, h.p1, h.p2, h.p3, h.p4, h.p5, h.p6, fun _ => rfl, h.p8, h.p9, h.l10_9, h.l9_1, h.l10_8, fun _ => rfl, fun _ => h6, h.l6_4⟩
theorem WrI.s8 (h : WrI w0 sB bB nb bc j v L x64 x65 x66 x67 x68 x69 x70 x71 x72 x73 W) (h7 : L 7 = true) : WrI w0 sB bB nb bc j v (upd L 8) x64 x65 x66 x67 x68 x69 x70 x71 (.bool (!v)) x73 W :=
  ⟨h.wz, h.wo, h.p0, h.p1, h.p2, h.p3, h.p4, h.p5, h.p6, h.p7, fun _ => rfl, h.p9, h.l10_9, h.l9_1, fun _ => rfl, fun _ => h7, h.l7_6, h.l6_4⟩
theorem WrI.s9 (h : WrI w0 sB bB nb bc j v L x64 x65 x66 x67 x68 x69 x70 x71 x72 x73 W) (h1 : L 1 = true) : WrI w0 sB bB nb bc j v (upd L 9) x64 x65 x66 x67 x68 x69 x70 x71 x72 (.pointer (some ⟨bB, j, none⟩)) W :=
  ⟨h.wz, h.wo, h.p0, h.p1, h.p2, h.p3, h.p4, h.p5, h.p6, h.p7, h.p8, fun _ => rfl, fun _ => rfl, fun _ => h1, h.l10_8, h.l8_7, h.l7_6, h.l6_4⟩
theorem WrI.s10 (h : WrI w0 sB bB nb bc j v L x64 x65 x66 x67 x68 x69 x70 x71 x72 x73 W) (h9 : L 9 = true) (h8 : L 8 = true) : WrI w0 sB bB nb bc j v (upd L 10) x64 x65 x66 x67 x68 x69 x70 x71 x72 x73 (w0.setCell ⟨bB, j, none⟩ (.bool (!v))) :=
  ⟨fun k => (by cases k), fun _ => rfl, h.p0, h.p1, h.p2, h.p3, h.p4, h.p5, h.p6, h.p7, h.p8, h.p9, fun _ => h9, h.l9_1, fun _ => h8, h.l8_7, h.l7_6, h.l6_4⟩
theorem WrI.w1 (h : WrI w0 sB bB nb bc j v L x64 x65 x66 x67 x68 x69 x70 x71 x72 x73 W) (hL : L 1 = false) : W = w0 := h.wz (by cases k : L 10 with | false => rfl | true => exact absurd (h.l9_1 (h.l10_9 (k))) (by rw [hL]; decide))
theorem WrI.w4 (h : WrI w0 sB bB nb bc j v L x64 x65 x66 x67 x68 x69 x70 x71 x72 x73 W) (hL : L 4 = false) : W = w0 := h.wz (by cases k : L 10 with | false => rfl | true => exact absurd (h.l6_4 (h.l7_6 (h.l8_7 (h.l10_8 (k))))) (by rw [hL]; decide))
theorem WrI.w7 (h : WrI w0 sB bB nb bc j v L x64 x65 x66 x67 x68 x69 x70 x71 x72 x73 W) (hL : L 7 = false) : W = w0 := h.wz (by cases k : L 10 with | false => rfl | true => exact absurd (h.l8_7 (h.l10_8 (k))) (by rw [hL]; decide))
end
@[reducible] def IWrI (w0 : World) (sB bB nb bc j : Nat) (v : Bool) (y0 y1 y2 y3 y4 y5 y6 y7 y8 y9 y10 y11 y12 y13 y14 y15 y16 y17 y18 y19 y20 y21 y22 y23 y24 y25 y26 y27 y28 y29 y30 y31 y32 y33 y34 y35 y36 y37 y38 y39 y40 y41 y42 y43 y44 y45 y46 y47 y48 y49 y50 y51 y52 y53 y54 y55 y56 y57 y58 y59 y60 y61 y62 y63 y74 y75 y76 y77 y78 y79 y80 y81 y82 y83 y84 y85 y86 y87 y88 y89 y90 y91 y92 : Value) : (Nat → Bool) → Act → World → Prop := fun L a W => ∃ x64 x65 x66 x67 x68 x69 x70 x71 x72 x73, a = ⟨#[y0, y1, y2, y3, y4, y5, y6, y7, y8, y9, y10, y11, y12, y13, y14, y15, y16, y17, y18, y19, y20, y21, y22, y23, y24, y25, y26, y27, y28, y29, y30, y31, y32, y33, y34, y35, y36, y37, y38, y39, y40, y41, y42, y43, y44, y45, y46, y47, y48, y49, y50, y51, y52, y53, y54, y55, y56, y57, y58, y59, y60, y61, y62, y63, x64, x65, x66, x67, x68, x69, x70, x71, x72, x73, y74, y75, y76, y77, y78, y79, y80, y81, y82, y83, y84, y85, y86, y87, y88, y89, y90, y91, y92], []⟩ ∧ WrI w0 sB bB nb bc j v L x64 x65 x66 x67 x68 x69 x70 x71 x72 x73 W

/-- A state that may be written over: i pages are done. -/
structure WI (w : World) (L : List Nat) (vs : List Value) (np ne nb : Nat) (po : Option Addr) (pc : Nat) (qs : List Pg) (eB ec bB bc i : Nat) (W : World) : Prop where
  kp : KeptL L w W
  rs : Row W w.heap.size 40 vs
  op : OS W po np pc 57 1
  hd : ∀ j q B, i ≤ j → qs[j]? = some q → po = some ⟨B, 0, none⟩ → W.cell? ⟨B, j, none⟩ = some (pgV q)
  og : ∀ j q, i ≤ j → qs[j]? = some q → OS W (some ⟨q.1, 0, none⟩) q.2.1 q.2.2 49 32
  oe : OS W (some ⟨eB, 0, none⟩) ne ec 3 1
  ob : ∃ bs : List Bool, bs.length = nb ∧ Pre W bB 4 (bs.map Value.bool)
  obs : OS W (some ⟨bB, 0, none⟩) nb bc 4 1

/-- What never changes of it. -/
structure WS (w : World) (L : List Nat) (np : Nat) (po : Option Addr) (qs : List Pg) (eB bB : Nat) : Prop where
  len : qs.length = np
  lt : ∀ b ∈ L, b < w.heap.size
  pL : ∀ B, po = some ⟨B, 0, none⟩ → B ∈ L ∧ B ≠ eB ∧ B ≠ bB ∧ B ∉ qs.map (·.1)
  eL : eB ∈ L
  bL : bB ∈ L
  qL : ∀ q ∈ qs, q.1 ∈ L
  eb : eB ≠ bB
  eq : eB ∉ qs.map (·.1)
  bq : bB ∉ qs.map (·.1)
  qn : (qs.map (·.1)).Nodup

/-- Blocks that none of it lies in may change. -/
theorem WI.other {w : World} {L : List Nat} {vs : List Value} {np ne nb : Nat} {po : Option Addr} {pc : Nat} {qs : List Pg} {eB ec bB bc i : Nat} {W W' : World} (h : WI w L vs np ne nb po pc qs eB ec bB bc i W) (hs : WS w L np po qs eB bB) (D : Nat) (hD : D ∈ L ∨ w.heap.size < D)
    (hos : W'.os = W.os) (htp : W'.tape = W.tape) (hou : W'.output = W.output) (hsz : W.heap.size ≤ W'.heap.size) (hb : ∀ k, k < W.heap.size → k ≠ D → W'.heap[k]? = W.heap[k]?) (d1 : ∀ B, po = some ⟨B, 0, none⟩ → B ≠ D) (d2 : eB ≠ D) (d3 : bB ≠ D) (d4 : ∀ j q, i ≤ j → qs[j]? = some q → q.1 ≠ D) :
    WI w L vs np ne nb po pc qs eB ec bB bc i W' := by
  have hl := hs.lt
  have hrs := h.rs.lt
  refine ⟨⟨hos.trans h.kp.os, htp.trans h.kp.tape, hou.trans h.kp.output, Nat.le_trans h.kp.size hsz, fun k hk hn => ?_⟩, ?_, h.op.keep fun g hg => hb g (h.op.lt g hg) (d1 g hg), fun j q B hj hq hB => ?_, fun j q hj hq => (h.og j q hj hq).keep fun g hg => ?_, h.oe.keep fun g hg => ?_, ?_, h.obs.keep fun g hg => ?_⟩
  · refine (hb k (Nat.lt_of_lt_of_le hk h.kp.size) ?_).trans (h.kp.block k hk hn)
    rintro rfl
    rcases hD with hD | hD
    · exact hn hD
    · omega
  · refine (hb _ hrs ?_).trans h.rs
    rcases hD with hD | hD
    · have := hl D hD; omega
    · omega
  · rw [← h.hd j q B hj hq hB]
    exact World.cell?_of_block (hb B (h.op.lt B hB) (d1 B hB))
  · injection hg with hg; injection hg with hg; subst hg
    exact hb _ ((h.og j q hj hq).lt _ rfl) (d4 j q hj hq)
  · injection hg with hg; injection hg with hg; subst hg
    exact hb _ (h.oe.lt _ rfl) d2
  · obtain ⟨bs, h1, h2⟩ := h.ob
    exact ⟨bs, h1, h2.of_block (hb _ h2.lt d3)⟩
  · injection hg with hg; injection hg with hg; subst hg
    exact hb _ (h.obs.lt _ rfl) d3
theorem WI.next {w : World} {L : List Nat} {vs : List Value} {np ne nb : Nat} {po : Option Addr} {pc : Nat} {qs : List Pg} {eB ec bB bc i : Nat} {W : World} (h : WI w L vs np ne nb po pc qs eB ec bB bc i W) : WI w L vs np ne nb po pc qs eB ec bB bc (i + 1) W :=
  ⟨h.kp, h.rs, h.op, fun j q B hj => h.hd j q B (by omega), fun j q hj => h.og j q (by omega), h.oe, h.ob, h.obs⟩
end Go.Proofs.Ythjndaeibbfgaaa

namespace Go.Proofs.Ythjndaeibbfgaaa
open Go.RowKit

section
variable {w : World} {L : List Nat} {vs : List Value} {np ne nb : Nat} {po : Option Addr} {pc : Nat} {qs : List Pg} {eB ec bB bc i : Nat} {W W' : World}

theorem nodup_at {q q' : Pg} {j j' : Nat} (hn : (qs.map (·.1)).Nodup) (h : qs[j]? = some q) (h' : qs[j']? = some q') (hj : j ≠ j') : q.1 ≠ q'.1 := by
  intro e
  have e1 : (qs.map (·.1))[j]? = some q.1 := by rw [List.getElem?_map, h]; rfl
  have e2 : (qs.map (·.1))[j']? = some q'.1 := by rw [List.getElem?_map, h']; rfl
  have hjl := (List.getElem?_eq_some_iff.1 e1).1
  exact hj ((List.getElem?_inj hjl hn).1 (by rw [e1, e2, e]))

theorem WI.page (h : WI w L vs np ne nb po pc qs eB ec bB bc i W) (hs : WS w L np po qs eB bB) (q : Pg) (hq : qs[i]? = some q) (hb : SameBut q.1 W W') (ho : OS W' (some ⟨q.1, 0, none⟩) q.2.1 q.2.2 49 32) : WI w L vs np ne nb po pc qs eB ec bB bc i W' := by
  have hm : q.1 ∈ qs.map (·.1) := List.mem_map_of_mem (List.mem_of_getElem? hq)
  have h2 := h.next.other hs q.1 (.inl (hs.qL q (List.mem_of_getElem? hq))) hb.os hb.tape hb.output (Nat.le_of_eq hb.size.symm) (fun k _ hk => hb.block k hk) (fun B hB e => (hs.pL B hB).2.2.2 (e ▸ hm)) (fun e => hs.eq (e ▸ hm)) (fun e => hs.bq (e ▸ hm)) (fun j q' hj hq' => nodup_at hs.qn hq' hq (by omega))
  refine ⟨h2.kp, h2.rs, h2.op, fun j q' B hj hq' hB => ?_, fun j q' hj hq' => ?_, h2.oe, h2.ob, h2.obs⟩
  · rw [← h.hd j q' B hj hq' hB]
    exact World.cell?_of_block (hb.block B (fun e => (hs.pL B hB).2.2.2 (e ▸ hm)))
  · by_cases hji : j = i
    · subst hji
      rw [hq] at hq'
      injection hq' with hq'
      subst hq'
      exact ho
    · exact h2.og j q' (by omega) hq'

theorem WI.header (h : WI w L vs np ne nb po pc qs eB ec bB bc (i + 1) W) (hs : WS w L np po qs eB bB) (B : Nat) (hB : po = some ⟨B, 0, none⟩) (v : Value) : WI w L vs np ne nb po pc qs eB ec bB bc (i + 1) (W.setCell ⟨B, i, none⟩ v) := by
  subst hB
  have hb := SameBut.setCell B i v W
  obtain ⟨p1, p2, p3, p4⟩ := hs.pL B rfl
  have hrs := h.rs.lt
  have hBlt := hs.lt B p1
  obtain ⟨cs, hr, hl, hn, hmx⟩ := h.op.row
  refine ⟨h.kp.but hb (.inl p1), h.rs.but hb (by omega), OS.of_row (hr.set i v) (by rw [List.length_set]; exact hl) hn hmx, fun j q B' hj hq hB' => ?_, fun j q hj hq => (h.og j q hj hq).keep fun g hg => ?_, h.oe.keep fun g hg => ?_, ?_, h.obs.keep fun g hg => ?_⟩
  · injection hB' with hB'
    injection hB' with hB'
    subst hB'
    rw [World.cell?_setCell_other _ _ _ _ (by intro e; injection e; omega)]
    exact h.hd j q B hj hq rfl
  · injection hg with hg; injection hg with hg; subst hg
    exact hb.block _ (fun e => p4 (e ▸ List.mem_map_of_mem (List.mem_of_getElem? hq)))
  · injection hg with hg; injection hg with hg; subst hg
    exact hb.block _ (Ne.symm p2)
  · obtain ⟨bs, h1, h2⟩ := h.ob
    exact ⟨bs, h1, h2.of_block (hb.block _ (Ne.symm p3))⟩
  · injection hg with hg; injection hg with hg; subst hg
    exact hb.block _ (Ne.symm p3)

theorem WI.erase (h : WI w L vs np ne nb po pc qs eB ec bB bc i W) (hs : WS w L np po qs eB bB) (j : Nat) (v : Value) : WI w L vs np ne nb po pc qs eB ec bB bc i (W.setCell ⟨eB, j, none⟩ v) := by
  have hb := SameBut.setCell eB j v W
  have hlt := hs.lt eB hs.eL
  obtain ⟨cs, hr, hl, hn, hmx⟩ := h.oe.row
  refine ⟨h.kp.but hb (.inl hs.eL), h.rs.but hb (by omega), h.op.keep fun g hg => hb.block g (hs.pL g hg).2.1, fun j' q B hj hq hB => ?_, fun j' q hj hq => (h.og j' q hj hq).keep fun g hg => ?_, OS.of_row (hr.set j v) (by rw [List.length_set]; exact hl) hn hmx, ?_, h.obs.keep fun g hg => ?_⟩
  · rw [← h.hd j' q B hj hq hB]
    exact World.cell?_of_block (hb.block B (hs.pL B hB).2.1)
  · injection hg with hg; injection hg with hg; subst hg
    exact hb.block _ (fun e => hs.eq (e ▸ List.mem_map_of_mem (List.mem_of_getElem? hq)))
  · obtain ⟨bs, h1, h2⟩ := h.ob
    exact ⟨bs, h1, h2.of_block (hb.block _ (Ne.symm hs.eb))⟩
  · injection hg with hg; injection hg with hg; subst hg
    exact hb.block _ (Ne.symm hs.eb)

theorem WI.blow (h : WI w L vs np ne nb po pc qs eB ec bB bc i W) (hs : WS w L np po qs eB bB) (j : Nat) (hj : j < nb) (v : Bool) : WI w L vs np ne nb po pc qs eB ec bB bc i (W.setCell ⟨bB, j, none⟩ (.bool v)) := by
  have hb := SameBut.setCell bB j (.bool v) W
  have hlt := hs.lt bB hs.bL
  obtain ⟨cs, hr, hl, hn, hmx⟩ := h.obs.row
  refine ⟨h.kp.but hb (.inl hs.bL), h.rs.but hb (by omega), h.op.keep fun g hg => hb.block g (hs.pL g hg).2.2.1, fun j' q B hj hq hB => ?_, fun j' q hj hq => (h.og j' q hj hq).keep fun g hg => ?_, h.oe.keep fun g hg => ?_, ?_, OS.of_row (hr.set j (.bool v)) (by rw [List.length_set]; exact hl) hn hmx⟩
  · rw [← h.hd j' q B hj hq hB]
    exact World.cell?_of_block (hb.block B (hs.pL B hB).2.2.1)
  · injection hg with hg; injection hg with hg; subst hg
    exact hb.block _ (fun e => hs.bq (e ▸ List.mem_map_of_mem (List.mem_of_getElem? hq)))
  · injection hg with hg; injection hg with hg; subst hg
    exact hb.block _ hs.eb
  · obtain ⟨bs, h1, h2⟩ := h.ob
    refine ⟨bs.set j v, by rw [List.length_set]; exact h1, ?_⟩
    have := h2.set j (.bool v) (by rw [List.length_map]; omega)
    rw [List.map_set]; exact this
theorem WI.dr (h : WI w L vs np ne nb po pc qs eB ec bB bc i W) (d : Dr W W') : WI w L vs np ne nb po pc qs eB ec bB bc i W' := by
  obtain ⟨n, rfl⟩ := d
  exact ⟨h.kp.dr ⟨n, rfl⟩, h.rs, h.op, h.hd, h.og, h.oe, h.ob, h.obs⟩
end
end Go.Proofs.Ythjndaeibbfgaaa
namespace Go.Proofs.Ythjndaeibbfgaaa
open Go.RowKit
/-- Three own slices beside one another. -/
abbrev Sl3 := Option Addr × Nat × Nat × Nat
structure W6 (w : World) (L : List Nat) (x1 x2 x3 : Sl3) (W : World) : Prop where
  kp : KeptL L w W
  sz : w.heap.size < W.heap.size
  o1 : OS W x1.1 x1.2.1 x1.2.2.1 x1.2.2.2 1
  o2 : OS W x2.1 x2.2.1 x2.2.2.1 x2.2.2.2 1
  o3 : OS W x3.1 x3.2.1 x3.2.2.1 x3.2.2.2 1
  p1 : ∀ g, x1.1 = some ⟨g, 0, none⟩ → g ∈ L ∨ w.heap.size < g
  p2 : ∀ g, x2.1 = some ⟨g, 0, none⟩ → g ∈ L ∨ w.heap.size < g
  p3 : ∀ g, x3.1 = some ⟨g, 0, none⟩ → g ∈ L ∨ w.heap.size < g
  d12 : ∀ g g', x1.1 = some ⟨g, 0, none⟩ → x2.1 = some ⟨g', 0, none⟩ → g ≠ g'
  d23 : ∀ g g', x2.1 = some ⟨g, 0, none⟩ → x3.1 = some ⟨g', 0, none⟩ → g ≠ g'
  d31 : ∀ g g', x3.1 = some ⟨g, 0, none⟩ → x1.1 = some ⟨g', 0, none⟩ → g ≠ g'
theorem W6.rot {w : World} {L : List Nat} {x1 x2 x3 : Sl3} {W : World} (h : W6 w L x1 x2 x3 W) : W6 w L x2 x3 x1 W :=
  ⟨h.kp, h.sz, h.o2, h.o3, h.o1, h.p2, h.p3, h.p1, h.d23, h.d31, h.d12⟩
theorem W6.app {w : World} {L : List Nat} {ao : Option Addr} {n c e : Nat} {x2 x3 : Sl3} {W W' : World} (h : W6 w L (ao, n, c, e) x2 x3 W) (obj : Obj) {ao' : Option Addr} {c' : Nat} (q1 : OS W' ao' (n + 1) c' e 1) (q2 : W'.os = (W.alloc obj).os) (q3 : W'.tape = (W.alloc obj).tape) (q4 : W'.output = (W.alloc obj).output) (q5 : (W.alloc obj).heap.size ≤ W'.heap.size)
    (q6 : ∀ k, k < (W.alloc obj).heap.size → (∀ g, ao = some ⟨g, 0, none⟩ → k ≠ g) → W'.heap[k]? = (W.alloc obj).heap[k]?) (q7 : ao' = ao ∨ ao' = some ⟨(W.alloc obj).heap.size, 0, none⟩) : W6 w L (ao', n + 1, c', e) x2 x3 W' := by
  have hsz : (W.alloc obj).heap.size = W.heap.size + 1 := by simp
  rw [hsz] at q5 q6 q7
  have keep : ∀ k, k < W.heap.size → (∀ g, ao = some ⟨g, 0, none⟩ → k ≠ g) → W'.heap[k]? = W.heap[k]? := fun k hk hn => (q6 k (by omega) hn).trans (Below.heap_alloc W obj k hk)
  refine ⟨⟨q2.trans h.kp.os, q3.trans h.kp.tape, q4.trans h.kp.output, by have := h.kp.size; omega, fun k hk hn => ?_⟩, by have := h.sz; omega, q1, h.o2.keep fun g hg => keep g (h.o2.lt g hg) (fun g' hg' e => h.d12 g' g hg' hg e.symm), h.o3.keep fun g hg => keep g (h.o3.lt g hg) (fun g' hg' e => h.d31 g g' hg hg' e), ?_, h.p2, h.p3, ?_, h.d23, ?_⟩
  · refine (keep k (by have := h.kp.size; omega) ?_).trans (h.kp.block k hk hn)
    rintro g hg rfl
    rcases h.p1 k hg with h1 | h1
    · exact hn h1
    · omega
  · intro g hg
    rcases q7 with rfl | rfl
    · exact h.p1 g hg
    · injection hg with hg
      injection hg with hg
      have := h.sz
      right; omega
  · intro g g' hg hg'
    rcases q7 with rfl | rfl
    · exact h.d12 g g' hg hg'
    · injection hg with hg
      injection hg with hg
      have := h.o2.lt g' hg'
      omega
  · intro g g' hg hg'
    rcases q7 with rfl | rfl
    · exact h.d31 g g' hg hg'
    · injection hg' with hg'
      injection hg' with hg'
      have := h.o3.lt g hg
      omega
end Go.Proofs.Ythjndaeibbfgaaa
