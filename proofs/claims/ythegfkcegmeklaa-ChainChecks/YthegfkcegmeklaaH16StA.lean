
import Derived.Test.YthegfkcegmeklaaH16StR
/-! The law's step: Add. (Printed by tools/genstep16.py.) -/
namespace Go.Proofs.Ythegfkcegmeklaa
open Go.RowKit
set_option linter.unusedVariables false

theorem el_evs : ElT 27 35 33 40 (.agg (z32 ++ [Value.int .i64 0]).toArray) := ⟨Try.underlying27, by kernel_rfl, rfl, by omega⟩
theorem fold_ev (EC : List Value) (hl : EC.length = 33) : List.foldl (fun (cs : Array Value) (x : Value × Nat) => cs.setIfInBounds x.2 x.1) (z32 ++ [Value.int .i64 0]).toArray EC.zipIdx = EC.toArray := fold_setv EC [] (z32 ++ [Value.int .i64 0]) (by rw [hl]; rfl)
theorem isL_below {w w' : World} {ao : Option Addr} {vs : List Value} (h : IsL w ao vs) (hb : Below w.heap.size w w') : IsL w' ao vs := by
  rcases h with h | ⟨B, off, e, h⟩
  · exact .inl h
  · exact .inr ⟨B, off, e, fun j v hj => by have := h j v hj; exact (hb.cell (cell_lt this)).trans this⟩
/-- append at a step of a drawn region, of what may be nil. -/
theorem step_append_il {T e size bytes : Nat} {z : Value} (E : ElT T e size bytes z) {ops : Array Oper} {o : Oper} {a : Act} {w : World} {K : Act → World → Prop} {Q : Exit → Act → World → Prop} {X : Prop} (hw : Region.wanted o (yielded ops a.tmps) = true) (s x : Operand)
    (ho : o.op = .call { callee := .builtin .append, args := #[s, x], argTypes := #[T, T] })
    (N : Nat) (a0 : World) (aoD : Option Addr) (nD capD : Nat) (vs : List Value) (hs : a.eval s = .slice aoD nD capD) (hown : w.ownsRow N e size (.slice aoD nD capD) nD vs) (hN : N ≤ w.heap.size) (hbel : Below N a0 w)
    (ao : Option Addr) (n cap : Nat) (news : List Value) (hx : a.eval x = .slice ao n cap) (hn : news.length = n * size) (hb : IsL w ao news) (h1 : ∀ u ∈ news, u.oneCell' = true) (hnil : ao = none → cap = 0) (hm : nD + n ≤ maxLen) (hl : (nD + n) * bytes ≤ 140737488355328)
    (h : ∀ ao' cap' w', w'.ownsRow N e size (.slice ao' (nD + n) cap') (nD + n) (vs ++ news) → Below N a0 w' → w.heap.size ≤ w'.heap.size → (∀ k, k < w.heap.size → (∀ g, aoD = some ⟨g, 0, none⟩ → k ≠ g) → w'.heap[k]? = w.heap[k]?) → K (a.put o.dst (.slice ao' (nD + n) cap')) w') : if Region.wanted o (yielded ops a.tmps) = true then Oper.wp Try.prog o a w K Q else X := by
  rw [if_pos hw]
  obtain ⟨ao', cap', w', hrun, h2, h3, h4, h5⟩ := run_append_gen E N a0 w o.type aoD nD capD vs hown hN hbel ao n cap news hn hb h1 hnil hm hl
  unfold Oper.wp execOp
  simp only [ho, resolve, invoke, builtin, Sem.run_bind, Sem.run_pure, Result.andThen_ok, List.map_toArray, List.map_cons, List.map_nil, hs, hx, hrun]
  exact h ao' cap' w' h2 h3 h4 h5

/-- One thing of the world ahead of a call, another one behind it. -/
def PQ (PW QW : World → Prop) (l : Bool) (W : World) : Prop := if l = true then QW W else PW W
section
variable {PW QW : World → Prop} {l : Bool} {W : World}
theorem PQ.no (h : PQ PW QW l W) (hl : l = false) : PW W := by subst hl; exact h
theorem PQ.yes (h : PQ PW QW l W) (hl : l = true) : QW W := by subst hl; exact h
theorem PQ.of_yes (h : QW W) : PQ PW QW true W := h
theorem PQ.of_no (h : PW W) : PQ PW QW false W := h
theorem PQ.both {X : Prop} (h : PQ PW QW l W) (h1 : PW W → X) (h2 : QW W → X) : X := by
  cases l with
  | true => exact h2 h
  | false => exact h1 h
end

/-- While the events are copied, with one more behind them, and stored. -/
structure A6 (W1 : World) (g : Nat) (lp : Addr) (n : Nat) (XC EC : List Value) (l5 l8 l9 l12 : Bool) (x37 x40 x41 : Value) (W : World) : Prop where
  but : But (fun j => j = g) W1 W
  bel : l12 = false → Below W1.heap.size W1 W
  c9a : l9 = true → l5 = true
  c9b : l9 = true → l8 = true
  c12 : l12 = true → l9 = true
  p5 : l5 = true → l9 = false → ∃ ao1 c1, x37 = .slice ao1 n c1 ∧ W.ownsRow W1.heap.size 35 33 (.slice ao1 n c1) n XC
  p8 : l8 = true → l9 = false → ∃ M, x40 = .slice (some ⟨M, 0, none⟩) 1 1 ∧ Row W M 35 EC
  p9 : l9 = true → ∃ ao2 c2, x41 = .slice ao2 (n + 1) c2 ∧ W.ownsRow W1.heap.size 35 33 (.slice ao2 (n + 1) c2) (n + 1) (XC ++ EC)
  p12 : l12 = true → Row W g 29 [.pointer (some lp), x41]
section
variable {W1 : World} {g : Nat} {lp : Addr} {n : Nat} {XC EC : List Value} {l5 l8 l9 l12 : Bool} {x37 x40 x41 : Value} {W W2 : World}
theorem A6.zero (W1 : World) (g : Nat) (lp : Addr) (n : Nat) (XC EC : List Value) (x37 x40 x41 : Value) : A6 W1 g lp n XC EC false false false false x37 x40 x41 W1.drew :=
  ⟨But.of_below (Below.refl _ _).drew, fun _ => (Below.refl _ _).drew, fun h => (by cases h), fun h => (by cases h), fun h => (by cases h), fun h => (by cases h), fun h => (by cases h), fun h => (by cases h), fun h => (by cases h)⟩
theorem A6.s5 (h : A6 W1 g lp n XC EC l5 l8 l9 l12 x37 x40 x41 W) (h5 : l5 = false) {ao : Option Addr} {c : Nat} (ho : W2.ownsRow W1.heap.size 35 33 (.slice ao n c) n XC) (hb : Below W1.heap.size W1 W2) (hk : ∀ k, k < W.heap.size → W2.heap[k]? = W.heap[k]?) : A6 W1 g lp n XC EC true l8 l9 l12 (.slice ao n c) x40 x41 W2 := by
  have h9 := ff h.c9a h5
  have h12 := ff h.c12 h9
  subst h9 h12
  refine ⟨But.of_below hb, fun _ => hb, fun h => (by cases h), fun h => (by cases h), fun h => (by cases h), fun _ _ => ⟨ao, c, rfl, ho⟩, fun h8 h0 => ?_, fun h => (by cases h), fun h => (by cases h)⟩
  obtain ⟨M, e, r⟩ := h.p8 h8 h0
  exact ⟨M, e, (hk M r.lt).trans r⟩
theorem A6.s8 (h : A6 W1 g lp n XC EC l5 l8 l9 l12 x37 x40 x41 W) (h8 : l8 = false) : A6 W1 g lp n XC EC l5 true l9 l12 x37 (.slice (some ⟨W.heap.size, 0, none⟩) 1 1) x41 (W.alloc (.cells EC.toArray 35)) := by
  have h9 := ff h.c9b h8
  have h12 := ff h.c12 h9
  subst h9 h12
  have hb := (h.bel rfl).alloc (h.bel rfl).size (.cells EC.toArray 35)
  refine ⟨But.of_below hb, fun _ => hb, fun h => (by cases h), fun h => (by cases h), fun h => (by cases h), fun h5 h0 => ?_, fun _ _ => ⟨_, rfl, Row.at W _ _ _ _ rfl rfl⟩, fun h => (by cases h), fun h => (by cases h)⟩
  obtain ⟨a, c, e, r⟩ := h.p5 h5 h0
  exact ⟨a, c, e, r.alloc _⟩
theorem A6.s9 (h : A6 W1 g lp n XC EC l5 l8 l9 l12 x37 x40 x41 W) (h5 : l5 = true) (h8 : l8 = true) (h9 : l9 = false) {ao : Option Addr} {c : Nat} (ho : W2.ownsRow W1.heap.size 35 33 (.slice ao (n + 1) c) (n + 1) (XC ++ EC)) (hb : Below W1.heap.size W1 W2) : A6 W1 g lp n XC EC l5 l8 true l12 x37 x40 (.slice ao (n + 1) c) W2 := by
  have h12 := ff h.c12 h9
  subst h12
  exact ⟨But.of_below hb, fun _ => hb, fun _ => h5, fun _ => h8, fun _ => rfl, fun _ h => (by cases h), fun _ h => (by cases h), fun _ => ⟨ao, c, rfl, ho⟩, fun h => (by cases h)⟩
theorem A6.row (h : A6 W1 g lp n XC EC l5 l8 l9 l12 x37 x40 x41 W) (h12 : l12 = false) {ao : Option Addr} {c : Nat} (hr : Row W1 g 29 [.pointer (some lp), .slice ao n c]) : Row W g 29 [.pointer (some lp), .slice ao n c] := hr.below (h.bel h12) hr.lt
theorem A6.s12 (h : A6 W1 g lp n XC EC l5 l8 l9 l12 x37 x40 x41 W) (h9 : l9 = true) (h12 : l12 = false) {ao : Option Addr} {c : Nat} (hr : Row W1 g 29 [.pointer (some lp), .slice ao n c]) : A6 W1 g lp n XC EC l5 l8 l9 true x37 x40 x41 (W.setCell ⟨g, 1, none⟩ x41) := by
  have hw := h.row h12 hr
  have hs := SameBut.setCell g 1 x41 W
  have hb := h.bel h12
  subst h9
  refine ⟨⟨hs.os.trans hb.os, hs.tape.trans hb.tape, hs.output.trans hb.output, by rw [hs.size]; exact hb.size, fun k hk hne => (hs.block k hne).trans (hb.block k hk)⟩, fun h => (by cases h), h.c9a, h.c9b, fun _ => rfl, fun _ h => (by cases h), fun _ h => (by cases h), fun _ => ?_, fun _ => hw.set 1 x41⟩
  obtain ⟨a, c, e, r⟩ := h.p9 rfl
  refine ⟨a, c, e, owns_blk r fun B e2 => hs.block B fun e3 => ?_⟩
  have := (r.lt B e2).1
  have := hr.lt
  omega
end

structure S3A (W1 : World) (PW QW : World → Prop) (X g : Nat) (lp : Addr) (EC : List Value) (L : Nat → Bool) (x17 x18 x19 x20 x21 x22 x23 x5 : Value) (W : World) : Prop where
  x : PQ PW QW (L 6) W
  p0 : L 0 = true → x17 = .pointer (some ⟨g, 0, none⟩)
  p1 : L 1 = true → x18 = .pointer (some ⟨g, 0, none⟩)
  p2 : L 2 = true → x19 = .pointer (some ⟨g, 0, none⟩)
  p3 : L 3 = true → x20 = .pointer (some lp)
  p4 : L 4 = true → x21 = .pointer (some ⟨X, 2, none⟩)
  p5 : L 5 = true → x22 = .agg EC.toArray
  p6 : L 6 = true → x23 = .int .i64 0
  p7 : L 7 = true → x5 = .int .i64 0
section
variable {W1 : World} {PW QW : World → Prop} {X g : Nat} {lp : Addr} {EC : List Value} {L : Nat → Bool} {x17 x18 x19 x20 x21 x22 x23 x5 : Value} {W W2 : World}
theorem S3A.s0 (h : S3A W1 PW QW X g lp EC L x17 x18 x19 x20 x21 x22 x23 x5 W) : S3A W1 PW QW X g lp EC (upd L 0) (.pointer (some ⟨g, 0, none⟩)) x18 x19 x20 x21 x22 x23 x5 W :=
  ⟨h.x, fun _ => rfl, h.p1, h.p2, h.p3, h.p4, h.p5, h.p6, h.p7⟩
theorem S3A.s1 (h : S3A W1 PW QW X g lp EC L x17 x18 x19 x20 x21 x22 x23 x5 W) : S3A W1 PW QW X g lp EC (upd L 1) x17 (.pointer (some ⟨g, 0, none⟩)) x19 x20 x21 x22 x23 x5 W :=
  ⟨h.x, h.p0, fun _ => rfl, h.p2, h.p3, h.p4, h.p5, h.p6, h.p7⟩
theorem S3A.s2 (h : S3A W1 PW QW X g lp EC L x17 x18 x19 x20 x21 x22 x23 x5 W) : S3A W1 PW QW X g lp EC (upd L 2) x17 x18 (.pointer (some ⟨g, 0, none⟩)) x20 x21 x22 x23 x5 W :=
  ⟨h.x, h.p0, h.p1, fun _ => rfl, h.p3, h.p4, h.p5, h.p6, h.p7⟩
theorem S3A.s3 (h : S3A W1 PW QW X g lp EC L x17 x18 x19 x20 x21 x22 x23 x5 W) : S3A W1 PW QW X g lp EC (upd L 3) x17 x18 x19 (.pointer (some lp)) x21 x22 x23 x5 W :=
  ⟨h.x, h.p0, h.p1, h.p2, fun _ => rfl, h.p4, h.p5, h.p6, h.p7⟩
theorem S3A.s4 (h : S3A W1 PW QW X g lp EC L x17 x18 x19 x20 x21 x22 x23 x5 W) : S3A W1 PW QW X g lp EC (upd L 4) x17 x18 x19 x20 (.pointer (some ⟨X, 2, none⟩)) x22 x23 x5 W :=
  ⟨h.x, h.p0, h.p1, h.p2, h.p3, fun _ => rfl, h.p5, h.p6, h.p7⟩
theorem S3A.s5 (h : S3A W1 PW QW X g lp EC L x17 x18 x19 x20 x21 x22 x23 x5 W) : S3A W1 PW QW X g lp EC (upd L 5) x17 x18 x19 x20 x21 (.agg EC.toArray) x23 x5 W :=
  ⟨h.x, h.p0, h.p1, h.p2, h.p3, h.p4, fun _ => rfl, h.p6, h.p7⟩
theorem S3A.s6 (h : S3A W1 PW QW X g lp EC L x17 x18 x19 x20 x21 x22 x23 x5 W) (hX : PQ PW QW ((upd L 6) 6) W2) : S3A W1 PW QW X g lp EC (upd L 6) x17 x18 x19 x20 x21 x22 (.int .i64 0) x5 W2 :=
  ⟨hX, h.p0, h.p1, h.p2, h.p3, h.p4, h.p5, fun _ => rfl, h.p7⟩
theorem S3A.s7 (h : S3A W1 PW QW X g lp EC L x17 x18 x19 x20 x21 x22 x23 x5 W) : S3A W1 PW QW X g lp EC (upd L 7) x17 x18 x19 x20 x21 x22 x23 (.int .i64 0) W :=
  ⟨h.x, h.p0, h.p1, h.p2, h.p3, h.p4, h.p5, h.p6, fun _ => rfl⟩
end
@[reducible] def IS3A (W1 : World) (PW QW : World → Prop) (X g : Nat) (lp : Addr) (EC : List Value) (y0 y1 y2 y3 y4 y6 y7 y8 y9 y10 y11 y12 y13 y14 y15 y16 y24 y25 y26 y27 y28 y29 y30 y31 y32 y33 y34 y35 y36 y37 y38 y39 y40 y41 y42 y43 y44 y45 y46 y47 y48 y49 y50 y51 y52 y53 y54 y55 y56 y57 y58 y59 y60 y61 y62 y63 y64 y65 y66 y67 y68 y69 y70 y71 y72 y73 y74 y75 y76 y77 y78 y79 y80 y81 y82 y83 y84 y85 y86 y87 y88 y89 y90 y91 y92 y93 y94 y95 y96 y97 y98 y99 y100 y101 y102 y103 y104 y105 y106 y107 y108 y109 y110 y111 y112 y113 y114 y115 y116 y117 y118 y119 y120 y121 y122 y123 y124 y125 y126 y127 y128 y129 y130 y131 y132 y133 y134 y135 y136 y137 y138 y139 y140 y141 y142 y143 y144 y145 y146 y147 y148 y149 y150 y151 y152 y153 y154 y155 y156 y157 y158 y159 y160 y161 y162 y163 y164 y165 y166 y167 y168 y169 y170 y171 y172 y173 y174 y175 y176 y177 y178 y179 : Value) : (Nat → Bool) → Act → World → Prop := fun L a W => ∃ x17 x18 x19 x20 x21 x22 x23 x5, a = ⟨#[y0, y1, y2, y3, y4, x5, y6, y7, y8, y9, y10, y11, y12, y13, y14, y15, y16, x17, x18, x19, x20, x21, x22, x23, y24, y25, y26, y27, y28, y29, y30, y31, y32, y33, y34, y35, y36, y37, y38, y39, y40, y41, y42, y43, y44, y45, y46, y47, y48, y49, y50, y51, y52, y53, y54, y55, y56, y57, y58, y59, y60, y61, y62, y63, y64, y65, y66, y67, y68, y69, y70, y71, y72, y73, y74, y75, y76, y77, y78, y79, y80, y81, y82, y83, y84, y85, y86, y87, y88, y89, y90, y91, y92, y93, y94, y95, y96, y97, y98, y99, y100, y101, y102, y103, y104, y105, y106, y107, y108, y109, y110, y111, y112, y113, y114, y115, y116, y117, y118, y119, y120, y121, y122, y123, y124, y125, y126, y127, y128, y129, y130, y131, y132, y133, y134, y135, y136, y137, y138, y139, y140, y141, y142, y143, y144, y145, y146, y147, y148, y149, y150, y151, y152, y153, y154, y155, y156, y157, y158, y159, y160, y161, y162, y163, y164, y165, y166, y167, y168, y169, y170, y171, y172, y173, y174, y175, y176, y177, y178, y179], []⟩ ∧ S3A W1 PW QW X g lp EC L x17 x18 x19 x20 x21 x22 x23 x5 W
theorem S3A.step {W1 : World} {PW QW : World → Prop} {X g : Nat} {lp : Addr} {EC : List Value} {y0 y1 y2 y3 y4 y6 y7 y8 y9 y10 y11 y12 y13 y14 y15 y16 y24 y25 y26 y27 y28 y29 y30 y31 y32 y33 y34 y35 y36 y37 y38 y39 y40 y41 y42 y43 y44 y45 y46 y47 y48 y49 y50 y51 y52 y53 y54 y55 y56 y57 y58 y59 y60 y61 y62 y63 y64 y65 y66 y67 y68 y69 y70 y71 y72 y73 y74 y75 y76 y77 y78 y79 y80 y81 y82 y83 y84 y85 y86 y87 y88 y89 y90 y91 y92 y93 y94 y95 y96 y97 y98 y99 y100 y101 y102 y103 y104 y105 y106 y107 y108 y109 y110 y111 y112 y113 y114 y115 y116 y117 y118 y119 y120 y121 y122 y123 y124 y125 y126 y127 y128 y129 y130 y131 y132 y133 y134 y135 y136 y137 y138 y139 y140 y141 y142 y143 y144 y145 y146 y147 y148 y149 y150 y151 y152 y153 y154 y155 y156 y157 y158 y159 y160 y161 y162 y163 y164 y165 y166 y167 y168 y169 y170 y171 y172 y173 y174 y175 y176 y177 y178 y179 : Value} {P : Program} {ops : Array Oper} {Q : Exit → Act → World → Prop} {i : Nat} {o : Oper} (hq : ∀ x17 x18 x19 x20 x21 x22 x23 x5 (L : Nat → Bool) (W : World), S3A W1 PW QW X g lp EC L x17 x18 x19 x20 x21 x22 x23 x5 W → L i = false → (∀ j ∈ onesOf o, L j = true) → ∀ K : Act → World → Prop, Shut (∀ a' w', IS3A W1 PW QW X g lp EC y0 y1 y2 y3 y4 y6 y7 y8 y9 y10 y11 y12 y13 y14 y15 y16 y24 y25 y26 y27 y28 y29 y30 y31 y32 y33 y34 y35 y36 y37 y38 y39 y40 y41 y42 y43 y44 y45 y46 y47 y48 y49 y50 y51 y52 y53 y54 y55 y56 y57 y58 y59 y60 y61 y62 y63 y64 y65 y66 y67 y68 y69 y70 y71 y72 y73 y74 y75 y76 y77 y78 y79 y80 y81 y82 y83 y84 y85 y86 y87 y88 y89 y90 y91 y92 y93 y94 y95 y96 y97 y98 y99 y100 y101 y102 y103 y104 y105 y106 y107 y108 y109 y110 y111 y112 y113 y114 y115 y116 y117 y118 y119 y120 y121 y122 y123 y124 y125 y126 y127 y128 y129 y130 y131 y132 y133 y134 y135 y136 y137 y138 y139 y140 y141 y142 y143 y144 y145 y146 y147 y148 y149 y150 y151 y152 y153 y154 y155 y156 y157 y158 y159 y160 y161 y162 y163 y164 y165 y166 y167 y168 y169 y170 y171 y172 y173 y174 y175 y176 y177 y178 y179 (upd L i) a' w' → K a' w') → if Region.wanted o (yielded ops (⟨#[y0, y1, y2, y3, y4, x5, y6, y7, y8, y9, y10, y11, y12, y13, y14, y15, y16, x17, x18, x19, x20, x21, x22, x23, y24, y25, y26, y27, y28, y29, y30, y31, y32, y33, y34, y35, y36, y37, y38, y39, y40, y41, y42, y43, y44, y45, y46, y47, y48, y49, y50, y51, y52, y53, y54, y55, y56, y57, y58, y59, y60, y61, y62, y63, y64, y65, y66, y67, y68, y69, y70, y71, y72, y73, y74, y75, y76, y77, y78, y79, y80, y81, y82, y83, y84, y85, y86, y87, y88, y89, y90, y91, y92, y93, y94, y95, y96, y97, y98, y99, y100, y101, y102, y103, y104, y105, y106, y107, y108, y109, y110, y111, y112, y113, y114, y115, y116, y117, y118, y119, y120, y121, y122, y123, y124, y125, y126, y127, y128, y129, y130, y131, y132, y133, y134, y135, y136, y137, y138, y139, y140, y141, y142, y143, y144, y145, y146, y147, y148, y149, y150, y151, y152, y153, y154, y155, y156, y157, y158, y159, y160, y161, y162, y163, y164, y165, y166, y167, y168, y169, y170, y171, y172, y173, y174, y175, y176, y177, y178, y179], []⟩ : Act).tmps) = true then Oper.wp P o ⟨#[y0, y1, y2, y3, y4, x5, y6, y7, y8, y9, y10, y11, y12, y13, y14, y15, y16, x17, x18, x19, x20, x21, x22, x23, y24, y25, y26, y27, y28, y29, y30, y31, y32, y33, y34, y35, y36, y37, y38, y39, y40, y41, y42, y43, y44, y45, y46, y47, y48, y49, y50, y51, y52, y53, y54, y55, y56, y57, y58, y59, y60, y61, y62, y63, y64, y65, y66, y67, y68, y69, y70, y71, y72, y73, y74, y75, y76, y77, y78, y79, y80, y81, y82, y83, y84, y85, y86, y87, y88, y89, y90, y91, y92, y93, y94, y95, y96, y97, y98, y99, y100, y101, y102, y103, y104, y105, y106, y107, y108, y109, y110, y111, y112, y113, y114, y115, y116, y117, y118, y119, y120, y121, y122, y123, y124, y125, y126, y127, y128, y129, y130, y131, y132, y133, y134, y135, y136, y137, y138, y139, y140, y141, y142, y143, y144, y145, y146, y147, y148, y149, y150, y151, y152, y153, y154, y155, y156, y157, y158, y159, y160, y161, y162, y163, y164, y165, y166, y167, y168, y169, y170, y171, y172, y173, y174, y175, y176, y177, y178, y179], []⟩ W K Q else K ((⟨#[y0, y1, y2, y3, y4, x5, y6, y7, y8, y9, y10, y11, y12, y13, y14, y15, y16, x17, x18, x19, x20, x21, x22, x23, y24, y25, y26, y27, y28, y29, y30, y31, y32, y33, y34, y35, y36, y37, y38, y39, y40, y41, y42, y43, y44, y45, y46, y47, y48, y49, y50, y51, y52, y53, y54, y55, y56, y57, y58, y59, y60, y61, y62, y63, y64, y65, y66, y67, y68, y69, y70, y71, y72, y73, y74, y75, y76, y77, y78, y79, y80, y81, y82, y83, y84, y85, y86, y87, y88, y89, y90, y91, y92, y93, y94, y95, y96, y97, y98, y99, y100, y101, y102, y103, y104, y105, y106, y107, y108, y109, y110, y111, y112, y113, y114, y115, y116, y117, y118, y119, y120, y121, y122, y123, y124, y125, y126, y127, y128, y129, y130, y131, y132, y133, y134, y135, y136, y137, y138, y139, y140, y141, y142, y143, y144, y145, y146, y147, y148, y149, y150, y151, y152, y153, y154, y155, y156, y157, y158, y159, y160, y161, y162, y163, y164, y165, y166, y167, y168, y169, y170, y171, y172, y173, y174, y175, y176, y177, y178, y179], []⟩ : Act).put o.dst undef) W) : StepI P ops (IS3A W1 PW QW X g lp EC y0 y1 y2 y3 y4 y6 y7 y8 y9 y10 y11 y12 y13 y14 y15 y16 y24 y25 y26 y27 y28 y29 y30 y31 y32 y33 y34 y35 y36 y37 y38 y39 y40 y41 y42 y43 y44 y45 y46 y47 y48 y49 y50 y51 y52 y53 y54 y55 y56 y57 y58 y59 y60 y61 y62 y63 y64 y65 y66 y67 y68 y69 y70 y71 y72 y73 y74 y75 y76 y77 y78 y79 y80 y81 y82 y83 y84 y85 y86 y87 y88 y89 y90 y91 y92 y93 y94 y95 y96 y97 y98 y99 y100 y101 y102 y103 y104 y105 y106 y107 y108 y109 y110 y111 y112 y113 y114 y115 y116 y117 y118 y119 y120 y121 y122 y123 y124 y125 y126 y127 y128 y129 y130 y131 y132 y133 y134 y135 y136 y137 y138 y139 y140 y141 y142 y143 y144 y145 y146 y147 y148 y149 y150 y151 y152 y153 y154 y155 y156 y157 y158 y159 y160 y161 y162 y163 y164 y165 y166 y167 y168 y169 y170 y171 y172 y173 y174 y175 y176 y177 y178 y179) Q i o := by
  rintro L a W ⟨x17, x18, x19, x20, x21, x22, x23, x5, rfl, h⟩
  exact hq _ _ _ _ _ _ _ _ _ _ h
theorem S3A.ends {W1 : World} {PW QW : World → Prop} {X g : Nat} {lp : Addr} {EC : List Value} {y0 y1 y2 y3 y4 y6 y7 y8 y9 y10 y11 y12 y13 y14 y15 y16 y24 y25 y26 y27 y28 y29 y30 y31 y32 y33 y34 y35 y36 y37 y38 y39 y40 y41 y42 y43 y44 y45 y46 y47 y48 y49 y50 y51 y52 y53 y54 y55 y56 y57 y58 y59 y60 y61 y62 y63 y64 y65 y66 y67 y68 y69 y70 y71 y72 y73 y74 y75 y76 y77 y78 y79 y80 y81 y82 y83 y84 y85 y86 y87 y88 y89 y90 y91 y92 y93 y94 y95 y96 y97 y98 y99 y100 y101 y102 y103 y104 y105 y106 y107 y108 y109 y110 y111 y112 y113 y114 y115 y116 y117 y118 y119 y120 y121 y122 y123 y124 y125 y126 y127 y128 y129 y130 y131 y132 y133 y134 y135 y136 y137 y138 y139 y140 y141 y142 y143 y144 y145 y146 y147 y148 y149 y150 y151 y152 y153 y154 y155 y156 y157 y158 y159 y160 y161 y162 y163 y164 y165 y166 y167 y168 y169 y170 y171 y172 y173 y174 y175 y176 y177 y178 y179 : Value} {mm_ : Nat} {Q : Exit → Act → World → Prop} (hq : ∀ x17 x18 x19 x20 x21 x22 x23 x5 (L : Nat → Bool) (W : World), (∀ j, j < mm_ → L j = true) → S3A W1 PW QW X g lp EC L x17 x18 x19 x20 x21 x22 x23 x5 W → Q .normal ⟨#[y0, y1, y2, y3, y4, x5, y6, y7, y8, y9, y10, y11, y12, y13, y14, y15, y16, x17, x18, x19, x20, x21, x22, x23, y24, y25, y26, y27, y28, y29, y30, y31, y32, y33, y34, y35, y36, y37, y38, y39, y40, y41, y42, y43, y44, y45, y46, y47, y48, y49, y50, y51, y52, y53, y54, y55, y56, y57, y58, y59, y60, y61, y62, y63, y64, y65, y66, y67, y68, y69, y70, y71, y72, y73, y74, y75, y76, y77, y78, y79, y80, y81, y82, y83, y84, y85, y86, y87, y88, y89, y90, y91, y92, y93, y94, y95, y96, y97, y98, y99, y100, y101, y102, y103, y104, y105, y106, y107, y108, y109, y110, y111, y112, y113, y114, y115, y116, y117, y118, y119, y120, y121, y122, y123, y124, y125, y126, y127, y128, y129, y130, y131, y132, y133, y134, y135, y136, y137, y138, y139, y140, y141, y142, y143, y144, y145, y146, y147, y148, y149, y150, y151, y152, y153, y154, y155, y156, y157, y158, y159, y160, y161, y162, y163, y164, y165, y166, y167, y168, y169, y170, y171, y172, y173, y174, y175, y176, y177, y178, y179], []⟩ W) : ∀ L a' w', (∀ j, j < mm_ → L j = true) → IS3A W1 PW QW X g lp EC y0 y1 y2 y3 y4 y6 y7 y8 y9 y10 y11 y12 y13 y14 y15 y16 y24 y25 y26 y27 y28 y29 y30 y31 y32 y33 y34 y35 y36 y37 y38 y39 y40 y41 y42 y43 y44 y45 y46 y47 y48 y49 y50 y51 y52 y53 y54 y55 y56 y57 y58 y59 y60 y61 y62 y63 y64 y65 y66 y67 y68 y69 y70 y71 y72 y73 y74 y75 y76 y77 y78 y79 y80 y81 y82 y83 y84 y85 y86 y87 y88 y89 y90 y91 y92 y93 y94 y95 y96 y97 y98 y99 y100 y101 y102 y103 y104 y105 y106 y107 y108 y109 y110 y111 y112 y113 y114 y115 y116 y117 y118 y119 y120 y121 y122 y123 y124 y125 y126 y127 y128 y129 y130 y131 y132 y133 y134 y135 y136 y137 y138 y139 y140 y141 y142 y143 y144 y145 y146 y147 y148 y149 y150 y151 y152 y153 y154 y155 y156 y157 y158 y159 y160 y161 y162 y163 y164 y165 y166 y167 y168 y169 y170 y171 y172 y173 y174 y175 y176 y177 y178 y179 L a' w' → Q .normal a' w' := by
  rintro L a W hall ⟨x17, x18, x19, x20, x21, x22, x23, x5, rfl, h⟩
  exact hq _ _ _ _ _ _ _ _ _ _ hall h
structure S3B (W1 : World) (PW QW : World → Prop) (X g : Nat) (lp : Addr) (EC : List Value) (L : Nat → Bool) (x17 x18 x19 x20 x21 x22 x23 x5 : Value) (W : World) : Prop where
  x : PQ PW QW (L 6) W
  p0 : L 0 = true → x17 = .pointer (some ⟨g, 0, none⟩)
  p1 : L 1 = true → x18 = .pointer (some ⟨g, 0, none⟩)
  p2 : L 2 = true → x19 = .pointer (some ⟨g, 0, none⟩)
  p3 : L 3 = true → x20 = .pointer (some lp)
  p4 : L 4 = true → x21 = .pointer (some ⟨X, 2, none⟩)
  p5 : L 5 = true → x22 = .agg EC.toArray
  p6 : L 6 = true → x23 = .int .i64 3
  p7 : L 7 = true → x5 = .int .i64 3
section
variable {W1 : World} {PW QW : World → Prop} {X g : Nat} {lp : Addr} {EC : List Value} {L : Nat → Bool} {x17 x18 x19 x20 x21 x22 x23 x5 : Value} {W W2 : World}
theorem S3B.s0 (h : S3B W1 PW QW X g lp EC L x17 x18 x19 x20 x21 x22 x23 x5 W) : S3B W1 PW QW X g lp EC (upd L 0) (.pointer (some ⟨g, 0, none⟩)) x18 x19 x20 x21 x22 x23 x5 W :=
  ⟨h.x, fun _ => rfl, h.p1, h.p2, h.p3, h.p4, h.p5, h.p6, h.p7⟩
theorem S3B.s1 (h : S3B W1 PW QW X g lp EC L x17 x18 x19 x20 x21 x22 x23 x5 W) : S3B W1 PW QW X g lp EC (upd L 1) x17 (.pointer (some ⟨g, 0, none⟩)) x19 x20 x21 x22 x23 x5 W :=
  ⟨h.x, h.p0, fun _ => rfl, h.p2, h.p3, h.p4, h.p5, h.p6, h.p7⟩
theorem S3B.s2 (h : S3B W1 PW QW X g lp EC L x17 x18 x19 x20 x21 x22 x23 x5 W) : S3B W1 PW QW X g lp EC (upd L 2) x17 x18 (.pointer (some ⟨g, 0, none⟩)) x20 x21 x22 x23 x5 W :=
  ⟨h.x, h.p0, h.p1, fun _ => rfl, h.p3, h.p4, h.p5, h.p6, h.p7⟩
theorem S3B.s3 (h : S3B W1 PW QW X g lp EC L x17 x18 x19 x20 x21 x22 x23 x5 W) : S3B W1 PW QW X g lp EC (upd L 3) x17 x18 x19 (.pointer (some lp)) x21 x22 x23 x5 W :=
  ⟨h.x, h.p0, h.p1, h.p2, fun _ => rfl, h.p4, h.p5, h.p6, h.p7⟩
theorem S3B.s4 (h : S3B W1 PW QW X g lp EC L x17 x18 x19 x20 x21 x22 x23 x5 W) : S3B W1 PW QW X g lp EC (upd L 4) x17 x18 x19 x20 (.pointer (some ⟨X, 2, none⟩)) x22 x23 x5 W :=
  ⟨h.x, h.p0, h.p1, h.p2, h.p3, fun _ => rfl, h.p5, h.p6, h.p7⟩
theorem S3B.s5 (h : S3B W1 PW QW X g lp EC L x17 x18 x19 x20 x21 x22 x23 x5 W) : S3B W1 PW QW X g lp EC (upd L 5) x17 x18 x19 x20 x21 (.agg EC.toArray) x23 x5 W :=
  ⟨h.x, h.p0, h.p1, h.p2, h.p3, h.p4, fun _ => rfl, h.p6, h.p7⟩
theorem S3B.s6 (h : S3B W1 PW QW X g lp EC L x17 x18 x19 x20 x21 x22 x23 x5 W) (hX : PQ PW QW ((upd L 6) 6) W2) : S3B W1 PW QW X g lp EC (upd L 6) x17 x18 x19 x20 x21 x22 (.int .i64 3) x5 W2 :=
  ⟨hX, h.p0, h.p1, h.p2, h.p3, h.p4, h.p5, fun _ => rfl, h.p7⟩
theorem S3B.s7 (h : S3B W1 PW QW X g lp EC L x17 x18 x19 x20 x21 x22 x23 x5 W) : S3B W1 PW QW X g lp EC (upd L 7) x17 x18 x19 x20 x21 x22 x23 (.int .i64 3) W :=
  ⟨h.x, h.p0, h.p1, h.p2, h.p3, h.p4, h.p5, h.p6, fun _ => rfl⟩
end
@[reducible] def IS3B (W1 : World) (PW QW : World → Prop) (X g : Nat) (lp : Addr) (EC : List Value) (y0 y1 y2 y3 y4 y6 y7 y8 y9 y10 y11 y12 y13 y14 y15 y16 y24 y25 y26 y27 y28 y29 y30 y31 y32 y33 y34 y35 y36 y37 y38 y39 y40 y41 y42 y43 y44 y45 y46 y47 y48 y49 y50 y51 y52 y53 y54 y55 y56 y57 y58 y59 y60 y61 y62 y63 y64 y65 y66 y67 y68 y69 y70 y71 y72 y73 y74 y75 y76 y77 y78 y79 y80 y81 y82 y83 y84 y85 y86 y87 y88 y89 y90 y91 y92 y93 y94 y95 y96 y97 y98 y99 y100 y101 y102 y103 y104 y105 y106 y107 y108 y109 y110 y111 y112 y113 y114 y115 y116 y117 y118 y119 y120 y121 y122 y123 y124 y125 y126 y127 y128 y129 y130 y131 y132 y133 y134 y135 y136 y137 y138 y139 y140 y141 y142 y143 y144 y145 y146 y147 y148 y149 y150 y151 y152 y153 y154 y155 y156 y157 y158 y159 y160 y161 y162 y163 y164 y165 y166 y167 y168 y169 y170 y171 y172 y173 y174 y175 y176 y177 y178 y179 : Value) : (Nat → Bool) → Act → World → Prop := fun L a W => ∃ x17 x18 x19 x20 x21 x22 x23 x5, a = ⟨#[y0, y1, y2, y3, y4, x5, y6, y7, y8, y9, y10, y11, y12, y13, y14, y15, y16, x17, x18, x19, x20, x21, x22, x23, y24, y25, y26, y27, y28, y29, y30, y31, y32, y33, y34, y35, y36, y37, y38, y39, y40, y41, y42, y43, y44, y45, y46, y47, y48, y49, y50, y51, y52, y53, y54, y55, y56, y57, y58, y59, y60, y61, y62, y63, y64, y65, y66, y67, y68, y69, y70, y71, y72, y73, y74, y75, y76, y77, y78, y79, y80, y81, y82, y83, y84, y85, y86, y87, y88, y89, y90, y91, y92, y93, y94, y95, y96, y97, y98, y99, y100, y101, y102, y103, y104, y105, y106, y107, y108, y109, y110, y111, y112, y113, y114, y115, y116, y117, y118, y119, y120, y121, y122, y123, y124, y125, y126, y127, y128, y129, y130, y131, y132, y133, y134, y135, y136, y137, y138, y139, y140, y141, y142, y143, y144, y145, y146, y147, y148, y149, y150, y151, y152, y153, y154, y155, y156, y157, y158, y159, y160, y161, y162, y163, y164, y165, y166, y167, y168, y169, y170, y171, y172, y173, y174, y175, y176, y177, y178, y179], []⟩ ∧ S3B W1 PW QW X g lp EC L x17 x18 x19 x20 x21 x22 x23 x5 W
theorem S3B.step {W1 : World} {PW QW : World → Prop} {X g : Nat} {lp : Addr} {EC : List Value} {y0 y1 y2 y3 y4 y6 y7 y8 y9 y10 y11 y12 y13 y14 y15 y16 y24 y25 y26 y27 y28 y29 y30 y31 y32 y33 y34 y35 y36 y37 y38 y39 y40 y41 y42 y43 y44 y45 y46 y47 y48 y49 y50 y51 y52 y53 y54 y55 y56 y57 y58 y59 y60 y61 y62 y63 y64 y65 y66 y67 y68 y69 y70 y71 y72 y73 y74 y75 y76 y77 y78 y79 y80 y81 y82 y83 y84 y85 y86 y87 y88 y89 y90 y91 y92 y93 y94 y95 y96 y97 y98 y99 y100 y101 y102 y103 y104 y105 y106 y107 y108 y109 y110 y111 y112 y113 y114 y115 y116 y117 y118 y119 y120 y121 y122 y123 y124 y125 y126 y127 y128 y129 y130 y131 y132 y133 y134 y135 y136 y137 y138 y139 y140 y141 y142 y143 y144 y145 y146 y147 y148 y149 y150 y151 y152 y153 y154 y155 y156 y157 y158 y159 y160 y161 y162 y163 y164 y165 y166 y167 y168 y169 y170 y171 y172 y173 y174 y175 y176 y177 y178 y179 : Value} {P : Program} {ops : Array Oper} {Q : Exit → Act → World → Prop} {i : Nat} {o : Oper} (hq : ∀ x17 x18 x19 x20 x21 x22 x23 x5 (L : Nat → Bool) (W : World), S3B W1 PW QW X g lp EC L x17 x18 x19 x20 x21 x22 x23 x5 W → L i = false → (∀ j ∈ onesOf o, L j = true) → ∀ K : Act → World → Prop, Shut (∀ a' w', IS3B W1 PW QW X g lp EC y0 y1 y2 y3 y4 y6 y7 y8 y9 y10 y11 y12 y13 y14 y15 y16 y24 y25 y26 y27 y28 y29 y30 y31 y32 y33 y34 y35 y36 y37 y38 y39 y40 y41 y42 y43 y44 y45 y46 y47 y48 y49 y50 y51 y52 y53 y54 y55 y56 y57 y58 y59 y60 y61 y62 y63 y64 y65 y66 y67 y68 y69 y70 y71 y72 y73 y74 y75 y76 y77 y78 y79 y80 y81 y82 y83 y84 y85 y86 y87 y88 y89 y90 y91 y92 y93 y94 y95 y96 y97 y98 y99 y100 y101 y102 y103 y104 y105 y106 y107 y108 y109 y110 y111 y112 y113 y114 y115 y116 y117 y118 y119 y120 y121 y122 y123 y124 y125 y126 y127 y128 y129 y130 y131 y132 y133 y134 y135 y136 y137 y138 y139 y140 y141 y142 y143 y144 y145 y146 y147 y148 y149 y150 y151 y152 y153 y154 y155 y156 y157 y158 y159 y160 y161 y162 y163 y164 y165 y166 y167 y168 y169 y170 y171 y172 y173 y174 y175 y176 y177 y178 y179 (upd L i) a' w' → K a' w') → if Region.wanted o (yielded ops (⟨#[y0, y1, y2, y3, y4, x5, y6, y7, y8, y9, y10, y11, y12, y13, y14, y15, y16, x17, x18, x19, x20, x21, x22, x23, y24, y25, y26, y27, y28, y29, y30, y31, y32, y33, y34, y35, y36, y37, y38, y39, y40, y41, y42, y43, y44, y45, y46, y47, y48, y49, y50, y51, y52, y53, y54, y55, y56, y57, y58, y59, y60, y61, y62, y63, y64, y65, y66, y67, y68, y69, y70, y71, y72, y73, y74, y75, y76, y77, y78, y79, y80, y81, y82, y83, y84, y85, y86, y87, y88, y89, y90, y91, y92, y93, y94, y95, y96, y97, y98, y99, y100, y101, y102, y103, y104, y105, y106, y107, y108, y109, y110, y111, y112, y113, y114, y115, y116, y117, y118, y119, y120, y121, y122, y123, y124, y125, y126, y127, y128, y129, y130, y131, y132, y133, y134, y135, y136, y137, y138, y139, y140, y141, y142, y143, y144, y145, y146, y147, y148, y149, y150, y151, y152, y153, y154, y155, y156, y157, y158, y159, y160, y161, y162, y163, y164, y165, y166, y167, y168, y169, y170, y171, y172, y173, y174, y175, y176, y177, y178, y179], []⟩ : Act).tmps) = true then Oper.wp P o ⟨#[y0, y1, y2, y3, y4, x5, y6, y7, y8, y9, y10, y11, y12, y13, y14, y15, y16, x17, x18, x19, x20, x21, x22, x23, y24, y25, y26, y27, y28, y29, y30, y31, y32, y33, y34, y35, y36, y37, y38, y39, y40, y41, y42, y43, y44, y45, y46, y47, y48, y49, y50, y51, y52, y53, y54, y55, y56, y57, y58, y59, y60, y61, y62, y63, y64, y65, y66, y67, y68, y69, y70, y71, y72, y73, y74, y75, y76, y77, y78, y79, y80, y81, y82, y83, y84, y85, y86, y87, y88, y89, y90, y91, y92, y93, y94, y95, y96, y97, y98, y99, y100, y101, y102, y103, y104, y105, y106, y107, y108, y109, y110, y111, y112, y113, y114, y115, y116, y117, y118, y119, y120, y121, y122, y123, y124, y125, y126, y127, y128, y129, y130, y131, y132, y133, y134, y135, y136, y137, y138, y139, y140, y141, y142, y143, y144, y145, y146, y147, y148, y149, y150, y151, y152, y153, y154, y155, y156, y157, y158, y159, y160, y161, y162, y163, y164, y165, y166, y167, y168, y169, y170, y171, y172, y173, y174, y175, y176, y177, y178, y179], []⟩ W K Q else K ((⟨#[y0, y1, y2, y3, y4, x5, y6, y7, y8, y9, y10, y11, y12, y13, y14, y15, y16, x17, x18, x19, x20, x21, x22, x23, y24, y25, y26, y27, y28, y29, y30, y31, y32, y33, y34, y35, y36, y37, y38, y39, y40, y41, y42, y43, y44, y45, y46, y47, y48, y49, y50, y51, y52, y53, y54, y55, y56, y57, y58, y59, y60, y61, y62, y63, y64, y65, y66, y67, y68, y69, y70, y71, y72, y73, y74, y75, y76, y77, y78, y79, y80, y81, y82, y83, y84, y85, y86, y87, y88, y89, y90, y91, y92, y93, y94, y95, y96, y97, y98, y99, y100, y101, y102, y103, y104, y105, y106, y107, y108, y109, y110, y111, y112, y113, y114, y115, y116, y117, y118, y119, y120, y121, y122, y123, y124, y125, y126, y127, y128, y129, y130, y131, y132, y133, y134, y135, y136, y137, y138, y139, y140, y141, y142, y143, y144, y145, y146, y147, y148, y149, y150, y151, y152, y153, y154, y155, y156, y157, y158, y159, y160, y161, y162, y163, y164, y165, y166, y167, y168, y169, y170, y171, y172, y173, y174, y175, y176, y177, y178, y179], []⟩ : Act).put o.dst undef) W) : StepI P ops (IS3B W1 PW QW X g lp EC y0 y1 y2 y3 y4 y6 y7 y8 y9 y10 y11 y12 y13 y14 y15 y16 y24 y25 y26 y27 y28 y29 y30 y31 y32 y33 y34 y35 y36 y37 y38 y39 y40 y41 y42 y43 y44 y45 y46 y47 y48 y49 y50 y51 y52 y53 y54 y55 y56 y57 y58 y59 y60 y61 y62 y63 y64 y65 y66 y67 y68 y69 y70 y71 y72 y73 y74 y75 y76 y77 y78 y79 y80 y81 y82 y83 y84 y85 y86 y87 y88 y89 y90 y91 y92 y93 y94 y95 y96 y97 y98 y99 y100 y101 y102 y103 y104 y105 y106 y107 y108 y109 y110 y111 y112 y113 y114 y115 y116 y117 y118 y119 y120 y121 y122 y123 y124 y125 y126 y127 y128 y129 y130 y131 y132 y133 y134 y135 y136 y137 y138 y139 y140 y141 y142 y143 y144 y145 y146 y147 y148 y149 y150 y151 y152 y153 y154 y155 y156 y157 y158 y159 y160 y161 y162 y163 y164 y165 y166 y167 y168 y169 y170 y171 y172 y173 y174 y175 y176 y177 y178 y179) Q i o := by
  rintro L a W ⟨x17, x18, x19, x20, x21, x22, x23, x5, rfl, h⟩
  exact hq _ _ _ _ _ _ _ _ _ _ h
theorem S3B.ends {W1 : World} {PW QW : World → Prop} {X g : Nat} {lp : Addr} {EC : List Value} {y0 y1 y2 y3 y4 y6 y7 y8 y9 y10 y11 y12 y13 y14 y15 y16 y24 y25 y26 y27 y28 y29 y30 y31 y32 y33 y34 y35 y36 y37 y38 y39 y40 y41 y42 y43 y44 y45 y46 y47 y48 y49 y50 y51 y52 y53 y54 y55 y56 y57 y58 y59 y60 y61 y62 y63 y64 y65 y66 y67 y68 y69 y70 y71 y72 y73 y74 y75 y76 y77 y78 y79 y80 y81 y82 y83 y84 y85 y86 y87 y88 y89 y90 y91 y92 y93 y94 y95 y96 y97 y98 y99 y100 y101 y102 y103 y104 y105 y106 y107 y108 y109 y110 y111 y112 y113 y114 y115 y116 y117 y118 y119 y120 y121 y122 y123 y124 y125 y126 y127 y128 y129 y130 y131 y132 y133 y134 y135 y136 y137 y138 y139 y140 y141 y142 y143 y144 y145 y146 y147 y148 y149 y150 y151 y152 y153 y154 y155 y156 y157 y158 y159 y160 y161 y162 y163 y164 y165 y166 y167 y168 y169 y170 y171 y172 y173 y174 y175 y176 y177 y178 y179 : Value} {mm_ : Nat} {Q : Exit → Act → World → Prop} (hq : ∀ x17 x18 x19 x20 x21 x22 x23 x5 (L : Nat → Bool) (W : World), (∀ j, j < mm_ → L j = true) → S3B W1 PW QW X g lp EC L x17 x18 x19 x20 x21 x22 x23 x5 W → Q .normal ⟨#[y0, y1, y2, y3, y4, x5, y6, y7, y8, y9, y10, y11, y12, y13, y14, y15, y16, x17, x18, x19, x20, x21, x22, x23, y24, y25, y26, y27, y28, y29, y30, y31, y32, y33, y34, y35, y36, y37, y38, y39, y40, y41, y42, y43, y44, y45, y46, y47, y48, y49, y50, y51, y52, y53, y54, y55, y56, y57, y58, y59, y60, y61, y62, y63, y64, y65, y66, y67, y68, y69, y70, y71, y72, y73, y74, y75, y76, y77, y78, y79, y80, y81, y82, y83, y84, y85, y86, y87, y88, y89, y90, y91, y92, y93, y94, y95, y96, y97, y98, y99, y100, y101, y102, y103, y104, y105, y106, y107, y108, y109, y110, y111, y112, y113, y114, y115, y116, y117, y118, y119, y120, y121, y122, y123, y124, y125, y126, y127, y128, y129, y130, y131, y132, y133, y134, y135, y136, y137, y138, y139, y140, y141, y142, y143, y144, y145, y146, y147, y148, y149, y150, y151, y152, y153, y154, y155, y156, y157, y158, y159, y160, y161, y162, y163, y164, y165, y166, y167, y168, y169, y170, y171, y172, y173, y174, y175, y176, y177, y178, y179], []⟩ W) : ∀ L a' w', (∀ j, j < mm_ → L j = true) → IS3B W1 PW QW X g lp EC y0 y1 y2 y3 y4 y6 y7 y8 y9 y10 y11 y12 y13 y14 y15 y16 y24 y25 y26 y27 y28 y29 y30 y31 y32 y33 y34 y35 y36 y37 y38 y39 y40 y41 y42 y43 y44 y45 y46 y47 y48 y49 y50 y51 y52 y53 y54 y55 y56 y57 y58 y59 y60 y61 y62 y63 y64 y65 y66 y67 y68 y69 y70 y71 y72 y73 y74 y75 y76 y77 y78 y79 y80 y81 y82 y83 y84 y85 y86 y87 y88 y89 y90 y91 y92 y93 y94 y95 y96 y97 y98 y99 y100 y101 y102 y103 y104 y105 y106 y107 y108 y109 y110 y111 y112 y113 y114 y115 y116 y117 y118 y119 y120 y121 y122 y123 y124 y125 y126 y127 y128 y129 y130 y131 y132 y133 y134 y135 y136 y137 y138 y139 y140 y141 y142 y143 y144 y145 y146 y147 y148 y149 y150 y151 y152 y153 y154 y155 y156 y157 y158 y159 y160 y161 y162 y163 y164 y165 y166 y167 y168 y169 y170 y171 y172 y173 y174 y175 y176 y177 y178 y179 L a' w' → Q .normal a' w' := by
  rintro L a W hall ⟨x17, x18, x19, x20, x21, x22, x23, x5, rfl, h⟩
  exact hq _ _ _ _ _ _ _ _ _ _ hall h
structure S6 (W1 : World) (X g : Nat) (lp : Addr) (ao : Option Addr) (n c : Nat) (XC EC : List Value) (L : Nat → Bool) (x32 x33 x34 x35 x36 x37 x38 x39 x40 x41 x42 x43 : Value) (W : World) : Prop where
  x : A6 W1 g lp n XC EC (L 5) (L 8) (L 9) (L 12) x37 x40 x41 W
  p0 : L 0 = true → x32 = .pointer (some ⟨g, 0, none⟩)
  p1 : L 1 = true → x33 = .pointer (some ⟨g, 0, none⟩)
  p2 : L 2 = true → x34 = .pointer (some ⟨g, 0, none⟩)
  p3 : L 3 = true → x35 = .pointer (some ⟨g, 1, none⟩)
  p4 : L 4 = true → x36 = .slice ao n c
  p6 : L 6 = true → x38 = .pointer (some ⟨X, 2, none⟩)
  p7 : L 7 = true → x39 = .agg EC.toArray
  p10 : L 10 = true → x42 = .pointer (some ⟨g, 0, none⟩)
  p11 : L 11 = true → x43 = .pointer (some ⟨g, 1, none⟩)
  c5_4 : L 5 = true → L 4 = true
section
variable {W1 : World} {X g : Nat} {lp : Addr} {ao : Option Addr} {n c : Nat} {XC EC : List Value} {L : Nat → Bool} {x32 x33 x34 x35 x36 x37 x38 x39 x40 x41 x42 x43 : Value} {W W2 : World}
theorem S6.s0 (h : S6 W1 X g lp ao n c XC EC L x32 x33 x34 x35 x36 x37 x38 x39 x40 x41 x42 x43 W) : S6 W1 X g lp ao n c XC EC (upd L 0) (.pointer (some ⟨g, 0, none⟩)) x33 x34 x35 x36 x37 x38 x39 x40 x41 x42 x43 W :=
  ⟨h.x, fun _ => rfl, h.p1, h.p2, h.p3, h.p4, h.p6, h.p7, h.p10, h.p11, h.c5_4⟩
theorem S6.s1 (h : S6 W1 X g lp ao n c XC EC L x32 x33 x34 x35 x36 x37 x38 x39 x40 x41 x42 x43 W) : S6 W1 X g lp ao n c XC EC (upd L 1) x32 (.pointer (some ⟨g, 0, none⟩)) x34 x35 x36 x37 x38 x39 x40 x41 x42 x43 W :=
  ⟨h.x, h.p0, fun _ => rfl, h.p2, h.p3, h.p4, h.p6, h.p7, h.p10, h.p11, h.c5_4⟩
theorem S6.s2 (h : S6 W1 X g lp ao n c XC EC L x32 x33 x34 x35 x36 x37 x38 x39 x40 x41 x42 x43 W) : S6 W1 X g lp ao n c XC EC (upd L 2) x32 x33 (.pointer (some ⟨g, 0, none⟩)) x35 x36 x37 x38 x39 x40 x41 x42 x43 W :=
  ⟨h.x, h.p0, h.p1, fun _ => rfl, h.p3, h.p4, h.p6, h.p7, h.p10, h.p11, h.c5_4⟩
theorem S6.s3 (h : S6 W1 X g lp ao n c XC EC L x32 x33 x34 x35 x36 x37 x38 x39 x40 x41 x42 x43 W) : S6 W1 X g lp ao n c XC EC (upd L 3) x32 x33 x34 (.pointer (some ⟨g, 1, none⟩)) x36 x37 x38 x39 x40 x41 x42 x43 W :=
  ⟨h.x, h.p0, h.p1, h.p2, fun _ => rfl, h.p4, h.p6, h.p7, h.p10, h.p11, h.c5_4⟩
theorem S6.s4 (h : S6 W1 X g lp ao n c XC EC L x32 x33 x34 x35 x36 x37 x38 x39 x40 x41 x42 x43 W) : S6 W1 X g lp ao n c XC EC (upd L 4) x32 x33 x34 x35 (.slice ao n c) x37 x38 x39 x40 x41 x42 x43 W :=
  ⟨h.x, h.p0, h.p1, h.p2, h.p3, fun _ => rfl, h.p6, h.p7, h.p10, h.p11, fun _ => rfl⟩
theorem S6.s5 (h : S6 W1 X g lp ao n c XC EC L x32 x33 x34 x35 x36 x37 x38 x39 x40 x41 x42 x43 W) {v : Value} (hX : A6 W1 g lp n XC EC ((upd L 5) 5) ((upd L 5) 8) ((upd L 5) 9) ((upd L 5) 12) v x40 x41 W2) (hc4 : L 4 = true) : S6 W1 X g lp ao n c XC EC (upd L 5) x32 x33 x34 x35 x36 v x38 x39 x40 x41 x42 x43 W2 :=
  ⟨hX, h.p0, h.p1, h.p2, h.p3, h.p4, h.p6, h.p7, h.p10, h.p11, fun _ => hc4⟩
theorem S6.s6 (h : S6 W1 X g lp ao n c XC EC L x32 x33 x34 x35 x36 x37 x38 x39 x40 x41 x42 x43 W) : S6 W1 X g lp ao n c XC EC (upd L 6) x32 x33 x34 x35 x36 x37 (.pointer (some ⟨X, 2, none⟩)) x39 x40 x41 x42 x43 W :=
  ⟨h.x, h.p0, h.p1, h.p2, h.p3, h.p4, fun _ => rfl, h.p7, h.p10, h.p11, h.c5_4⟩
theorem S6.s7 (h : S6 W1 X g lp ao n c XC EC L x32 x33 x34 x35 x36 x37 x38 x39 x40 x41 x42 x43 W) : S6 W1 X g lp ao n c XC EC (upd L 7) x32 x33 x34 x35 x36 x37 x38 (.agg EC.toArray) x40 x41 x42 x43 W :=
  ⟨h.x, h.p0, h.p1, h.p2, h.p3, h.p4, h.p6, fun _ => rfl, h.p10, h.p11, h.c5_4⟩
theorem S6.s8 (h : S6 W1 X g lp ao n c XC EC L x32 x33 x34 x35 x36 x37 x38 x39 x40 x41 x42 x43 W) {v : Value} (hX : A6 W1 g lp n XC EC ((upd L 8) 5) ((upd L 8) 8) ((upd L 8) 9) ((upd L 8) 12) x37 v x41 W2) : S6 W1 X g lp ao n c XC EC (upd L 8) x32 x33 x34 x35 x36 x37 x38 x39 v x41 x42 x43 W2 :=
  ⟨hX, h.p0, h.p1, h.p2, h.p3, h.p4, h.p6, h.p7, h.p10, h.p11, h.c5_4⟩
theorem S6.s9 (h : S6 W1 X g lp ao n c XC EC L x32 x33 x34 x35 x36 x37 x38 x39 x40 x41 x42 x43 W) {v : Value} (hX : A6 W1 g lp n XC EC ((upd L 9) 5) ((upd L 9) 8) ((upd L 9) 9) ((upd L 9) 12) x37 x40 v W2) : S6 W1 X g lp ao n c XC EC (upd L 9) x32 x33 x34 x35 x36 x37 x38 x39 x40 v x42 x43 W2 :=
  ⟨hX, h.p0, h.p1, h.p2, h.p3, h.p4, h.p6, h.p7, h.p10, h.p11, h.c5_4⟩
theorem S6.s10 (h : S6 W1 X g lp ao n c XC EC L x32 x33 x34 x35 x36 x37 x38 x39 x40 x41 x42 x43 W) : S6 W1 X g lp ao n c XC EC (upd L 10) x32 x33 x34 x35 x36 x37 x38 x39 x40 x41 (.pointer (some ⟨g, 0, none⟩)) x43 W :=
  ⟨h.x, h.p0, h.p1, h.p2, h.p3, h.p4, h.p6, h.p7, fun _ => rfl, h.p11, h.c5_4⟩
theorem S6.s11 (h : S6 W1 X g lp ao n c XC EC L x32 x33 x34 x35 x36 x37 x38 x39 x40 x41 x42 x43 W) : S6 W1 X g lp ao n c XC EC (upd L 11) x32 x33 x34 x35 x36 x37 x38 x39 x40 x41 x42 (.pointer (some ⟨g, 1, none⟩)) W :=
  ⟨h.x, h.p0, h.p1, h.p2, h.p3, h.p4, h.p6, h.p7, h.p10, fun _ => rfl, h.c5_4⟩
theorem S6.s12 (h : S6 W1 X g lp ao n c XC EC L x32 x33 x34 x35 x36 x37 x38 x39 x40 x41 x42 x43 W) (hX : A6 W1 g lp n XC EC ((upd L 12) 5) ((upd L 12) 8) ((upd L 12) 9) ((upd L 12) 12) x37 x40 x41 W2) : S6 W1 X g lp ao n c XC EC (upd L 12) x32 x33 x34 x35 x36 x37 x38 x39 x40 x41 x42 x43 W2 :=
  ⟨hX, h.p0, h.p1, h.p2, h.p3, h.p4, h.p6, h.p7, h.p10, h.p11, h.c5_4⟩
end
@[reducible] def IS6 (W1 : World) (X g : Nat) (lp : Addr) (ao : Option Addr) (n c : Nat) (XC EC : List Value) (y0 y1 y2 y3 y4 y5 y6 y7 y8 y9 y10 y11 y12 y13 y14 y15 y16 y17 y18 y19 y20 y21 y22 y23 y24 y25 y26 y27 y28 y29 y30 y31 y44 y45 y46 y47 y48 y49 y50 y51 y52 y53 y54 y55 y56 y57 y58 y59 y60 y61 y62 y63 y64 y65 y66 y67 y68 y69 y70 y71 y72 y73 y74 y75 y76 y77 y78 y79 y80 y81 y82 y83 y84 y85 y86 y87 y88 y89 y90 y91 y92 y93 y94 y95 y96 y97 y98 y99 y100 y101 y102 y103 y104 y105 y106 y107 y108 y109 y110 y111 y112 y113 y114 y115 y116 y117 y118 y119 y120 y121 y122 y123 y124 y125 y126 y127 y128 y129 y130 y131 y132 y133 y134 y135 y136 y137 y138 y139 y140 y141 y142 y143 y144 y145 y146 y147 y148 y149 y150 y151 y152 y153 y154 y155 y156 y157 y158 y159 y160 y161 y162 y163 y164 y165 y166 y167 y168 y169 y170 y171 y172 y173 y174 y175 y176 y177 y178 y179 : Value) : (Nat → Bool) → Act → World → Prop := fun L a W => ∃ x32 x33 x34 x35 x36 x37 x38 x39 x40 x41 x42 x43, a = ⟨#[y0, y1, y2, y3, y4, y5, y6, y7, y8, y9, y10, y11, y12, y13, y14, y15, y16, y17, y18, y19, y20, y21, y22, y23, y24, y25, y26, y27, y28, y29, y30, y31, x32, x33, x34, x35, x36, x37, x38, x39, x40, x41, x42, x43, y44, y45, y46, y47, y48, y49, y50, y51, y52, y53, y54, y55, y56, y57, y58, y59, y60, y61, y62, y63, y64, y65, y66, y67, y68, y69, y70, y71, y72, y73, y74, y75, y76, y77, y78, y79, y80, y81, y82, y83, y84, y85, y86, y87, y88, y89, y90, y91, y92, y93, y94, y95, y96, y97, y98, y99, y100, y101, y102, y103, y104, y105, y106, y107, y108, y109, y110, y111, y112, y113, y114, y115, y116, y117, y118, y119, y120, y121, y122, y123, y124, y125, y126, y127, y128, y129, y130, y131, y132, y133, y134, y135, y136, y137, y138, y139, y140, y141, y142, y143, y144, y145, y146, y147, y148, y149, y150, y151, y152, y153, y154, y155, y156, y157, y158, y159, y160, y161, y162, y163, y164, y165, y166, y167, y168, y169, y170, y171, y172, y173, y174, y175, y176, y177, y178, y179], []⟩ ∧ S6 W1 X g lp ao n c XC EC L x32 x33 x34 x35 x36 x37 x38 x39 x40 x41 x42 x43 W
theorem S6.step {W1 : World} {X g : Nat} {lp : Addr} {ao : Option Addr} {n c : Nat} {XC EC : List Value} {y0 y1 y2 y3 y4 y5 y6 y7 y8 y9 y10 y11 y12 y13 y14 y15 y16 y17 y18 y19 y20 y21 y22 y23 y24 y25 y26 y27 y28 y29 y30 y31 y44 y45 y46 y47 y48 y49 y50 y51 y52 y53 y54 y55 y56 y57 y58 y59 y60 y61 y62 y63 y64 y65 y66 y67 y68 y69 y70 y71 y72 y73 y74 y75 y76 y77 y78 y79 y80 y81 y82 y83 y84 y85 y86 y87 y88 y89 y90 y91 y92 y93 y94 y95 y96 y97 y98 y99 y100 y101 y102 y103 y104 y105 y106 y107 y108 y109 y110 y111 y112 y113 y114 y115 y116 y117 y118 y119 y120 y121 y122 y123 y124 y125 y126 y127 y128 y129 y130 y131 y132 y133 y134 y135 y136 y137 y138 y139 y140 y141 y142 y143 y144 y145 y146 y147 y148 y149 y150 y151 y152 y153 y154 y155 y156 y157 y158 y159 y160 y161 y162 y163 y164 y165 y166 y167 y168 y169 y170 y171 y172 y173 y174 y175 y176 y177 y178 y179 : Value} {P : Program} {ops : Array Oper} {Q : Exit → Act → World → Prop} {i : Nat} {o : Oper} (hq : ∀ x32 x33 x34 x35 x36 x37 x38 x39 x40 x41 x42 x43 (L : Nat → Bool) (W : World), S6 W1 X g lp ao n c XC EC L x32 x33 x34 x35 x36 x37 x38 x39 x40 x41 x42 x43 W → L i = false → (∀ j ∈ onesOf o, L j = true) → ∀ K : Act → World → Prop, Shut (∀ a' w', IS6 W1 X g lp ao n c XC EC y0 y1 y2 y3 y4 y5 y6 y7 y8 y9 y10 y11 y12 y13 y14 y15 y16 y17 y18 y19 y20 y21 y22 y23 y24 y25 y26 y27 y28 y29 y30 y31 y44 y45 y46 y47 y48 y49 y50 y51 y52 y53 y54 y55 y56 y57 y58 y59 y60 y61 y62 y63 y64 y65 y66 y67 y68 y69 y70 y71 y72 y73 y74 y75 y76 y77 y78 y79 y80 y81 y82 y83 y84 y85 y86 y87 y88 y89 y90 y91 y92 y93 y94 y95 y96 y97 y98 y99 y100 y101 y102 y103 y104 y105 y106 y107 y108 y109 y110 y111 y112 y113 y114 y115 y116 y117 y118 y119 y120 y121 y122 y123 y124 y125 y126 y127 y128 y129 y130 y131 y132 y133 y134 y135 y136 y137 y138 y139 y140 y141 y142 y143 y144 y145 y146 y147 y148 y149 y150 y151 y152 y153 y154 y155 y156 y157 y158 y159 y160 y161 y162 y163 y164 y165 y166 y167 y168 y169 y170 y171 y172 y173 y174 y175 y176 y177 y178 y179 (upd L i) a' w' → K a' w') → if Region.wanted o (yielded ops (⟨#[y0, y1, y2, y3, y4, y5, y6, y7, y8, y9, y10, y11, y12, y13, y14, y15, y16, y17, y18, y19, y20, y21, y22, y23, y24, y25, y26, y27, y28, y29, y30, y31, x32, x33, x34, x35, x36, x37, x38, x39, x40, x41, x42, x43, y44, y45, y46, y47, y48, y49, y50, y51, y52, y53, y54, y55, y56, y57, y58, y59, y60, y61, y62, y63, y64, y65, y66, y67, y68, y69, y70, y71, y72, y73, y74, y75, y76, y77, y78, y79, y80, y81, y82, y83, y84, y85, y86, y87, y88, y89, y90, y91, y92, y93, y94, y95, y96, y97, y98, y99, y100, y101, y102, y103, y104, y105, y106, y107, y108, y109, y110, y111, y112, y113, y114, y115, y116, y117, y118, y119, y120, y121, y122, y123, y124, y125, y126, y127, y128, y129, y130, y131, y132, y133, y134, y135, y136, y137, y138, y139, y140, y141, y142, y143, y144, y145, y146, y147, y148, y149, y150, y151, y152, y153, y154, y155, y156, y157, y158, y159, y160, y161, y162, y163, y164, y165, y166, y167, y168, y169, y170, y171, y172, y173, y174, y175, y176, y177, y178, y179], []⟩ : Act).tmps) = true then Oper.wp P o ⟨#[y0, y1, y2, y3, y4, y5, y6, y7, y8, y9, y10, y11, y12, y13, y14, y15, y16, y17, y18, y19, y20, y21, y22, y23, y24, y25, y26, y27, y28, y29, y30, y31, x32, x33, x34, x35, x36, x37, x38, x39, x40, x41, x42, x43, y44, y45, y46, y47, y48, y49, y50, y51, y52, y53, y54, y55, y56, y57, y58, y59, y60, y61, y62, y63, y64, y65, y66, y67, y68, y69, y70, y71, y72, y73, y74, y75, y76, y77, y78, y79, y80, y81, y82, y83, y84, y85, y86, y87, y88, y89, y90, y91, y92, y93, y94, y95, y96, y97, y98, y99, y100, y101, y102, y103, y104, y105, y106, y107, y108, y109, y110, y111, y112, y113, y114, y115, y116, y117, y118, y119, y120, y121, y122, y123, y124, y125, y126, y127, y128, y129, y130, y131, y132, y133, y134, y135, y136, y137, y138, y139, y140, y141, y142, y143, y144, y145, y146, y147, y148, y149, y150, y151, y152, y153, y154, y155, y156, y157, y158, y159, y160, y161, y162, y163, y164, y165, y166, y167, y168, y169, y170, y171, y172, y173, y174, y175, y176, y177, y178, y179], []⟩ W K Q else K ((⟨#[y0, y1, y2, y3, y4, y5, y6, y7, y8, y9, y10, y11, y12, y13, y14, y15, y16, y17, y18, y19, y20, y21, y22, y23, y24, y25, y26, y27, y28, y29, y30, y31, x32, x33, x34, x35, x36, x37, x38, x39, x40, x41, x42, x43, y44, y45, y46, y47, y48, y49, y50, y51, y52, y53, y54, y55, y56, y57, y58, y59, y60, y61, y62, y63, y64, y65, y66, y67, y68, y69, y70, y71, y72, y73, y74, y75, y76, y77, y78, y79, y80, y81, y82, y83, y84, y85, y86, y87, y88, y89, y90, y91, y92, y93, y94, y95, y96, y97, y98, y99, y100, y101, y102, y103, y104, y105, y106, y107, y108, y109, y110, y111, y112, y113, y114, y115, y116, y117, y118, y119, y120, y121, y122, y123, y124, y125, y126, y127, y128, y129, y130, y131, y132, y133, y134, y135, y136, y137, y138, y139, y140, y141, y142, y143, y144, y145, y146, y147, y148, y149, y150, y151, y152, y153, y154, y155, y156, y157, y158, y159, y160, y161, y162, y163, y164, y165, y166, y167, y168, y169, y170, y171, y172, y173, y174, y175, y176, y177, y178, y179], []⟩ : Act).put o.dst undef) W) : StepI P ops (IS6 W1 X g lp ao n c XC EC y0 y1 y2 y3 y4 y5 y6 y7 y8 y9 y10 y11 y12 y13 y14 y15 y16 y17 y18 y19 y20 y21 y22 y23 y24 y25 y26 y27 y28 y29 y30 y31 y44 y45 y46 y47 y48 y49 y50 y51 y52 y53 y54 y55 y56 y57 y58 y59 y60 y61 y62 y63 y64 y65 y66 y67 y68 y69 y70 y71 y72 y73 y74 y75 y76 y77 y78 y79 y80 y81 y82 y83 y84 y85 y86 y87 y88 y89 y90 y91 y92 y93 y94 y95 y96 y97 y98 y99 y100 y101 y102 y103 y104 y105 y106 y107 y108 y109 y110 y111 y112 y113 y114 y115 y116 y117 y118 y119 y120 y121 y122 y123 y124 y125 y126 y127 y128 y129 y130 y131 y132 y133 y134 y135 y136 y137 y138 y139 y140 y141 y142 y143 y144 y145 y146 y147 y148 y149 y150 y151 y152 y153 y154 y155 y156 y157 y158 y159 y160 y161 y162 y163 y164 y165 y166 y167 y168 y169 y170 y171 y172 y173 y174 y175 y176 y177 y178 y179) Q i o := by
  rintro L a W ⟨x32, x33, x34, x35, x36, x37, x38, x39, x40, x41, x42, x43, rfl, h⟩
  exact hq _ _ _ _ _ _ _ _ _ _ _ _ _ _ h
theorem S6.ends {W1 : World} {X g : Nat} {lp : Addr} {ao : Option Addr} {n c : Nat} {XC EC : List Value} {y0 y1 y2 y3 y4 y5 y6 y7 y8 y9 y10 y11 y12 y13 y14 y15 y16 y17 y18 y19 y20 y21 y22 y23 y24 y25 y26 y27 y28 y29 y30 y31 y44 y45 y46 y47 y48 y49 y50 y51 y52 y53 y54 y55 y56 y57 y58 y59 y60 y61 y62 y63 y64 y65 y66 y67 y68 y69 y70 y71 y72 y73 y74 y75 y76 y77 y78 y79 y80 y81 y82 y83 y84 y85 y86 y87 y88 y89 y90 y91 y92 y93 y94 y95 y96 y97 y98 y99 y100 y101 y102 y103 y104 y105 y106 y107 y108 y109 y110 y111 y112 y113 y114 y115 y116 y117 y118 y119 y120 y121 y122 y123 y124 y125 y126 y127 y128 y129 y130 y131 y132 y133 y134 y135 y136 y137 y138 y139 y140 y141 y142 y143 y144 y145 y146 y147 y148 y149 y150 y151 y152 y153 y154 y155 y156 y157 y158 y159 y160 y161 y162 y163 y164 y165 y166 y167 y168 y169 y170 y171 y172 y173 y174 y175 y176 y177 y178 y179 : Value} {mm_ : Nat} {Q : Exit → Act → World → Prop} (hq : ∀ x32 x33 x34 x35 x36 x37 x38 x39 x40 x41 x42 x43 (L : Nat → Bool) (W : World), (∀ j, j < mm_ → L j = true) → S6 W1 X g lp ao n c XC EC L x32 x33 x34 x35 x36 x37 x38 x39 x40 x41 x42 x43 W → Q .normal ⟨#[y0, y1, y2, y3, y4, y5, y6, y7, y8, y9, y10, y11, y12, y13, y14, y15, y16, y17, y18, y19, y20, y21, y22, y23, y24, y25, y26, y27, y28, y29, y30, y31, x32, x33, x34, x35, x36, x37, x38, x39, x40, x41, x42, x43, y44, y45, y46, y47, y48, y49, y50, y51, y52, y53, y54, y55, y56, y57, y58, y59, y60, y61, y62, y63, y64, y65, y66, y67, y68, y69, y70, y71, y72, y73, y74, y75, y76, y77, y78, y79, y80, y81, y82, y83, y84, y85, y86, y87, y88, y89, y90, y91, y92, y93, y94, y95, y96, y97, y98, y99, y100, y101, y102, y103, y104, y105, y106, y107, y108, y109, y110, y111, y112, y113, y114, y115, y116, y117, y118, y119, y120, y121, y122, y123, y124, y125, y126, y127, y128, y129, y130, y131, y132, y133, y134, y135, y136, y137, y138, y139, y140, y141, y142, y143, y144, y145, y146, y147, y148, y149, y150, y151, y152, y153, y154, y155, y156, y157, y158, y159, y160, y161, y162, y163, y164, y165, y166, y167, y168, y169, y170, y171, y172, y173, y174, y175, y176, y177, y178, y179], []⟩ W) : ∀ L a' w', (∀ j, j < mm_ → L j = true) → IS6 W1 X g lp ao n c XC EC y0 y1 y2 y3 y4 y5 y6 y7 y8 y9 y10 y11 y12 y13 y14 y15 y16 y17 y18 y19 y20 y21 y22 y23 y24 y25 y26 y27 y28 y29 y30 y31 y44 y45 y46 y47 y48 y49 y50 y51 y52 y53 y54 y55 y56 y57 y58 y59 y60 y61 y62 y63 y64 y65 y66 y67 y68 y69 y70 y71 y72 y73 y74 y75 y76 y77 y78 y79 y80 y81 y82 y83 y84 y85 y86 y87 y88 y89 y90 y91 y92 y93 y94 y95 y96 y97 y98 y99 y100 y101 y102 y103 y104 y105 y106 y107 y108 y109 y110 y111 y112 y113 y114 y115 y116 y117 y118 y119 y120 y121 y122 y123 y124 y125 y126 y127 y128 y129 y130 y131 y132 y133 y134 y135 y136 y137 y138 y139 y140 y141 y142 y143 y144 y145 y146 y147 y148 y149 y150 y151 y152 y153 y154 y155 y156 y157 y158 y159 y160 y161 y162 y163 y164 y165 y166 y167 y168 y169 y170 y171 y172 y173 y174 y175 y176 y177 y178 y179 L a' w' → Q .normal a' w' := by
  rintro L a W hall ⟨x32, x33, x34, x35, x36, x37, x38, x39, x40, x41, x42, x43, rfl, h⟩
  exact hq _ _ _ _ _ _ _ _ _ _ _ _ _ _ hall h
set_option maxHeartbeats 4000000 in
set_option maxRecDepth 1000000 in
theorem step_add {Lg : (Nat → Prop) → World → Addr → List EvV → Prop} (C : Chn Lg) (F : Nat → Prop) (w : World) (g : Nat) (xs : List EvV) (hk : Bk Lg F w g xs) (on : Int) (x : EvV) (hx : EvOk x) (ko : Option Addr) (kn kc : Nat) (no : Option Addr) (nb nc : Nat) :
    Calls Try.prog 10 #[.pointer (some ⟨g, 0, none⟩), .agg (opC 2 on x ko kn kc no nb nc).toArray] w (StP Lg F w g) := by
  obtain ⟨OC, hOC⟩ : ∃ OC, OC = opC 2 on x ko kn kc no nb nc := ⟨_, rfl⟩
  have hO0 : OC[0]? = some (.int .i64 2) := by rw [hOC]; rfl
  have hOE : ∀ (j : Nat) (v : Value), (evC x)[j]? = some v → OC[2 + j]? = some v := by rw [hOC]; exact fun j v h => opC_ev h
  rw [← hOC]
  clear hOC
  obtain ⟨lp, ao, c, B, ob, hF, hFg, hFB, hgl, hBl, hao, hnil, hev⟩ := hk.start C OC
  obtain ⟨W1, hW1⟩ : ∃ W1, W1 = w.alloc (.cells OC.toArray 38) := ⟨_, rfl⟩
  rw [← hW1] at hF
  obtain ⟨PW, hP⟩ : ∃ PW : World → Prop, PW = FB Lg F w lp xs (bkR w.heap.size g OC lp ao xs.length c B ob) := ⟨_, rfl⟩
  obtain ⟨QW, hQ⟩ : ∃ QW : World → Prop, QW = FB Lg F w lp (addE xs x) (bkR w.heap.size g OC lp ao xs.length c B ob) := ⟨_, rfl⟩
  have hn : xs.length ≤ 1024 := hF.len C
  have P0 : Hid (PW W1) := by show PW W1; rw [hP]; exact hF
  have DR : Hid (∀ W, PW W → PW W.drew) := by rw [hP]; exact fun W h => h.drew C
  have CBq : ∀ ys W, FB Lg F w lp ys (bkR w.heap.size g OC lp ao xs.length c B ob) W → W.cell? ⟨g, 0, none⟩ = some (.pointer (some lp)) ∧ W.cell? ⟨g, 1, none⟩ = some (.slice ao xs.length c) := fun ys W h => ⟨h.bk.cell 0 _ rfl, h.bk.cell 1 _ rfl⟩
  have EVq : ∀ ys W, FB Lg F w lp ys (bkR w.heap.size g OC lp ao xs.length c B ob) W → W.rangeAt w.heap.size 2 (evC x) := fun ys W h j v hv => h.op.cell (2 + j) v (hOE j v hv)
  have CB : Hid (∀ l W, PQ PW QW l W → W.cell? ⟨g, 0, none⟩ = some (.pointer (some lp)) ∧ W.cell? ⟨g, 1, none⟩ = some (.slice ao xs.length c)) := by rw [hP, hQ]; exact fun l W h => h.both (CBq xs W) (CBq _ W)
  have ER : Hid (∀ l W, PQ PW QW l W → W.rangeAt w.heap.size 2 (evC x)) := by rw [hP, hQ]; exact fun l W h => h.both (EVq xs W) (EVq _ W)
  have CK : Hid (∀ W, PW W → W.cell? ⟨w.heap.size, 0, none⟩ = some (.int .i64 2)) := by rw [hP]; exact fun W h => h.op.cell 0 _ hO0
  have AD : Hid (∀ W, PW W → Calls Try.prog 25 #[.pointer (some lp), .agg (evC x).toArray] W fun e w' => e = .returned (.int .i64 (if xs.length < 1024 then 0 else 3)) ∧ QW w') := by
    rw [hP, hQ]
    intro W h
    obtain ⟨S, hl, _, hN⟩ := h.out
    exact (C.add x hx hl).mono fun e w' ⟨S', e1, k1, k2, k3⟩ => ⟨e1, hN S' w' _ k1 k2 k3⟩
  have QB : Hid (∀ W, QW W → Row W g 29 [.pointer (some lp), .slice ao xs.length c]) := by rw [hQ]; exact fun W h => h.bk
  have QE : Hid (∀ W, QW W → IsL W ao (xs.flatMap evC)) := by
    rw [hQ]
    intro W h
    by_cases h0 : 0 < xs.length
    · exact .inr ⟨B, 0, (hao h0).1, fun j v hj => evIn_cells (hev W h.ev) hj⟩
    · left
      have : xs = [] := List.length_eq_zero_iff.1 (by omega)
      rw [this]; rfl
  have QR : Hid (∀ W W2, QW W → But (fun j => j = g) W W2 → W2.rangeAt w.heap.size 2 (evC x)) := by
    rw [hQ]
    intro W W2 h hb j v hv
    have hr := h.op
    exact (cell_blk (hb.block w.heap.size hr.lt (by show ¬ w.heap.size = g; omega))).trans (EVq _ W h j v hv)
  have hxo : ∀ y ∈ xs, EvOk y := (hev _ hF.ev).all
  have lE := evC_len hx
  have lX := flat_len hxo
  have oX : Hid (∀ u ∈ xs.flatMap evC, u.oneCell' = true) := evs_one
  have oE : Hid (∀ u ∈ evC x, u.oneCell' = true) := evC_one x
  have FINB : Hid (xs.length = 1024 → ∀ W, QW W → StP Lg F w g (.returned (.bool true)) W) := by
    rw [hQ]
    intro h0 W h
    have e : addE xs x = xs := by unfold addE; rw [if_neg (by omega)]
    rw [e] at h
    exact h.endP C hFg hFB hao hnil hev
  have FINA : Hid (xs.length < 1024 → ∀ W W2 x37 x40 x41, QW W → A6 W g lp xs.length (xs.flatMap evC) (evC x) true true true true x37 x40 x41 W2 → StP Lg F w g (.returned (.bool true)) W2) := by
    rw [hQ]
    intro h0 W W2 x37 x40 x41 h hA
    have e : addE xs x = xs ++ [x] := by unfold addE; rw [if_pos h0]
    rw [e] at h
    obtain ⟨ao2, c2, e2, ho⟩ := hA.p9 rfl
    have hr := hA.p12 rfl
    rw [e2] at hr
    have e3 : xs.flatMap evC ++ evC x = (xs ++ [x]).flatMap evC := by simp
    rw [e3] at ho
    rcases ho.2 with ⟨_, h9⟩ | ⟨G, c3, cur, e4, hG, hblk, hc1, hc2, hc3, hc4⟩
    · omega
    injection e4 with e4 _ e5
    subst e4 e5
    have l1 : (xs ++ [x]).length = xs.length + 1 := by simp
    obtain ⟨S, k1, k2, k3, k4⟩ := h
    have hg0 := k4 _ (List.mem_cons_of_mem _ (List.mem_cons_self ..))
    have h2 : FB Lg F w lp (xs ++ [x]) [(g, .cells #[.pointer (some lp), .slice (some ⟨G, 0, none⟩) (xs ++ [x]).length c2] 29 (0, 0)), (G, .cells cur 35 (0, 0))] W2 := by
      refine ⟨S, C.keep k1 (fun j hj => hA.but.block j (C.lt k1 j hj) fun e => hg0.2 (by rw [← e]; exact hj)) hA.but.size, k2, k3.trans hA.but (fun j e => .inl (by rw [e]; exact hFg)), fun t ht => ?_⟩
      rcases List.mem_cons.1 ht with rfl | ht
      · refine ⟨?_, hg0.2⟩
        rw [l1]
        exact hr
      · rw [List.mem_singleton] at ht
        subst ht
        exact ⟨hblk, fun hs => by have := C.lt k1 _ hs; simp only at this; omega⟩
    obtain ⟨F', q1, q2, q3⟩ := Bk.of_fb C h2 (g := g) (ao := some ⟨G, 0, none⟩) (c := c2) (B := G) (ob := .cells cur 35 (0, 0)) (List.mem_cons_self ..) (List.mem_cons_of_mem _ (List.mem_cons_self ..)) (.inl hFg) (.inr (Nat.le_trans k3.size hG)) (fun _ => ⟨rfl, by have := blk_lt hg0.1; simp only at this; omega⟩) (fun h => by cases h) (by
      rw [← l1] at ho
      exact evIn_owns ho fun y hy => by
        rcases List.mem_append.1 hy with hy | hy
        · exact hxo y hy
        · rw [List.mem_singleton] at hy
          subst hy
          exact hx)
    exact ⟨F', _, rfl, q1, q2, q3⟩
  clear hP hQ hF C hao hev hFg hFB hO0 hk CBq EVq hOE hx hxo
  have HNIL : Hid (ao = none → c = 0) := hnil
  clear hnil
  generalize evC x = EC at *
  generalize xs.flatMap evC = XC at *
  generalize xs.length = n at *
  generalize hX : w.heap.size = X at *
  by_cases hr : n < 1024
  · rw [if_pos hr] at AD
    have FINR : Hid (∀ W W2 x37 x40 x41, QW W → A6 W g lp n XC EC true true true true x37 x40 x41 W2 → StP Lg F w g (.returned (.bool true)) W2) := FINA.out hr
    clear FINA FINB
    have i1 : ¬ (1024 : Int) ≤ (n : Int) := by omega
    go_enter Try.func10, Try.ntmps10
    refine wp_seq_k fun K hK => ?_
    have HKK : Hid _ := hK
    clear hK
    go_wp2_with fail
    refine HKK.out _ _ ?_
    clear HKK
    rw [← hW1]
    clear hW1
    have c0 := CK.out _ P0.out
    go_wp2_with fail
    clear c0
    refine wp_region_inv (IS3A W1 PW QW X g lp EC _ _ _ _ _ _ _ _ _ _ _ _ _ _ _ _ _ _ _ _ _ _ _ _ _ _ _ _ _ _ _ _ _ _ _ _ _ _ _ _ _ _ _ _ _ _ _ _ _ _ _ _ _ _ _ _ _ _ _ _ _ _ _ _ _ _ _ _ _ _ _ _ _ _ _ _ _ _ _ _ _ _ _ _ _ _ _ _ _ _ _ _ _ _ _ _ _ _ _ _ _ _ _ _ _ _ _ _ _ _ _ _ _ _ _ _ _ _ _ _ _ _ _ _ _ _ _ _ _ _ _ _ _ _ _ _ _ _ _ _ _ _ _ _ _ _ _ _ _ _ _ _ _ _ _ _ _ _ _ _ _ _ _ _ _ _ _ _ _ _ _ _) (by kernel_rfl) (by kernel_rfl) ⟨_, _, _, _, _, _, _, _, rfl, ⟨PQ.of_no (DR.out _ P0.out), fun k => (by cases k), fun k => (by cases k), fun k => (by cases k), fun k => (by cases k), fun k => (by cases k), fun k => (by cases k), fun k => (by cases k), fun k => (by cases k)⟩⟩ ?_ ?_
    · refine .cons ?_ (.cons ?_ (.cons ?_ (.cons ?_ (.cons ?_ (.cons ?_ (.cons ?_ (.cons ?_ .nil)))))))
      all_goals (refine S3A.step ?_; intro x17 x18 x19 x20 x21 x22 x23 x5 L W hI hL hd K hK)
      · rw [if_pos (by rfl)]
        go_simp
        exact hK.out _ _ ⟨_, _, _, _, _, _, _, _, rfl, hI.s0⟩
      · have hx0 := hI.p0 (hd 0 (by decide))
        subst hx0
        rw [if_pos (by rfl)]
        go_simp
        exact hK.out _ _ ⟨_, _, _, _, _, _, _, _, rfl, hI.s1⟩
      · have hx1 := hI.p1 (hd 1 (by decide))
        subst hx1
        rw [if_pos (by rfl)]
        go_simp
        exact hK.out _ _ ⟨_, _, _, _, _, _, _, _, rfl, hI.s2⟩
      · have hx2 := hI.p2 (hd 2 (by decide))
        subst hx2
        rw [if_pos (by rfl)]
        have hc := (CB.out _ _ hI.x).1
        go_simp
        exact hK.out _ _ ⟨_, _, _, _, _, _, _, _, rfl, hI.s3⟩
      · rw [if_pos (by rfl)]
        go_simp
        exact hK.out _ _ ⟨_, _, _, _, _, _, _, _, rfl, hI.s4⟩
      · have hx4 := hI.p4 (hd 4 (by decide))
        subst hx4
        refine step_load_rng rfl 35 _ rfl X 2 EC (ER.out _ _ hI.x) rfl _ Try.underlying35 rfl (by rw [lE]; kernel_rfl) ?_
        exact hK.out _ _ ⟨_, _, _, _, _, _, _, _, rfl, hI.s5⟩
      · have hx3 := hI.p3 (hd 3 (by decide))
        subst hx3
        have hx5 := hI.p5 (hd 5 (by decide))
        subst hx5
        rw [if_pos (by rfl)]
        go_simp
        refine (AD.out _ (hI.x.no hL)).mono ?_
        rintro e W2 ⟨rfl, hq⟩
        go_simp
        have hX := PQ.of_yes (PW := PW) hq
        exact hK.out _ _ ⟨_, _, _, _, _, _, _, _, rfl, hI.s6 hX⟩
      · have hx6 := hI.p6 (hd 6 (by decide))
        subst hx6
        rw [if_pos (by rfl)]
        go_simp
        exact hK.out _ _ ⟨_, _, _, _, _, _, _, _, rfl, hI.s7⟩
    · refine S3A.ends ?_; intro x17 x18 x19 x20 x21 x22 x23 x5 L W hall hI
      have hx0 := hI.p0 (hall 0 (by decide))
      subst hx0
      have hx1 := hI.p1 (hall 1 (by decide))
      subst hx1
      have hx2 := hI.p2 (hall 2 (by decide))
      subst hx2
      have hx3 := hI.p3 (hall 3 (by decide))
      subst hx3
      have hx4 := hI.p4 (hall 4 (by decide))
      subst hx4
      have hx5 := hI.p5 (hall 5 (by decide))
      subst hx5
      have hx6 := hI.p6 (hall 6 (by decide))
      subst hx6
      have hx7 := hI.p7 (hall 7 (by decide))
      subst hx7
      have hXe := hI.x
      rw [hall 6 (by decide)] at hXe
      clear hI hall
      try dsimp only
      have HQ : Hid (QW W) := hXe
      have hc := (CB.out true _ hXe).2
      clear hXe
      go_wp2_with fail
      obtain ⟨W3, hW3⟩ : ∃ W3, W3 = W := ⟨_, rfl⟩
      subst hW3
      clear hc
      have HB : Hid (Row W3 g 29 [.pointer (some lp), .slice ao n c]) := QB.out _ HQ.out
      refine wp_region_inv (IS6 W3 X g lp ao n c XC EC _ _ _ _ _ _ _ _ _ _ _ _ _ _ _ _ _ _ _ _ _ _ _ _ _ _ _ _ _ _ _ _ _ _ _ _ _ _ _ _ _ _ _ _ _ _ _ _ _ _ _ _ _ _ _ _ _ _ _ _ _ _ _ _ _ _ _ _ _ _ _ _ _ _ _ _ _ _ _ _ _ _ _ _ _ _ _ _ _ _ _ _ _ _ _ _ _ _ _ _ _ _ _ _ _ _ _ _ _ _ _ _ _ _ _ _ _ _ _ _ _ _ _ _ _ _ _ _ _ _ _ _ _ _ _ _ _ _ _ _ _ _ _ _ _ _ _ _ _ _ _ _ _ _ _ _ _ _ _ _ _ _ _ _ _ _ _ _) (by kernel_rfl) (by kernel_rfl) ⟨_, _, _, _, _, _, _, _, _, _, _, _, rfl, ⟨A6.zero _ _ _ _ _ _ _ _ _, fun k => (by cases k), fun k => (by cases k), fun k => (by cases k), fun k => (by cases k), fun k => (by cases k), fun k => (by cases k), fun k => (by cases k), fun k => (by cases k), fun k => (by cases k), fun k => (by cases k)⟩⟩ ?_ ?_
      · refine .cons ?_ (.cons ?_ (.cons ?_ (.cons ?_ (.cons ?_ (.cons ?_ (.cons ?_ (.cons ?_ (.cons ?_ (.cons ?_ (.cons ?_ (.cons ?_ (.cons ?_ .nil))))))))))))
        all_goals (refine S6.step ?_; intro x32 x33 x34 x35 x36 x37 x38 x39 x40 x41 x42 x43 L W hI hL hd K hK)
        · rw [if_pos (by rfl)]
          go_simp
          exact hK.out _ _ ⟨_, _, _, _, _, _, _, _, _, _, _, _, rfl, hI.s0⟩
        · rw [if_pos (by rfl)]
          go_simp
          exact hK.out _ _ ⟨_, _, _, _, _, _, _, _, _, _, _, _, rfl, hI.s1⟩
        · have hx1 := hI.p1 (hd 1 (by decide))
          subst hx1
          rw [if_pos (by rfl)]
          go_simp
          exact hK.out _ _ ⟨_, _, _, _, _, _, _, _, _, _, _, _, rfl, hI.s2⟩
        · have hx2 := hI.p2 (hd 2 (by decide))
          subst hx2
          rw [if_pos (by rfl)]
          go_simp
          exact hK.out _ _ ⟨_, _, _, _, _, _, _, _, _, _, _, _, rfl, hI.s3⟩
        · have hx3 := hI.p3 (hd 3 (by decide))
          subst hx3
          rw [if_pos (by rfl)]
          have h12 := ff hI.x.c12 (ff hI.x.c9a (ff hI.c5_4 hL))
          have hc := (hI.x.row h12 HB.out).cell 1 _ rfl
          go_simp
          exact hK.out _ _ ⟨_, _, _, _, _, _, _, _, _, _, _, _, rfl, hI.s4⟩
        · have hx4 := hI.p4 (hd 4 (by decide))
          subst hx4
          have h12 := ff hI.x.c12 (ff hI.x.c9a hL)
          have il := (QE.out _ HQ.out)
          refine step_append_il el_evs rfl _ _ rfl W3.heap.size W3 none 0 0 [] rfl (World.ownsRow_nil W _ _ _) hI.x.but.size (hI.x.bel h12) ao n c XC rfl (by rw [lX]) (isL_below il (hI.x.bel h12)) oX.out HNIL.out (by unfold maxLen; omega) (by omega) ?_
          intro ao8 c8 W2 q1 q2 q3 q4
          rw [Nat.zero_add] at q1
          rw [Nat.zero_add]
          have hX := hI.x.s5 hL (ao := ao8) (c := c8) q1 q2 (fun k hk => q4 k hk (fun g h => by cases h))
          exact hK.out _ _ ⟨_, _, _, _, _, _, _, _, _, _, _, _, rfl, hI.s5 hX (hd 4 (by decide))⟩
        · rw [if_pos (by rfl)]
          go_simp
          exact hK.out _ _ ⟨_, _, _, _, _, _, _, _, _, _, _, _, rfl, hI.s6⟩
        · have hx6 := hI.p6 (hd 6 (by decide))
          subst hx6
          refine step_load_rng rfl 35 _ rfl X 2 EC (QR.out _ _ HQ.out hI.x.but) rfl _ Try.underlying35 rfl (by rw [lE]; kernel_rfl) ?_
          exact hK.out _ _ ⟨_, _, _, _, _, _, _, _, _, _, _, _, rfl, hI.s7⟩
        · have hx7 := hI.p7 (hd 7 (by decide))
          subst hx7
          rw [if_pos (by rfl)]
          have hX := hI.x.s8 hL
          rw [← fold_ev EC lE] at hX
          go_simp
          exact hK.out _ _ ⟨_, _, _, _, _, _, _, _, _, _, _, _, rfl, hI.s8 hX⟩
        · have hL4 := (hI.c5_4 (hd 5 (by decide)))
          have h5 := hd 5 (by decide)
          have h8 := hd 8 (by decide)
          have h12 := ff hI.x.c12 hL
          obtain ⟨ao5, c5, e5, r5⟩ := hI.x.p5 h5 hL
          obtain ⟨M, e8, r8⟩ := hI.x.p8 h8 hL
          refine step_append_il el_evs rfl (.tmp 37) (.tmp 40) rfl W3.heap.size W3 ao5 n c5 XC e5 r5 hI.x.but.size (hI.x.bel h12) (some ⟨M, 0, none⟩) 1 1 EC e8 (by rw [lE]) (.inr ⟨M, 0, rfl, fun j u hu => by rw [Nat.zero_add]; exact r8.cell j u hu⟩) oE.out (fun h => by cases h) (by unfold maxLen; omega) (by omega) ?_
          intro ao8 c8 W2 q1 q2 q3 q4
          have hX := hI.x.s9 h5 h8 hL (ao := ao8) (c := c8) q1 q2
          exact hK.out _ _ ⟨_, _, _, _, _, _, _, _, _, _, _, _, rfl, hI.s9 hX⟩
        · have hx0 := hI.p0 (hd 0 (by decide))
          subst hx0
          rw [if_pos (by rfl)]
          go_simp
          exact hK.out _ _ ⟨_, _, _, _, _, _, _, _, _, _, _, _, rfl, hI.s10⟩
        · have hx10 := hI.p10 (hd 10 (by decide))
          subst hx10
          rw [if_pos (by rfl)]
          go_simp
          exact hK.out _ _ ⟨_, _, _, _, _, _, _, _, _, _, _, _, rfl, hI.s11⟩
        · have hx11 := hI.p11 (hd 11 (by decide))
          subst hx11
          rw [if_pos (by rfl)]
          have r9 := hI.x.row hL HB.out
          have hc9 := r9.cell 1 _ rfl
          have hf9 := r9.frozen 1
          have hX := hI.x.s12 (hd 9 (by decide)) hL HB.out
          obtain ⟨ao5, c5, e5, _⟩ := hI.x.p9 (hd 9 (by decide))
          subst e5
          go_simp
          exact hK.out _ _ ⟨_, _, _, _, _, _, _, _, _, _, _, _, rfl, hI.s12 hX⟩
      · refine S6.ends ?_; intro x32 x33 x34 x35 x36 x37 x38 x39 x40 x41 x42 x43 L W hall hI
        have hx0 := hI.p0 (hall 0 (by decide))
        subst hx0
        have hx1 := hI.p1 (hall 1 (by decide))
        subst hx1
        have hx2 := hI.p2 (hall 2 (by decide))
        subst hx2
        have hx3 := hI.p3 (hall 3 (by decide))
        subst hx3
        have hx4 := hI.p4 (hall 4 (by decide))
        subst hx4
        have hx6 := hI.p6 (hall 6 (by decide))
        subst hx6
        have hx7 := hI.p7 (hall 7 (by decide))
        subst hx7
        have hx10 := hI.p10 (hall 10 (by decide))
        subst hx10
        have hx11 := hI.p11 (hall 11 (by decide))
        subst hx11
        have hXe := hI.x
        rw [hall 5 (by decide)] at hXe
        rw [hall 8 (by decide)] at hXe
        rw [hall 9 (by decide)] at hXe
        rw [hall 12 (by decide)] at hXe
        clear hI hall
        try dsimp only
        have HXE : Hid _ := hXe
        clear hXe
        go_wp2
        go_ret
        exact FINR.out _ _ _ _ _ HQ.out HXE.out
  · obtain rfl : n = 1024 := by omega
    rw [if_neg (by omega)] at AD
    have FINR : Hid (∀ W, QW W → StP Lg F w g (.returned (.bool true)) W) := FINB.out rfl
    clear FINA FINB
    go_enter Try.func10, Try.ntmps10
    refine wp_seq_k fun K hK => ?_
    have HKK : Hid _ := hK
    clear hK
    go_wp2_with fail
    refine HKK.out _ _ ?_
    clear HKK
    rw [← hW1]
    clear hW1
    have c0 := CK.out _ P0.out
    go_wp2_with fail
    clear c0
    refine wp_region_inv (IS3B W1 PW QW X g lp EC _ _ _ _ _ _ _ _ _ _ _ _ _ _ _ _ _ _ _ _ _ _ _ _ _ _ _ _ _ _ _ _ _ _ _ _ _ _ _ _ _ _ _ _ _ _ _ _ _ _ _ _ _ _ _ _ _ _ _ _ _ _ _ _ _ _ _ _ _ _ _ _ _ _ _ _ _ _ _ _ _ _ _ _ _ _ _ _ _ _ _ _ _ _ _ _ _ _ _ _ _ _ _ _ _ _ _ _ _ _ _ _ _ _ _ _ _ _ _ _ _ _ _ _ _ _ _ _ _ _ _ _ _ _ _ _ _ _ _ _ _ _ _ _ _ _ _ _ _ _ _ _ _ _ _ _ _ _ _ _ _ _ _ _ _ _ _ _ _ _ _ _) (by kernel_rfl) (by kernel_rfl) ⟨_, _, _, _, _, _, _, _, rfl, ⟨PQ.of_no (DR.out _ P0.out), fun k => (by cases k), fun k => (by cases k), fun k => (by cases k), fun k => (by cases k), fun k => (by cases k), fun k => (by cases k), fun k => (by cases k), fun k => (by cases k)⟩⟩ ?_ ?_
    · refine .cons ?_ (.cons ?_ (.cons ?_ (.cons ?_ (.cons ?_ (.cons ?_ (.cons ?_ (.cons ?_ .nil)))))))
      all_goals (refine S3B.step ?_; intro x17 x18 x19 x20 x21 x22 x23 x5 L W hI hL hd K hK)
      · rw [if_pos (by rfl)]
        go_simp
        exact hK.out _ _ ⟨_, _, _, _, _, _, _, _, rfl, hI.s0⟩
      · have hx0 := hI.p0 (hd 0 (by decide))
        subst hx0
        rw [if_pos (by rfl)]
        go_simp
        exact hK.out _ _ ⟨_, _, _, _, _, _, _, _, rfl, hI.s1⟩
      · have hx1 := hI.p1 (hd 1 (by decide))
        subst hx1
        rw [if_pos (by rfl)]
        go_simp
        exact hK.out _ _ ⟨_, _, _, _, _, _, _, _, rfl, hI.s2⟩
      · have hx2 := hI.p2 (hd 2 (by decide))
        subst hx2
        rw [if_pos (by rfl)]
        have hc := (CB.out _ _ hI.x).1
        go_simp
        exact hK.out _ _ ⟨_, _, _, _, _, _, _, _, rfl, hI.s3⟩
      · rw [if_pos (by rfl)]
        go_simp
        exact hK.out _ _ ⟨_, _, _, _, _, _, _, _, rfl, hI.s4⟩
      · have hx4 := hI.p4 (hd 4 (by decide))
        subst hx4
        refine step_load_rng rfl 35 _ rfl X 2 EC (ER.out _ _ hI.x) rfl _ Try.underlying35 rfl (by rw [lE]; kernel_rfl) ?_
        exact hK.out _ _ ⟨_, _, _, _, _, _, _, _, rfl, hI.s5⟩
      · have hx3 := hI.p3 (hd 3 (by decide))
        subst hx3
        have hx5 := hI.p5 (hd 5 (by decide))
        subst hx5
        rw [if_pos (by rfl)]
        go_simp
        refine (AD.out _ (hI.x.no hL)).mono ?_
        rintro e W2 ⟨rfl, hq⟩
        go_simp
        have hX := PQ.of_yes (PW := PW) hq
        exact hK.out _ _ ⟨_, _, _, _, _, _, _, _, rfl, hI.s6 hX⟩
      · have hx6 := hI.p6 (hd 6 (by decide))
        subst hx6
        rw [if_pos (by rfl)]
        go_simp
        exact hK.out _ _ ⟨_, _, _, _, _, _, _, _, rfl, hI.s7⟩
    · refine S3B.ends ?_; intro x17 x18 x19 x20 x21 x22 x23 x5 L W hall hI
      have hx0 := hI.p0 (hall 0 (by decide))
      subst hx0
      have hx1 := hI.p1 (hall 1 (by decide))
      subst hx1
      have hx2 := hI.p2 (hall 2 (by decide))
      subst hx2
      have hx3 := hI.p3 (hall 3 (by decide))
      subst hx3
      have hx4 := hI.p4 (hall 4 (by decide))
      subst hx4
      have hx5 := hI.p5 (hall 5 (by decide))
      subst hx5
      have hx6 := hI.p6 (hall 6 (by decide))
      subst hx6
      have hx7 := hI.p7 (hall 7 (by decide))
      subst hx7
      have hXe := hI.x
      rw [hall 6 (by decide)] at hXe
      clear hI hall
      try dsimp only
      have HQ : Hid (QW W) := hXe
      have hc := (CB.out true _ hXe).2
      clear hXe
      go_wp2
      go_ret
      exact FINR.out _ HQ.out
end Go.Proofs.Ythegfkcegmeklaa
