import Derived.Test.YtgpnbiaghokjkaaDoorD21Cp
import Derived.Test.YtgpnbiaghokjkaaDoorD21K4
import Derived.Test.YtgpnbiaghokjkaaDoorC4New

/-! Layer 21: chips that were told, beside one another. -/
namespace Go.Proofs.YtgpnbiaghokjkaaDoor
open Go.RowKit
set_option linter.unusedVariables false
set_option linter.unusedSimpArgs false
set_option maxRecDepth 100000

theorem el_chips : ElT 45 29 3 72 (.agg #[nilS, nilS, nilS]) := ⟨Tryd.underlying45, by kernel_rfl, rfl, by omega⟩
/-- What Parse tells, in memory of its own. -/
def ParO (T : List By) (w : World) (e : Ending) (w' : World) : Prop :=
  ∃ v qs, e = Tells4 (parseR T).1 v (parseR T).2.1 (parseR T).2.2.1 (parseR T).2.2.2 ∧ StV w' v (parseR T).2.1 ∧ Tld w.heap.size w'.heap.size w' v (parseR T).2.1 qs ∧ Below w.heap.size w w'
/-- What DumpKeeps asks besides. -/
structure Dmp2 : Prop extends Dmp where
  own : ∀ (T : List By) (w : World), T.length ≤ 2000000 → Calls Tryd.prog 12 #[.string (strOf T)] w (ParO T w)
abbrev Ch := SV × List Value × Nat × Nat
def Chp (q : Option Nat) (W : World) (t : St) (x : Ch) : Prop := match q with | none => Tld x.2.2.1 x.2.2.2 W x.1 t x.2.1 | some k => Mkd x.2.2.1 x.2.2.2 W x.1 t x.2.1 k
theorem Chp.keep {q : Option Nat} {W W' : World} {t : St} {x : Ch} (h : Chp q W t x) (hb : ∀ b, x.2.2.1 ≤ b → b < x.2.2.2 → W'.heap[b]? = W.heap[b]?) (hs : W.heap.size ≤ W'.heap.size) : Chp q W' t x := by
  cases q with
  | none => exact Tld.keep h hb hs
  | some k => exact Mkd.keep h hb
structure Chs (Y : Nat) (t : St) (f : Nat → Option Nat) (ts : List Ch) (W : World) : Prop where
  each : ∀ (j : Nat) (x : Ch), ts[j]? = some x → Chp (f j) W t x
  lo : ∀ (j : Nat) (x : Ch), ts[j]? = some x → Y ≤ x.2.2.1
  hi : ∀ (j : Nat) (x : Ch), ts[j]? = some x → x.2.2.2 ≤ W.heap.size
  sep : ∀ (i j : Nat) (x y : Ch), i < j → ts[i]? = some x → ts[j]? = some y → x.2.2.2 ≤ y.2.2.1
section
variable {Y : Nat} {t : St} {f : Nat → Option Nat} {ts : List Ch} {W W' : World}
theorem Chs.keep (h : Chs Y t f ts W) (hb : ∀ (b j : Nat) (x : Ch), ts[j]? = some x → x.2.2.1 ≤ b → b < x.2.2.2 → W'.heap[b]? = W.heap[b]?) (hs : W.heap.size ≤ W'.heap.size) : Chs Y t f ts W' :=
  ⟨fun j x hx => (h.each j x hx).keep (fun b h1 h2 => hb b j x hx h1 h2) hs, h.lo, fun j x hx => Nat.le_trans (h.hi j x hx) hs, h.sep⟩
theorem Chs.below (h : Chs Y t f ts W) (hb : Below W.heap.size W W') : Chs Y t f ts W' :=
  h.keep (fun b j x hx _ h2 => hb.block b (Nat.lt_of_lt_of_le h2 (h.hi j x hx))) hb.size
theorem Chs.push (h : Chs Y t f ts W) {W' : World} (hb : Below W.heap.size W W') {v : SV} {qs : List Value} (hf : f ts.length = none) (ht : Tld W.heap.size W'.heap.size W' v t qs) (hY : Y ≤ W.heap.size) : Chs Y t f (ts ++ [(v, qs, W.heap.size, W'.heap.size)]) W' := by
  have h' := h.below hb
  have last : ∀ (j : Nat) (x : Ch), (ts ++ [(v, qs, W.heap.size, W'.heap.size)])[j]? = some x → ts[j]? = some x ∨ (j = ts.length ∧ x = (v, qs, W.heap.size, W'.heap.size)) := fun j x hx => by
    by_cases hj : j < ts.length
    · rw [List.getElem?_append_left hj] at hx; exact .inl hx
    · rw [List.getElem?_append_right (by omega)] at hx
      have h0 := (List.getElem?_eq_some_iff.1 hx).1
      have hj0 : j - ts.length = 0 := by simpa using h0
      rw [hj0] at hx
      injection hx with hx
      exact .inr ⟨by omega, hx.symm⟩
  refine ⟨fun j x hx => ?_, fun j x hx => ?_, fun j x hx => ?_, fun i j x y hij hx hy => ?_⟩
  · rcases last j x hx with h1 | ⟨h1, h2⟩
    · exact h'.each j x h1
    · rw [h1, hf, h2]; exact ht
  · rcases last j x hx with h1 | ⟨h1, h2⟩
    · exact h'.lo j x h1
    · rw [h2]; exact hY
  · rcases last j x hx with h1 | ⟨h1, h2⟩
    · exact h'.hi j x h1
    · rw [h2]; exact Nat.le_refl _
  · rcases last j y hy with h1 | ⟨h1, h2⟩
    · rcases last i x hx with h3 | ⟨h3, _⟩
      · exact h'.sep i j x y hij h3 h1
      · have := (List.getElem?_eq_some_iff.1 h1).1; omega
    · rcases last i x hx with h3 | ⟨h3, _⟩
      · rw [h2]; exact h.hi i x h3
      · omega
theorem Chs.spoil (h : Chs Y t f ts W) {i : Nat} {x : Ch} (hx : ts[i]? = some x) {k : Nat} (hm : Mkd x.2.2.1 x.2.2.2 W' x.1 t x.2.1 k) (kr : KeptR x.2.2.1 x.2.2.2 W W') : Chs Y t (fun j => if j = i then some k else f j) ts W' := by
  refine ⟨fun j y hy => ?_, h.lo, fun j y hy => Nat.le_trans (h.hi j y hy) kr.size, h.sep⟩
  by_cases hj : j = i
  · subst hj
    rw [hx] at hy
    injection hy with hy
    subst hy
    rw [if_pos rfl]
    exact hm
  · rw [if_neg hj]
    refine (h.each j y hy).keep (fun b h1 h2 => kr.block b (Nat.lt_of_lt_of_le h2 (h.hi j y hy)) (fun hh => ?_)) kr.size
    rcases Nat.lt_or_gt_of_ne hj with h3 | h3
    · have := h.sep j i y x h3 hy hx; omega
    · have := h.sep i j x y h3 hx hy; omega
theorem Chs.below_spoil (h : Chs Y t f ts W) {i : Nat} {x : Ch} (hx : ts[i]? = some x) (kr : KeptR x.2.2.1 x.2.2.2 W W') {a : World} (hb : Below Y a W) (hYW : Y ≤ W.heap.size) : Below Y a W' :=
  ⟨kr.os.trans hb.os, kr.tape.trans hb.tape, kr.output.trans hb.output, Nat.le_trans hb.size kr.size, fun b hbl => (kr.block b (by omega) (fun hh => by have := h.lo i x hx; omega)).trans (hb.block b hbl)⟩
end
/-- The row of told chips. -/
structure Tol (Y : Nat) (t : St) (ts : List Ch) (ao : Option Addr) (c : Nat) (W : World) : Prop where
  own : W.ownsRow Y 29 3 (.slice ao ts.length c) ts.length (ts.flatMap fun x => x.1.vals t)
  tb : ∀ B, ao = some ⟨B, 0, none⟩ → ∀ (j : Nat) (x : Ch), ts[j]? = some x → ¬ (x.2.2.1 ≤ B ∧ B < x.2.2.2)
theorem flat3 (t : St) : ∀ (ts : List Ch) (i : Nat) (x : Ch), ts[i]? = some x → ((ts.flatMap fun x => x.1.vals t).drop (i * 3)).take 3 = x.1.vals t
  | [], i, x, h => by cases h
  | y :: ts, 0, x, h => by
    injection h with h
    subst h
    rw [List.flatMap_cons, Nat.zero_mul, List.drop_zero, List.take_append_of_le_length (by rw [sv_len]; exact Nat.le_refl _), List.take_of_length_le (by rw [sv_len]; exact Nat.le_refl _)]
  | y :: ts, i + 1, x, h => by
    have := flat3 t ts i x h
    rw [List.flatMap_cons, List.drop_append, sv_len, show (i + 1) * 3 - 3 = i * 3 by omega, List.drop_of_length_le (by rw [sv_len]; omega), List.nil_append]
    exact this
section
variable {Y : Nat} {t : St} {ts : List Ch} {ao : Option Addr} {c : Nat} {W W' : World}
theorem Tol.below (h : Tol Y t ts ao c W) (hb : Below W.heap.size W W') : Tol Y t ts ao c W' :=
  ⟨owns_kept h.own fun b hbx => hb.block b (owns_at h.own b hbx).2, h.tb⟩
theorem Tol.kr (h : Tol Y t ts ao c W) {i : Nat} {x : Ch} (hx : ts[i]? = some x) (kr : KeptR x.2.2.1 x.2.2.2 W W') : Tol Y t ts ao c W' :=
  ⟨owns_kept h.own fun b hbx => kr.block b (owns_at h.own b hbx).2 (h.tb b hbx i x hx), h.tb⟩
theorem Tol.at (h : Tol Y t ts ao c W) (i : Nat) (x : Ch) (hx : ts[i]? = some x) : ∃ B, ao = some ⟨B, 0, none⟩ ∧ W.rangeAt B (i * 3) (x.1.vals t) := by
  have hi : i < ts.length := (List.getElem?_eq_some_iff.1 hx).1
  obtain ⟨B, hB⟩ := owns_form h.own (by omega)
  refine ⟨B, hB, ?_⟩
  rw [← flat3 t ts i x hx]
  intro j u hu
  have hcells := h.own.cells (g := B) (by rw [hB]; rfl)
  have hj : j < 3 := by
    have := (List.getElem?_eq_some_iff.1 hu).1
    rw [List.length_take] at this
    omega
  rw [List.getElem?_take_of_lt hj, List.getElem?_drop] at hu
  have := hcells (i * 3 + j) u hu
  rw [Addr.add_mid, Nat.zero_add] at this
  exact this
theorem Tol.push (h : Tol Y t ts ao c W) {x : Ch} {ao' : Option Addr} {c' : Nat} (ho : W'.ownsRow 0 29 3 (.slice ao' (ts.length + 1) c') (ts.length + 1) ((ts.flatMap fun x => x.1.vals t) ++ x.1.vals t)) (hap : AppP W W' ao ao' (ts.flatMap fun x => x.1.vals t)) (hY : Y ≤ W.heap.size) (hx : x.2.2.2 ≤ W.heap.size) (hall : ∀ (j : Nat) (y : Ch), ts[j]? = some y → y.2.2.2 ≤ W.heap.size) (hB : ∀ B, ao = some ⟨B, 0, none⟩ → ¬ (x.2.2.1 ≤ B ∧ B < x.2.2.2)) : Tol Y t (ts ++ [x]) ao' c' W' := by
  have hYB : ∀ B, ao' = some ⟨B, 0, none⟩ → Y ≤ B ∧ ∀ (j : Nat) (y : Ch), (ts ++ [x])[j]? = some y → ¬ (y.2.2.1 ≤ B ∧ B < y.2.2.2) := fun B hBe => by
    rcases hap.loc with e | ⟨g', e, hg'⟩
    · rw [e] at hBe
      refine ⟨(owns_at h.own B hBe).1, fun j y hy => ?_⟩
      by_cases hj : j < ts.length
      · rw [List.getElem?_append_left hj] at hy; exact h.tb B hBe j y hy
      · rw [List.getElem?_append_right (by omega)] at hy
        have h0 := (List.getElem?_eq_some_iff.1 hy).1
        have hj0 : j - ts.length = 0 := by simpa using h0
        rw [hj0] at hy
        injection hy with hy
        rw [← hy]; exact hB B hBe
    · rw [e] at hBe
      injection hBe with hBe
      injection hBe with hBe
      refine ⟨by omega, fun j y hy => ?_⟩
      by_cases hj : j < ts.length
      · rw [List.getElem?_append_left hj] at hy
        have := hall j y hy
        omega
      · rw [List.getElem?_append_right (by omega)] at hy
        have h0 := (List.getElem?_eq_some_iff.1 hy).1
        have hj0 : j - ts.length = 0 := by simpa using h0
        rw [hj0] at hy
        injection hy with hy
        rw [← hy]
        omega
  refine ⟨?_, fun B hBe => (hYB B hBe).2⟩
  rw [List.length_append, List.flatMap_append]
  refine ⟨by simpa using ho.1, ?_⟩
  rcases ho.2 with ⟨e1, e2⟩ | ⟨g, c2, cur, e1, _, hr⟩
  · injection e1 with _ e3 _; omega
  · injection e1 with e4 e5 e6
    refine .inr ⟨g, c2, cur, by rw [e4, e6], (hYB g e4).1, ?_⟩
    simpa using hr
end
end Go.Proofs.YtgpnbiaghokjkaaDoor

/-! Layer 21, the landed code: its reader in memory. -/
namespace Go.Proofs.YtgpnbiaghokjkaaDoor
open Go.RowKit
set_option linter.unusedVariables false
set_option linter.unusedSimpArgs false
set_option maxRecDepth 100000

/-- All below N is as it was, but for the reader. -/
structure BX (N R : Nat) (w w' : World) : Prop where
  os : w'.os = w.os
  tape : w'.tape = w.tape
  output : w'.output = w.output
  size : w.heap.size ≤ w'.heap.size
  block : ∀ k, k < N → k ≠ R → w'.heap[k]? = w.heap[k]?
section
variable {N R : Nat} {a b c : World}
theorem BX.refl (w : World) : BX N R w w := ⟨rfl, rfl, rfl, Nat.le_refl _, fun _ _ _ => rfl⟩
theorem BX.trans (h : BX N R a b) (k : BX N R b c) : BX N R a c := ⟨k.os.trans h.os, k.tape.trans h.tape, k.output.trans h.output, Nat.le_trans h.size k.size, fun i hi hn => (k.block i hi hn).trans (h.block i hi hn)⟩
theorem BX.of (h : Below N a b) : BX N R a b := ⟨h.os, h.tape, h.output, h.size, fun k hk _ => h.block k hk⟩
theorem BX.ofB (h : Below a.heap.size a b) (hN : N ≤ a.heap.size) : BX N R a b := .of (h.mono hN)
theorem BX.on (h : BX N R a b) (k : Below b.heap.size b c) (hN : N ≤ b.heap.size) : BX N R a c := h.trans (.ofB k hN)
theorem BX.dr (h : BX N R a b) (d : Dr b c) : BX N R a c := by
  obtain ⟨k, rfl⟩ := d
  exact ⟨h.os, h.tape, h.output, h.size, h.block⟩
theorem BX.but (h : BX N R a b) {D : Nat} (hs : SameBut D b c) (hD : D = R ∨ N ≤ D) : BX N R a c :=
  h.trans ⟨hs.os, hs.tape, hs.output, by rw [hs.size]; exact Nat.le_refl _, fun k hk hn => hs.block k (by rcases hD with rfl | hD; exact hn; omega)⟩
end
/-- The reader's cells. -/
def rdS (ln : Nat) (c : Cfg) (xs : List Value) (pg cl : Nat) : List Value := .int .i64 (ln : Int) :: (c.vals ++ (xs ++ [.int .i64 (pg : Int), .int .i64 (cl : Int)]))
/-- The reader, and the chip that it makes in memory of its own. -/
structure RdM (N R ln : Nat) (c : Cfg) (t : St) (pB eB bB : Nat) (ps : List (Nat × Nat)) (pg cl : Nat) (W : World) : Prop where
  row : Row W R 61 (rdS ln c (ownVals t pB eB bB) pg cl)
  own : OwnX W N t pB eB bB ps
  h8 : ∀ p ∈ t.pages, ∀ x ∈ p, x.length = 32
  sz : N ≤ W.heap.size
theorem row_type {W : World} {b t t' : Nat} {cs cs' : List Value} (h : Row W b t cs) (h' : Row W b t' cs') : t = t' := by
  have e : some (Obj.cells cs.toArray t (0, 0)) = some (Obj.cells cs'.toArray t' (0, 0)) := h.symm.trans h'
  injection e with e
  injection e
section
variable {N R ln : Nat} {c : Cfg} {t : St} {pB eB bB : Nat} {ps : List (Nat × Nat)} {pg cl : Nat} {W W' : World}
theorem RdM.ne (h : RdM N R ln c t pB eB bB ps pg cl W) : R ∉ pB :: eB :: bB :: ps.map (·.1) := by
  intro hm
  simp only [List.mem_cons, List.mem_map] at hm
  rcases hm with rfl | rfl | rfl | ⟨q, hq, rfl⟩
  · exact absurd (row_type h.row h.own.pg) (by decide)
  · exact absurd (row_type h.row h.own.er) (by decide)
  · exact absurd (row_type h.row h.own.bl) (by decide)
  · obtain ⟨i, hi⟩ := List.mem_iff_getElem?.1 hq
    have hil : i < ps.length := (List.getElem?_eq_some_iff.1 hi).1
    exact absurd (row_type h.row (h.own.page i q (t.pages[i]'(by rw [← h.own.len]; exact hil)) hi (List.getElem?_eq_getElem _))) (by decide)
theorem RdM.below (h : RdM N R ln c t pB eB bB ps pg cl W) (hb : Below W.heap.size W W') : RdM N R ln c t pB eB bB ps pg cl W' :=
  ⟨h.row.below hb h.row.lt, h.own.below hb, h.h8, Nat.le_trans h.sz hb.size⟩
theorem RdM.dr (h : RdM N R ln c t pB eB bB ps pg cl W) (d : Dr W W') : RdM N R ln c t pB eB bB ps pg cl W' := by
  obtain ⟨k, rfl⟩ := d
  exact ⟨h.row, h.own.keep fun _ _ => rfl, h.h8, h.sz⟩
theorem RdM.c0 (h : RdM N R ln c t pB eB bB ps pg cl W) : W.cell? ⟨R, 0, none⟩ = some (.int .i64 (ln : Int)) := h.row.cell 0 _ rfl
theorem RdM.c1 (h : RdM N R ln c t pB eB bB ps pg cl W) : W.cell? ⟨R, 1, none⟩ = some (.int .i64 c.cells) := h.row.cell 1 _ rfl
theorem RdM.c8 (h : RdM N R ln c t pB eB bB ps pg cl W) : W.cell? ⟨R, 8, none⟩ = some (.slice (some ⟨pB, 0, none⟩) t.pages.length t.pages.length) := h.row.cell 8 _ rfl
theorem RdM.c9 (h : RdM N R ln c t pB eB bB ps pg cl W) : W.cell? ⟨R, 9, none⟩ = some (.slice (some ⟨eB, 0, none⟩) t.erases.length t.erases.length) := h.row.cell 9 _ rfl
theorem RdM.c10 (h : RdM N R ln c t pB eB bB ps pg cl W) : W.cell? ⟨R, 10, none⟩ = some (.slice (some ⟨bB, 0, none⟩) t.blown.length t.blown.length) := h.row.cell 10 _ rfl
theorem RdM.c11 (h : RdM N R ln c t pB eB bB ps pg cl W) : W.cell? ⟨R, 11, none⟩ = some (.int .i64 (pg : Int)) := h.row.cell 11 _ rfl
theorem RdM.c12 (h : RdM N R ln c t pB eB bB ps pg cl W) : W.cell? ⟨R, 12, none⟩ = some (.int .i64 (cl : Int)) := h.row.cell 12 _ rfl
theorem RdM.keepR (h : RdM N R ln c t pB eB bB ps pg cl W) (hs : SameBut R W W') {ln' pg' cl' : Nat} (hr : Row W' R 61 (rdS ln' c (ownVals t pB eB bB) pg' cl')) : RdM N R ln' c t pB eB bB ps pg' cl' W' :=
  ⟨hr, h.own.keep fun b hb => hs.block b (fun e => h.ne (e ▸ hb)), h.h8, by rw [hs.size]; exact h.sz⟩
theorem RdM.setLn (h : RdM N R ln c t pB eB bB ps pg cl W) (ln' : Nat) : RdM N R ln' c t pB eB bB ps pg cl (W.setCell ⟨R, 0, none⟩ (.int .i64 (ln' : Int))) :=
  h.keepR (SameBut.setCell _ _ _ _) (h.row.set 0 _)
theorem RdM.setPs (h : RdM N R ln c t pB eB bB ps pg cl W) (pg' : Nat) : RdM N R ln c t pB eB bB ps pg' cl (W.setCell ⟨R, 11, none⟩ (.int .i64 (pg' : Int))) :=
  h.keepR (SameBut.setCell _ _ _ _) (h.row.set 11 _)
theorem RdM.setCl (h : RdM N R ln c t pB eB bB ps pg cl W) (cl' : Nat) : RdM N R ln c t pB eB bB ps pg cl' (W.setCell ⟨R, 12, none⟩ (.int .i64 (cl' : Int))) :=
  h.keepR (SameBut.setCell _ _ _ _) (h.row.set 12 _)
theorem nd3 (h : OwnX W N t pB eB bB ps) : pB ≠ eB ∧ pB ≠ bB ∧ eB ≠ bB ∧ pB ∉ ps.map (·.1) ∧ eB ∉ ps.map (·.1) ∧ bB ∉ ps.map (·.1) ∧ (ps.map (·.1)).Nodup := by
  have := h.nd
  simp only [List.nodup_cons, List.mem_cons, not_or] at this
  obtain ⟨⟨a1, a2, a3⟩, ⟨b1, b2⟩, c1, d⟩ := this
  exact ⟨a1, a2, b1, a3, b2, c1, d⟩
theorem RdM.setEr (h : RdM N R ln c t pB eB bB ps pg cl W) (p : Nat) (e : Int) : RdM N R ln c ⟨t.pages, t.erases.set p e, t.blown⟩ pB eB bB ps pg cl (W.setCell ⟨eB, p, none⟩ (.int .i64 e)) := by
  obtain ⟨n1, n2, n3, n4, n5, n6, n7⟩ := nd3 h.own
  have sb := SameBut.setCell eB p (.int .i64 e) W
  refine ⟨?_, ⟨h.own.len, h.own.pg.but sb n1, fun i q g hq hg => (h.own.page i q g hq hg).but sb (fun e => n5 (e ▸ List.mem_map_of_mem (List.mem_of_getElem? hq))), ?_, h.own.bl.but sb (Ne.symm n3), h.own.nd, h.own.lo, h.own.cap⟩, h.h8, by rw [sb.size]; exact h.sz⟩
  · have e1 : ownVals ⟨t.pages, t.erases.set p e, t.blown⟩ pB eB bB = ownVals t pB eB bB := by simp [ownVals]
    rw [e1]
    exact h.row.but sb (fun e => h.ne (by rw [e]; simp))
  · have := h.own.er.set p (.int .i64 e)
    show Row _ _ _ ((t.erases.set p e).map (Value.int .i64))
    rw [List.map_set]; exact this
theorem RdM.setBl (h : RdM N R ln c t pB eB bB ps pg cl W) (p : Nat) (e : Bool) : RdM N R ln c ⟨t.pages, t.erases, t.blown.set p e⟩ pB eB bB ps pg cl (W.setCell ⟨bB, p, none⟩ (.bool e)) := by
  obtain ⟨n1, n2, n3, n4, n5, n6, n7⟩ := nd3 h.own
  have sb := SameBut.setCell bB p (.bool e) W
  refine ⟨?_, ⟨h.own.len, h.own.pg.but sb n2, fun i q g hq hg => (h.own.page i q g hq hg).but sb (fun e => n6 (e ▸ List.mem_map_of_mem (List.mem_of_getElem? hq))), h.own.er.but sb n3, ?_, h.own.nd, h.own.lo, h.own.cap⟩, h.h8, by rw [sb.size]; exact h.sz⟩
  · have e1 : ownVals ⟨t.pages, t.erases, t.blown.set p e⟩ pB eB bB = ownVals t pB eB bB := by simp [ownVals]
    rw [e1]
    exact h.row.but sb (fun e => h.ne (by rw [e]; simp))
  · have := h.own.bl.set p (.bool e)
    show Row _ _ _ ((t.blown.set p e).map Value.bool)
    rw [List.map_set]; exact this
theorem RdM.setCell (h : RdM N R ln c t pB eB bB ps pg cl W) (p : Nat) (hp : p < t.pages.length) (n : Nat) (x : List By) (hn : n < (t.pages.getD p []).length) (hx : x.length = 32) (q : Nat × Nat) (hq : ps[p]? = some q) (hs : SameBut q.1 W W')
    (hr : Row W' q.1 56 (((t.pages.getD p []).set n x).flatten.map B8)) : RdM N R ln c ⟨t.pages.set p ((t.pages.getD p []).set n x), t.erases, t.blown⟩ pB eB bB ps pg cl W' := by
  obtain ⟨n1, n2, n3, n4, n5, n6, n7⟩ := nd3 h.own
  have hm : q.1 ∈ ps.map (·.1) := List.mem_map_of_mem (List.mem_of_getElem? hq)
  have hd : t.pages.getD p [] = t.pages[p] := by rw [List.getD_eq_getElem?_getD, List.getElem?_eq_getElem hp]; rfl
  have hz : List.zipWith pgVal ps (t.pages.set p ((t.pages.getD p []).set n x)) = List.zipWith pgVal ps t.pages := by
    apply List.ext_getElem?
    intro j
    rw [List.getElem?_zipWith, List.getElem?_zipWith, List.getElem?_set]
    by_cases hj : p = j
    · subst hj
      rw [if_pos rfl, if_pos hp, hq, List.getElem?_eq_getElem hp, hd]
      simp [pgVal]
    · rw [if_neg hj]
  refine ⟨?_, ⟨by rw [List.length_set]; exact h.own.len, ?_, fun i q' g hq' hg => ?_, h.own.er.but hs (fun e => n5 (e ▸ hm)), h.own.bl.but hs (fun e => n6 (e ▸ hm)), h.own.nd, h.own.lo, fun i q' g hq' hg => ?_⟩, fun g hg y hy => ?_, by rw [hs.size]; exact h.sz⟩
  · have e1 : ownVals ⟨t.pages.set p ((t.pages.getD p []).set n x), t.erases, t.blown⟩ pB eB bB = ownVals t pB eB bB := by simp [ownVals]
    rw [e1]
    exact h.row.but hs (fun e => h.ne (by rw [e]; simp only [List.mem_cons]; exact .inr (.inr (.inr hm))))
  · show Row _ _ _ (List.zipWith pgVal ps (t.pages.set p ((t.pages.getD p []).set n x)))
    rw [hz]
    exact h.own.pg.but hs (fun e => n4 (e ▸ hm))
  · have hg : (t.pages.set p ((t.pages.getD p []).set n x))[i]? = some g := hg
    rw [List.getElem?_set] at hg
    by_cases hi : p = i
    · subst hi
      rw [if_pos rfl, if_pos hp] at hg
      injection hg with hg
      subst hg
      rw [hq] at hq'
      injection hq' with hq'
      subst hq'
      exact hr
    · rw [if_neg hi] at hg
      refine (h.own.page i q' g hq' hg).but hs (fun e => ?_)
      have h1 : (ps.map (·.1))[i]? = some q'.1 := by rw [List.getElem?_map, hq']; rfl
      have h2 : (ps.map (·.1))[p]? = some q.1 := by rw [List.getElem?_map, hq]; rfl
      rw [e] at h1
      obtain ⟨l1, g1⟩ := List.getElem?_eq_some_iff.1 h1
      obtain ⟨l2, g2⟩ := List.getElem?_eq_some_iff.1 h2
      exact hi ((List.nodup_iff_pairwise_ne.1 n7 |> fun hp => by
        rcases Nat.lt_trichotomy p i with hlt | heq | hgt
        · exact absurd (g2.trans g1.symm) (List.pairwise_iff_getElem.1 hp p i l2 l1 hlt)
        · exact heq
        · exact absurd (g1.trans g2.symm) (List.pairwise_iff_getElem.1 hp i p l1 l2 hgt)))
  · have hg : (t.pages.set p ((t.pages.getD p []).set n x))[i]? = some g := hg
    rw [List.getElem?_set] at hg
    by_cases hi : p = i
    · subst hi
      rw [if_pos rfl, if_pos hp] at hg
      injection hg with hg
      subst hg
      rw [List.length_set, hd]
      exact h.own.cap p q' _ hq' (List.getElem?_eq_getElem hp)
    · rw [if_neg hi] at hg
      exact h.own.cap i q' g hq' hg
  · have hg : g ∈ t.pages.set p ((t.pages.getD p []).set n x) := hg
    rcases List.mem_or_eq_of_mem_set hg with hg | rfl
    · exact h.h8 g hg y hy
    · rcases List.mem_or_eq_of_mem_set hy with hy | rfl
      · exact h.h8 _ (by rw [hd]; exact List.getElem_mem hp) y hy
      · exact hx
theorem RdM.pgAt (h : RdM N R ln c t pB eB bB ps pg cl W) (i : Nat) (hi : i < t.pages.length) : ∃ q : Nat × Nat, ps[i]? = some q ∧ W.cell? ⟨pB, i, none⟩ = some (.slice (some ⟨q.1, 0, none⟩) (t.pages.getD i []).length q.2) ∧ Row W q.1 56 ((t.pages.getD i []).flatten.map B8) ∧ q.2 = (t.pages.getD i []).length := by
  have hq : ps[i]? = some (ps[i]'(by rw [h.own.len]; exact hi)) := List.getElem?_eq_getElem _
  have hpp : t.pages[i]? = some t.pages[i] := List.getElem?_eq_getElem hi
  have hd : t.pages.getD i [] = t.pages[i] := by rw [List.getD_eq_getElem?_getD, hpp]; rfl
  rw [hd]
  exact ⟨_, hq, h.own.pg.cell i _ (by rw [List.getElem?_zipWith, hq, hpp]; rfl), h.own.page i _ _ hq hpp, h.own.cap i _ _ hq hpp⟩
theorem RdM.erAt (h : RdM N R ln c t pB eB bB ps pg cl W) (i : Nat) (hi : i < t.erases.length) : W.cell? ⟨eB, i, none⟩ = some (.int .i64 (t.erases.getD i 0)) :=
  h.own.er.cell i _ (by rw [List.getElem?_map, List.getD_eq_getElem?_getD, List.getElem?_eq_getElem hi]; rfl)
theorem RdM.blAt (h : RdM N R ln c t pB eB bB ps pg cl W) (i : Nat) (hi : i < t.blown.length) : W.cell? ⟨bB, i, none⟩ = some (.bool (t.blown.getD i false)) :=
  h.own.bl.cell i _ (by rw [List.getElem?_map, List.getD_eq_getElem?_getD, List.getElem?_eq_getElem hi]; rfl)
end
/-- The slices of such a chip. -/
def svO (t : St) (pB eB bB : Nat) : SV := ⟨some ⟨pB, 0, none⟩, t.pages.length, some ⟨eB, 0, none⟩, t.erases.length, some ⟨bB, 0, none⟩, t.blown.length⟩
theorem svO_vals (t : St) (pB eB bB : Nat) : (svO t pB eB bB).vals t = ownVals t pB eB bB := rfl
theorem owns_row {W : World} {N g e n : Nat} {size : Nat} {xs : List Value} (h : Row W g e xs) (hN : N ≤ g) (hl : xs.length = n * size) (hm : n ≤ 140737488355328) : W.ownsRow N e size (.slice (some ⟨g, 0, none⟩) n n) n xs := by
  refine ⟨hl, .inr ⟨g, n, xs.toArray, rfl, hN, h, Nat.le_refl _, by unfold maxLen; omega, by simpa using hl, ?_⟩⟩
  simp
  exact List.take_of_length_le (by omega)
theorem flat32 : ∀ (p : List (List By)), (∀ x ∈ p, x.length = 32) → (p.flatten.map B8).length = p.length * 32
  | [], _ => rfl
  | x :: p, h => by
    have := flat32 p (fun y hy => h y (List.mem_cons_of_mem _ hy))
    rw [List.length_map] at this ⊢
    rw [List.flatten_cons, List.length_append, List.length_cons, h x (List.mem_cons_self ..), this]; omega
/-- How long such a chip's lists are. -/
structure Smol (t : St) : Prop where
  p : t.pages.length ≤ 130
  e : t.erases.length ≤ 130
  b : t.blown.length ≤ 576
  g : ∀ p ∈ t.pages, 0 < p.length ∧ p.length ≤ 256
theorem RdM.tld {N R ln : Nat} {c : Cfg} {t : St} {pB eB bB : Nat} {ps : List (Nat × Nat)} {pg cl : Nat} {W : World} (h : RdM N R ln c t pB eB bB ps pg cl W) (hs : Smol t) : Tld N W.heap.size W (svO t pB eB bB) t (List.zipWith pgVal ps t.pages) := by
  obtain ⟨n1, n2, n3, n4, n5, n6, n7⟩ := nd3 h.own
  have hl := h.own.lo
  have hlt := h.own.lt
  have hz : (List.zipWith pgVal ps t.pages).length = t.pages.length := by rw [List.length_zipWith, h.own.len, Nat.min_self]
  have at_ : ∀ (j B n c' : Nat), (List.zipWith pgVal ps t.pages)[j]? = some (.slice (some ⟨B, 0, none⟩) n c') → ∃ q, ps[j]? = some q ∧ q.1 = B := fun j B n c' he => by
    rw [List.getElem?_zipWith] at he
    cases hq : ps[j]? with
    | none => rw [hq] at he; cases he
    | some q =>
      cases hp : t.pages[j]? with
      | none => rw [hq, hp] at he; cases he
      | some p =>
        rw [hq, hp] at he
        have he : some (pgVal q p) = some (.slice (some ⟨B, 0, none⟩) n c') := he
        injection he with he
        unfold pgVal at he
        injection he with h1 _ _
        injection h1 with h1
        injection h1 with h1
        exact ⟨q, rfl, h1⟩
  refine ⟨owns_row h.own.pg (hl _ (by simp)) (by rw [hz, Nat.mul_one]) (by have := hs.p; omega), fun i x g hx hg => ?_, owns_row h.own.er (hl _ (by simp)) (by rw [List.length_map, Nat.mul_one]) (by have := hs.e; omega), owns_row h.own.bl (hl _ (by simp)) (by rw [List.length_map, Nat.mul_one]) (by have := hs.b; omega), fun g hg => (hs.g g hg).1, fun i j B n c' n' c'' hij h1 h2 => ?_, Nat.le_refl _, fun B hB => ?_, fun B hB => ?_, fun B hB => ?_, fun j B n c' hq => ?_⟩
  · rw [List.getElem?_zipWith, hg] at hx
    cases hq : ps[i]? with
    | none => rw [hq] at hx; cases hx
    | some q =>
      rw [hq] at hx
      have hx : some (pgVal q g) = some x := hx
      injection hx with hx
      subst hx
      have hgm := List.mem_of_getElem? hg
      have hcap := h.own.cap i q g hq hg
      have h8 := h.h8 g hgm
      refine ⟨?_, ?_, h8⟩
      · unfold pgVal
        rw [hcap]
        exact owns_row (h.own.page i q g hq hg) (hl _ (by simp only [List.mem_cons]; exact .inr (.inr (.inr (List.mem_map_of_mem (List.mem_of_getElem? hq)))))) (flat32 g h8) (by have := (hs.g g hgm).2; omega)
      · have := hl pB (by simp)
        have := h.own.pg.lt
        omega
  · obtain ⟨q1, e1, f1⟩ := at_ i B n c' h1
    obtain ⟨q2, e2, f2⟩ := at_ j B n' c'' h2
    have g1 : (ps.map (·.1))[i]? = some B := by rw [List.getElem?_map, e1]; simp [f1]
    have g2 : (ps.map (·.1))[j]? = some B := by rw [List.getElem?_map, e2]; simp [f2]
    obtain ⟨l1, k1⟩ := List.getElem?_eq_some_iff.1 g1
    obtain ⟨l2, k2⟩ := List.getElem?_eq_some_iff.1 g2
    have hp := List.nodup_iff_pairwise_ne.1 n7
    rcases Nat.lt_trichotomy i j with hlt | heq | hgt
    · exact absurd (k1.trans k2.symm) (List.pairwise_iff_getElem.1 hp i j l1 l2 hlt)
    · exact hij heq
    · exact absurd (k2.trans k1.symm) (List.pairwise_iff_getElem.1 hp j i l2 l1 hgt)
  · injection hB with hB
    injection hB with hB
    subst hB
    exact h.own.pg.lt
  · injection hB with hB
    injection hB with hB
    subst hB
    exact h.own.er.lt
  · injection hB with hB
    injection hB with hB
    subst hB
    exact h.own.bl.lt
  · obtain ⟨q, e1, f1⟩ := at_ j B n c' hq
    subst f1
    exact hlt _ (by simp only [List.mem_cons]; exact .inr (.inr (.inr (List.mem_map_of_mem (List.mem_of_getElem? e1)))))
/-- The reader's line. -/
def LnAt (R ln : Nat) (W : World) : Prop := W.cell? ⟨R, 0, none⟩ = some (.int .i64 (ln : Int))
/-- What a line's taker leaves: a panic with the line told, or what is told. -/
def TkE (N R ln : Nat) (k : Int) (w : World) (e : Ending) (w' : World) : Prop := e = pan k ∧ LnAt R ln w' ∧ BX N R w w'
end Go.Proofs.YtgpnbiaghokjkaaDoor
