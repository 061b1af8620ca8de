
import Derived.Test.YtcpdanjbnijoiaaGreatDoorR4Copy
/-! The reference's Lay. -/
namespace Go.Proofs.YtcpdanjbnijoiaaGreatDoor
open Go.RowKit

theorem owns_pre {w : World} {N e size n c g : Nat} {xs : List Value} (h : w.ownsRow N e size (.slice (some ⟨g, 0, none⟩) n c) n xs) : Pre w g e xs := by
  rcases h.2 with ⟨h1, _⟩ | ⟨g', c', cur, h1, h2, h3, h4, h5, h6, h7⟩
  · cases h1
  · injection h1 with e1
    injection e1 with e1
    injection e1 with e1
    subst e1
    refine ⟨cur.toList.drop (n * size), ?_⟩
    unfold Row
    rw [← h7, List.take_append_drop]
    exact h3
theorem OwnSt.hasB {w : World} {N : Nat} {pgs : List (List (List By))} {er : List Int} {bl : List Bool} {po : Option Addr} {pc : Nat} {ps : List (Nat × Nat)} {eB ec bB bc : Nat} (h : OwnSt w N pgs er bl po pc ps eB ec bB bc) (hp : 0 < pgs.length) : ∃ pB, po = some ⟨pB, 0, none⟩ ∧ N ≤ pB ∧ pB < w.heap.size := by
  rcases h.pg.2 with ⟨h1, h2⟩ | ⟨g, c', cur, h1, h2, h3, _⟩
  · omega
  · injection h1 with e1
    exact ⟨g, e1, h2, (Array.getElem?_eq_some_iff.1 h3).1⟩

/-- A chip over a state in memory of its own. -/
theorem OwnSt.rat {w : World} {N : Nat} {pgs : List (List (List By))} {er : List Int} {bl : List Bool} {pB pc : Nat} {ps : List (Nat × Nat)} {eB ec bB bc : Nat} (h : OwnSt w N pgs er bl (some ⟨pB, 0, none⟩) pc ps eB ec bB bc) (c : Cfg) (n : Int) (gone : Bool) (wait : Int) (mask : List By) (g : Nat) (mo : Option Addr) (mcap : Nat) (mb : Option Nat)
    (hrow : Row w g 46 (RS.cellsOf ⟨c, pgs, er, bl, n, gone, wait, mask⟩ ⟨g, pB, pc, eB, ec, bB, bc, ps, mo, mcap, mb⟩)) (hok : RS.Ok ⟨c, pgs, er, bl, n, gone, wait, mask⟩) (hg : g ∉ pB :: eB :: bB :: ps.map (·.1)) (hmg : ∀ B, mb = some B → B ∉ g :: pB :: eB :: bB :: ps.map (·.1) ∧ B < w.heap.size)
    (hm : mask = [] ∨ ∃ B, mb = some B ∧ mo = some ⟨B, 0, none⟩ ∧ Pre w B 5 (mask.map B8)) : RAt w ⟨g, pB, pc, eB, ec, bB, bc, ps, mo, mcap, mb⟩ ⟨c, pgs, er, bl, n, gone, wait, mask⟩ := by
  refine ⟨hrow, h.len, owns_pre h.pg, fun i q p hq hp => owns_pre (h.page i q p hq hp), owns_pre h.er, owns_pre h.bl, hm, fun B hB => (hmg B hB).2, ?_, hok⟩
  have hnd : (g :: pB :: eB :: bB :: ps.map (·.1)).Nodup := List.nodup_cons.2 ⟨hg, List.nodup_cons.2 ⟨h.ndp pB rfl, h.nd⟩⟩
  show (g :: pB :: eB :: bB :: (ps.map (·.1) ++ mb.toList)).Nodup
  cases mb with
  | none => simpa using hnd
  | some B =>
    have : g :: pB :: eB :: bB :: (ps.map (·.1) ++ (some B).toList) = (g :: pB :: eB :: bB :: ps.map (·.1)) ++ [B] := by simp
    rw [this]
    refine List.nodup_append.2 ⟨hnd, by simp, ?_⟩
    intro a ha b hb e
    simp at hb
    subst hb
    exact (hmg _ rfl).1 (e ▸ ha)

theorem may_parts {c : Cfg} (hc : c.may = 0) : (1 ≤ c.slots ∧ c.slots ≤ 8) ∧ (c.slots + 3 ≤ c.cells ∧ c.cells ≤ 256) ∧ (1 ≤ c.fuses ∧ c.fuses ≤ 64) ∧ (1 ≤ c.keys ∧ c.keys ≤ 64) ∧ (0 ≤ c.area ∧ c.area ≤ 64) := by
  unfold Cfg.may at hc
  split at hc
  · rename_i hh
    simp [Cfg.a, Cfg.b] at hh
    omega
  · omega

/-- A chip that holds a state, as Lay leaves it. -/
def layS (c : Cfg) (t : St) : RS := ⟨c, t.pages, t.erases, t.blown, 0, false, -1, []⟩
theorem lay_ok {c : Cfg} {t : St} (hc : c.may = 0) (hf : Fit c t) (h8 : ∀ p ∈ t.pages, ∀ x ∈ p, x.length = 32) : (layS c t).Ok := by
  obtain ⟨⟨s1, s2⟩, ⟨q1, q2⟩, ⟨f1, f2⟩, ⟨k1, k2⟩, ar1, ar2⟩ := may_parts hc
  obtain ⟨h1, h2, h3, h4⟩ := hf
  have hmul : c.slots * c.fuses ≤ 512 := by
    have := Int.mul_le_mul s2 f2 (by omega) (by omega); omega
  refine ⟨by show t.erases.length = t.pages.length; omega, by show t.pages.length ≤ 130; omega, by show t.blown.length ≤ 576; omega, ?_, by show 1 ≤ c.cells; omega, by show c.cells ≤ 256; omega, h8⟩
  intro p hp
  change p ∈ t.pages at hp
  obtain ⟨i, hi⟩ := List.mem_iff_getElem?.1 hp
  have hlt := (List.getElem?_eq_some_iff.1 hi).1
  have := (h4 i hlt).1
  rw [List.getD_eq_getElem?_getD, hi] at this
  exact this

theorem OwnSt.below {w w' : World} {N : Nat} {pgs : List (List (List By))} {er : List Int} {bl : List Bool} {po : Option Addr} {pc : Nat} {ps : List (Nat × Nat)} {eB ec bB bc : Nat} (h : OwnSt w N pgs er bl po pc ps eB ec bB bc) (hb : Below w.heap.size w w') : OwnSt w' N pgs er bl po pc ps eB ec bB bc := by
  have key : ∀ {e size n c : Nat} {ao : Option Addr} {xs : List Value}, w.ownsRow N e size (.slice ao n c) n xs → w'.ownsRow N e size (.slice ao n c) n xs := by
    intro e size n c ao xs hh
    refine owns_kept hh fun g' hg' => hb.block _ ?_
    subst hg'
    exact (owns_lt hh).2
  exact ⟨h.len, key h.pg, fun i q p hq hp => key (h.page i q p hq hp), key h.er, key h.bl, h.nd, h.ndp⟩

/-- The cells of a chip that Lay lays. -/
def layCells (cf : List Value) (t : St) (po : Option Addr) (pc eB ec bB bc : Nat) : List Value := cf ++ [.slice po t.pages.length pc, .slice (some ⟨eB, 0, none⟩) t.erases.length ec, .slice (some ⟨bB, 0, none⟩) t.blown.length bc, .int .i64 0, .bool false, .int .i64 (-1), .slice none 0 0]

/-- What has come up of '&Chip{C: c, S: CopyState(s), Wait: -1}, OK'. -/
structure LI (w2 : World) (t : St) (cf sv : List Value) (L : Nat → Bool) (x18 x19 x20 x21 x22 x4 x5 : Value) (po : Option Addr) (pc : Nat) (ps : List (Nat × Nat)) (eB ec bB bc g : Nat) (W : World) : Prop where
  bel : Below w2.heap.size w2 W
  e0 : L 0 = true → x18 = .agg cf.toArray
  e1 : L 1 = true → x19 = .agg sv.toArray
  e2 : L 2 = true → x20 = .agg #[.slice po t.pages.length pc, .slice (some ⟨eB, 0, none⟩) t.erases.length ec, .slice (some ⟨bB, 0, none⟩) t.blown.length bc] ∧ OwnSt W w2.heap.size t.pages t.erases t.blown po pc ps eB ec bB bc
  e3 : L 3 = true → x21 = .agg (layCells cf t po pc eB ec bB bc).toArray
  e4 : L 4 = true → x22 = .pointer (some ⟨g, 0, none⟩) ∧ Row W g 46 (layCells cf t po pc eB ec bB bc) ∧ w2.heap.size ≤ g ∧ g < W.heap.size ∧ g ∉ eB :: bB :: ps.map (·.1) ∧ ∀ b, po = some ⟨b, 0, none⟩ → g ≠ b
  e5 : L 5 = true → x4 = .pointer (some ⟨g, 0, none⟩)
  e6 : L 6 = true → x5 = .int .i64 0
  l32 : L 3 = true → L 2 = true
  l43 : L 4 = true → L 3 = true
  l54 : L 5 = true → L 4 = true

section
variable {w2 : World} {t : St} {cf sv : List Value} {L : Nat → Bool} {x18 x19 x20 x21 x22 x4 x5 : Value} {po : Option Addr} {pc : Nat} {ps : List (Nat × Nat)} {eB ec bB bc g : Nat} {W W' : World}

theorem LI.zero (w2 : World) (t : St) (cf sv : List Value) (x18 x19 x20 x21 x22 x4 x5 : Value) : LI w2 t cf sv (fun _ => false) x18 x19 x20 x21 x22 x4 x5 none 0 [] 0 0 0 0 0 w2.drew := by
  constructor <;> first | exact (Below.refl _ _).drew | (intros; contradiction)
theorem LI.s0 (h : LI w2 t cf sv L x18 x19 x20 x21 x22 x4 x5 po pc ps eB ec bB bc g W) : LI w2 t cf sv (upd L 0) (.agg cf.toArray) x19 x20 x21 x22 x4 x5 po pc ps eB ec bB bc g W :=
  ⟨h.bel, fun _ => rfl, h.e1, h.e2, h.e3, h.e4, h.e5, h.e6, h.l32, h.l43, h.l54⟩
theorem LI.s1 (h : LI w2 t cf sv L x18 x19 x20 x21 x22 x4 x5 po pc ps eB ec bB bc g W) : LI w2 t cf sv (upd L 1) x18 (.agg sv.toArray) x20 x21 x22 x4 x5 po pc ps eB ec bB bc g W :=
  ⟨h.bel, h.e0, fun _ => rfl, h.e2, h.e3, h.e4, h.e5, h.e6, h.l32, h.l43, h.l54⟩
theorem LI.s2 (h : LI w2 t cf sv L x18 x19 x20 x21 x22 x4 x5 po pc ps eB ec bB bc g W) (hL : L 2 = false) {po' : Option Addr} {pc' : Nat} {ps' : List (Nat × Nat)} {eB' ec' bB' bc' : Nat} (ho : OwnSt W' W.heap.size t.pages t.erases t.blown po' pc' ps' eB' ec' bB' bc') (hb : Below W.heap.size W W') :
    LI w2 t cf sv (upd L 2) x18 x19 (.agg #[.slice po' t.pages.length pc', .slice (some ⟨eB', 0, none⟩) t.erases.length ec', .slice (some ⟨bB', 0, none⟩) t.blown.length bc']) x21 x22 x4 x5 po' pc' ps' eB' ec' bB' bc' g W' :=
  have h3 : L 3 = false := by cases h3 : L 3 with | false => rfl | true => exact no_of h.l32 hL h3
  have h4 : L 4 = false := by cases h4 : L 4 with | false => rfl | true => exact no_of h.l43 h3 h4
  ⟨h.bel.trans (hb.mono h.bel.size), h.e0, h.e1, fun _ => ⟨rfl, ho.base h.bel.size⟩, fun k => no_of h.l32 hL k, fun k => no_of h.l43 h3 k, h.e5, h.e6, fun _ => rfl, h.l43, h.l54⟩
theorem LI.s3 (h : LI w2 t cf sv L x18 x19 x20 x21 x22 x4 x5 po pc ps eB ec bB bc g W) (h2 : L 2 = true) : LI w2 t cf sv (upd L 3) x18 x19 x20 (.agg (layCells cf t po pc eB ec bB bc).toArray) x22 x4 x5 po pc ps eB ec bB bc g W :=
  ⟨h.bel, h.e0, h.e1, h.e2, fun _ => rfl, h.e4, h.e5, h.e6, fun _ => h2, fun _ => rfl, h.l54⟩
theorem LI.s4 (h : LI w2 t cf sv L x18 x19 x20 x21 x22 x4 x5 po pc ps eB ec bB bc g W) (hL : L 4 = false) (h3 : L 3 = true) : LI w2 t cf sv (upd L 4) x18 x19 x20 x21 (.pointer (some ⟨W.heap.size, 0, none⟩)) x4 x5 po pc ps eB ec bB bc W.heap.size (W.alloc (.cells (layCells cf t po pc eB ec bB bc).toArray 46)) := by
  have hos := (h.e2 (h.l32 h3)).2
  have h5 : L 5 = false := by cases h5 : L 5 with | false => rfl | true => exact no_of h.l54 hL h5
  refine ⟨h.bel.alloc h.bel.size _, h.e0, h.e1, fun k => ⟨(h.e2 k).1, (h.e2 k).2.below (below_alloc W _)⟩, h.e3, fun _ => ⟨rfl, heap_alloc_new W _, h.bel.size, by simp, fun hm => Nat.lt_irrefl _ (hos.lt _ hm).2, fun b hb => ?_⟩, fun k => ?_, h.e6, h.l32, fun _ => h3, fun _ => rfl⟩
  · have hp := hos.pg
    rw [hb] at hp
    exact (Nat.ne_of_lt (owns_lt hp).2).symm
  · rw [show upd L 4 5 = L 5 from rfl, h5] at k; cases k
theorem LI.s5 (h : LI w2 t cf sv L x18 x19 x20 x21 x22 x4 x5 po pc ps eB ec bB bc g W) (h4 : L 4 = true) : LI w2 t cf sv (upd L 5) x18 x19 x20 x21 x22 (.pointer (some ⟨g, 0, none⟩)) x5 po pc ps eB ec bB bc g W :=
  ⟨h.bel, h.e0, h.e1, h.e2, h.e3, h.e4, fun _ => rfl, h.e6, h.l32, h.l43, fun _ => h4⟩
theorem LI.s6 (h : LI w2 t cf sv L x18 x19 x20 x21 x22 x4 x5 po pc ps eB ec bB bc g W) : LI w2 t cf sv (upd L 6) x18 x19 x20 x21 x22 x4 (.int .i64 0) po pc ps eB ec bB bc g W :=
  ⟨h.bel, h.e0, h.e1, h.e2, h.e3, h.e4, h.e5, fun _ => rfl, h.l32, h.l43, h.l54⟩
end

@[reducible] def IL (w2 : World) (t : St) (cf sv : List Value) (y0 y1 y2 y3 y6 y7 y8 y9 y10 y11 y12 y13 y14 y15 y16 y17 : Value) : (Nat → Bool) → Act → World → Prop := fun L a W => ∃ x18 x19 x20 x21 x22 x4 x5 po pc ps eB ec bB bc g, a = ⟨#[y0, y1, y2, y3, x4, x5, y6, y7, y8, y9, y10, y11, y12, y13, y14, y15, y16, y17, x18, x19, x20, x21, x22], []⟩ ∧ LI w2 t cf sv L x18 x19 x20 x21 x22 x4 x5 po pc ps eB ec bB bc g W

set_option maxHeartbeats 2000000 in
set_option maxRecDepth 100000 in
theorem lay_any (c : Cfg) (v : SV) (t : St) (w : World) (h : StV w v t) (hne : v.eo = none → v.ec = 0) (hnb : v.bo = none → v.bc = 0) (l2 : t.erases.length ≤ 17592186044416) (l3 : t.blown.length ≤ 140737488351232) (l1 : t.pages.length ≤ 5864062014634) (hpl : ∀ p, p < t.pages.length → (t.pages.getD p []).length ≤ 4398046511104) (hnp : ∀ B off p n qc, v.po = some ⟨B, off, none⟩ → p < t.pages.length → w.cell? ⟨B, off + p, none⟩ = some (.slice none n qc) → qc = 0) :
    Calls Tryz.prog 6 #[.agg c.vals.toArray, .agg (v.vals t).toArray] w fun e w' => Below w.heap.size w w' ∧ ((c.may ≠ 0 ∧ e = .returned (.tuple #[.pointer none, .int .i64 c.may])) ∨ (c.may = 0 ∧ ¬ Fit c t ∧ e = .returned (.tuple #[.pointer none, .int .i64 5])) ∨ (c.may = 0 ∧ Fit c t ∧ ∃ F, e = .returned (.tuple #[.pointer (some ⟨F.g, 0, none⟩), .int .i64 0]) ∧ RAt w' F (layS c t) ∧ (F.mo = none → F.mcap = 0) ∧ ∀ B ∈ F.blocks, w.heap.size ≤ B)) := by
  have HMAY : Hid (∀ W, Calls Tryz.prog 22 #[.agg c.vals.toArray] W fun e w' => e = .returned (.int .i64 c.may) ∧ Below W.heap.size W w') := fun W => may_any c W
  have hV : ∀ W, Below w.heap.size w W → StV W v t := fun W hW => h.below hW (Nat.le_refl _)
  have HP : Hid (∀ W, Below w.heap.size w W → ∀ B off p n qc, v.po = some ⟨B, off, none⟩ → p < t.pages.length → W.cell? ⟨B, off + p, none⟩ = some (.slice none n qc) → qc = 0) := by
    intro W hW B off p n qc e1 e2 e3
    obtain ⟨B', off', qo, qc', f1, f2, _⟩ := h.page p e2
    rw [e1] at f1
    injection f1 with f1
    injection f1 with f3 f4
    subst f3 f4
    refine hnp B off p n qc e1 e2 ?_
    rw [← e3]
    exact (hW.cell (World.block_lt_of_cell? _ _ f2)).symm
  have HC : Hid (∀ W, Below w.heap.size w W → Calls Tryz.prog 24 #[.agg (v.vals t).toArray] W fun e w' => ∃ po pc ps eB ec bB bc, e = .returned (.agg #[.slice po t.pages.length pc, .slice (some ⟨eB, 0, none⟩) t.erases.length ec, .slice (some ⟨bB, 0, none⟩) t.blown.length bc]) ∧ OwnSt w' W.heap.size t.pages t.erases t.blown po pc ps eB ec bB bc ∧ Below W.heap.size W w') := fun W hW => copyState_any v t W (hV W hW) hne hnb l2 l3 l1 hpl (HP.out W hW)
  have HF : Hid (c.may = 0 → ∀ W, Below w.heap.size w W → ∀ r : Bool, (r = true ↔ Fit c t) → Calls Tryz.prog 23 #[.agg c.vals.toArray, .agg (v.vals t).toArray] W fun e w' => e = .returned (.bool r) ∧ Below W.heap.size W w') := fun hc W hW r hr => fits_any c v t W (hV W hW) hc (by omega) (by omega) (by omega) r hr
  clear hV hnp hpl
  have r0 : Row ((w.alloc (.cells c.vals.toArray 23)).alloc (.cells (v.vals t).toArray 28)) w.heap.size 23 c.vals := (Row.at _ _ _ _ _ rfl rfl).alloc _
  have r1 : Row ((w.alloc (.cells c.vals.toArray 23)).alloc (.cells (v.vals t).toArray 28)) (w.heap.size + 1) 28 (v.vals t) := Row.at _ _ _ _ _ (by simp) rfl
  have bb : Below w.heap.size w ((w.alloc (.cells c.vals.toArray 23)).alloc (.cells (v.vals t).toArray 28)) := ((Below.refl _ _).alloc (Nat.le_refl _) _).alloc (by simp) _
  have hsz : ((w.alloc (.cells c.vals.toArray 23)).alloc (.cells (v.vals t).toArray 28)).heap.size = w.heap.size + 2 := by simp
  have HOK : Hid (c.may = 0 → Fit c t → (layS c t).Ok) := fun h1 h2 => lay_ok h1 h2 h.by8
  have HPOS : Hid (c.may = 0 → Fit c t → 0 < t.pages.length) := fun h1 h2 => by have := (may_parts h1).2.2.2.2; have := h2.1; omega
  clear h
  obtain ⟨cells, slots, fuses, step, keys, erases, area⟩ := c
  simp only [Cfg.vals, SV.vals] at HMAY HC HF r0 r1 bb hsz ⊢
  generalize hmv : Cfg.may ⟨cells, slots, fuses, step, keys, erases, area⟩ = mv at *
  generalize hW0 : (w.alloc (.cells [Value.int .i64 cells, .int .i64 slots, .int .i64 fuses, .int .i64 step, .int .i64 keys, .int .i64 erases, .int .i64 area].toArray 23)).alloc (.cells [Value.slice v.po t.pages.length v.pc, .slice v.eo t.erases.length v.ec, .slice v.bo t.blown.length v.bc].toArray 28) = W0 at *
  have HMV : Hid (Cfg.may ⟨cells, slots, fuses, step, keys, erases, area⟩ = mv) := hmv
  clear hmv
  have c0 := r0.cell 0 _ rfl
  have c1 := r0.cell 1 _ rfl
  have c2 := r0.cell 2 _ rfl
  have c3 := r0.cell 3 _ rfl
  have c4 := r0.cell 4 _ rfl
  have c5 := r0.cell 5 _ rfl
  have c6 := r0.cell 6 _ rfl
  have d0 := r1.cell 0 _ rfl
  have d1 := r1.cell 1 _ rfl
  have d2 := r1.cell 2 _ rfl
  by_cases hm : mv = 0
  · subst hm
    have hm' : ((0 : Int) != 0) = false := rfl
    by_cases hf : Fit ⟨cells, slots, fuses, step, keys, erases, area⟩ t
    · have HFF : Hid (Fit ⟨cells, slots, fuses, step, keys, erases, area⟩ t) := hf
      clear hf
      go_enter Tryz.func6, Tryz.ntmps6
      go_wp2_with (first | (refine (HMAY.out _).mono ?_; rintro e w1 ⟨rfl, hb1⟩; have r0 : Row w1 w.heap.size 23 _ := (hb1.block _ r0.lt).trans r0; have r1 : Row w1 (w.heap.size + 1) 28 _ := (hb1.block _ r1.lt).trans r1; have bb := bb.trans (hb1.mono bb.size); clear hb1; have c0 := r0.cell 0 _ rfl; have c1 := r0.cell 1 _ rfl; have c2 := r0.cell 2 _ rfl; have c3 := r0.cell 3 _ rfl; have c4 := r0.cell 4 _ rfl; have c5 := r0.cell 5 _ rfl; have c6 := r0.cell 6 _ rfl; have d0 := r1.cell 0 _ rfl; have d1 := r1.cell 1 _ rfl; have d2 := r1.cell 2 _ rfl) | (refine (HF.out (by first | trivial | rfl) _ bb true ⟨fun _ => HFF.out, fun _ => rfl⟩).mono ?_; rintro e w2 ⟨rfl, hb2⟩; have r0 : Row w2 w.heap.size 23 _ := (hb2.block _ r0.lt).trans r0; have r1 : Row w2 (w.heap.size + 1) 28 _ := (hb2.block _ r1.lt).trans r1; have bb := bb.trans (hb2.mono bb.size); clear hb2; have c0 := r0.cell 0 _ rfl; have c1 := r0.cell 1 _ rfl; have c2 := r0.cell 2 _ rfl; have c3 := r0.cell 3 _ rfl; have c4 := r0.cell 4 _ rfl; have c5 := r0.cell 5 _ rfl; have c6 := r0.cell 6 _ rfl; have d0 := r1.cell 0 _ rfl; have d1 := r1.cell 1 _ rfl; have d2 := r1.cell 2 _ rfl))
      refine wp_region_inv (IL w2 t [.int .i64 cells, .int .i64 slots, .int .i64 fuses, .int .i64 step, .int .i64 keys, .int .i64 erases, .int .i64 area] [.slice v.po t.pages.length v.pc, .slice v.eo t.erases.length v.ec, .slice v.bo t.blown.length v.bc] _ _ _ _ _ _ _ _ _ _ _ _ _ _ _ _) (by kernel_rfl) (by kernel_rfl) ⟨_, _, _, _, _, _, _, _, _, _, _, _, _, _, _, rfl,  LI.zero w2 t _ _ _ _ _ _ _ _ _⟩ ?_ ?_
      · refine .cons ?_ (.cons ?_ (.cons ?_ (.cons ?_ (.cons ?_ (.cons ?_ (.cons ?_ .nil))))))
        all_goals (rintro L a W ⟨x18, x19, x20, x21, x22, x4, x5, po, pc, ps, eB, ec, bB, bc, g, rfl, hI⟩ hL hd K hK)
        · have r0 : Row W w.heap.size 23 [.int .i64 cells, .int .i64 slots, .int .i64 fuses, .int .i64 step, .int .i64 keys, .int .i64 erases, .int .i64 area] := (hI.bel.block _ r0.lt).trans r0
          have c0 := r0.cell 0 _ rfl
          have c1 := r0.cell 1 _ rfl
          have c2 := r0.cell 2 _ rfl
          have c3 := r0.cell 3 _ rfl
          have c4 := r0.cell 4 _ rfl
          have c5 := r0.cell 5 _ rfl
          have c6 := r0.cell 6 _ rfl
          rw [if_pos (by rfl)]
          go_simp
          exact hK.out _ _ ⟨_, _, _, _, _, _, _, _, _, _, _, _, _, _, _, rfl,  hI.s0⟩
        · have r1 : Row W (w.heap.size + 1) 28 [.slice v.po t.pages.length v.pc, .slice v.eo t.erases.length v.ec, .slice v.bo t.blown.length v.bc] := (hI.bel.block _ r1.lt).trans r1
          have d0 := r1.cell 0 _ rfl
          have d1 := r1.cell 1 _ rfl
          have d2 := r1.cell 2 _ rfl
          rw [if_pos (by rfl)]
          go_simp
          exact hK.out _ _ ⟨_, _, _, _, _, _, _, _, _, _, _, _, _, _, _, rfl,  hI.s1⟩
        · have hx := hI.e1 (hd 1 (by decide))
          subst hx
          rw [if_pos (by rfl)]
          go_simp
          refine (HC.out _ (bb.trans (hI.bel.mono bb.size))).mono ?_
          rintro e w3 ⟨po', pc', ps', eB', ec', bB', bc', rfl, hos, hb3⟩
          exact hK.out _ _ ⟨_, _, _, _, _, _, _, _, _, _, _, _, _, _, _, rfl,  hI.s2 hL hos hb3⟩
        · have hx := hI.e0 (hd 0 (by decide))
          have hy := (hI.e2 (hd 2 (by decide))).1
          subst hx hy
          rw [if_pos (by rfl)]
          go_simp
          exact hK.out _ _ ⟨_, _, _, _, _, _, _, _, _, _, _, _, _, _, _, rfl,  hI.s3 (hd 2 (by decide))⟩
        · have hx := hI.e3 (hd 3 (by decide))
          subst hx
          rw [if_pos (by rfl)]
          go_simp
          exact hK.out _ _ ⟨_, _, _, _, _, _, _, _, _, _, _, _, _, _, _, rfl,  hI.s4 hL (hd 3 (by decide))⟩
        · have hx := (hI.e4 (hd 4 (by decide))).1
          subst hx
          rw [if_pos (by rfl)]
          go_simp
          exact hK.out _ _ ⟨_, _, _, _, _, _, _, _, _, _, _, _, _, _, _, rfl,  hI.s5 (hd 4 (by decide))⟩
        · rw [if_pos (by rfl)]
          go_simp
          exact hK.out _ _ ⟨_, _, _, _, _, _, _, _, _, _, _, _, _, _, _, rfl,  hI.s6⟩
      · rintro L a W hall ⟨x18, x19, x20, x21, x22, x4, x5, po, pc, ps, eB, ec, bB, bc, g, rfl, hI⟩
        have hx4 := hI.e5 (hall 5 (by decide))
        have hx5 := hI.e6 (hall 6 (by decide))
        obtain ⟨_, q1, q2, q3, q4, q5⟩ := hI.e4 (hall 4 (by decide))
        obtain ⟨_, hos⟩ := hI.e2 (hall 2 (by decide))
        have hbel := hI.bel
        subst hx4 hx5
        obtain ⟨pB, rfl, hpB, _⟩ := hos.hasB (HPOS.out (by first | trivial | rfl) HFF.out)
        have hrat : RAt W ⟨g, pB, pc, eB, ec, bB, bc, ps, none, 0, none⟩ (layS ⟨cells, slots, fuses, step, keys, erases, area⟩ t) := hos.rat ⟨cells, slots, fuses, step, keys, erases, area⟩ 0 false (-1) [] g none 0 none q1 (HOK.out (by first | trivial | rfl) HFF.out) (by rw [List.mem_cons, not_or]; exact ⟨q5 pB rfl, q4⟩) (fun B hB => by cases hB) (.inl rfl)
        have hsz2 := bb.size
        have hblk : ∀ B ∈ (⟨g, pB, pc, eB, ec, bB, bc, ps, none, 0, none⟩ : RF).blocks, w.heap.size ≤ B := by
          intro B hB
          have hB' : B = g ∨ B = pB ∨ B ∈ eB :: bB :: ps.map (·.1) := by
            simp only [RF.blocks, List.mem_cons, Option.toList, List.append_nil] at hB ⊢
            exact hB
          rcases hB' with rfl | rfl | hm
          · omega
          · omega
          · have := (hos.lt B hm).1; omega
        have bbW := bb.trans (hbel.mono bb.size)
        have HR : Hid (RAt W ⟨g, pB, pc, eB, ec, bB, bc, ps, none, 0, none⟩ (layS ⟨cells, slots, fuses, step, keys, erases, area⟩ t) ∧ ∀ B ∈ (⟨g, pB, pc, eB, ec, bB, bc, ps, none, 0, none⟩ : RF).blocks, w.heap.size ≤ B) := ⟨hrat, hblk⟩
        clear hI hall hrat hblk q1
        try dsimp only
        go_wp2
        go_ret2
        exact ⟨bbW, .inr (.inr ⟨by first | trivial | rfl, HFF.out, ⟨g, pB, pc, eB, ec, bB, bc, ps, none, 0, none⟩, rfl, HR.out.1, fun _ => rfl, HR.out.2⟩)⟩
    · have HFF : Hid (¬ Fit ⟨cells, slots, fuses, step, keys, erases, area⟩ t) := hf
      have HF2 : Hid (∀ W, Below w.heap.size w W → Calls Tryz.prog 23 #[.agg [Value.int .i64 cells, .int .i64 slots, .int .i64 fuses, .int .i64 step, .int .i64 keys, .int .i64 erases, .int .i64 area].toArray, .agg [Value.slice v.po t.pages.length v.pc, .slice v.eo t.erases.length v.ec, .slice v.bo t.blown.length v.bc].toArray] W fun e w' => e = .returned (.bool false) ∧ Below W.heap.size W w') := fun W hW => HF.out (by first | trivial | rfl) W hW false ⟨fun q => (by cases q), fun q => absurd q hf⟩
      clear hf HF
      go_enter Tryz.func6, Tryz.ntmps6
      go_wp2_with (first | (refine (HMAY.out _).mono ?_; rintro e w1 ⟨rfl, hb1⟩; have r0 : Row w1 w.heap.size 23 _ := (hb1.block _ r0.lt).trans r0; have r1 : Row w1 (w.heap.size + 1) 28 _ := (hb1.block _ r1.lt).trans r1; have bb := bb.trans (hb1.mono bb.size); clear hb1; have c0 := r0.cell 0 _ rfl; have c1 := r0.cell 1 _ rfl; have c2 := r0.cell 2 _ rfl; have c3 := r0.cell 3 _ rfl; have c4 := r0.cell 4 _ rfl; have c5 := r0.cell 5 _ rfl; have c6 := r0.cell 6 _ rfl; have d0 := r1.cell 0 _ rfl; have d1 := r1.cell 1 _ rfl; have d2 := r1.cell 2 _ rfl) | (refine (HF2.out _ bb).mono ?_; rintro e w2 ⟨rfl, hb2⟩; have r0 : Row w2 w.heap.size 23 _ := (hb2.block _ r0.lt).trans r0; have r1 : Row w2 (w.heap.size + 1) 28 _ := (hb2.block _ r1.lt).trans r1; have bb := bb.trans (hb2.mono bb.size); clear hb2; have c0 := r0.cell 0 _ rfl; have c1 := r0.cell 1 _ rfl; have c2 := r0.cell 2 _ rfl; have c3 := r0.cell 3 _ rfl; have c4 := r0.cell 4 _ rfl; have c5 := r0.cell 5 _ rfl; have c6 := r0.cell 6 _ rfl; have d0 := r1.cell 0 _ rfl; have d1 := r1.cell 1 _ rfl; have d2 := r1.cell 2 _ rfl))
      go_ret2
      exact ⟨bb, .inr (.inl ⟨by first | trivial | rfl, HFF.out, rfl⟩)⟩
  · have hm' : (mv != 0) = true := by simpa using hm
    go_enter Tryz.func6, Tryz.ntmps6
    go_wp2_with (first | (refine (HMAY.out _).mono ?_; rintro e w1 ⟨rfl, hb1⟩; have r0 : Row w1 w.heap.size 23 _ := (hb1.block _ r0.lt).trans r0; have r1 : Row w1 (w.heap.size + 1) 28 _ := (hb1.block _ r1.lt).trans r1; have bb := bb.trans (hb1.mono bb.size); clear hb1; have c0 := r0.cell 0 _ rfl; have c1 := r0.cell 1 _ rfl; have c2 := r0.cell 2 _ rfl; have c3 := r0.cell 3 _ rfl; have c4 := r0.cell 4 _ rfl; have c5 := r0.cell 5 _ rfl; have c6 := r0.cell 6 _ rfl; have d0 := r1.cell 0 _ rfl; have d1 := r1.cell 1 _ rfl; have d2 := r1.cell 2 _ rfl))
    go_ret2
    exact ⟨bb, .inl ⟨hm, rfl⟩⟩
end Go.Proofs.YtcpdanjbnijoiaaGreatDoor
