
import Derived.Test.YtgpnbiaghokjkaaDoorD21SpM
/-! Layer 21: a chip that was told, in memory of its own; what a mark in all its lists makes of it. -/
namespace Go.Proofs.YtgpnbiaghokjkaaDoor
open Go.RowKit
set_option linter.unusedVariables false
set_option linter.unusedSimpArgs false
set_option maxRecDepth 100000

def mcell (k : Nat) : List By := BitVec.ofNat 8 k :: List.replicate 31 0
theorem mcell_len (k : Nat) : (mcell k).length = 32 := by simp [mcell]
def marked (t : St) (k : Nat) : St := ⟨t.pages.map fun g => g.map fun _ => mcell k, t.erases.map fun _ => -(k : Int), t.blown.map fun _ => decide (k % 2 = 0)⟩
/-- All blocks but those from N on below M are as they were. -/
structure KeptR (N M : Nat) (w w' : World) : Prop where
  os : w'.os = w.os
  tape : w'.tape = w.tape
  output : w'.output = w.output
  size : w.heap.size ≤ w'.heap.size
  block : ∀ k, k < w.heap.size → ¬ (N ≤ k ∧ k < M) → w'.heap[k]? = w.heap[k]?
theorem KeptR.refl (N M : Nat) (w : World) : KeptR N M w w := ⟨rfl, rfl, rfl, Nat.le_refl _, fun _ _ _ => rfl⟩
theorem KeptR.trans {N M : Nat} {a b c : World} (h : KeptR N M a b) (k : KeptR N M b c) : KeptR N M a c :=
  ⟨k.os.trans h.os, k.tape.trans h.tape, k.output.trans h.output, Nat.le_trans h.size k.size, fun i hi hne => (k.block i (Nat.lt_of_lt_of_le hi h.size) hne).trans (h.block i hi hne)⟩
theorem KeptL.toR {N M : Nat} {L : List Nat} {a b : World} (h : KeptL L a b) (hL : ∀ x ∈ L, N ≤ x ∧ x < M) : KeptR N M a b :=
  ⟨h.os, h.tape, h.output, h.size, fun i hi hne => h.block i hi (fun hm => hne (hL i hm))⟩
theorem KeptR.row {N M : Nat} {w w' : World} {b t : Nat} {cs : List Value} (h : KeptR N M w w') (hr : Row w b t cs) (hb : ¬ (N ≤ b ∧ b < M)) : Row w' b t cs := (h.block b hr.lt hb).trans hr
theorem below_toR {N M : Nat} {w w' : World} {B : Nat} (h : Below B w w') (hB : w.heap.size ≤ B) : KeptR N M w w' := ⟨h.os, h.tape, h.output, h.size, fun k hk _ => h.block k (by omega)⟩

/-- A chip's lists lie apart. -/
structure Apart (v : SV) (qs : List Value) : Prop where
  pe : ∀ B, v.po = some ⟨B, 0, none⟩ → v.eo ≠ some ⟨B, 0, none⟩
  pb : ∀ B, v.po = some ⟨B, 0, none⟩ → v.bo ≠ some ⟨B, 0, none⟩
  eb : ∀ B, v.eo = some ⟨B, 0, none⟩ → v.bo ≠ some ⟨B, 0, none⟩
  qp : ∀ (j B n c : Nat), qs[j]? = some (.slice (some ⟨B, 0, none⟩) n c) → v.po ≠ some ⟨B, 0, none⟩ ∧ v.eo ≠ some ⟨B, 0, none⟩ ∧ v.bo ≠ some ⟨B, 0, none⟩
  qq : ∀ (i j B n c n' c' : Nat), i ≠ j → qs[i]? = some (.slice (some ⟨B, 0, none⟩) n c) → qs[j]? ≠ some (.slice (some ⟨B, 0, none⟩) n' c')
/-- A chip that was told, in memory of its own, from the block N on below M. -/
structure Tld (N M : Nat) (w : World) (v : SV) (t : St) (qs : List Value) : Prop where
  pr : w.ownsRow N 57 1 (.slice v.po t.pages.length v.pc) t.pages.length qs
  pg : ∀ (i : Nat) (x : Value) (g : List (List By)), qs[i]? = some x → t.pages[i]? = some g → OwnC N w x g
  er : w.ownsRow N 3 1 (.slice v.eo t.erases.length v.ec) t.erases.length (t.erases.map (Value.int .i64))
  bl : w.ownsRow N 4 1 (.slice v.bo t.blown.length v.bc) t.blown.length (t.blown.map Value.bool)
  ne : ∀ g ∈ t.pages, 0 < g.length
  qq : ∀ (i j B n c n' c' : Nat), i ≠ j → qs[i]? = some (.slice (some ⟨B, 0, none⟩) n c) → qs[j]? ≠ some (.slice (some ⟨B, 0, none⟩) n' c')
  up : M ≤ w.heap.size
  upp : ∀ B, v.po = some ⟨B, 0, none⟩ → B < M
  upe : ∀ B, v.eo = some ⟨B, 0, none⟩ → B < M
  upb : ∀ B, v.bo = some ⟨B, 0, none⟩ → B < M
  upq : ∀ (j B n c : Nat), qs[j]? = some (.slice (some ⟨B, 0, none⟩) n c) → B < M
section
variable {N M : Nat} {w : World} {v : SV} {t : St} {qs : List Value}
theorem Tld.ql (h : Tld N M w v t qs) : qs.length = t.pages.length := by have := h.pr.1; omega
theorem types_apart {w : World} {N e size e' size' : Nat} {ao ao' : Option Addr} {n c n' c' : Nat} {xs xs' : List Value} (h : w.ownsRow N e size (.slice ao n c) n xs) (h' : w.ownsRow N e' size' (.slice ao' n' c') n' xs') (he : e ≠ e') (B : Nat) (hB : ao = some ⟨B, 0, none⟩) : ao' ≠ some ⟨B, 0, none⟩ := fun e2 => by
  obtain ⟨c1, h1⟩ := owns_type h B hB
  obtain ⟨c2, h2⟩ := owns_type h' B e2
  rw [h1] at h2
  injection h2 with h2
  injection h2 with _ h2 _
  exact he h2
theorem Tld.page (h : Tld N M w v t qs) (i : Nat) (hi : i < t.pages.length) : ∃ G c, qs[i]? = some (.slice (some ⟨G, 0, none⟩) (t.pages.getD i []).length c) ∧ OwnC N w (.slice (some ⟨G, 0, none⟩) (t.pages.getD i []).length c) (t.pages.getD i []) ∧ N ≤ G ∧ G < M ∧ 0 < (t.pages.getD i []).length := by
  have hq : qs[i]? = some (qs[i]'(by rw [h.ql]; exact hi)) := List.getElem?_eq_getElem _
  have hp : t.pages[i]? = some (t.pages.getD i []) := by rw [List.getElem?_eq_getElem hi, List.getD_eq_getElem?_getD, List.getElem?_eq_getElem hi]; rfl
  have ho := h.pg i _ _ hq hp
  have h0 : 0 < (t.pages.getD i []).length := h.ne _ (List.mem_of_getElem? hp)
  obtain ⟨G, c, cs, e, hN, _⟩ := ho.row h0
  rw [e] at hq ho
  exact ⟨G, c, hq, ho, hN, h.upq i G _ c hq, h0⟩
theorem Tld.apart (h : Tld N M w v t qs) : Apart v qs where
  pe := fun B hB => types_apart h.pr h.er (by decide) B hB
  pb := fun B hB => types_apart h.pr h.bl (by decide) B hB
  eb := fun B hB => types_apart h.er h.bl (by decide) B hB
  qp := fun j B n c hq => by
    have hj : j < t.pages.length := by rw [← h.ql]; exact (List.getElem?_eq_some_iff.1 hq).1
    obtain ⟨G, c', hq', ho, _⟩ := h.page j hj
    rw [hq] at hq'
    injection hq' with hq'
    injection hq' with e1 e2 e3
    injection e1 with e1
    injection e1 with e1
    subst e1
    exact ⟨types_apart ho.1 h.pr (by decide) B rfl, types_apart ho.1 h.er (by decide) B rfl, types_apart ho.1 h.bl (by decide) B rfl⟩
  qq := h.qq
end
/-- An element stored into an own slice of one-cell elements. -/
theorem owns_set {N e n c G i : Nat} {w : World} {vs : List Value} (h : w.ownsRow N e 1 (.slice (some ⟨G, 0, none⟩) n c) n vs) (hi : i < n) (u : Value) : (w.setCell ⟨G, i, none⟩ u).ownsRow N e 1 (.slice (some ⟨G, 0, none⟩) n c) n (vs.set i u) := by
  refine ⟨by rw [List.length_set]; exact h.1, ?_⟩
  rcases h.2 with ⟨e1, _⟩ | ⟨g, c', cur, e1, hg, hh, hnc, hcm, hcs, ht⟩
  · cases e1
  · injection e1 with e1 e2 e3
    injection e1 with e1
    injection e1 with e1
    subst e1
    subst e3
    have hr : Row w G e cur.toList := by show w.heap[G]? = _; rw [hh]
    have hr2 := hr.set i u
    refine .inr ⟨G, c, ((cur.toList).set i u).toArray, rfl, hg, hr2, hnc, hcm, by simpa using hcs, ?_⟩
    have : ((cur.toList.set i u).toArray.toList).take (n * 1) = (cur.toList.take (n * 1)).set i u := by
      rw [List.take_set]
    rw [this, ht]
theorem owns_cell {N e n c G : Nat} {w : World} {vs : List Value} (h : w.ownsRow N e 1 (.slice (some ⟨G, 0, none⟩) n c) n vs) (i : Nat) (u : Value) (hu : vs[i]? = some u) : w.cell? ⟨G, i, none⟩ = some u ∧ w.frozen? ⟨G, i, none⟩ = false := by
  rcases h.2 with ⟨e1, _⟩ | ⟨g, c', cur, e1, hg, hh, hnc, hcm, hcs, ht⟩
  · cases e1
  · injection e1 with e1 e2 e3
    injection e1 with e1
    injection e1 with e1
    subst e1
    have hr : Row w G e cur.toList := by show w.heap[G]? = _; rw [hh]
    refine ⟨hr.cell i u ?_, hr.frozen i⟩
    rw [← ht] at hu
    have hj2 := (List.getElem?_eq_some_iff.1 hu).1
    rw [List.getElem?_take_of_lt (by rw [List.length_take] at hj2; omega)] at hu
    exact hu
/-- Between two pages of spoil. -/
structure SI (N M : Nat) (w1 : World) (v : SV) (t : St) (qs : List Value) (k i : Nat) (W : World) : Prop where
  kr : KeptR N M w1 W
  pr : W.ownsRow N 57 1 (.slice v.po t.pages.length v.pc) t.pages.length qs
  dn : ∀ (j G n c : Nat) (g : List (List By)), j < i → qs[j]? = some (.slice (some ⟨G, 0, none⟩) n c) → t.pages[j]? = some g → IsL W (some ⟨G, 0, none⟩) ((g.map fun _ => mcell k).flatten.map B8)
  td : ∀ (j : Nat) (x : Value) (g : List (List By)), i ≤ j → qs[j]? = some x → t.pages[j]? = some g → OwnC N W x g
  er : W.ownsRow N 3 1 (.slice v.eo t.erases.length v.ec) t.erases.length (t.erases.map (Value.int .i64))
  bl : W.ownsRow N 4 1 (.slice v.bo t.blown.length v.bc) t.blown.length (t.blown.map Value.bool)
theorem IsL.kept {L : List Nat} {w w' : World} {G : Nat} {vs : List Value} (h : IsL w (some ⟨G, 0, none⟩) vs) (kl : KeptL L w w') (hG : G ∉ L) : IsL w' (some ⟨G, 0, none⟩) vs := by
  rcases h with h | ⟨B, off, e, hc⟩
  · exact .inl h
  · injection e with e
    injection e with e1 e2
    subst e1
    subst e2
    refine .inr ⟨G, 0, rfl, fun j u hu => ?_⟩
    have hcell := hc j u hu
    have hlt : G < w.heap.size := World.block_lt_of_cell? _ _ hcell
    exact (World.cell?_of_block (kl.block G hlt hG)).trans hcell
section
variable {N M : Nat} {w1 : World} {v : SV} {t : St} {qs : List Value} {k i : Nat} {W W' : World}
theorem SI.zero {w : World} (h : Tld N M w v t qs) (hb : Below w.heap.size w w1) : SI N M w1 v t qs k 0 w1 where
  kr := KeptR.refl _ _ _
  pr := owns_kept h.pr fun g hg => hb.block g (owns_at h.pr g hg).2
  dn := fun j G n c g hj => by omega
  td := fun j x g _ hx hg => (h.pg j x g hx hg).keep hb
  er := owns_kept h.er fun g hg => hb.block g (owns_at h.er g hg).2
  bl := owns_kept h.bl fun g hg => hb.block g (owns_at h.bl g hg).2
/-- A page is done. -/
theorem SI.next (h : SI N M w1 v t qs k i W) (hap : Apart v qs) {G n c : Nat} {g : List (List By)} (hq : qs[i]? = some (.slice (some ⟨G, 0, none⟩) n c)) (hg : t.pages[i]? = some g) (hG : N ≤ G ∧ G < M) (hne : ∀ g ∈ t.pages, 0 < g.length) (kl : KeptL [G] W W') (hi : IsL W' (some ⟨G, 0, none⟩) ((g.map fun _ => mcell k).flatten.map B8)) : SI N M w1 v t qs k (i + 1) W' where
  kr := h.kr.trans (kl.toR fun x hx => by rw [List.mem_singleton.1 hx]; exact hG)
  pr := owns_kept h.pr fun b hb => kl.block b (owns_at h.pr b hb).2 (fun hm => (hap.qp i G n c hq).1 (by rw [← List.mem_singleton.1 hm]; exact hb))
  dn := fun j G' n' c' g' hj hq' hg' => by
    by_cases hji : j = i
    · subst hji
      rw [hq] at hq'
      injection hq' with hq'
      injection hq' with e1 _ _
      rw [hg] at hg'
      injection hg' with hg'
      subst hg'
      rw [← e1]
      exact hi
    · refine (h.dn j G' n' c' g' (by omega) hq' hg').kept kl (fun hm => ?_)
      rw [List.mem_singleton.1 hm] at hq'
      exact hap.qq i j G n c n' c' (fun e => hji e.symm) hq hq'
  td := fun j x g' hj hx hg' => by
    have ho := h.td j x g' (by omega) hx hg'
    obtain ⟨G', c', cs, e, _, hr, _⟩ := ho.row (hne _ (List.mem_of_getElem? hg'))
    have h1 := ho.1
    rw [e] at h1 hx ⊢
    refine ⟨owns_kept h1 fun b hb => ?_, Nat.le_trans ho.2.1 kl.size, ho.2.2⟩
    injection hb with hb
    injection hb with hb
    subst hb
    refine kl.block G' hr.lt (fun hm => ?_)
    rw [List.mem_singleton.1 hm] at hx
    exact hap.qq i j G n c _ _ (by omega) hq hx
  er := owns_kept h.er fun b hb => kl.block b (owns_at h.er b hb).2 (fun hm => (hap.qp i G n c hq).2.1 (by rw [← List.mem_singleton.1 hm]; exact hb))
  bl := owns_kept h.bl fun b hb => kl.block b (owns_at h.bl b hb).2 (fun hm => (hap.qp i G n c hq).2.2 (by rw [← List.mem_singleton.1 hm]; exact hb))
end
/-- Behind the pages. -/
structure SJ (N M : Nat) (w1 : World) (v : SV) (t : St) (qs : List Value) (k : Nat) (W : World) : Prop where
  kr : KeptR N M w1 W
  pr : W.ownsRow N 57 1 (.slice v.po t.pages.length v.pc) t.pages.length qs
  dn : ∀ (j G n c : Nat) (g : List (List By)), qs[j]? = some (.slice (some ⟨G, 0, none⟩) n c) → t.pages[j]? = some g → IsL W (some ⟨G, 0, none⟩) ((g.map fun _ => mcell k).flatten.map B8)
section
variable {N M : Nat} {w1 : World} {v : SV} {t : St} {qs : List Value} {k : Nat} {W W' : World}
theorem SI.all (h : SI N M w1 v t qs k t.pages.length W) : SJ N M w1 v t qs k W :=
  ⟨h.kr, h.pr, fun j G n c g hq hg => h.dn j G n c g (List.getElem?_eq_some_iff.1 hg).1 hq hg⟩
theorem SJ.kept (h : SJ N M w1 v t qs k W) (hap : Apart v qs) {L : List Nat} (kl : KeptL L W W') (hL : ∀ x ∈ L, (v.eo = some ⟨x, 0, none⟩ ∨ v.bo = some ⟨x, 0, none⟩) ∧ N ≤ x ∧ x < M) : SJ N M w1 v t qs k W' where
  kr := h.kr.trans (kl.toR fun x hx => (hL x hx).2)
  pr := owns_kept h.pr fun b hb => kl.block b (owns_at h.pr b hb).2 (fun hm => by rcases (hL b hm).1 with e | e; exact hap.pe b hb e; exact hap.pb b hb e)
  dn := fun j G n c g hq hg => (h.dn j G n c g hq hg).kept kl (fun hm => by rcases (hL G hm).1 with e | e; exact (hap.qp j G n c hq).2.1 e; exact (hap.qp j G n c hq).2.2 e)
end
/-- The place of a slice's block. -/
theorem owns_form {N e size n c : Nat} {w : World} {ao : Option Addr} {xs : List Value} (h : w.ownsRow N e size (.slice ao n c) n xs) (h0 : 0 < n) : ∃ B, ao = some ⟨B, 0, none⟩ := by
  rcases h.2 with ⟨e1, e2⟩ | ⟨g, c', cur, e1, _⟩
  · injection e1 with _ e3 _; omega
  · injection e1 with e1 _ _; exact ⟨g, e1⟩
theorem owns_form' {N e size n c : Nat} {w : World} {ao : Option Addr} {xs : List Value} (h : w.ownsRow N e size (.slice ao n c) n xs) : ao = none ∨ ∃ B, ao = some ⟨B, 0, none⟩ := by
  rcases h.2 with ⟨e1, e2⟩ | ⟨g, c', cur, e1, _⟩
  · injection e1 with e1 _ _; exact .inl e1
  · injection e1 with e1 _ _; exact .inr ⟨g, e1⟩
theorem IsL.apart {w w' : World} {ao : Option Addr} {vs : List Value} (h : IsL w ao vs) (hf : ao = none ∨ ∃ B, ao = some ⟨B, 0, none⟩) (hb : ∀ B, ao = some ⟨B, 0, none⟩ → B < w.heap.size → w'.heap[B]? = w.heap[B]?) : IsL w' ao vs := by
  rcases h with h | ⟨B, off, e, hc⟩
  · exact .inl h
  · rcases hf with e2 | ⟨B2, e2⟩
    · rw [e2] at e; cases e
    · rw [e2] at e
      injection e with e
      injection e with e3 e4
      subst e3
      subst e4
      rw [e2]
      refine .inr ⟨B2, 0, rfl, fun j u hu => ?_⟩
      have hcell := hc j u hu
      exact (World.cell?_of_block (hb B2 e2 (World.block_lt_of_cell? _ _ hcell))).trans hcell
section
variable {N M : Nat} {w1 : World} {v : SV} {t : St} {qs : List Value} {k : Nat} {W W' : World}
theorem SJ.app (h : SJ N M w1 v t qs k W) (hap : Apart v qs) (hM : M ≤ w1.heap.size) (os : W'.os = W.os) (tape : W'.tape = W.tape) (output : W'.output = W.output) (size : W.heap.size ≤ W'.heap.size)
    (hb : ∀ b, b < w1.heap.size → v.eo ≠ some ⟨b, 0, none⟩ → v.bo ≠ some ⟨b, 0, none⟩ → W'.heap[b]? = W.heap[b]?) (hP : ∀ B, v.po = some ⟨B, 0, none⟩ → B < M) (hE : ∀ B, v.eo = some ⟨B, 0, none⟩ → N ≤ B ∧ B < M) (hB : ∀ B, v.bo = some ⟨B, 0, none⟩ → N ≤ B ∧ B < M) (hq : ∀ (j B n c : Nat), qs[j]? = some (.slice (some ⟨B, 0, none⟩) n c) → B < M) : SJ N M w1 v t qs k W' where
  kr := ⟨os.trans h.kr.os, tape.trans h.kr.tape, output.trans h.kr.output, Nat.le_trans h.kr.size size, fun b hbl hne => (hb b hbl (fun e => hne (hE b e)) (fun e => hne (hB b e))).trans (h.kr.block b hbl hne)⟩
  pr := owns_kept h.pr fun b hbx => hb b (by have := hP b hbx; omega) (hap.pe b hbx) (hap.pb b hbx)
  dn := fun j G n c g hqj hg => (h.dn j G n c g hqj hg).apart (.inr ⟨G, rfl⟩) (fun B e _ => by
    injection e with e
    injection e with e
    subst e
    exact hb G (by have := hq j G n c hqj; omega) (hap.qp j G n c hqj).2.1 (hap.qp j G n c hqj).2.2)
theorem SJ.view (h : SJ N M w1 v t qs k W) (hq : ∀ i, i < t.pages.length → ∃ G c, qs[i]? = some (.slice (some ⟨G, 0, none⟩) (t.pages.getD i []).length c)) (he : IsL W v.eo ((marked t k).erases.map (Value.int .i64))) (hb : IsL W v.bo ((marked t k).blown.map Value.bool)) : StV W v (marked t k) := by
  have hql : qs.length = t.pages.length := by have := h.pr.1; omega
  have hml : (marked t k).pages.length = t.pages.length := by simp [marked]
  have hmg : ∀ i : Nat, (marked t k).pages[i]? = (t.pages[i]?).map (fun g : List (List By) => g.map fun _ => mcell k) := fun i => by simp only [marked, List.getElem?_map]
  have hpi : ∀ i : Nat, i < t.pages.length → t.pages[i]? = some (t.pages.getD i []) := fun i hi => by rw [List.getElem?_eq_getElem hi, List.getD_eq_getElem?_getD, List.getElem?_eq_getElem hi]; rfl
  refine ⟨⟨qs.map (fun x => match x with | .slice ao _ c => (ao, c) | _ => (none, 0)), by rw [List.length_map, hml]; exact hql, ?_, ?_⟩, he, hb, ?_⟩
  · have e : List.zipWith (fun q p => Value.slice q.1 (List.length p) q.2) (qs.map (fun x => match x with | .slice ao _ c => (ao, c) | _ => (none, 0))) (marked t k).pages = qs := by
      apply List.ext_getElem?
      intro i
      rw [List.getElem?_zipWith, List.getElem?_map, hmg]
      by_cases hi : i < t.pages.length
      · obtain ⟨G, c, e⟩ := hq i hi
        rw [e, hpi i hi]
        simp
      · rw [List.getElem?_eq_none (by omega)]; rfl
    rw [e]
    exact owns_isL h.pr
  · intro i q p hqi hp
    rw [hmg] at hp
    have hi : i < t.pages.length := by
      cases h0 : t.pages[i]? with
      | none => rw [h0] at hp; cases hp
      | some g => exact (List.getElem?_eq_some_iff.1 h0).1
    obtain ⟨G, c, e⟩ := hq i hi
    rw [List.getElem?_map, e] at hqi
    injection hqi with hqi
    rw [hpi i hi] at hp
    injection hp with hp
    rw [← hqi, ← hp]
    exact h.dn i G _ c _ e (hpi i hi)
  · intro p hp x hx
    simp only [marked, List.mem_map] at hp
    obtain ⟨g, _, rfl⟩ := hp
    obtain ⟨_, _, rfl⟩ := List.mem_map.1 hx
    exact mcell_len k
end
/-- A told chip that bears a mark in all its lists. -/
structure Mkd (N M : Nat) (W : World) (v : SV) (t : St) (qs : List Value) (k : Nat) : Prop where
  pr : W.ownsRow N 57 1 (.slice v.po t.pages.length v.pc) t.pages.length qs
  dn : ∀ (j G n c : Nat) (g : List (List By)), qs[j]? = some (.slice (some ⟨G, 0, none⟩) n c) → t.pages[j]? = some g → IsL W (some ⟨G, 0, none⟩) ((g.map fun _ => mcell k).flatten.map B8)
  er : IsL W v.eo ((marked t k).erases.map (Value.int .i64))
  bl : IsL W v.bo ((marked t k).blown.map Value.bool)
  hq : ∀ i, i < t.pages.length → ∃ G c, qs[i]? = some (.slice (some ⟨G, 0, none⟩) (t.pages.getD i []).length c)
  uq : ∀ (j B n c : Nat), qs[j]? = some (.slice (some ⟨B, 0, none⟩) n c) → N ≤ B ∧ B < M
  fe : v.eo = none ∨ ∃ B, v.eo = some ⟨B, 0, none⟩ ∧ N ≤ B ∧ B < M
  fb : v.bo = none ∨ ∃ B, v.bo = some ⟨B, 0, none⟩ ∧ N ≤ B ∧ B < M
  fp : ∀ B, v.po = some ⟨B, 0, none⟩ → B < M
section
variable {N M : Nat} {W W' : World} {v : SV} {t : St} {qs : List Value} {k : Nat}
theorem Mkd.view (h : Mkd N M W v t qs k) : StV W v (marked t k) := (SJ.mk (N := N) (M := M) (w1 := W) (KeptR.refl _ _ _) h.pr h.dn).view h.hq h.er h.bl
theorem Mkd.keep (h : Mkd N M W v t qs k) (hb : ∀ b, N ≤ b → b < M → W'.heap[b]? = W.heap[b]?) : Mkd N M W' v t qs k where
  pr := owns_kept h.pr fun b hbx => hb b (owns_at h.pr b hbx).1 (h.fp b hbx)
  dn := fun j G n c g hqj hg => (h.dn j G n c g hqj hg).apart (.inr ⟨G, rfl⟩) (fun B e _ => by
    injection e with e
    injection e with e
    subst e
    exact hb G (h.uq j G n c hqj).1 (h.uq j G n c hqj).2)
  er := h.er.apart (h.fe.imp id fun ⟨B, e, _⟩ => ⟨B, e⟩) (fun B e _ => by
    rcases h.fe with e2 | ⟨B2, e2, h1, h2⟩
    · rw [e2] at e; cases e
    · rw [e2] at e; injection e with e; injection e with e; subst e; exact hb B2 h1 h2)
  bl := h.bl.apart (h.fb.imp id fun ⟨B, e, _⟩ => ⟨B, e⟩) (fun B e _ => by
    rcases h.fb with e2 | ⟨B2, e2, h1, h2⟩
    · rw [e2] at e; cases e
    · rw [e2] at e; injection e with e; injection e with e; subst e; exact hb B2 h1 h2)
  hq := h.hq
  uq := h.uq
  fe := h.fe
  fb := h.fb
  fp := h.fp
theorem Tld.keep (h : Tld N M W v t qs) (hb : ∀ b, N ≤ b → b < M → W'.heap[b]? = W.heap[b]?) (hs : W.heap.size ≤ W'.heap.size) : Tld N M W' v t qs where
  pr := owns_kept h.pr fun b hbx => hb b (owns_at h.pr b hbx).1 (h.upp b hbx)
  pg := fun i x g hx hg => by
    have ho := h.pg i x g hx hg
    obtain ⟨G, c, cs, e, hN, _⟩ := ho.row (h.ne g (List.mem_of_getElem? hg))
    have h1 := ho.1
    rw [e] at h1 hx ⊢
    refine ⟨owns_kept h1 fun b hbx => ?_, Nat.le_trans ho.2.1 hs, ho.2.2⟩
    injection hbx with hbx
    injection hbx with hbx
    subst hbx
    exact hb G hN (h.upq i G _ _ hx)
  er := owns_kept h.er fun b hbx => hb b (owns_at h.er b hbx).1 (h.upe b hbx)
  bl := owns_kept h.bl fun b hbx => hb b (owns_at h.bl b hbx).1 (h.upb b hbx)
  ne := h.ne
  qq := h.qq
  up := Nat.le_trans h.up hs
  upp := h.upp
  upe := h.upe
  upb := h.upb
  upq := h.upq
end
end Go.Proofs.YtgpnbiaghokjkaaDoor
