import Derived.Test.YtgpnbiaghokjkaaDoorC4Fits
import Derived.Test.YtgpnbiaghokjkaaDoorC4Make

/-! The code's chip: State, Config, Copy, Lay. -/
namespace Go.Proofs.YtgpnbiaghokjkaaDoor
open Go.RowKit

/-- The code's own state, as a view. -/
theorem CAt.view {w : World} {F : RF} {s : RS} {S : ByteArray} (h : CAt w F s S) : StV w ⟨some ⟨F.pB, 0, none⟩, F.pcap, some ⟨F.eB, 0, none⟩, F.ecap, some ⟨F.bB, 0, none⟩, F.bcap⟩ s.st := by
  refine ⟨⟨F.ps.map (fun q => (some ⟨q.1, 0, none⟩, q.2)), by rw [List.length_map]; exact h.len, .inr ⟨F.pB, 0, rfl, fun j v hv => ?_⟩, fun i q p hq hp => ?_⟩, .inr ⟨F.eB, 0, rfl, fun j v hv => by rw [Nat.zero_add]; exact h.er.cell j v hv⟩, .inr ⟨F.bB, 0, rfl, fun j v hv => by rw [Nat.zero_add]; exact h.bl.cell j v hv⟩, h.ok.by8⟩
  · rw [Nat.zero_add]
    refine h.pg.cell j v ?_
    rw [← hv, List.getElem?_zipWith, List.getElem?_zipWith, List.getElem?_map]
    rw [show s.st.pages = s.pages from rfl]
    cases F.ps[j]? <;> cases s.pages[j]? <;> rfl
  · rw [List.getElem?_map] at hq
    cases hf : F.ps[i]? with
    | none => rw [hf] at hq; cases hq
    | some q0 =>
      rw [hf] at hq
      injection hq with hq
      subst hq
      exact .inr ⟨q0.1, 0, rfl, fun j v hv => by rw [Nat.zero_add]; exact (h.page i q0 p hf hp).cell j v hv⟩

/-- An own state, as a view. -/
theorem OwnX.view {w : World} {N : Nat} {t : St} {pB eB bB : Nat} {ps : List (Nat × Nat)} (h : OwnX w N t pB eB bB ps) (h8 : ∀ p ∈ t.pages, ∀ x ∈ p, x.length = 32) : StV w ⟨some ⟨pB, 0, none⟩, t.pages.length, some ⟨eB, 0, none⟩, t.erases.length, some ⟨bB, 0, none⟩, t.blown.length⟩ t := by
  refine ⟨⟨ps.map (fun q => (some ⟨q.1, 0, none⟩, q.2)), by rw [List.length_map]; exact h.len, .inr ⟨pB, 0, rfl, fun j v hv => ?_⟩, fun i q p hq hp => ?_⟩, .inr ⟨eB, 0, rfl, fun j v hv => by rw [Nat.zero_add]; exact h.er.cell j v hv⟩, .inr ⟨bB, 0, rfl, fun j v hv => by rw [Nat.zero_add]; exact h.bl.cell j v hv⟩, h8⟩
  · rw [Nat.zero_add]
    refine h.pg.cell j v ?_
    rw [← hv, List.getElem?_zipWith, List.getElem?_zipWith, List.getElem?_map]
    cases ps[j]? <;> cases t.pages[j]? <;> rfl
  · rw [List.getElem?_map] at hq
    cases hf : ps[i]? with
    | none => rw [hf] at hq; cases hq
    | some q0 =>
      rw [hf] at hq
      injection hq with hq
      subst hq
      exact .inr ⟨q0.1, 0, rfl, fun j v hv => by rw [Nat.zero_add]; exact (h.page i q0 p hf hp).cell j v hv⟩
theorem OwnX.lt {w : World} {N : Nat} {t : St} {pB eB bB : Nat} {ps : List (Nat × Nat)} (h : OwnX w N t pB eB bB ps) : ∀ b ∈ pB :: eB :: bB :: ps.map (·.1), b < w.heap.size := by
  intro b hb
  simp only [List.mem_cons, List.mem_map] at hb
  rcases hb with rfl | rfl | rfl | ⟨q, hq, rfl⟩
  · exact h.pg.lt
  · exact h.er.lt
  · exact h.bl.lt
  · obtain ⟨i, hi⟩ := List.mem_iff_getElem?.1 hq
    have hil : i < ps.length := (List.getElem?_eq_some_iff.1 hi).1
    exact (h.page i q (t.pages[i]'(by rw [← h.len]; exact hil)) hi (List.getElem?_eq_getElem _)).lt
theorem OwnX.keep {w w' : World} {N : Nat} {t : St} {pB eB bB : Nat} {ps : List (Nat × Nat)} (h : OwnX w N t pB eB bB ps) (hb : ∀ b ∈ pB :: eB :: bB :: ps.map (·.1), w'.heap[b]? = w.heap[b]?) : OwnX w' N t pB eB bB ps :=
  ⟨h.len, (hb pB (by simp)).trans h.pg, fun i q p hq hp => (hb q.1 (by simp only [List.mem_cons]; exact .inr (.inr (.inr (List.mem_map_of_mem (List.mem_of_getElem? hq)))))).trans (h.page i q p hq hp), (hb eB (by simp)).trans h.er, (hb bB (by simp)).trans h.bl, h.nd, h.lo, h.cap⟩
theorem OwnX.below {w w' : World} {N : Nat} {t : St} {pB eB bB : Nat} {ps : List (Nat × Nat)} (h : OwnX w N t pB eB bB ps) (hb : Below w.heap.size w w') : OwnX w' N t pB eB bB ps := h.keep fun b hm => hb.block b (h.lt b hm)
theorem OwnX.base {w : World} {N N' : Nat} {t : St} {pB eB bB : Nat} {ps : List (Nat × Nat)} (h : OwnX w N t pB eB bB ps) (hN : N' ≤ N) : OwnX w N' t pB eB bB ps :=
  ⟨h.len, h.pg, h.page, h.er, h.bl, h.nd, fun b hb => Nat.le_trans hN (h.lo b hb), h.cap⟩

/-- A chip over an own state. -/
def ownF (g : Nat) (t : St) (pB eB bB : Nat) (ps : List (Nat × Nat)) : RF := ⟨g, pB, t.pages.length, eB, t.erases.length, bB, t.blown.length, ps, none, 0, none⟩
theorem OwnX.cat {w : World} {N : Nat} {s : RS} {S : ByteArray} {pB eB bB g : Nat} {ps : List (Nat × Nat)} (h : OwnX w N s.st pB eB bB ps) (hrow : Row w g 80 (s.ccells (ownF g s.st pB eB bB ps) S)) (hok : s.Ok) (hg : g ∉ pB :: eB :: bB :: ps.map (·.1)) (hw : -1 ≤ s.wait) (hm : 0 ≤ s.wait → MskIs s.c.cells s.mask S) :
    CAt w (ownF g s.st pB eB bB ps) s S := by
  refine ⟨hrow, h.len, ⟨[], by rw [List.append_nil]; exact h.pg⟩, fun i q p hq hp => ⟨[], by rw [List.append_nil]; exact h.page i q p hq hp⟩, ⟨[], by rw [List.append_nil]; exact h.er⟩, ⟨[], by rw [List.append_nil]; exact h.bl⟩, rfl, ?_, hok, hw, hm⟩
  show (g :: pB :: eB :: bB :: (ps.map (·.1) ++ [])).Nodup
  rw [List.append_nil]
  exact List.nodup_cons.2 ⟨hg, h.nd⟩
theorem ownF_blocks {N g pB eB bB : Nat} {t : St} {ps : List (Nat × Nat)} {w : World} (h : OwnX w N t pB eB bB ps) (hg : N ≤ g) : ∀ B ∈ (ownF g t pB eB bB ps).blocks, N ≤ B := by
  intro B hB
  have e : (ownF g t pB eB bB ps).blocks = g :: pB :: eB :: bB :: (ps.map (·.1) ++ []) := rfl
  rw [e, List.append_nil, List.mem_cons] at hB
  rcases hB with rfl | hB
  · exact hg
  · exact h.lo B hB

theorem CAt.small {w : World} {F : RF} {s : RS} {S : ByteArray} (h : CAt w F s S) : s.st.pages.length ≤ 4096 ∧ s.st.erases.length ≤ 4096 ∧ s.st.blown.length ≤ 4096 ∧ ∀ p, p < s.st.pages.length → (s.st.pages.getD p []).length ≤ 4096 := by
  have k := h.ok
  have h1 := k.pg
  have h2 := k.er
  have h3 := k.bl
  refine ⟨by show s.pages.length ≤ _; omega, by show s.erases.length ≤ _; omega, by show s.blown.length ≤ _; omega, fun p hp => ?_⟩
  have := (k.pgLen p hp).1
  have := k.c2
  show (s.pages.getD p []).length ≤ _
  omega

set_option maxHeartbeats 2000000 in
set_option maxRecDepth 100000 in
theorem cstate_any (F : RF) (s : RS) (S : ByteArray) (w : World) (h : CAt w F s S) :
    Calls Tryd.prog 72 #[.pointer (some ⟨F.g, 0, none⟩)] w (AgainPost s.st w) := by
  have b0 : ∀ o1, Below w.heap.size w (w.alloc o1) := fun o1 => (Below.refl _ _).alloc (Nat.le_refl _) _
  have ha : ∀ o1, CAt (w.alloc o1) F s S := fun o1 => h.below (b0 o1) (Nat.le_refl _)
  have r0 := Row.at w 29 [nilS, nilS, nilS] _ _ rfl rfl
  have hz : ∀ w : World, (zeroValue 29).run Tryd.prog w = .ok (.agg #[.slice none 0 0, .slice none 0 0, .slice none 0 0]) w := fun _ => by kernel_rfl
  obtain ⟨m1, m2, m3, m4⟩ := h.small
  have HAG : Hid (∀ o1, Calls Tryd.prog 36 #[.agg #[.slice (some ⟨F.pB, 0, none⟩) s.pages.length F.pcap, .slice (some ⟨F.eB, 0, none⟩) s.erases.length F.ecap, .slice (some ⟨F.bB, 0, none⟩) s.blown.length F.bcap]] (w.alloc o1) (AgainPost s.st (w.alloc o1))) := fun o1 => cagain_any ⟨some ⟨F.pB, 0, none⟩, F.pcap, some ⟨F.eB, 0, none⟩, F.ecap, some ⟨F.bB, 0, none⟩, F.bcap⟩ s.st (w.alloc o1) (ha o1).view m1 m2 m3 m4
  have c7 := fun o1 => (ha o1).cPages
  have c8 := fun o1 => (ha o1).cEr
  have c9 := fun o1 => (ha o1).cBl
  clear h ha m1 m2 m3 m4
  go_enter Tryd.func72, Tryd.ntmps72
  go_wp2_with (first
    | (refine (HAG.out _).mono ?_; rintro e w1 ⟨pB, eB, bB, ps, rfl, hox, hb1⟩)
    | (refine wpList_store_Row rfl 29 _ _ rfl w.heap.size 29 0 _ (ownVals s.st pB eB bB) ((hb1.block _ r0.lt).trans r0) (by simp [ownVals]) rfl rfl (by simp only [ownVals, List.length_cons, List.length_nil]; kernel_rfl) (by simp [Value.oneCell', ownVals]) ?_; intro w9 hr9 hs9))
  have hr := row_whole hr9 (by simp [ownVals])
  refine bodyPost_ret_by (results_Row Tryd.results72 _ w9 w.heap.size 29 _ _ rfl hr Tryd.underlying29 rfl (by simp only [ownVals, List.length_cons, List.length_nil]; kernel_rfl)) rfl ⟨pB, eB, bB, ps, rfl, ?_, ?_⟩
  · refine (hox.keep fun b hb => hs9.block b ?_).base (by simp)
    have := hox.lo b hb
    simp at this
    omega
  · exact hs9.below ((b0 _).trans (hb1.mono (by simp))) (by omega)

set_option maxHeartbeats 2000000 in
set_option maxRecDepth 100000 in
theorem cconfig_any (F : RF) (s : RS) (S : ByteArray) (w : World) (h : CAt w F s S) :
    Calls Tryd.prog 71 #[.pointer (some ⟨F.g, 0, none⟩)] w fun e w' => e = .returned (.agg s.c.vals.toArray) ∧ Below w.heap.size w w' := by
  have b0 : ∀ o1, Below w.heap.size w (w.alloc o1) := fun o1 => (Below.refl _ _).alloc (Nat.le_refl _) _
  have ha : ∀ o1, CAt (w.alloc o1) F s S := fun o1 => h.below (b0 o1) (Nat.le_refl _)
  have hz : ∀ w : World, (zeroValue 24).run Tryd.prog w = .ok (.agg #[.int .i64 0, .int .i64 0, .int .i64 0, .int .i64 0, .int .i64 0, .int .i64 0, .int .i64 0]) w := fun _ => by kernel_rfl
  have r0 := Row.at w 24 [.int .i64 0, .int .i64 0, .int .i64 0, .int .i64 0, .int .i64 0, .int .i64 0, .int .i64 0] _ _ rfl rfl
  have HRG : Hid (∀ o1, (w.alloc o1).rangeAt F.g 0 s.c.vals) := fun o1 => by
    have := (ha o1).row.range 0 7
    exact this
  clear h ha
  go_enter Tryd.func71, Tryd.ntmps71
  go_wp2_with (first
    | (refine wpList_load_mid rfl 24 _ rfl F.g 0 rfl s.c.vals _ (HRG.out _) Tryd.underlying24 rfl (by simp only [Cfg.vals, List.length_cons, List.length_nil]; kernel_rfl) ?_)
    | (refine wpList_store_Row rfl 24 _ _ rfl w.heap.size 24 0 _ s.c.vals r0 (by simp [Cfg.vals]) rfl rfl (by simp only [Cfg.vals, List.length_cons, List.length_nil]; kernel_rfl) (by simp [Value.oneCell', Cfg.vals]) ?_; intro w9 hr9 hs9))
  have hr := row_whole hr9 (by simp [Cfg.vals])
  exact bodyPost_ret_by (results_Row Tryd.results71 _ w9 w.heap.size 24 _ _ rfl hr Tryd.underlying24 rfl (by simp only [Cfg.vals, List.length_cons, List.length_nil]; kernel_rfl)) rfl ⟨rfl, hs9.below (b0 _) (Nat.le_refl _)⟩
end Go.Proofs.YtgpnbiaghokjkaaDoor


/-! The code's chip: Lay, Copy. (Printed by tools/genlay.py.) -/
namespace Go.Proofs.YtgpnbiaghokjkaaDoor
open Go.RowKit

/-- The cells of a chip that was just made. -/
def newCells (cf : List Value) (t : St) (pB eB bB : Nat) : List Value := cf ++ [.slice (some ⟨pB, 0, none⟩) t.pages.length t.pages.length, .slice (some ⟨eB, 0, none⟩) t.erases.length t.erases.length, .slice (some ⟨bB, 0, none⟩) t.blown.length t.blown.length, .int .i64 0, .bool false, .bool false, .int .i64 0, .string ⟨#[]⟩]

structure YI (W1 : World) (t : St) (cf : List Value) (a1 : Value) (L : Nat → Bool) (xA xB xC xD xE xF xG : Value) (pB eB bB : Nat) (ps : List (Nat × Nat)) (g : Nat) (W : World) : Prop where
  bel : Below W1.heap.size W1 W
  e0 : L 0 = true → xA = .agg cf.toArray
  e1 : L 1 = true → xB = a1
  e2 : L 2 = true → xC = .agg (ownVals t pB eB bB).toArray ∧ OwnX W W1.heap.size t pB eB bB ps
  e3 : L 3 = true → xD = .agg (newCells cf t pB eB bB).toArray
  e4 : L 4 = true → xE = .pointer (some ⟨g, 0, none⟩) ∧ Row W g 80 (newCells cf t pB eB bB) ∧ W1.heap.size ≤ g ∧ g < W.heap.size ∧ g ∉ pB :: eB :: bB :: ps.map (·.1)
  e5 : L 5 = true → xF = .pointer (some ⟨g, 0, none⟩)
  e6 : L 6 = true → xG = .int .i64 0
  l32 : L 3 = true → L 2 = true
  l43 : L 4 = true → L 3 = true
  l54 : L 5 = true → L 4 = true
section
variable {W1 : World} {t : St} {cf : List Value} {a1 : Value} {L : Nat → Bool} {xA xB xC xD xE xF xG : Value} {pB eB bB : Nat} {ps : List (Nat × Nat)} {g : Nat} {W W2 : World}
theorem YI.zero (W1 : World) (t : St) (cf : List Value) (a1 : Value) (xA xB xC xD xE xF xG : Value) : YI W1 t cf a1 (fun _ => false) xA xB xC xD xE xF xG 0 0 0 [] 0 W1.drew := ⟨(Below.refl _ _).drew, fun k => (by cases k), fun k => (by cases k), fun k => (by cases k), fun k => (by cases k), fun k => (by cases k), fun k => (by cases k), fun k => (by cases k), fun k => (by cases k), fun k => (by cases k), fun k => (by cases k)⟩
theorem YI.mono (h : YI W1 t cf a1 L xA xB xC xD xE xF xG pB eB bB ps g W) (hb : Below W.heap.size W W2) : YI W1 t cf a1 L xA xB xC xD xE xF xG pB eB bB ps g W2 := ⟨h.bel.trans (hb.mono h.bel.size), h.e0, h.e1, fun k => ⟨(h.e2 k).1, (h.e2 k).2.below hb⟩, h.e3, fun k => ⟨(h.e4 k).1, (hb.block _ (h.e4 k).2.2.2.1).trans (h.e4 k).2.1, (h.e4 k).2.2.1, Nat.lt_of_lt_of_le (h.e4 k).2.2.2.1 hb.size, (h.e4 k).2.2.2.2⟩, h.e5, h.e6, h.l32, h.l43, h.l54⟩
theorem YI.s0 (h : YI W1 t cf a1 L xA xB xC xD xE xF xG pB eB bB ps g W) : YI W1 t cf a1 (upd L 0) (.agg cf.toArray) xB xC xD xE xF xG pB eB bB ps g W := ⟨h.bel, fun _ => rfl, h.e1, h.e2, h.e3, h.e4, h.e5, h.e6, h.l32, h.l43, h.l54⟩
theorem YI.s1 (h : YI W1 t cf a1 L xA xB xC xD xE xF xG pB eB bB ps g W) : YI W1 t cf a1 (upd L 1) xA (a1) xC xD xE xF xG pB eB bB ps g W := ⟨h.bel, h.e0, fun _ => rfl, h.e2, h.e3, h.e4, h.e5, h.e6, h.l32, h.l43, h.l54⟩
theorem YI.s2 (h : YI W1 t cf a1 L xA xB xC xD xE xF xG pB eB bB ps g W) (hL : L 2 = false) {pB' eB' bB' : Nat} {ps' : List (Nat × Nat)} (ho : OwnX W2 W.heap.size t pB' eB' bB' ps') (hb : Below W.heap.size W W2) : YI W1 t cf a1 (upd L 2) xA xB (.agg (ownVals t pB' eB' bB').toArray) xD xE xF xG pB' eB' bB' ps' g W2 :=
  have m := h.mono hb
  ⟨m.bel, m.e0, m.e1, fun _ => ⟨rfl, ho.base h.bel.size⟩, fun k => no_of h.l32 hL k, fun k => no_of (fun k => h.l32 (h.l43 k)) hL k, m.e5, m.e6, fun _ => rfl, m.l43, m.l54⟩
theorem YI.s3 (h : YI W1 t cf a1 L xA xB xC xD xE xF xG pB eB bB ps g W) (h2 : L 2 = true) : YI W1 t cf a1 (upd L 3) xA xB xC (.agg (newCells cf t pB eB bB).toArray) xE xF xG pB eB bB ps g W := ⟨h.bel, h.e0, h.e1, h.e2, fun _ => rfl, h.e4, h.e5, h.e6, fun _ => h2, fun _ => rfl, h.l54⟩
theorem YI.s4 (h : YI W1 t cf a1 L xA xB xC xD xE xF xG pB eB bB ps g W) (hL : L 4 = false) (h3 : L 3 = true) : YI W1 t cf a1 (upd L 4) xA xB xC xD (.pointer (some ⟨W.heap.size, 0, none⟩)) xF xG pB eB bB ps W.heap.size (W.alloc (.cells (newCells cf t pB eB bB).toArray 80)) :=
  have m := h.mono (below_alloc W (.cells (newCells cf t pB eB bB).toArray 80))
  have hos := (h.e2 (h.l32 h3)).2
  ⟨m.bel, m.e0, m.e1, m.e2, m.e3, fun _ => ⟨rfl, heap_alloc_new W _, h.bel.size, by simp, fun hm => Nat.lt_irrefl _ (hos.lt _ hm)⟩, fun k => no_of h.l54 hL k, m.e6, m.l32, fun _ => h3, fun _ => rfl⟩
theorem YI.s5 (h : YI W1 t cf a1 L xA xB xC xD xE xF xG pB eB bB ps g W) (h4 : L 4 = true) : YI W1 t cf a1 (upd L 5) xA xB xC xD xE (.pointer (some ⟨g, 0, none⟩)) xG pB eB bB ps g W := ⟨h.bel, h.e0, h.e1, h.e2, h.e3, h.e4, fun _ => rfl, h.e6, h.l32, h.l43, fun _ => h4⟩
theorem YI.s6 (h : YI W1 t cf a1 L xA xB xC xD xE xF xG pB eB bB ps g W) : YI W1 t cf a1 (upd L 6) xA xB xC xD xE xF (.int .i64 0) pB eB bB ps g W := ⟨h.bel, h.e0, h.e1, h.e2, h.e3, h.e4, h.e5, fun _ => rfl, h.l32, h.l43, h.l54⟩
end
@[reducible] def IYL (W1 : World) (t : St) (cf : List Value) (a1 : Value) (y0 y1 y2 y3 y6 y7 y8 y9 y10 y11 y12 y13 y14 y15 : Value) : (Nat → Bool) → Act → World → Prop := fun L a W => ∃ xA xB xC xD xE xF xG pB eB bB ps g, a = ⟨#[y0, y1, y2, y3, xF, xG, y6, y7, y8, y9, y10, y11, y12, y13, y14, y15, xA, xB, xC, xD, xE], []⟩ ∧ YI W1 t cf a1 L xA xB xC xD xE xF xG pB eB bB ps g W

theorem new_cat {w : World} {N : Nat} {c : Cfg} {t : St} {pB eB bB g : Nat} {ps : List (Nat × Nat)} (h : OwnX w N t pB eB bB ps) (hrow : Row w g 80 (newCells c.vals t pB eB bB)) (hok : (layS c t).Ok) (hg : g ∉ pB :: eB :: bB :: ps.map (·.1)) :
    CAt w (ownF g t pB eB bB ps) (layS c t) ⟨#[]⟩ :=
  OwnX.cat (s := layS c t) h hrow hok hg (by show (-1 : Int) ≤ -1; decide) (fun hh => absurd hh (by show ¬ (0 : Int) ≤ -1; decide))

def LayPost (c : Cfg) (t : St) (w : World) (e : Ending) (w' : World) : Prop := Below w.heap.size w w' ∧ ((c.may ≠ 0 ∧ e = .returned (.tuple #[.pointer none, .int .i64 c.may])) ∨ (c.may = 0 ∧ ¬ Fit c t ∧ e = .returned (.tuple #[.pointer none, .int .i64 5])) ∨ (c.may = 0 ∧ Fit c t ∧ ∃ F, e = .returned (.tuple #[.pointer (some ⟨F.g, 0, none⟩), .int .i64 0]) ∧ CAt w' F (layS c t) ⟨#[]⟩ ∧ ∀ B ∈ F.blocks, w.heap.size ≤ B))

set_option maxHeartbeats 4000000 in
set_option maxRecDepth 100000 in
theorem clay_any (c : Cfg) (v : SV) (t : St) (w : World) (h : StV w v t) (l1 : t.pages.length ≤ 140737488355328) (l2 : t.erases.length ≤ 140737488355328) (l3 : t.blown.length ≤ 140737488355328) (hpl : ∀ p ∈ t.pages, p.length ≤ 140737488355328) :
    Calls Tryd.prog 15 #[.agg c.vals.toArray, .agg (v.vals t).toArray] w (LayPost c t w) := by
  have HMAY : Hid (∀ W, Calls Tryd.prog 34 #[.agg c.vals.toArray] W fun e w' => e = .returned (.int .i64 c.may) ∧ Below W.heap.size W w') := fun W => cmay_any c W
  have hV : ∀ W, Below w.heap.size w W → StV W v t := fun W hW => h.below hW (Nat.le_refl _)
  have HF : Hid (c.may = 0 → ∀ W, Below w.heap.size w W → ∀ r : Bool, (r = true ↔ Fit c t) → Calls Tryd.prog 35 #[.agg c.vals.toArray, .agg (v.vals t).toArray] W fun e w' => e = .returned (.bool r) ∧ Below W.heap.size W w') := fun hc W hW r hr => cfits_any c v t W (hV W hW) hc l1 l2 l3 hpl r hr
  have HC0 : Hid (c.may = 0 → Fit c t → ∀ W, Below w.heap.size w W → Calls Tryd.prog 36 #[.agg (v.vals t).toArray] W (AgainPost t W)) := by
    intro hc hf W hW
    obtain ⟨_, ⟨q1, q2⟩, ⟨f1, f2⟩, ⟨k1, k2⟩, ⟨a1, a2⟩, ⟨m1, m2⟩, _⟩ := may_facts hc
    obtain ⟨h1, h2, h3, h4⟩ := hf
    refine cagain_any v t W (hV W hW) (by omega) (by omega) (by omega) (fun p hp => ?_)
    have := (h4 p hp).1
    omega
  have HOK : Hid (c.may = 0 → Fit c t → (layS c t).Ok) := fun h1 h2 => lay_ok h1 h2 h.by8
  have r0 : Row ((w.alloc (.cells c.vals.toArray 24)).alloc (.cells (v.vals t).toArray 29)) w.heap.size 24 c.vals := (Row.at _ _ _ _ _ rfl rfl).alloc _
  have r1 : Row ((w.alloc (.cells c.vals.toArray 24)).alloc (.cells (v.vals t).toArray 29)) (w.heap.size + 1) 29 (v.vals t) := Row.at _ _ _ _ _ (by simp) rfl
  have bb : Below w.heap.size w ((w.alloc (.cells c.vals.toArray 24)).alloc (.cells (v.vals t).toArray 29)) := ((Below.refl _ _).alloc (Nat.le_refl _) _).alloc (by simp) _
  clear h hV hpl
  obtain ⟨cells, slots, fuses, step, keys, erases, area⟩ := c
  simp only [Cfg.vals, SV.vals] at HMAY HC0 HF r0 r1 bb ⊢
  obtain ⟨mv, hmv⟩ : ∃ mv, mv = Cfg.may ⟨cells, slots, fuses, step, keys, erases, area⟩ := ⟨_, rfl⟩
  rw [← hmv] at HMAY HC0 HF HOK
  have HMV : Hid (mv = Cfg.may ⟨cells, slots, fuses, step, keys, erases, area⟩) := hmv
  clear hmv
  generalize hW0 : (w.alloc (.cells [Value.int .i64 cells, .int .i64 slots, .int .i64 fuses, .int .i64 step, .int .i64 keys, .int .i64 erases, .int .i64 area].toArray 24)).alloc (.cells [Value.slice v.po t.pages.length v.pc, .slice v.eo t.erases.length v.ec, .slice v.bo t.blown.length v.bc].toArray 29) = W0 at *
  have c0 := r0.cell 0 _ rfl
  have c1 := r0.cell 1 _ rfl
  have c2 := r0.cell 2 _ rfl
  have c3 := r0.cell 3 _ rfl
  have c4 := r0.cell 4 _ rfl
  have c5 := r0.cell 5 _ rfl
  have c6 := r0.cell 6 _ rfl
  have d0 := r1.cell 0 _ rfl
  have d1 := r1.cell 1 _ rfl
  have d2 := r1.cell 2 _ rfl
  by_cases hm : mv = 0
  · subst hm
    have hm' : ((0 : Int) != 0) = false := rfl
    by_cases hf : Fit ⟨cells, slots, fuses, step, keys, erases, area⟩ t
    · have HFF : Hid (Fit ⟨cells, slots, fuses, step, keys, erases, area⟩ t) := hf
      have HC : Hid (∀ W, Below w.heap.size w W → Calls Tryd.prog 36 #[.agg [Value.slice v.po t.pages.length v.pc, .slice v.eo t.erases.length v.ec, .slice v.bo t.blown.length v.bc].toArray] W (AgainPost t W)) := fun W hW => HC0.out rfl hf W hW
      have HF2 : Hid (∀ W, Below w.heap.size w W → Calls Tryd.prog 35 #[.agg [Value.int .i64 cells, .int .i64 slots, .int .i64 fuses, .int .i64 step, .int .i64 keys, .int .i64 erases, .int .i64 area].toArray, .agg [Value.slice v.po t.pages.length v.pc, .slice v.eo t.erases.length v.ec, .slice v.bo t.blown.length v.bc].toArray] W fun e w' => e = .returned (.bool true) ∧ Below W.heap.size W w') := fun W hW => HF.out rfl W hW true ⟨fun _ => hf, fun _ => rfl⟩
      have HOK2 : Hid ((layS ⟨cells, slots, fuses, step, keys, erases, area⟩ t).Ok) := HOK.out rfl hf
      clear hf HF HC0 HOK
      go_enter Tryd.func15, Tryd.ntmps15
      go_wp2_with (first | (refine (HMAY.out _).mono ?_; rintro e w1 ⟨rfl, hb1⟩; have r0 : Row w1 w.heap.size 24 _ := (hb1.block _ r0.lt).trans r0; have r1 : Row w1 (w.heap.size + 1) 29 _ := (hb1.block _ r1.lt).trans r1; have bb := bb.trans (hb1.mono bb.size); clear hb1; have c0 := r0.cell 0 _ rfl; have c1 := r0.cell 1 _ rfl; have c2 := r0.cell 2 _ rfl; have c3 := r0.cell 3 _ rfl; have c4 := r0.cell 4 _ rfl; have c5 := r0.cell 5 _ rfl; have c6 := r0.cell 6 _ rfl; have d0 := r1.cell 0 _ rfl; have d1 := r1.cell 1 _ rfl; have d2 := r1.cell 2 _ rfl) | (refine (HF2.out _ bb).mono ?_; rintro e w2 ⟨rfl, hb2⟩; have r0 : Row w2 w.heap.size 24 _ := (hb2.block _ r0.lt).trans r0; have r1 : Row w2 (w.heap.size + 1) 29 _ := (hb2.block _ r1.lt).trans r1; have bb := bb.trans (hb2.mono bb.size); clear hb2; have c0 := r0.cell 0 _ rfl; have c1 := r0.cell 1 _ rfl; have c2 := r0.cell 2 _ rfl; have c3 := r0.cell 3 _ rfl; have c4 := r0.cell 4 _ rfl; have c5 := r0.cell 5 _ rfl; have c6 := r0.cell 6 _ rfl; have d0 := r1.cell 0 _ rfl; have d1 := r1.cell 1 _ rfl; have d2 := r1.cell 2 _ rfl))
      refine wp_region_inv (IYL w2 t [.int .i64 cells, .int .i64 slots, .int .i64 fuses, .int .i64 step, .int .i64 keys, .int .i64 erases, .int .i64 area] (.agg #[.slice v.po t.pages.length v.pc, .slice v.eo t.erases.length v.ec, .slice v.bo t.blown.length v.bc]) _ _ _ _ _ _ _ _ _ _ _ _ _ _) (by kernel_rfl) (by kernel_rfl) ⟨_, _, _, _, _, _, _, _, _, _, _, _, rfl, YI.zero w2 t [.int .i64 cells, .int .i64 slots, .int .i64 fuses, .int .i64 step, .int .i64 keys, .int .i64 erases, .int .i64 area] (.agg #[.slice v.po t.pages.length v.pc, .slice v.eo t.erases.length v.ec, .slice v.bo t.blown.length v.bc]) _ _ _ _ _ _ _⟩ ?_ ?_
      · refine .cons ?_ (.cons ?_ (.cons ?_ (.cons ?_ (.cons ?_ (.cons ?_ (.cons ?_ .nil))))))
        all_goals (rintro L a W ⟨xA, xB, xC, xD, xE, xF, xG, pB, eB, bB, ps, g, rfl, hI⟩ hL hd K hK)
        · have rc : Row W w.heap.size 24 _ := (hI.bel.block _ r0.lt).trans r0
          have c0 := rc.cell 0 _ rfl
          have c1 := rc.cell 1 _ rfl
          have c2 := rc.cell 2 _ rfl
          have c3 := rc.cell 3 _ rfl
          have c4 := rc.cell 4 _ rfl
          have c5 := rc.cell 5 _ rfl
          have c6 := rc.cell 6 _ rfl
          rw [if_pos (by rfl)]
          go_simp
          exact hK.out _ _ ⟨_, _, _, _, _, _, _, _, _, _, _, _, rfl, hI.s0⟩
        · have rs : Row W (w.heap.size + 1) 29 _ := (hI.bel.block _ r1.lt).trans r1
          have d0 := rs.cell 0 _ rfl
          have d1 := rs.cell 1 _ rfl
          have d2 := rs.cell 2 _ rfl
          rw [if_pos (by rfl)]
          go_simp
          exact hK.out _ _ ⟨_, _, _, _, _, _, _, _, _, _, _, _, rfl, hI.s1⟩
        · have hx := hI.e1 (hd 1 (by decide))
          subst hx
          rw [if_pos (by rfl)]
          go_simp
          refine (HC.out _ (bb.trans (hI.bel.mono bb.size))).mono ?_
          rintro e w3 ⟨pB', eB', bB', ps', rfl, hos, hb3⟩
          exact hK.out _ _ ⟨_, _, _, _, _, _, _, _, _, _, _, _, rfl, hI.s2 hL hos hb3⟩
        · have hx := hI.e0 (hd 0 (by decide))
          have hy := (hI.e2 (hd 2 (by decide))).1
          subst hx hy
          rw [if_pos (by rfl)]
          simp only [ownVals]
          go_simp
          exact hK.out _ _ ⟨_, _, _, _, _, _, _, _, _, _, _, _, rfl, hI.s3 (hd 2 (by decide))⟩
        · have hx := hI.e3 (hd 3 (by decide))
          subst hx
          rw [if_pos (by rfl)]
          simp only [newCells]
          go_simp
          exact hK.out _ _ ⟨_, _, _, _, _, _, _, _, _, _, _, _, rfl, hI.s4 hL (hd 3 (by decide))⟩
        · have hx := (hI.e4 (hd 4 (by decide))).1
          subst hx
          rw [if_pos (by rfl)]
          go_simp
          exact hK.out _ _ ⟨_, _, _, _, _, _, _, _, _, _, _, _, rfl, hI.s5 (hd 4 (by decide))⟩
        · rw [if_pos (by rfl)]
          go_simp
          exact hK.out _ _ ⟨_, _, _, _, _, _, _, _, _, _, _, _, rfl, hI.s6⟩
      · rintro L a W hall ⟨xA, xB, xC, xD, xE, xF, xG, pB, eB, bB, ps, g, rfl, hI⟩
        have hx5 := hI.e5 (hall 5 (by decide))
        have hx6 := hI.e6 (hall 6 (by decide))
        obtain ⟨_, q1, q2, q3, q4⟩ := hI.e4 (hall 4 (by decide))
        obtain ⟨_, hos⟩ := hI.e2 (hall 2 (by decide))
        have hbel := hI.bel
        subst hx5 hx6
        clear hI hall
        try dsimp only
        have bbW := bb.trans (hbel.mono bb.size)
        have hfin : LayPost ⟨cells, slots, fuses, step, keys, erases, area⟩ t w (.returned (.tuple #[.pointer (some ⟨g, 0, none⟩), .int .i64 0])) W := by
          refine ⟨bbW, .inr (.inr ⟨HMV.out.symm, HFF.out, ownF g t pB eB bB ps, rfl, new_cat hos q1 HOK2.out q4, ?_⟩)⟩
          have hsz := bb.size
          intro B hB
          have := ownF_blocks hos q2 B hB
          omega
        clear q1 hos
        go_wp2
        go_ret2
        exact hfin
    · have HFF : Hid (¬ Fit ⟨cells, slots, fuses, step, keys, erases, area⟩ t) := hf
      have HF2 : Hid (∀ W, Below w.heap.size w W → Calls Tryd.prog 35 #[.agg [Value.int .i64 cells, .int .i64 slots, .int .i64 fuses, .int .i64 step, .int .i64 keys, .int .i64 erases, .int .i64 area].toArray, .agg [Value.slice v.po t.pages.length v.pc, .slice v.eo t.erases.length v.ec, .slice v.bo t.blown.length v.bc].toArray] W fun e w' => e = .returned (.bool false) ∧ Below W.heap.size W w') := fun W hW => HF.out rfl W hW false ⟨fun q => (by cases q), fun q => absurd q hf⟩
      clear hf HF HC0 HOK
      go_enter Tryd.func15, Tryd.ntmps15
      go_wp2_with (first | (refine (HMAY.out _).mono ?_; rintro e w1 ⟨rfl, hb1⟩; have r0 : Row w1 w.heap.size 24 _ := (hb1.block _ r0.lt).trans r0; have r1 : Row w1 (w.heap.size + 1) 29 _ := (hb1.block _ r1.lt).trans r1; have bb := bb.trans (hb1.mono bb.size); clear hb1; have c0 := r0.cell 0 _ rfl; have c1 := r0.cell 1 _ rfl; have c2 := r0.cell 2 _ rfl; have c3 := r0.cell 3 _ rfl; have c4 := r0.cell 4 _ rfl; have c5 := r0.cell 5 _ rfl; have c6 := r0.cell 6 _ rfl; have d0 := r1.cell 0 _ rfl; have d1 := r1.cell 1 _ rfl; have d2 := r1.cell 2 _ rfl) | (refine (HF2.out _ bb).mono ?_; rintro e w2 ⟨rfl, hb2⟩; have r0 : Row w2 w.heap.size 24 _ := (hb2.block _ r0.lt).trans r0; have r1 : Row w2 (w.heap.size + 1) 29 _ := (hb2.block _ r1.lt).trans r1; have bb := bb.trans (hb2.mono bb.size); clear hb2))
      go_ret2
      exact ⟨bb, .inr (.inl ⟨HMV.out.symm, HFF.out, rfl⟩)⟩
  · have hm' : (mv != 0) = true := by simpa using hm
    have HMN : Hid (¬ mv = 0) := hm
    clear hm HF HC0 HOK
    go_enter Tryd.func15, Tryd.ntmps15
    go_wp2_with (first | (refine (HMAY.out _).mono ?_; rintro e w1 ⟨rfl, hb1⟩; have bb := bb.trans (hb1.mono bb.size); clear hb1))
    go_ret2
    refine ⟨bb, .inl ⟨by rw [← HMV.out]; exact HMN.out, ?_⟩⟩
    rw [← HMV.out]; rfl

end Go.Proofs.YtgpnbiaghokjkaaDoor
