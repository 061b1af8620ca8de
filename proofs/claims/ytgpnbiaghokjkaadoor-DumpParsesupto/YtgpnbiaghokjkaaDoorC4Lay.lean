
import Derived.Test.YtgpnbiaghokjkaaDoorC4Fits
import Derived.Test.YtgpnbiaghokjkaaDoorC4Erase
/-! The code's chip: State, Config, Copy, Lay. -/
namespace Go.Proofs.YtgpnbiaghokjkaaDoor
open Go.RowKit

/-- The code's own state, as a view. -/
theorem CAt.view {w : World} {F : RF} {s : RS} {S : ByteArray} (h : CAt w F s S) : StV w ⟨some ⟨F.pB, 0, none⟩, F.pcap, some ⟨F.eB, 0, none⟩, F.ecap, some ⟨F.bB, 0, none⟩, F.bcap⟩ s.st := by
  refine ⟨⟨F.ps.map (fun q => (some ⟨q.1, 0, none⟩, q.2)), by rw [List.length_map]; exact h.len, .inr ⟨F.pB, 0, rfl, fun j v hv => ?_⟩, fun i q p hq hp => ?_⟩, .inr ⟨F.eB, 0, rfl, fun j v hv => by rw [Nat.zero_add]; exact h.er.cell j v hv⟩, .inr ⟨F.bB, 0, rfl, fun j v hv => by rw [Nat.zero_add]; exact h.bl.cell j v hv⟩, h.ok.by8⟩
  · rw [Nat.zero_add]
    refine h.pg.cell j v ?_
    rw [← hv, List.getElem?_zipWith, List.getElem?_zipWith, List.getElem?_map]
    rw [show s.st.pages = s.pages from rfl]
    cases F.ps[j]? <;> cases s.pages[j]? <;> rfl
  · rw [List.getElem?_map] at hq
    cases hf : F.ps[i]? with
    | none => rw [hf] at hq; cases hq
    | some q0 =>
      rw [hf] at hq
      injection hq with hq
      subst hq
      exact .inr ⟨q0.1, 0, rfl, fun j v hv => by rw [Nat.zero_add]; exact (h.page i q0 p hf hp).cell j v hv⟩

/-- An own state, as a view. -/
theorem OwnX.view {w : World} {N : Nat} {t : St} {pB eB bB : Nat} {ps : List (Nat × Nat)} (h : OwnX w N t pB eB bB ps) (h8 : ∀ p ∈ t.pages, ∀ x ∈ p, x.length = 32) : StV w ⟨some ⟨pB, 0, none⟩, t.pages.length, some ⟨eB, 0, none⟩, t.erases.length, some ⟨bB, 0, none⟩, t.blown.length⟩ t := by
  refine ⟨⟨ps.map (fun q => (some ⟨q.1, 0, none⟩, q.2)), by rw [List.length_map]; exact h.len, .inr ⟨pB, 0, rfl, fun j v hv => ?_⟩, fun i q p hq hp => ?_⟩, .inr ⟨eB, 0, rfl, fun j v hv => by rw [Nat.zero_add]; exact h.er.cell j v hv⟩, .inr ⟨bB, 0, rfl, fun j v hv => by rw [Nat.zero_add]; exact h.bl.cell j v hv⟩, h8⟩
  · rw [Nat.zero_add]
    refine h.pg.cell j v ?_
    rw [← hv, List.getElem?_zipWith, List.getElem?_zipWith, List.getElem?_map]
    cases ps[j]? <;> cases t.pages[j]? <;> rfl
  · rw [List.getElem?_map] at hq
    cases hf : ps[i]? with
    | none => rw [hf] at hq; cases hq
    | some q0 =>
      rw [hf] at hq
      injection hq with hq
      subst hq
      exact .inr ⟨q0.1, 0, rfl, fun j v hv => by rw [Nat.zero_add]; exact (h.page i q0 p hf hp).cell j v hv⟩
theorem OwnX.lt {w : World} {N : Nat} {t : St} {pB eB bB : Nat} {ps : List (Nat × Nat)} (h : OwnX w N t pB eB bB ps) : ∀ b ∈ pB :: eB :: bB :: ps.map (·.1), b < w.heap.size := by
  intro b hb
  simp only [List.mem_cons, List.mem_map] at hb
  rcases hb with rfl | rfl | rfl | ⟨q, hq, rfl⟩
  · exact h.pg.lt
  · exact h.er.lt
  · exact h.bl.lt
  · obtain ⟨i, hi⟩ := List.mem_iff_getElem?.1 hq
    have hil : i < ps.length := (List.getElem?_eq_some_iff.1 hi).1
    exact (h.page i q (t.pages[i]'(by rw [← h.len]; exact hil)) hi (List.getElem?_eq_getElem _)).lt
theorem OwnX.keep {w w' : World} {N : Nat} {t : St} {pB eB bB : Nat} {ps : List (Nat × Nat)} (h : OwnX w N t pB eB bB ps) (hb : ∀ b ∈ pB :: eB :: bB :: ps.map (·.1), w'.heap[b]? = w.heap[b]?) : OwnX w' N t pB eB bB ps :=
  ⟨h.len, (hb pB (by simp)).trans h.pg, fun i q p hq hp => (hb q.1 (by simp only [List.mem_cons]; exact .inr (.inr (.inr (List.mem_map_of_mem (List.mem_of_getElem? hq)))))).trans (h.page i q p hq hp), (hb eB (by simp)).trans h.er, (hb bB (by simp)).trans h.bl, h.nd, h.lo, h.cap⟩
theorem OwnX.below {w w' : World} {N : Nat} {t : St} {pB eB bB : Nat} {ps : List (Nat × Nat)} (h : OwnX w N t pB eB bB ps) (hb : Below w.heap.size w w') : OwnX w' N t pB eB bB ps := h.keep fun b hm => hb.block b (h.lt b hm)
theorem OwnX.base {w : World} {N N' : Nat} {t : St} {pB eB bB : Nat} {ps : List (Nat × Nat)} (h : OwnX w N t pB eB bB ps) (hN : N' ≤ N) : OwnX w N' t pB eB bB ps :=
  ⟨h.len, h.pg, h.page, h.er, h.bl, h.nd, fun b hb => Nat.le_trans hN (h.lo b hb), h.cap⟩

/-- A chip over an own state. -/
def ownF (g : Nat) (t : St) (pB eB bB : Nat) (ps : List (Nat × Nat)) : RF := ⟨g, pB, t.pages.length, eB, t.erases.length, bB, t.blown.length, ps, none, 0, none⟩
theorem OwnX.cat {w : World} {N : Nat} {s : RS} {S : ByteArray} {pB eB bB g : Nat} {ps : List (Nat × Nat)} (h : OwnX w N s.st pB eB bB ps) (hrow : Row w g 80 (s.ccells (ownF g s.st pB eB bB ps) S)) (hok : s.Ok) (hg : g ∉ pB :: eB :: bB :: ps.map (·.1)) (hw : -1 ≤ s.wait) (hm : 0 ≤ s.wait → MskIs s.c.cells s.mask S) :
    CAt w (ownF g s.st pB eB bB ps) s S := by
  refine ⟨hrow, h.len, ⟨[], by rw [List.append_nil]; exact h.pg⟩, fun i q p hq hp => ⟨[], by rw [List.append_nil]; exact h.page i q p hq hp⟩, ⟨[], by rw [List.append_nil]; exact h.er⟩, ⟨[], by rw [List.append_nil]; exact h.bl⟩, rfl, ?_, hok, hw, hm⟩
  show (g :: pB :: eB :: bB :: (ps.map (·.1) ++ [])).Nodup
  rw [List.append_nil]
  exact List.nodup_cons.2 ⟨hg, h.nd⟩
theorem ownF_blocks {N g pB eB bB : Nat} {t : St} {ps : List (Nat × Nat)} {w : World} (h : OwnX w N t pB eB bB ps) (hg : N ≤ g) : ∀ B ∈ (ownF g t pB eB bB ps).blocks, N ≤ B := by
  intro B hB
  have e : (ownF g t pB eB bB ps).blocks = g :: pB :: eB :: bB :: (ps.map (·.1) ++ []) := rfl
  rw [e, List.append_nil, List.mem_cons] at hB
  rcases hB with rfl | hB
  · exact hg
  · exact h.lo B hB

theorem CAt.small {w : World} {F : RF} {s : RS} {S : ByteArray} (h : CAt w F s S) : s.st.pages.length ≤ 4096 ∧ s.st.erases.length ≤ 4096 ∧ s.st.blown.length ≤ 4096 ∧ ∀ p, p < s.st.pages.length → (s.st.pages.getD p []).length ≤ 4096 := by
  have k := h.ok
  have h1 := k.pg
  have h2 := k.er
  have h3 := k.bl
  refine ⟨by show s.pages.length ≤ _; omega, by show s.erases.length ≤ _; omega, by show s.blown.length ≤ _; omega, fun p hp => ?_⟩
  have := (k.pgLen p hp).1
  have := k.c2
  show (s.pages.getD p []).length ≤ _
  omega

set_option maxHeartbeats 2000000 in
set_option maxRecDepth 100000 in
theorem cstate_any (F : RF) (s : RS) (S : ByteArray) (w : World) (h : CAt w F s S) :
    Calls Tryd.prog 72 #[.pointer (some ⟨F.g, 0, none⟩)] w (AgainPost s.st w) := by
  have b0 : ∀ o1, Below w.heap.size w (w.alloc o1) := fun o1 => (Below.refl _ _).alloc (Nat.le_refl _) _
  have ha : ∀ o1, CAt (w.alloc o1) F s S := fun o1 => h.below (b0 o1) (Nat.le_refl _)
  have r0 := Row.at w 29 [nilS, nilS, nilS] _ _ rfl rfl
  have hz : ∀ w : World, (zeroValue 29).run Tryd.prog w = .ok (.agg #[.slice none 0 0, .slice none 0 0, .slice none 0 0]) w := fun _ => by kernel_rfl
  obtain ⟨m1, m2, m3, m4⟩ := h.small
  have HAG : Hid (∀ o1, Calls Tryd.prog 36 #[.agg #[.slice (some ⟨F.pB, 0, none⟩) s.pages.length F.pcap, .slice (some ⟨F.eB, 0, none⟩) s.erases.length F.ecap, .slice (some ⟨F.bB, 0, none⟩) s.blown.length F.bcap]] (w.alloc o1) (AgainPost s.st (w.alloc o1))) := fun o1 => cagain_any ⟨some ⟨F.pB, 0, none⟩, F.pcap, some ⟨F.eB, 0, none⟩, F.ecap, some ⟨F.bB, 0, none⟩, F.bcap⟩ s.st (w.alloc o1) (ha o1).view m1 m2 m3 m4
  have c7 := fun o1 => (ha o1).cPages
  have c8 := fun o1 => (ha o1).cEr
  have c9 := fun o1 => (ha o1).cBl
  clear h ha m1 m2 m3 m4
  go_enter Tryd.func72, Tryd.ntmps72
  go_wp2_with (first
    | (refine (HAG.out _).mono ?_; rintro e w1 ⟨pB, eB, bB, ps, rfl, hox, hb1⟩)
    | (refine wpList_store_Row rfl 29 _ _ rfl w.heap.size 29 0 _ (ownVals s.st pB eB bB) ((hb1.block _ r0.lt).trans r0) (by simp [ownVals]) rfl rfl (by simp only [ownVals, List.length_cons, List.length_nil]; kernel_rfl) (by simp [Value.oneCell', ownVals]) ?_; intro w9 hr9 hs9))
  have hr := row_whole hr9 (by simp [ownVals])
  refine bodyPost_ret_by (results_Row Tryd.results72 _ w9 w.heap.size 29 _ _ rfl hr Tryd.underlying29 rfl (by simp only [ownVals, List.length_cons, List.length_nil]; kernel_rfl)) rfl ⟨pB, eB, bB, ps, rfl, ?_, ?_⟩
  · refine (hox.keep fun b hb => hs9.block b ?_).base (by simp)
    have := hox.lo b hb
    simp at this
    omega
  · exact hs9.below ((b0 _).trans (hb1.mono (by simp))) (by omega)

set_option maxHeartbeats 2000000 in
set_option maxRecDepth 100000 in
theorem cconfig_any (F : RF) (s : RS) (S : ByteArray) (w : World) (h : CAt w F s S) :
    Calls Tryd.prog 71 #[.pointer (some ⟨F.g, 0, none⟩)] w fun e w' => e = .returned (.agg s.c.vals.toArray) ∧ Below w.heap.size w w' := by
  have b0 : ∀ o1, Below w.heap.size w (w.alloc o1) := fun o1 => (Below.refl _ _).alloc (Nat.le_refl _) _
  have ha : ∀ o1, CAt (w.alloc o1) F s S := fun o1 => h.below (b0 o1) (Nat.le_refl _)
  have hz : ∀ w : World, (zeroValue 24).run Tryd.prog w = .ok (.agg #[.int .i64 0, .int .i64 0, .int .i64 0, .int .i64 0, .int .i64 0, .int .i64 0, .int .i64 0]) w := fun _ => by kernel_rfl
  have r0 := Row.at w 24 [.int .i64 0, .int .i64 0, .int .i64 0, .int .i64 0, .int .i64 0, .int .i64 0, .int .i64 0] _ _ rfl rfl
  have HRG : Hid (∀ o1, (w.alloc o1).rangeAt F.g 0 s.c.vals) := fun o1 => by
    have := (ha o1).row.range 0 7
    exact this
  clear h ha
  go_enter Tryd.func71, Tryd.ntmps71
  go_wp2_with (first
    | (refine wpList_load_mid rfl 24 _ rfl F.g 0 rfl s.c.vals _ (HRG.out _) Tryd.underlying24 rfl (by simp only [Cfg.vals, List.length_cons, List.length_nil]; kernel_rfl) ?_)
    | (refine wpList_store_Row rfl 24 _ _ rfl w.heap.size 24 0 _ s.c.vals r0 (by simp [Cfg.vals]) rfl rfl (by simp only [Cfg.vals, List.length_cons, List.length_nil]; kernel_rfl) (by simp [Value.oneCell', Cfg.vals]) ?_; intro w9 hr9 hs9))
  have hr := row_whole hr9 (by simp [Cfg.vals])
  exact bodyPost_ret_by (results_Row Tryd.results71 _ w9 w.heap.size 24 _ _ rfl hr Tryd.underlying24 rfl (by simp only [Cfg.vals, List.length_cons, List.length_nil]; kernel_rfl)) rfl ⟨rfl, hs9.below (b0 _) (Nat.le_refl _)⟩
end Go.Proofs.YtgpnbiaghokjkaaDoor
