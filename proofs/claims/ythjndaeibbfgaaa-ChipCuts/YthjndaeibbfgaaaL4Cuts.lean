import Derived.Test.YthjndaeibbfgaaaL4CutM
/-! ChipCuts: the walk. -/
namespace Go.Proofs.Ythjndaeibbfgaaa
open Go.RowKit

theorem OwnX.pageAt {w : World} {N : Nat} {t : St} {pB eB bB : Nat} {ps : List (Nat × Nat)} (h : OwnX w N t pB eB bB ps) (i : Nat) (hi : i < t.pages.length) : ∃ Q qc, w.cell? ⟨pB, i, none⟩ = some (.slice (some ⟨Q, 0, none⟩) (t.pages.getD i []).length qc) ∧ Row w Q 49 ((t.pages.getD i []).flatten.map B8) := by
  have hq : ps[i]? = some (ps[i]'(by rw [h.len]; exact hi)) := List.getElem?_eq_getElem _
  have hpp : t.pages[i]? = some t.pages[i] := List.getElem?_eq_getElem hi
  have hd : t.pages.getD i [] = t.pages[i] := by rw [List.getD_eq_getElem?_getD, hpp]; rfl
  rw [hd]
  exact ⟨_, _, h.pg.cell i _ (by rw [List.getElem?_zipWith, hq, hpp]; rfl), h.page i _ _ hq hpp⟩
theorem OwnX.erAt {w : World} {N : Nat} {t : St} {pB eB bB : Nat} {ps : List (Nat × Nat)} (h : OwnX w N t pB eB bB ps) (i : Nat) (hi : i < t.erases.length) : w.cell? ⟨eB, i, none⟩ = some (.int .i64 (t.erases.getD i 0)) :=
  h.er.cell i _ (by rw [List.getElem?_map, List.getD_eq_getElem?_getD, List.getElem?_eq_getElem hi]; rfl)
theorem OwnX.blAt {w : World} {N : Nat} {t : St} {pB eB bB : Nat} {ps : List (Nat × Nat)} (h : OwnX w N t pB eB bB ps) (i : Nat) (hi : i < t.blown.length) : w.cell? ⟨bB, i, none⟩ = some (.bool (t.blown.getD i false)) :=
  h.bl.cell i _ (by rw [List.getElem?_map, List.getD_eq_getElem?_getD, List.getElem?_eq_getElem hi]; rfl)
theorem row_cellAt {w : World} {Q : Nat} {p : List (List By)} (h : Row w Q 49 (p.flatten.map B8)) (h8 : ∀ x ∈ p, x.length = 32) (c : Nat) (hc : c < p.length) : w.rangeAt Q (c * 32) ((p.getD c []).map B8) := by
  have h1 := h.range (c * 32) 32
  rw [Nat.mul_comm c 32, ← List.map_drop, ← List.map_take, flat_seg _ h8 c hc] at h1
  rw [Nat.mul_comm c 32]; exact h1

/-- What the statement holds of three states: what was, the half, the whole. -/
structure Three (w0 : World) (N : Nat) (m : List By) (mo : Option Addr) (t hx wh : St) (VS : List Value) (l1 l2 l3 p1 e1 b1 p2 e2 b2 p3 e3 b3 : Nat) (W : World) : Prop where
  bel : Below N w0 W
  rs : Row W (N + 2) 52 VS
  r1 : Row W l1 40 (ownVals t p1 e1 b1)
  r2 : Row W l2 40 (ownVals hx p2 e2 b2)
  r3 : Row W l3 40 (ownVals wh p3 e3 b3)
  o1 : ∃ ps, OwnX W N t p1 e1 b1 ps
  o2 : ∃ ps, OwnX W N hx p2 e2 b2 ps
  o3 : ∃ ps, OwnX W N wh p3 e3 b3 ps
  ib : IsB W mo m
theorem Three.below {w0 : World} {N : Nat} {m : List By} {mo : Option Addr} {t hx wh : St} {VS : List Value} {l1 l2 l3 p1 e1 b1 p2 e2 b2 p3 e3 b3 : Nat} {W W' : World} (h : Three w0 N m mo t hx wh VS l1 l2 l3 p1 e1 b1 p2 e2 b2 p3 e3 b3 W) (hb : Below W.heap.size W W') (hN : N ≤ W.heap.size) : Three w0 N m mo t hx wh VS l1 l2 l3 p1 e1 b1 p2 e2 b2 p3 e3 b3 W' := by
  obtain ⟨q1, o1⟩ := h.o1
  obtain ⟨q2, o2⟩ := h.o2
  obtain ⟨q3, o3⟩ := h.o3
  exact ⟨h.bel.trans (hb.mono hN), (hb.block _ h.rs.lt).trans h.rs, (hb.block _ h.r1.lt).trans h.r1, (hb.block _ h.r2.lt).trans h.r2, (hb.block _ h.r3.lt).trans h.r3, ⟨q1, o1.below hb⟩, ⟨q2, o2.below hb⟩, ⟨q3, o3.below hb⟩, h.ib.below hb (Nat.le_refl _)⟩

theorem KeptL.below' {L : List Nat} {w w' : World} {N : Nat} (h : KeptL L w w') (hL : ∀ b ∈ L, N ≤ b) (hN : N ≤ w.heap.size) : Below N w w' :=
  ⟨h.os, h.tape, h.output, h.size, fun k hk => h.block k (by omega) (fun hm => by have := hL k hm; omega)⟩

theorem fit_erases {c : Cfg} {t : St} (h : Fit c t) : ∀ e ∈ t.erases, 0 ≤ e := by
  intro e he
  obtain ⟨i, hi⟩ := List.mem_iff_getElem?.1 he
  have hlt := (List.getElem?_eq_some_iff.1 hi).1
  have h1 := h.1
  have h2 := h.2.1
  have := (h.2.2.2 i (by omega)).2
  rw [List.getD_eq_getElem?_getD, hi] at this
  exact this

set_option maxHeartbeats 8000000 in
set_option maxRecDepth 100000 in
theorem cuts_any (c : Cfg) (v : SV) (t : St) (k a b : Int) (x : List By) (hx : x.length = 32) (so : Option Addr) (sl sc : Nat) (mo : Option Addr) (ml mc : Nat) (m : List By) (hm : m.length = ml) (w : World) (h : StV w v t) (l1 : t.pages.length ≤ 140737488355328) (l2 : t.erases.length ≤ 140737488355328) (l3 : t.blown.length ≤ 140737488355328) (hpl : ∀ p ∈ t.pages, p.length ≤ 140737488355328) (hib : IsB w mo m) (hcap : ml ≤ mc) (hml : ml ≤ 140737488355328) :
    Calls Try.prog 5 #[.agg c.vals.toArray, .agg (v.vals t).toArray, .agg (stepVals k a b x so sl sc).toArray, .slice mo ml mc] w fun e w' => e = .returned (.bool true) ∧ Below w.heap.size w w' := by
  have HFX : Hid (∀ W, Calls Try.prog 6 #[] W fun e w' => e = .returned (.bool true) ∧ Below W.heap.size W w') := fixed_any
  obtain ⟨VS, hVS⟩ : ∃ VS, VS = stepVals k a b x so sl sc := ⟨_, rfl⟩
  have hVl : VS.length = 36 := by rw [hVS]; simp [stepVals, hx]
  have HV0 : Hid (VS[0]? = some (.int .i64 k)) := by rw [hVS]; exact rfl
  have HDN : Hid (∀ (F : RF) (s : RS) (S : ByteArray) (W : World), CAt W F s S → 0 ≤ s.n → s.n < 4611686018427387904 → s.wait < 9223372036854775808 → s.c.erases ≤ 65536 → (∀ e ∈ s.erases, 0 ≤ e) → Calls Try.prog 19 #[.pointer (some ⟨F.g, 0, none⟩), .agg VS.toArray] W (CPost F (s.doneS k a b x) (s.doneE k a b) W)) := fun F s S W h1 h2 h3 h4 h5 h6 => by rw [hVS]; exact done_any F s S k a b x hx so sl sc W h1 h2 h3 h4 h5 h6
  rw [← hVS]
  obtain ⟨W0, hW0⟩ : ∃ W0, W0 = ((w.alloc (.cells c.vals.toArray 23)).alloc (.cells (v.vals t).toArray 40)).alloc (.cells VS.toArray 52) := ⟨_, rfl⟩
  have r0 : Row W0 w.heap.size 23 c.vals := by rw [hW0]; exact ((Row.at _ _ _ _ _ rfl rfl : Row (w.alloc _) _ _ _).alloc _).alloc _
  have r1 : Row W0 (w.heap.size + 1) 40 (v.vals t) := by rw [hW0]; exact (Row.at _ _ _ _ _ (by simp) rfl : Row ((w.alloc _).alloc _) _ _ _).alloc _
  have r2 : Row W0 (w.heap.size + 2) 52 VS := by rw [hW0]; exact Row.at _ _ _ _ _ (by simp) rfl
  have bb : Below w.heap.size w W0 := by rw [hW0]; exact (((Below.refl _ _).alloc (Nat.le_refl _) _).alloc (by simp) _).alloc (by simp; omega) _
  have HLAY : Hid (∀ W, Below w.heap.size w W → Calls Try.prog 12 #[.agg c.vals.toArray, .agg (v.vals t).toArray] W (LayPost c t W)) := fun W hW => clay_any c v t W (h.below hW (Nat.le_refl _)) l1 l2 l3 hpl
  have HIB : Hid (∀ W, Below w.heap.size w W → IsB W mo m) := fun W hW => hib.below hW (Nat.le_refl _)
  have HBL : Hid (m = [] ∨ ∀ B off, mo = some ⟨B, off, none⟩ → B < w.heap.size) := by
    rcases hib with e | ⟨B, off, rfl, hc⟩
    · exact .inl e
    · by_cases he : m = []
      · exact .inl he
      · refine .inr fun B' off' e => ?_
        injection e with e
        injection e with e1 e2
        subst e1
        obtain ⟨y, ys, rfl⟩ := List.exists_cons_of_ne_nil he
        exact World.block_lt_of_cell? _ _ (hc 0 y rfl)
  have H8 : Hid (∀ p ∈ t.pages, ∀ x ∈ p, x.length = 32) := h.by8
  have hcl : c.vals.length = 7 := rfl
  have hvl : (v.vals t).length = 3 := rfl
  clear h hib hpl l1 l2 l3 hVS
  go_enter Try.func5, Try.ntmps5
  go_wp2_with fail
  rw [← hW0]
  clear hW0
  refine (HFX.out _).mono ?_
  rintro e w1 ⟨rfl, hb1⟩
  replace r0 : Row w1 w.heap.size 23 _ := (hb1.block _ r0.lt).trans r0
  replace r1 : Row w1 (w.heap.size + 1) 40 _ := (hb1.block _ r1.lt).trans r1
  replace r2 : Row w1 (w.heap.size + 2) 52 _ := (hb1.block _ r2.lt).trans r2
  replace bb := bb.trans (hb1.mono bb.size)
  clear hb1
  go_wp2_with (first
    | (refine wpList_load_Row rfl 23 _ rfl _ _ _ r0 rfl _ Try.underlying23 rfl (by rw [hcl]; kernel_rfl) ?_)
    | (refine wpList_load_Row rfl 40 _ rfl _ _ _ r1 rfl _ Try.underlying40 rfl (by rw [hvl]; kernel_rfl) ?_))
  have hz1 : w.heap.size + 2 < w1.heap.size := r2.lt
  refine (HLAY.out _ bb).mono ?_
  rintro e w2 ⟨hb2, hcase⟩
  replace r2 : Row w2 (w.heap.size + 2) 52 _ := (hb2.block _ r2.lt).trans r2
  have bb2 := bb.trans (hb2.mono bb.size)
  clear r0 r1
  rcases hcase with ⟨hmay, rfl⟩ | ⟨hmay, hnf, rfl⟩ | ⟨hmay, hfit, F, rfl, ca, hF⟩
  · have g1 : (c.may != 0) = true := by rw [bne_iff_ne]; exact hmay
    generalize c.may = mv at *
    clear hmay
    go_wp2
    go_ret
    exact ⟨rfl, bb2⟩
  · go_wp2
    go_ret
    exact ⟨rfl, bb2⟩
  · have hok := ca.ok
    have hmf := may_facts hmay
    have hce : c.erases ≤ 65536 := hmf.2.2.2.2.2.2.2
    have he0 := fit_erases hfit
    have hend := cut_ends c t m k a b x hok
    obtain ⟨sX, hsX⟩ : ∃ s, s = (cutS c t m).doneS k a b x := ⟨_, rfl⟩
    obtain ⟨sY, hsY⟩ : ∃ s, s = (layS c t).doneS k a b x := ⟨_, rfl⟩
    obtain ⟨EX, hEX⟩ : ∃ e, e = (cutS c t m).doneE k a b := ⟨_, rfl⟩
    obtain ⟨EY, hEY⟩ : ∃ e, e = (layS c t).doneE k a b := ⟨_, rfl⟩
    have HDX : Hid (∀ W S, CAt W F (cutS c t m) S → Calls Try.prog 19 #[.pointer (some ⟨F.g, 0, none⟩), .agg VS.toArray] W (CPost F sX EX W)) := fun W S hW => by
      rw [hsX, hEX]
      exact HDN.out F (cutS c t m) S W hW (by show (0 : Int) ≤ 0; omega) (by show (0 : Int) < _; omega) (by show (max (-1) 0 : Int) < _; omega) hce he0
    have HDY : Hid (∀ (G : RF) W S, CAt W G (layS c t) S → Calls Try.prog 19 #[.pointer (some ⟨G.g, 0, none⟩), .agg VS.toArray] W (CPost G sY EY W)) := fun G W S hW => by
      rw [hsY, hEY]
      exact HDN.out G (layS c t) S W hW (by show (0 : Int) ≤ 0; omega) (by show (0 : Int) < _; omega) (by show (-1 : Int) < _; omega) hce he0
    have HCO : Hid (∀ W S, CAt W F (layS c t) S → Calls Try.prog 17 #[.pointer (some ⟨F.g, 0, none⟩)] W (CopyPost (layS c t) S W)) := fun W S hW => ccopy_any F (layS c t) S W hW
    have HST : Hid (∀ W S, CAt W F (layS c t) S → Calls Try.prog 16 #[.pointer (some ⟨F.g, 0, none⟩)] W (AgainPost t W)) := fun W S hW => cstate_any F (layS c t) S W hW
    have HSX : Hid (∀ W S, CAt W F sX S → Calls Try.prog 16 #[.pointer (some ⟨F.g, 0, none⟩)] W (AgainPost sX.st W)) := fun W S hW => cstate_any F sX S W hW
    have HSY : Hid (∀ (G : RF) W S, CAt W G sY S → Calls Try.prog 16 #[.pointer (some ⟨G.g, 0, none⟩)] W (AgainPost sY.st W)) := fun G W S hW => cstate_any G sY S W hW
    have HCU : Hid (∀ W S, Below w.heap.size w W → CAt W F (layS c t) S → Calls Try.prog 18 #[.pointer (some ⟨F.g, 0, none⟩), .int .i64 0, .slice mo ml mc] W fun e w' => e = .returned (.tuple #[]) ∧ (∃ S', CAt w' F (cutS c t m) S') ∧ SameBut F.g W w') := fun W S hB hW => by
      refine ccut_any F (layS c t) S 0 mo ml mc m hm W hW (HIB.out W hB) ?_ hcap hml (by omega)
      rcases HBL.out with e | e
      · exact .inl e
      · refine .inr fun B off h1 => ?_
        have h2 := e B off h1
        have h3 := hF F.g (by simp [RF.blocks])
        have h4 := bb.size
        omega
    have HOX : Hid (∀ W S, CAt W F sX S → Calls Try.prog 20 #[.pointer (some ⟨F.g, 0, none⟩)] W fun e w' => e = .returned (.bool sX.gone) ∧ w' = W) := fun W S hW => cout_any F sX S W hW
    have HAX : Hid (∀ W S, CAt W F sX S → Calls Try.prog 21 #[.pointer (some ⟨F.g, 0, none⟩)] W fun e w' => e = .returned (.int .i64 sX.n) ∧ w' = W) := fun W S hW => cacts_any F sX S W hW
    rw [← hsX, ← hsY, ← hEX, ← hEY] at hend
    have HEND : Hid ((EX = 8 ∧ EY = 0 ∧ sX.gone = true ∧ CutRes t m k sX.st sY.st) ∨ (EX = EY ∧ (EX = 2 ∨ EX = 9) ∧ sX = cutS c t m)) := hend
    have hFN : Hid (∀ B ∈ F.blocks, w.heap.size + 3 ≤ B) := fun B hB => by
      have h1 := hF B hB
      omega
    have HCA : Hid (CAt w2 F (layS c t) ⟨#[]⟩) := ca
    have HOKK : Hid ((layS c t).Ok) := hok
    clear hsX hsY hEX hEY hend hmf hce he0 hok ca hmay HDN HLAY HFX hb2 bb hF hz1
    go_wp2_with fail
    refine (HCO.out _ _ HCA.out).mono ?_
    rintro e w3 ⟨G, rfl, cb, hG, hb3⟩
    have HSEP : Hid ((∀ B ∈ F.blocks, B ∉ G.blocks) ∧ ∀ B ∈ G.blocks, w.heap.size + 3 ≤ B) := ⟨fun B hB hB2 => by have h1 := HCA.out.blt B hB; have h2 := hG B hB2; omega, fun B hB => by have h1 := hG B hB; have h2 := r2.lt; omega⟩
    have HCA3 : Hid (CAt w3 F (layS c t) ⟨#[]⟩) := HCA.out.below hb3 (Nat.le_refl _)
    have HCB3 : Hid (CAt w3 G (layS c t) ⟨#[]⟩) := cb
    replace r2 : Row w3 (w.heap.size + 2) 52 _ := (hb3.block _ r2.lt).trans r2
    have bb3 := bb2.trans (hb3.mono bb2.size)
    clear HCA cb hG hb3 bb2
    go_wp2_with fail
    refine (HST.out _ _ HCA3.out).mono ?_
    rintro e w4 ⟨p1, e1, b1, ps1, rfl, ox1, hb4⟩
    have HCA4 : Hid (CAt w4 F (layS c t) ⟨#[]⟩) := HCA3.out.below hb4 (Nat.le_refl _)
    have HCB4 : Hid (CAt w4 G (layS c t) ⟨#[]⟩) := HCB3.out.below hb4 (Nat.le_refl _)
    replace r2 : Row w4 (w.heap.size + 2) 52 _ := (hb4.block _ r2.lt).trans r2
    have HX1 : Hid (∀ b ∈ p1 :: e1 :: b1 :: ps1.map (·.1), b ∉ F.blocks ∧ b ∉ G.blocks) := fun b hb => ⟨fun hm => by have h1 := HCA3.out.blt b hm; have h2 := ox1.lo b hb; omega, fun hm => by have h1 := HCB3.out.blt b hm; have h2 := ox1.lo b hb; omega⟩
    have bb4 := bb3.trans (hb4.mono bb3.size)
    have ox1' : OwnX w4 w.heap.size t p1 e1 b1 ps1 := ox1.base bb3.size
    clear HCA3 HCB3 hb4 ox1 bb3
    have hz : ∀ w : World, (zeroValue 40).run Try.prog w = .ok (.agg #[.slice none 0 0, .slice none 0 0, .slice none 0 0]) w := fun _ => by kernel_rfl
    generalize hL1 : w4.heap.size = L1 at *
    have hol : ∀ (t : St) p e b, (ownVals t p e b).length = 3 := fun _ _ _ _ => rfl
    have hoo : ∀ (t : St) p e b, ∀ u ∈ ownVals t p e b, u.oneCell' = true := fun _ _ _ _ => by simp [ownVals, Value.oneCell']
    go_wp2_with (refine wpList_store_Row rfl 40 _ _ rfl L1 40 0 [nilS, nilS, nilS] (ownVals t p1 e1 b1) (Row.at _ _ _ _ _ hL1.symm rfl) (by rw [hol]; simp) rfl rfl (by rw [hol]; kernel_rfl) (hoo _ _ _ _) ?_; intro w5 hr5 hs5)
    have rl5 : Row w5 L1 40 (ownVals t p1 e1 b1) := row_whole hr5 (by rw [hol]; simp)
    have bl5 : Below w4.heap.size w4 w5 := hs5.below ((Below.refl _ _).alloc (Nat.le_refl _) _) (by omega)
    have HCA5 : Hid (CAt w5 F (layS c t) ⟨#[]⟩) := HCA4.out.below bl5 (Nat.le_refl _)
    have HCB5 : Hid (CAt w5 G (layS c t) ⟨#[]⟩) := HCB4.out.below bl5 (Nat.le_refl _)
    replace r2 : Row w5 (w.heap.size + 2) 52 _ := (bl5.block _ r2.lt).trans r2
    have HL1 : Hid (L1 ∉ F.blocks ∧ L1 ∉ G.blocks ∧ w.heap.size + 3 ≤ L1) := ⟨fun hm => by have := HCA4.out.blt _ hm; omega, fun hm => by have := HCB4.out.blt _ hm; omega, by have := r2.lt; have h9 := HCA4.out.blt F.g (by simp [RF.blocks]); have h8 := hFN.out F.g (by simp [RF.blocks]); omega⟩
    have bb5 := bb4.trans (bl5.mono bb4.size)
    have HO5 : Hid (OwnX w5 w.heap.size t p1 e1 b1 ps1) := ox1'.below bl5
    clear HCA4 HCB4 hr5 hs5 bl5 bb4 ox1' hL1
    refine (HCU.out _ _ bb5 HCA5.out).mono ?_
    rintro e w6 ⟨rfl, ⟨S6, ca6⟩, sb6⟩
    have hFg : F.g ∈ F.blocks := by simp [RF.blocks]
    have HCA6 : Hid (CAt w6 F (cutS c t m) S6) := ca6
    have HCB6 : Hid (CAt w6 G (layS c t) ⟨#[]⟩) := HCB5.out.keep fun B hB => sb6.block B (fun e => HSEP.out.1 F.g hFg (e ▸ hB))
    have rl6 : Row w6 L1 40 (ownVals t p1 e1 b1) := rl5.but sb6 (fun e => HL1.out.1 (e ▸ hFg))
    replace r2 : Row w6 (w.heap.size + 2) 52 _ := r2.but sb6 (fun e => by have := hFN.out F.g hFg; omega)
    have HO6 : Hid (OwnX w6 w.heap.size t p1 e1 b1 ps1) := HO5.out.keep fun b hb => sb6.block b (fun e => (HX1.out b hb).1 (e ▸ hFg))
    have bb6 : Below w.heap.size w w6 := sb6.below bb5 (by have := hFN.out F.g hFg; omega)
    clear HCA5 HCB5 rl5 bb5 HO5 sb6 ca6
    go_wp2_with (refine wpList_load_Row rfl 52 _ rfl _ _ _ r2 rfl _ Try.underlying52 rfl (by rw [hVl]; kernel_rfl) ?_)
    refine (HDX.out _ _ HCA6.out).mono ?_
    rintro e w7 ⟨rfl, ⟨S7, ca7⟩, kl7⟩
    have HCA7 : Hid (CAt w7 F sX S7) := ca7
    have HCB7 : Hid (CAt w7 G (layS c t) ⟨#[]⟩) := HCB6.out.keep fun B hB => kl7.block B (HCB6.out.blt B hB) (fun hm => HSEP.out.1 B hm hB)
    have rl7 : Row w7 L1 40 (ownVals t p1 e1 b1) := (kl7.block _ rl6.lt HL1.out.1).trans rl6
    replace r2 : Row w7 (w.heap.size + 2) 52 _ := (kl7.block _ r2.lt (fun hm => by have := hFN.out _ hm; omega)).trans r2
    have HO7 : Hid (OwnX w7 w.heap.size t p1 e1 b1 ps1) := HO6.out.keep fun b hb => kl7.block b (HO6.out.lt b hb) (HX1.out b hb).1
    have bb7 : Below w.heap.size w w7 := bb6.trans (kl7.below' (fun B hB => by have := hFN.out B hB; omega) bb6.size)
    clear HCA6 HCB6 rl6 bb6 HO6 kl7 ca7
    go_wp2_with (refine wpList_load_Row rfl 52 _ rfl _ _ _ r2 rfl _ Try.underlying52 rfl (by rw [hVl]; kernel_rfl) ?_)
    refine (HDY.out _ _ _ HCB7.out).mono ?_
    rintro e w8 ⟨rfl, ⟨S8, cb8⟩, kl8⟩
    have HCB8 : Hid (CAt w8 G sY S8) := cb8
    have HCA8 : Hid (CAt w8 F sX S7) := HCA7.out.keep fun B hB => kl8.block B (HCA7.out.blt B hB) (HSEP.out.1 B hB)
    have rl8 : Row w8 L1 40 (ownVals t p1 e1 b1) := (kl8.block _ rl7.lt HL1.out.2.1).trans rl7
    replace r2 : Row w8 (w.heap.size + 2) 52 _ := (kl8.block _ r2.lt (fun hm => by have := HSEP.out.2 _ hm; omega)).trans r2
    have HO8 : Hid (OwnX w8 w.heap.size t p1 e1 b1 ps1) := HO7.out.keep fun b hb => kl8.block b (HO7.out.lt b hb) (HX1.out b hb).2
    have bb8 : Below w.heap.size w w8 := bb7.trans (kl8.below' (fun B hB => by have := HSEP.out.2 B hB; omega) bb7.size)
    clear HCA7 HCB7 rl7 bb7 HO7 kl8 cb8
    rcases HEND.out with ⟨rfl, rfl, hgone, hres⟩ | ⟨rfl, hE, hst⟩
    · have HRES : Hid (CutRes t m k sX.st sY.st) := hres
      rw [hgone] at HOX
      clear hres hgone HEND
      go_wp2_with (refine (HOX.out _ _ HCA8.out).mono ?_; rintro e w9 ⟨rfl, rfl⟩)
      refine (HSX.out _ _ HCA8.out).mono ?_
      rintro e w10 ⟨p2, e2, b2, ps2, rfl, ox2, hb10⟩
      have HCA10 : Hid (CAt w10 F sX S7) := HCA8.out.below hb10 (Nat.le_refl _)
      have HCB10 : Hid (CAt w10 G sY S8) := HCB8.out.below hb10 (Nat.le_refl _)
      have rl10 : Row w10 L1 40 (ownVals t p1 e1 b1) := (hb10.block _ rl8.lt).trans rl8
      replace r2 : Row w10 (w.heap.size + 2) 52 _ := (hb10.block _ r2.lt).trans r2
      have HO10 : Hid (OwnX w10 w.heap.size t p1 e1 b1 ps1) := HO8.out.below hb10
      have HP10 : Hid (OwnX w10 w.heap.size sX.st p2 e2 b2 ps2) := ox2.base bb8.size
      have bb10 := bb8.trans (hb10.mono bb8.size)
      clear HCA8 HCB8 rl8 HO8 ox2 bb8 hb10
      generalize hL2 : w10.heap.size = L2 at *
      go_wp2_with (refine wpList_store_Row rfl 40 _ _ rfl L2 40 0 [nilS, nilS, nilS] (ownVals sX.st p2 e2 b2) (Row.at _ _ _ _ _ hL2.symm rfl) (by rw [hol]; simp) rfl rfl (by rw [hol]; kernel_rfl) (hoo _ _ _ _) ?_; intro w11 hr11 hs11)
      have rm11 : Row w11 L2 40 (ownVals sX.st p2 e2 b2) := row_whole hr11 (by rw [hol]; simp)
      have bl11 : Below w10.heap.size w10 w11 := hs11.below ((Below.refl _ _).alloc (Nat.le_refl _) _) (by omega)
      have HCA11 : Hid (CAt w11 F sX S7) := HCA10.out.below bl11 (Nat.le_refl _)
      have HCB11 : Hid (CAt w11 G sY S8) := HCB10.out.below bl11 (Nat.le_refl _)
      have rl11 : Row w11 L1 40 (ownVals t p1 e1 b1) := (bl11.block _ rl10.lt).trans rl10
      replace r2 : Row w11 (w.heap.size + 2) 52 _ := (bl11.block _ r2.lt).trans r2
      have HO11 : Hid (OwnX w11 w.heap.size t p1 e1 b1 ps1) := HO10.out.below bl11
      have HP11 : Hid (OwnX w11 w.heap.size sX.st p2 e2 b2 ps2) := HP10.out.below bl11
      have bb11 := bb10.trans (bl11.mono bb10.size)
      clear HCA10 HCB10 rl10 HO10 HP10 bb10 bl11 hr11 hs11 hL2
      refine (HSY.out _ _ _ HCB11.out).mono ?_
      rintro e w12 ⟨p3, e3, b3, ps3, rfl, ox3, hb12⟩
      have HCA12 : Hid (CAt w12 F sX S7) := HCA11.out.below hb12 (Nat.le_refl _)
      have rl12 : Row w12 L1 40 (ownVals t p1 e1 b1) := (hb12.block _ rl11.lt).trans rl11
      have rm12 : Row w12 L2 40 (ownVals sX.st p2 e2 b2) := (hb12.block _ rm11.lt).trans rm11
      replace r2 : Row w12 (w.heap.size + 2) 52 _ := (hb12.block _ r2.lt).trans r2
      have HO12 : Hid (OwnX w12 w.heap.size t p1 e1 b1 ps1) := HO11.out.below hb12
      have HP12 : Hid (OwnX w12 w.heap.size sX.st p2 e2 b2 ps2) := HP11.out.below hb12
      have HQ12 : Hid (OwnX w12 w.heap.size sY.st p3 e3 b3 ps3) := ox3.base bb11.size
      have bb12 := bb11.trans (hb12.mono bb11.size)
      have H8X : Hid (∀ p ∈ sX.st.pages, ∀ x ∈ p, x.length = 32) := HCA11.out.ok.by8
      have H8Y : Hid (∀ p ∈ sY.st.pages, ∀ x ∈ p, x.length = 32) := HCB11.out.ok.by8
      clear HCA11 HCB11 rl11 rm11 HO11 HP11 ox3 bb11 hb12
      generalize hL3 : w12.heap.size = L3 at *
      go_wp2_with (first
        | (refine wpList_store_Row rfl 40 _ _ rfl L3 40 0 [nilS, nilS, nilS] (ownVals sY.st p3 e3 b3) (Row.at _ _ _ _ _ hL3.symm rfl) (by rw [hol]; simp) rfl rfl (by rw [hol]; kernel_rfl) (hoo _ _ _ _) ?_; intro w13 hr13 hs13; have rn13 : Row w13 L3 40 (ownVals sY.st p3 e3 b3) := row_whole hr13 (by rw [hol]; simp); have bl13 : Below w12.heap.size w12 w13 := hs13.below ((Below.refl _ _).alloc (Nat.le_refl _) _) (by omega); have bb13 := bb12.trans (bl13.mono bb12.size); have HT : Hid (Three w w.heap.size m mo t sX.st sY.st VS L1 L2 L3 p1 e1 b1 p2 e2 b2 p3 e3 b3 w13) := ⟨bb13, (bl13.block _ r2.lt).trans r2, (bl13.block _ rl12.lt).trans rl12, (bl13.block _ rm12.lt).trans rm12, rn13, ⟨ps1, HO12.out.below bl13⟩, ⟨ps2, HP12.out.below bl13⟩, ⟨ps3, HQ12.out.below bl13⟩, HIB.out _ bb13⟩; clear hr13 hs13 rn13 bl13; have hw1 := HT.out.r1; have hw2 := HT.out.r2; have hw3 := HT.out.r3; unfold ownVals at hw1 hw2 hw3; rw [HRES.out.pl, HRES.out.el, HRES.out.bl] at hw2; rw [HRES.out.plw, HRES.out.elw, HRES.out.blw] at hw3; have u0 := hw1.cell 0 _ rfl; have u1 := hw1.cell 1 _ rfl; have u2 := hw1.cell 2 _ rfl; have v0 := hw2.cell 0 _ rfl; have v1 := hw2.cell 1 _ rfl; have v2 := hw2.cell 2 _ rfl))
      clear hw1 hw2 hw3 bb12 bb13 rl12 rm12 r2 HCA12 HO12 HP12 HQ12 hL3
      obtain ⟨NP, hNP⟩ : ∃ n, n = t.pages.length := ⟨_, rfl⟩
      obtain ⟨NE, hNE⟩ : ∃ n, n = t.erases.length := ⟨_, rfl⟩
      obtain ⟨NB, hNB⟩ : ∃ n, n = t.blown.length := ⟨_, rfl⟩
      rw [← hNP, ← hNE, ← hNB]
      rw [← hNP] at u0 v0
      rw [← hNE] at u1 v1
      rw [← hNB] at u2 v2
      have HNP : Hid (NP = t.pages.length) := hNP
      have HNE : Hid (NE = t.erases.length) := hNE
      have HNB : Hid (NB = t.blown.length) := hNB
      have hNN : Hid (NE = NP) := by show _ = _; rw [hNE, hNP]; exact HOKK.out.er
      have hN1 : NP ≤ 130 := by rw [hNP]; exact HOKK.out.pg
      have hN2 : NB ≤ 576 := by rw [hNB]; exact HOKK.out.bl
      have HPL : Hid (∀ i, i < NP → (t.pages.getD i []).length ≤ 256) := fun i hi => by
        have h1 := (HOKK.out.pgLen i (by rw [HNP.out] at hi; exact hi)).1
        have h2 := HOKK.out.c2
        have h3 : ((t.pages.getD i []).length : Int) = (layS c t).c.cells := h1
        omega
      have HRW : Hid (∀ W, Three w w.heap.size m mo t sX.st sY.st VS L1 L2 L3 p1 e1 b1 p2 e2 b2 p3 e3 b3 W → Row W L1 40 [.slice (some ⟨p1, 0, none⟩) NP NP, .slice (some ⟨e1, 0, none⟩) NE NE, .slice (some ⟨b1, 0, none⟩) NB NB] ∧ Row W L2 40 [.slice (some ⟨p2, 0, none⟩) NP NP, .slice (some ⟨e2, 0, none⟩) NE NE, .slice (some ⟨b2, 0, none⟩) NB NB] ∧ Row W L3 40 [.slice (some ⟨p3, 0, none⟩) NP NP, .slice (some ⟨e3, 0, none⟩) NE NE, .slice (some ⟨b3, 0, none⟩) NB NB]) := by
        intro W hW
        have k1 := hW.r1
        have k2 := hW.r2
        have k3 := hW.r3
        unfold ownVals at k1 k2 k3
        rw [HRES.out.pl, HRES.out.el, HRES.out.bl] at k2
        rw [HRES.out.plw, HRES.out.elw, HRES.out.blw] at k3
        rw [← HNP.out, ← HNE.out, ← HNB.out] at k1 k2 k3
        exact ⟨k1, k2, k3⟩
      have HPG : Hid (∀ W i, Three w w.heap.size m mo t sX.st sY.st VS L1 L2 L3 p1 e1 b1 p2 e2 b2 p3 e3 b3 W → i < NP → ∃ Q1 c1 Q2 c2 Q3 c3, W.cell? ⟨p1, i, none⟩ = some (.slice (some ⟨Q1, 0, none⟩) (t.pages.getD i []).length c1) ∧ W.cell? ⟨p2, i, none⟩ = some (.slice (some ⟨Q2, 0, none⟩) (t.pages.getD i []).length c2) ∧ W.cell? ⟨p3, i, none⟩ = some (.slice (some ⟨Q3, 0, none⟩) (t.pages.getD i []).length c3) ∧ Row W Q1 49 ((t.pages.getD i []).flatten.map B8) ∧ Row W Q2 49 ((sX.st.pages.getD i []).flatten.map B8) ∧ Row W Q3 49 ((sY.st.pages.getD i []).flatten.map B8)) := by
        intro W i hW hi
        obtain ⟨q1, o1⟩ := hW.o1
        obtain ⟨q2, o2⟩ := hW.o2
        obtain ⟨q3, o3⟩ := hW.o3
        have hi' : i < t.pages.length := by rw [← HNP.out]; exact hi
        obtain ⟨Q1, c1, k1, z1⟩ := o1.pageAt i hi'
        obtain ⟨Q2, c2, k2, z2⟩ := o2.pageAt i (by rw [HRES.out.pl]; exact hi')
        obtain ⟨Q3, c3, k3, z3⟩ := o3.pageAt i (by rw [HRES.out.plw]; exact hi')
        rw [(HRES.out.cl i).1] at k2
        rw [(HRES.out.cl i).2] at k3
        exact ⟨Q1, c1, Q2, c2, Q3, c3, k1, k2, k3, z1, z2, z3⟩
      have HER : Hid (∀ W i, Three w w.heap.size m mo t sX.st sY.st VS L1 L2 L3 p1 e1 b1 p2 e2 b2 p3 e3 b3 W → i < NE → W.cell? ⟨e2, i, none⟩ = some (.int .i64 (sX.st.erases.getD i 0)) ∧ W.cell? ⟨e3, i, none⟩ = some (.int .i64 (sX.st.erases.getD i 0))) := by
        intro W i hW hi
        obtain ⟨q2, o2⟩ := hW.o2
        obtain ⟨q3, o3⟩ := hW.o3
        have k3 := o3.erAt i (by rw [HRES.out.elw, ← HNE.out]; exact hi)
        rw [← HRES.out.er i] at k3
        exact ⟨o2.erAt i (by rw [HRES.out.el, ← HNE.out]; exact hi), k3⟩
      clear hNP hNE hNB u0 u1 u2 v0 v1 v2
      go_loopw [19] (fun iv wr => ∃ i : Nat, i ≤ NP ∧ iv = .int .i64 i ∧ Hid (Three w w.heap.size m mo t sX.st sY.st VS L1 L2 L3 p1 e1 b1 p2 e2 b2 p3 e3 b3 wr)) (fun iv _ => NP - (intOf iv).toNat)
      case atStart => exact ⟨0, by omega, rfl, HT⟩
      case round =>
        clear HT
        obtain ⟨i, hi, rfl, hth⟩ := hrel
        obtain ⟨z1, z2, z3⟩ := HRW.out wr hth.out
        have u0 := z1.cell 0 _ rfl
        have v0 := z2.cell 0 _ rfl
        have v1 := z2.cell 1 _ rfl
        have x1 := z3.cell 1 _ rfl
        clear z1 z2 z3
        by_cases hlt : i < NP
        · have y0 : (0 : Int) ≤ (i : Int) := by omega
          have y1 : (i : Int) < (NP : Int) := by omega
          have y2 : (i : Int) < (NE : Int) := by have := hNN.out; omega
          obtain ⟨Q1, c1, Q2, c2, Q3, c3, k1, k2, k3, _, _, _⟩ := HPG.out wr i hth.out hlt
          obtain ⟨ke2, ke3⟩ := HER.out wr i hth.out (by have := hNN.out; omega)
          have hPL256 := HPL.out i hlt
          have HLEN : Hid (∀ cc, cc < (t.pages.getD i []).length → ((t.pages.getD i []).getD cc []).length = 32 ∧ ((sX.st.pages.getD i []).getD cc []).length = 32 ∧ ((sY.st.pages.getD i []).getD cc []).length = 32) := by
            intro cc hcc
            have hi' : i < t.pages.length := by rw [← HNP.out]; exact hlt
            have g : ∀ (u : St), (∀ p ∈ u.pages, ∀ x ∈ p, x.length = 32) → i < u.pages.length → cc < (u.pages.getD i []).length → ((u.pages.getD i []).getD cc []).length = 32 := by
              intro u h8 h1 h2
              have hd : u.pages.getD i [] = u.pages[i] := by rw [List.getD_eq_getElem?_getD, List.getElem?_eq_getElem h1]; rfl
              exact getD32 (by rw [hd]; exact h8 _ (List.getElem_mem h1)) h2
            exact ⟨g t H8.out hi' hcc, g sX.st H8X.out (by rw [HRES.out.pl]; exact hi') (by rw [(HRES.out.cl i).1]; exact hcc), g sY.st H8Y.out (by rw [HRES.out.plw]; exact hi') (by rw [(HRES.out.cl i).2]; exact hcc)⟩
          have HP8 : Hid ((∀ x ∈ t.pages.getD i [], x.length = 32) ∧ (∀ x ∈ sX.st.pages.getD i [], x.length = 32) ∧ (∀ x ∈ sY.st.pages.getD i [], x.length = 32)) := by
            have hi' : i < t.pages.length := by rw [← HNP.out]; exact hlt
            have g : ∀ (u : St), (∀ p ∈ u.pages, ∀ x ∈ p, x.length = 32) → i < u.pages.length → ∀ x ∈ u.pages.getD i [], x.length = 32 := by
              intro u h8 h1
              have hd : u.pages.getD i [] = u.pages[i] := by rw [List.getD_eq_getElem?_getD, List.getElem?_eq_getElem h1]; rfl
              rw [hd]; exact h8 _ (List.getElem_mem h1)
            exact ⟨g t H8.out hi', g sX.st H8X.out (by rw [HRES.out.pl]; exact hi'), g sY.st H8Y.out (by rw [HRES.out.plw]; exact hi')⟩
          have HBY : Hid (∀ cc j, cc < (t.pages.getD i []).length → j < 32 → ((sX.st.pages.getD i []).getD cc []).getD j 0 = ((((t.pages.getD i []).getD cc []).getD j 0) &&& ~~~ bitsAt m ((if k = 3 then 32 * cc else 0) + j)) ||| ((((sY.st.pages.getD i []).getD cc []).getD j 0) &&& bitsAt m ((if k = 3 then 32 * cc else 0) + j))) := fun cc j h1 h2 => HRES.out.bys i cc j (by rw [← HNP.out]; exact hlt) h1 h2
          have HCL : Hid ((sX.st.pages.getD i []).length = (t.pages.getD i []).length ∧ (sY.st.pages.getD i []).length = (t.pages.getD i []).length) := HRES.out.cl i
          have HPGi : Hid (∀ W, Three w w.heap.size m mo t sX.st sY.st VS L1 L2 L3 p1 e1 b1 p2 e2 b2 p3 e3 b3 W → ∃ Q1 c1 Q2 c2 Q3 c3, W.cell? ⟨p1, i, none⟩ = some (.slice (some ⟨Q1, 0, none⟩) (t.pages.getD i []).length c1) ∧ W.cell? ⟨p2, i, none⟩ = some (.slice (some ⟨Q2, 0, none⟩) (t.pages.getD i []).length c2) ∧ W.cell? ⟨p3, i, none⟩ = some (.slice (some ⟨Q3, 0, none⟩) (t.pages.getD i []).length c3) ∧ Row W Q1 49 ((t.pages.getD i []).flatten.map B8) ∧ Row W Q2 49 ((sX.st.pages.getD i []).flatten.map B8) ∧ Row W Q3 49 ((sY.st.pages.getD i []).flatten.map B8)) := fun W hW => HPG.out W i hW hlt
          generalize sX.st.erases.getD i 0 = EI at *
          generalize hPT : t.pages.getD i [] = PT at *
          generalize hPX : sX.st.pages.getD i [] = PX at *
          generalize hPY : sY.st.pages.getD i [] = PY at *
          clear hPT hPX hPY
          obtain ⟨PL, hPLe⟩ : ∃ n, n = PT.length := ⟨_, rfl⟩
          rw [← hPLe] at k1 k2 k3 hPL256 HLEN HBY HPGi HCL
          have HPLE : Hid (PL = PT.length) := hPLe
          clear hPLe
          go_wp2
          go_quiet (fail)
          have hth2 : Hid (Three w w.heap.size m mo t sX.st sY.st VS L1 L2 L3 p1 e1 b1 p2 e2 b2 p3 e3 b3 (wr.drewN nq)) := hth.out.below (Below_dr (Below.refl _ _) ⟨nq, rfl⟩) hth.out.bel.size
          clear u0 v0 v1 x1 k1 k2 k3 ke2 ke3 hth
          go_wp2
          go_loopw [20] (fun jv wq => ∃ cc : Nat, cc ≤ PL ∧ jv = .int .i64 cc ∧ Hid (Three w w.heap.size m mo t sX.st sY.st VS L1 L2 L3 p1 e1 b1 p2 e2 b2 p3 e3 b3 wq)) (fun jv _ => PL - (intOf jv).toNat)
          case atStart => exact ⟨0, by omega, rfl, hth2⟩
          case round =>
            clear hth2
            obtain ⟨cc, hcc, rfl, hth⟩ := hrel
            obtain ⟨z1, z2, z3⟩ := HRW.out wr hth.out
            have u0 := z1.cell 0 _ rfl
            have v0 := z2.cell 0 _ rfl
            have x0 := z3.cell 0 _ rfl
            clear z1 z2 z3
            obtain ⟨Q1, c1, Q2, c2, Q3, c3, k1, k2, k3, r1, r2, r3⟩ := HPGi.out wr hth.out
            by_cases hlc : cc < PL
            · have x0' : (0 : Int) ≤ (cc : Int) := by omega
              have x1' : (cc : Int) < (PL : Int) := by omega
              have ks := hth.out.rs.cell 0 _ HV0.out
              have rgt := row_cellAt r1 HP8.out.1 cc (by rw [← HPLE.out]; exact hlc)
              have rgx := row_cellAt r2 HP8.out.2.1 cc (by rw [HCL.out.1]; exact hlc)
              have rgy := row_cellAt r3 HP8.out.2.2 cc (by rw [HCL.out.2]; exact hlc)
              obtain ⟨lT, lX, lY⟩ := HLEN.out cc hlc
              have hby := fun j (hj : j < 32) => HBY.out cc j hlc hj
              clear r1 r2 r3
              generalize PT.getD cc [] = XT at *
              generalize PX.getD cc [] = XX at *
              generalize PY.getD cc [] = XY at *
              by_cases hk3 : k = 3
              · have g3 : (k == 3) = true := by rw [beq_iff_eq]; exact hk3
                rw [if_pos hk3] at hby
                have HMX : Hid (∀ W, IsB W mo m → Calls Try.prog 22 #[.agg (XX.map B8).toArray, .agg (XT.map B8).toArray, .agg (XY.map B8).toArray, .slice mo ml mc, .int .i64 (32 * (cc : Int))] W fun e w' => e = .returned (.bool true) ∧ Below W.heap.size W w') := fun W hW => by
                  have := mixed_any XX XT XY lX lT lY mo ml mc m hm hml (32 * cc) (by omega) W hW hby
                  rw [show ((32 * cc : Nat) : Int) = 32 * (cc : Int) by omega] at this
                  exact this
                have jw : IntKind.i64.wrap (32 * (cc : Int)) = 32 * (cc : Int) := i64_in _ (by omega) (by omega)
                clear hby hk3
                go_wp2
                refine wp_region_still_tail 26 (by kernel_rfl) (by kernel_rfl) ?_
                simp only [List.take_succ_cons, List.take_zero, List.drop_succ_cons, List.drop_zero]
                have hd : Dr wr { wr with drawn := wr.drawn + 1 } := ⟨1, rfl⟩
                have htd : Hid (Three w w.heap.size m mo t sX.st sY.st VS L1 L2 L3 p1 e1 b1 p2 e2 b2 p3 e3 b3 { wr with drawn := wr.drawn + 1 }) := hth.out.below (Below_dr (Below.refl _ _) hd) hth.out.bel.size
                generalize { wr with drawn := wr.drawn + 1 } = wq at hd htd ⊢
                replace u0 := hd.cell u0
                replace v0 := hd.cell v0
                replace x0 := hd.cell x0
                replace k1 := hd.cell k1
                replace k2 := hd.cell k2
                replace k3 := hd.cell k3
                have rgt' : wq.rangeAt Q1 (cc * 32) (XT.map B8) := fun j v hv => hd.cell (rgt j v hv)
                have rgx' : wq.rangeAt Q2 (cc * 32) (XX.map B8) := fun j v hv => hd.cell (rgx j v hv)
                have rgy' : wq.rangeAt Q3 (cc * 32) (XY.map B8) := fun j v hv => hd.cell (rgy j v hv)
                clear hth hd rgt rgx rgy
                still_step
                still_step
                still_step
                still_step
                still_step
                still_step
                still_step
                refine wpStill_load_range rfl 49 _ rfl Q2 (cc * 32) 32 _ rgx' rfl _ (by rw [List.length_map]; exact lX) Try.underlying49 rfl (by kernel_rfl) ?_
                still_step
                still_step
                still_step
                still_step
                still_step
                still_step
                still_step
                refine wpStill_load_range rfl 49 _ rfl Q1 (cc * 32) 32 _ rgt' rfl _ (by rw [List.length_map]; exact lT) Try.underlying49 rfl (by kernel_rfl) ?_
                still_step
                still_step
                still_step
                still_step
                still_step
                still_step
                still_step
                refine wpStill_load_range rfl 49 _ rfl Q3 (cc * 32) 32 _ rgy' rfl _ (by rw [List.length_map]; exact lY) Try.underlying49 rfl (by kernel_rfl) ?_
                still_step
                still_step
                refine wpStill_nil ?_
                go_wp2_with fail
                refine (HMX.out _ htd.out.ib).mono ?_
                rintro e w9 ⟨rfl, hb9⟩
                have ht9 : Hid (Three w w.heap.size m mo t sX.st sY.st VS L1 L2 L3 p1 e1 b1 p2 e2 b2 p3 e3 b3 w9) := htd.out.below hb9 htd.out.bel.size
                clear htd hb9 u0 v0 x0 k1 k2 k3 rgt' rgx' rgy'
                go_wp2
                exact ⟨⟨cc + 1, by omega, by go_num, ht9⟩, by simp [intOf]; omega⟩
              · have g3 : (k == 3) = false := by rw [beq_eq_false_iff_ne]; exact hk3
                rw [if_neg hk3] at hby
                have HMX : Hid (∀ W, IsB W mo m → Calls Try.prog 22 #[.agg (XX.map B8).toArray, .agg (XT.map B8).toArray, .agg (XY.map B8).toArray, .slice mo ml mc, .int .i64 0] W fun e w' => e = .returned (.bool true) ∧ Below W.heap.size W w') := fun W hW => mixed_any XX XT XY lX lT lY mo ml mc m hm hml 0 (by omega) W hW hby
                clear hby hk3
                go_wp2
                refine wp_region_still_tail 26 (by kernel_rfl) (by kernel_rfl) ?_
                simp only [List.take_succ_cons, List.take_zero, List.drop_succ_cons, List.drop_zero]
                have hd : Dr wr { wr with drawn := wr.drawn + 1 } := ⟨1, rfl⟩
                have htd : Hid (Three w w.heap.size m mo t sX.st sY.st VS L1 L2 L3 p1 e1 b1 p2 e2 b2 p3 e3 b3 { wr with drawn := wr.drawn + 1 }) := hth.out.below (Below_dr (Below.refl _ _) hd) hth.out.bel.size
                generalize { wr with drawn := wr.drawn + 1 } = wq at hd htd ⊢
                replace u0 := hd.cell u0
                replace v0 := hd.cell v0
                replace x0 := hd.cell x0
                replace k1 := hd.cell k1
                replace k2 := hd.cell k2
                replace k3 := hd.cell k3
                have rgt' : wq.rangeAt Q1 (cc * 32) (XT.map B8) := fun j v hv => hd.cell (rgt j v hv)
                have rgx' : wq.rangeAt Q2 (cc * 32) (XX.map B8) := fun j v hv => hd.cell (rgx j v hv)
                have rgy' : wq.rangeAt Q3 (cc * 32) (XY.map B8) := fun j v hv => hd.cell (rgy j v hv)
                clear hth hd rgt rgx rgy
                still_step
                still_step
                still_step
                still_step
                still_step
                still_step
                still_step
                refine wpStill_load_range rfl 49 _ rfl Q2 (cc * 32) 32 _ rgx' rfl _ (by rw [List.length_map]; exact lX) Try.underlying49 rfl (by kernel_rfl) ?_
                still_step
                still_step
                still_step
                still_step
                still_step
                still_step
                still_step
                refine wpStill_load_range rfl 49 _ rfl Q1 (cc * 32) 32 _ rgt' rfl _ (by rw [List.length_map]; exact lT) Try.underlying49 rfl (by kernel_rfl) ?_
                still_step
                still_step
                still_step
                still_step
                still_step
                still_step
                still_step
                refine wpStill_load_range rfl 49 _ rfl Q3 (cc * 32) 32 _ rgy' rfl _ (by rw [List.length_map]; exact lY) Try.underlying49 rfl (by kernel_rfl) ?_
                still_step
                still_step
                refine wpStill_nil ?_
                go_wp2_with fail
                refine (HMX.out _ htd.out.ib).mono ?_
                rintro e w9 ⟨rfl, hb9⟩
                have ht9 : Hid (Three w w.heap.size m mo t sX.st sY.st VS L1 L2 L3 p1 e1 b1 p2 e2 b2 p3 e3 b3 w9) := htd.out.below hb9 htd.out.bel.size
                clear htd hb9 u0 v0 x0 k1 k2 k3 rgt' rgx' rgy'
                go_wp2
                exact ⟨⟨cc + 1, by omega, by go_num, ht9⟩, by simp [intOf]; omega⟩
            · obtain rfl : cc = PL := by omega
              have x1' : ¬ (cc : Int) < (cc : Int) := by omega
              clear hlc hcc
              go_wp2
              exact ⟨⟨i + 1, by omega, by go_num, hth⟩, by simp [intOf]; omega⟩
        · obtain rfl : i = NP := by omega
          have y1 : ¬ (i : Int) < (i : Int) := by omega
          clear hlt hi
          go_wp2
          have HBN : Hid (∀ W j, Three w w.heap.size m mo t sX.st sY.st VS L1 L2 L3 p1 e1 b1 p2 e2 b2 p3 e3 b3 W → j < NB → W.cell? ⟨b1, j, none⟩ = some (.bool (t.blown.getD j false)) ∧ W.cell? ⟨b2, j, none⟩ = some (.bool (if (bitsAt m 0 &&& 1#8 = 1#8) then sY.st.blown.getD j false else t.blown.getD j false)) ∧ W.cell? ⟨b3, j, none⟩ = some (.bool (sY.st.blown.getD j false))) := by
            intro W j hW hj
            obtain ⟨q1, o1⟩ := hW.o1
            obtain ⟨q2, o2⟩ := hW.o2
            obtain ⟨q3, o3⟩ := hW.o3
            have hj' : j < t.blown.length := by rw [← HNB.out]; exact hj
            have k2 := o2.blAt j (by rw [HRES.out.bl]; exact hj')
            rw [HRES.out.bn j hj'] at k2
            exact ⟨o1.blAt j hj', k2, o3.blAt j (by rw [HRES.out.blw]; exact hj')⟩
          go_loopw [23] (fun jv wq => ∃ j : Nat, j ≤ NB ∧ jv = .int .i64 j ∧ Hid (Three w w.heap.size m mo t sX.st sY.st VS L1 L2 L3 p1 e1 b1 p2 e2 b2 p3 e3 b3 wq)) (fun jv _ => NB - (intOf jv).toNat)
          case atStart => exact ⟨0, by omega, rfl, hth⟩
          case round =>
            clear u0 v0 v1 x1 hth
            obtain ⟨j, hj, rfl, hth⟩ := hrel
            obtain ⟨z1, z2, z3⟩ := HRW.out wr hth.out
            have u2 := z1.cell 2 _ rfl
            have v2 := z2.cell 2 _ rfl
            have x2 := z3.cell 2 _ rfl
            clear z1 z2 z3
            by_cases hlj : j < NB
            · have j0 : (0 : Int) ≤ (j : Int) := by omega
              have j1 : (j : Int) < (NB : Int) := by omega
              obtain ⟨kb1, kb2, kb3⟩ := HBN.out wr j hth.out hlj
              generalize t.blown.getD j false = BT at *
              generalize sY.st.blown.getD j false = BY at *
              by_cases hz0 : ml = 0
              · subst hz0
                have hm0 : m = [] := List.length_eq_zero_iff.1 hm
                have hb0 : ¬ (bitsAt m 0 &&& 1#8 = 1#8) := by rw [hm0]; decide
                rw [if_neg hb0] at kb2
                clear hm0 hb0
                go_wp2
                exact ⟨⟨j + 1, by omega, by go_num, hth⟩, by simp [intOf]; omega⟩
              · have hpos : decide ((0 : Int) < (ml : Int)) = true := by simp; omega
                have hp2 : (0 : Int) < (ml : Int) := by omega
                obtain ⟨MB, moff, hmo, hcm⟩ : ∃ B off, mo = some ⟨B, off, none⟩ ∧ ∀ j v, m[j]? = some v → wr.cell? ⟨B, off + j, none⟩ = some (B8 v) := by
                  rcases hth.out.ib with e | e
                  · exact absurd (by rw [← hm, e]; rfl) hz0
                  · exact e
                have cm0 : wr.cell? ⟨MB, moff, none⟩ = some (.int .u8 ((bitsAt m 0).toNat : Int)) := by
                  have := hcm 0 (bitsAt m 0) (by unfold bitsAt; rw [Nat.zero_mod, List.getD_eq_getElem?_getD, List.getElem?_eq_getElem (by omega)]; rfl)
                  rwa [Nat.add_zero] at this
                have hao := and_one (bitsAt m 0)
                rw [hmo]
                rw [hmo] at hth
                by_cases hbit : bitsAt m 0 &&& 1#8 = 1#8
                · rw [if_pos hbit] at kb2
                  rw [decide_eq_true hbit] at hao
                  generalize bitsAt m 0 = mb at *
                  generalize hbv : bits .and .u8 (mb.toNat : Int) 1 = bv at *
                  have hbt : (bv == 1) = true := hao.symm
                  clear hbit hao hcm
                  go_wp2
                  exact ⟨⟨j + 1, by omega, by go_num, hth⟩, by simp [intOf]; omega⟩
                · rw [if_neg hbit] at kb2
                  rw [decide_eq_false hbit] at hao
                  generalize bitsAt m 0 = mb at *
                  generalize hbv : bits .and .u8 (mb.toNat : Int) 1 = bv at *
                  have hbt : (bv == 1) = false := hao.symm
                  clear hbit hao hcm
                  go_wp2
                  exact ⟨⟨j + 1, by omega, by go_num, hth⟩, by simp [intOf]; omega⟩
            · obtain rfl : j = NB := by omega
              have j1 : ¬ (j : Int) < (j : Int) := by omega
              have hfin := hth.out.bel
              clear hth hlj hj
              go_wp2
              go_ret
              exact ⟨rfl, hfin⟩
    · have hgn : sX.gone = false := by rw [hst]; rfl
      have hn0 : sX.n = 0 := by rw [hst]; rfl
      have HEQ : Hid (sX.st = t) := by show _ = _; rw [hst]; rfl
      have HSS : Hid (∀ W p2 e2 b2 ps2 p1 e1 b1 ps1, OwnX W w.heap.size sX.st p2 e2 b2 ps2 → OwnX W w.heap.size t p1 e1 b1 ps1 → Calls Try.prog 14 #[.agg (ownVals sX.st p2 e2 b2).toArray, .agg (ownVals t p1 e1 b1).toArray] W fun e w' => e = .returned (.bool true) ∧ Below W.heap.size W w') := by
        intro W p2 e2 b2 ps2 p1 e1 b1 ps1 h2 h1
        have q1 := HOKK.out.pg
        have q2 := HOKK.out.er
        have q3 := HOKK.out.bl
        have sz : t.pages.length ≤ 140737488355328 ∧ t.erases.length ≤ 140737488355328 ∧ t.blown.length ≤ 140737488355328 ∧ ∀ p ∈ t.pages, p.length ≤ 140737488355328 := by
          refine ⟨by have : t.pages.length ≤ 130 := q1; omega, by have e1 : t.pages.length ≤ 130 := q1; have e2 : t.erases.length = t.pages.length := q2; omega, by have : t.blown.length ≤ 576 := q3; omega, fun p hp => ?_⟩
          have e1 := HOKK.out.cl p hp
          have e2 := HOKK.out.c2
          omega
        have h2' := h2.view (by rw [HEQ.out]; exact H8.out)
        exact same_any _ _ sX.st t W h2' (h1.view H8.out) (by rw [HEQ.out]; exact sz) sz true ⟨fun _ => HEQ.out, fun _ => rfl⟩
      rw [hgn] at HOX
      rw [hn0] at HAX
      clear hst hgn hn0 HEND HEQ
      rcases hE with rfl | rfl
      all_goals
        go_wp2_with (refine (HOX.out _ _ HCA8.out).mono ?_; rintro e w9 ⟨rfl, rfl⟩)
        refine (HSX.out _ _ HCA8.out).mono ?_
        rintro e w10 ⟨p2, e2, b2, ps2, rfl, ox2, hb10⟩
        have HCA10 : Hid (CAt w10 F sX S7) := HCA8.out.below hb10 (Nat.le_refl _)
        have HCB10 : Hid (CAt w10 G sY S8) := HCB8.out.below hb10 (Nat.le_refl _)
        have rl10 : Row w10 L1 40 (ownVals t p1 e1 b1) := (hb10.block _ rl8.lt).trans rl8
        replace r2 : Row w10 (w.heap.size + 2) 52 _ := (hb10.block _ r2.lt).trans r2
        have HO10 : Hid (OwnX w10 w.heap.size t p1 e1 b1 ps1) := HO8.out.below hb10
        have HP10 : Hid (OwnX w10 w.heap.size sX.st p2 e2 b2 ps2) := ox2.base bb8.size
        have bb10 := bb8.trans (hb10.mono bb8.size)
        clear HCA8 HCB8 rl8 HO8 ox2 bb8 hb10
        generalize hL2 : w10.heap.size = L2 at *
        go_wp2_with (refine wpList_store_Row rfl 40 _ _ rfl L2 40 0 [nilS, nilS, nilS] (ownVals sX.st p2 e2 b2) (Row.at _ _ _ _ _ hL2.symm rfl) (by rw [hol]; simp) rfl rfl (by rw [hol]; kernel_rfl) (hoo _ _ _ _) ?_; intro w11 hr11 hs11)
        have rm11 : Row w11 L2 40 (ownVals sX.st p2 e2 b2) := row_whole hr11 (by rw [hol]; simp)
        have bl11 : Below w10.heap.size w10 w11 := hs11.below ((Below.refl _ _).alloc (Nat.le_refl _) _) (by omega)
        have HCA11 : Hid (CAt w11 F sX S7) := HCA10.out.below bl11 (Nat.le_refl _)
        have HCB11 : Hid (CAt w11 G sY S8) := HCB10.out.below bl11 (Nat.le_refl _)
        have rl11 : Row w11 L1 40 (ownVals t p1 e1 b1) := (bl11.block _ rl10.lt).trans rl10
        replace r2 : Row w11 (w.heap.size + 2) 52 _ := (bl11.block _ r2.lt).trans r2
        have HO11 : Hid (OwnX w11 w.heap.size t p1 e1 b1 ps1) := HO10.out.below bl11
        have HP11 : Hid (OwnX w11 w.heap.size sX.st p2 e2 b2 ps2) := HP10.out.below bl11
        have bb11 := bb10.trans (bl11.mono bb10.size)
        clear HCA10 HCB10 rl10 HO10 HP10 bb10 bl11 hr11 hs11 hL2
        refine (HSY.out _ _ _ HCB11.out).mono ?_
        rintro e w12 ⟨p3, e3, b3, ps3, rfl, ox3, hb12⟩
        have HCA12 : Hid (CAt w12 F sX S7) := HCA11.out.below hb12 (Nat.le_refl _)
        have rl12 : Row w12 L1 40 (ownVals t p1 e1 b1) := (hb12.block _ rl11.lt).trans rl11
        have rm12 : Row w12 L2 40 (ownVals sX.st p2 e2 b2) := (hb12.block _ rm11.lt).trans rm11
        replace r2 : Row w12 (w.heap.size + 2) 52 _ := (hb12.block _ r2.lt).trans r2
        have HO12 : Hid (OwnX w12 w.heap.size t p1 e1 b1 ps1) := HO11.out.below hb12
        have HP12 : Hid (OwnX w12 w.heap.size sX.st p2 e2 b2 ps2) := HP11.out.below hb12
        have HQ12 : Hid (OwnX w12 w.heap.size sY.st p3 e3 b3 ps3) := ox3.base bb11.size
        have bb12 := bb11.trans (hb12.mono bb11.size)
        have H8X : Hid (∀ p ∈ sX.st.pages, ∀ x ∈ p, x.length = 32) := HCA11.out.ok.by8
        have H8Y : Hid (∀ p ∈ sY.st.pages, ∀ x ∈ p, x.length = 32) := HCB11.out.ok.by8
        clear HCA11 HCB11 rl11 rm11 HO11 HP11 ox3 bb11 hb12
        generalize hL3 : w12.heap.size = L3 at *
        go_wp2_with (first
          | (refine wpList_store_Row rfl 40 _ _ rfl L3 40 0 [nilS, nilS, nilS] (ownVals sY.st p3 e3 b3) (Row.at _ _ _ _ _ hL3.symm rfl) (by rw [hol]; simp) rfl rfl (by rw [hol]; kernel_rfl) (hoo _ _ _ _) ?_; intro w13 hr13 hs13; have bl13 : Below w12.heap.size w12 w13 := hs13.below ((Below.refl _ _).alloc (Nat.le_refl _) _) (by omega); have bb13 := bb12.trans (bl13.mono bb12.size); have rl13 : Row w13 L1 40 (ownVals t p1 e1 b1) := (bl13.block _ rl12.lt).trans rl12; have rm13 : Row w13 L2 40 (ownVals sX.st p2 e2 b2) := (bl13.block _ rm12.lt).trans rm12; have HO13 : Hid (OwnX w13 w.heap.size t p1 e1 b1 ps1) := HO12.out.below bl13; have HP13 : Hid (OwnX w13 w.heap.size sX.st p2 e2 b2 ps2) := HP12.out.below bl13; have HCA13 : Hid (CAt w13 F sX S7) := HCA12.out.below bl13 (Nat.le_refl _); clear hr13 hs13 bl13)
          | (refine wpList_load_Row rfl 40 _ rfl _ _ _ rm13 rfl _ Try.underlying40 rfl (by rw [hol]; kernel_rfl) ?_)
          | (refine wpList_load_Row rfl 40 _ rfl _ _ _ rl13 rfl _ Try.underlying40 rfl (by rw [hol]; kernel_rfl) ?_)
          | (refine (HSS.out _ _ _ _ _ _ _ _ _ HP13.out HO13.out).mono ?_; rintro e w14 ⟨rfl, hb14⟩; have HCA14 : Hid (CAt w14 F sX S7) := HCA13.out.below hb14 (Nat.le_refl _); have bb14 := bb13.trans (hb14.mono bb13.size); clear hb14)
          | (refine (HAX.out _ _ HCA14.out).mono ?_; rintro e w15 ⟨rfl, rfl⟩))
        go_ret
        exact ⟨rfl, bb14⟩
end Go.Proofs.Ythjndaeibbfgaaa
