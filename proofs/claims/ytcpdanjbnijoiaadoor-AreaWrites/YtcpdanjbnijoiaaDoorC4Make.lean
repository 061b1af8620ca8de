import Derived.Test.YtcpdanjbnijoiaaDoorC4Raise
import Derived.Laws.MakeOwn
import Derived.Laws.CopyOwn

/-! The code's chip: Erase, Config. -/
namespace Go.Proofs.YtcpdanjbnijoiaaDoor
open Go.RowKit

theorem raise_page (s : RS) (m : List By) (pg : List (List By)) (hl : (pg.length : Int) = s.c.cells) (hm : ∀ i : Nat, (i : Int) < 32 * s.c.cells → bitsAt m i = if s.cut then bitsAt s.mask i else 255#8) : erasePage true m pg = erasePage s.cut s.mask pg := by
  unfold erasePage
  apply List.ext_getElem (by simp)
  intro c h1 h2
  have hc : c < pg.length := by simpa using h1
  rw [List.getElem_mapIdx, List.getElem_mapIdx]
  unfold eraseCell
  apply List.map_congr_left
  intro i hi
  rw [List.mem_range] at hi
  rw [hm (32 * c + i) (by omega)]
  unfold eraseByte
  by_cases hb : s.cut = true
  · simp only [hb, if_true]
  · simp only [hb, Bool.false_eq_true, if_false, if_true]
    apply BitVec.eq_of_getLsbD_eq
    intro k hk
    have h255 : (255#8 : By) = BitVec.allOnes 8 := by decide
    rw [h255, BitVec.getLsbD_or, BitVec.getLsbD_allOnes]
    simp [hk]

set_option maxHeartbeats 2000000 in
set_option maxRecDepth 100000 in
theorem cerase_any (F : RF) (s : RS) (S : ByteArray) (p : Int) (w : World) (h : CAt w F s S) (hn0 : 0 ≤ s.n) (hn : s.n < 4611686018427387904) (hw : s.wait < 9223372036854775808) (hce : s.c.erases ≤ 65536) (he0 : ∀ e ∈ s.erases, 0 ≤ e) :
    Calls Tryd.prog 37 #[.pointer (some ⟨F.g, 0, none⟩), .int .i64 p] w (CPost F (s.erase p) (s.eraseE p) w) := by
  have hbg : F.g ∈ F.blocks := by simp [RF.blocks]
  have hbe : F.eB ∈ F.blocks := by simp [RF.blocks]
  obtain ⟨res, hres⟩ : ∃ r, r = s.eraseE p := ⟨_, rfl⟩
  rw [← hres]
  have HR : Hid (res = s.eraseE p) := hres
  clear hres
  by_cases h0 : s.at p 0 = 0
  · obtain ⟨_, i1, i2, _, i4⟩ := at_zero h0
    obtain ⟨pn, rfl⟩ := Int.eq_ofNat_of_zero_le i1
    have hpl : pn < s.pages.length := by omega
    have hel : s.erases.length = s.pages.length := h.ok.er
    have i3 : (pn : Int) < (s.erases.length : Int) := by omega
    obtain ⟨k1, k2⟩ := h.ok.pgLen pn hpl
    have hc2 := h.ok.c2
    have c5 := h.cErases
    have c8 := h.cEr
    have ce : w.cell? ⟨F.eB, pn, none⟩ = some (.int .i64 (s.erases.getD pn 0)) := h.er.cell _ _ (by
      rw [List.getElem?_map, List.getD_eq_getElem?_getD, List.getElem?_eq_getElem (by omega)]; rfl)
    have HASK : Hid (∀ W, CAt W F s S → Calls Tryd.prog 43 #[.pointer (some ⟨F.g, 0, none⟩), .int .i64 (pn : Int)] W fun e w' => e = .returned (.int .i64 0) ∧ w' = W) := fun W hW => by have := caskPage_any F s S pn W hW; rw [h0] at this; exact this
    have HH : Hid (CAt w F s S) := h
    by_cases hworn : s.c.erases ≤ s.erases.getD pn 0
    · have g1 : decide (s.c.erases ≤ s.erases.getD pn 0) = true := by simpa using hworn
      have HE : Hid (s.erase pn = s) := by
        show _ = _
        unfold RS.erase
        rw [if_neg (by simp only [Int.toNat_natCast]; omega)]
      have HRE : Hid (res = 9) := by show _ = _; rw [HR.out]; simp only [RS.eraseE, h0, Int.toNat_natCast, if_true]; rw [if_pos hworn]
      generalize s.erases.getD pn 0 = E0 at *
      generalize s.erases.length = EL at *
      clear h
      go_enter Tryd.func37, Tryd.ntmps37
      go_wp2_with fail
      refine (HASK.out _ HH.out).mono ?_
      rintro e w1 ⟨rfl, rfl⟩
      go_wp2
      go_quiet (fail)
      go_wp2
      go_ret
      exact ⟨by rw [HRE.out]; rfl, ⟨S, by rw [HE.out]; exact HH.out.dr ⟨nq, rfl⟩⟩, (KeptL.refl _ _).dr ⟨nq, rfl⟩⟩
    · have g1 : decide (s.c.erases ≤ s.erases.getD pn 0) = false := by simpa using hworn
      have HE : Hid (s.erase pn = { s.act with erases := s.erases.set pn (s.erases.getD pn 0 + 1), pages := s.pages.set pn (erasePage s.cut s.mask (s.pages.getD pn [])) }) := by
        show _ = _
        unfold RS.erase
        rw [if_pos ⟨h0, by simp only [Int.toNat_natCast]; omega⟩]
        simp only [Int.toNat_natCast]
      have HRE : Hid (res = (if s.cut = true then 8 else 0)) := by show _ = _; rw [HR.out]; simp only [RS.eraseE, h0, Int.toNat_natCast, if_true]; rw [if_neg hworn]
      have HACT : Hid (∀ W, CAt W F s S → Calls Tryd.prog 46 #[.pointer (some ⟨F.g, 0, none⟩)] W (ActPost F s W)) := fun W hW => cact_any F s S W hW hn0 hn hw
      have hE0n : 0 ≤ s.erases.getD pn 0 := by
        rw [List.getD_eq_getElem?_getD, List.getElem?_eq_getElem (by omega)]; exact he0 _ (List.getElem_mem _)
      have hE1 : s.erases.getD pn 0 < 65536 := by omega
      have j1 : IntKind.i64.wrap (s.erases.getD pn 0 + 1) = s.erases.getD pn 0 + 1 := i64_in _ (by omega) (by omega)
      have hPL2 : (s.pages.getD pn []).length ≤ 256 := by omega
      clear h h0 hn0 hn hw hworn hE0n hE1
      have HEL : Hid (pn < s.erases.length) := by show _ < _; omega
      have HCE : Hid (∀ W S', CAt W F { s.act with pages := s.act.pages.set pn (erasePage s.cut s.mask (s.pages.getD pn [])) } S' → W.cell? ⟨F.g, 8, none⟩ = some (.slice (some ⟨F.eB, 0, none⟩) s.erases.length F.ecap) ∧ W.cell? ⟨F.eB, pn, none⟩ = some (.int .i64 (s.erases.getD pn 0)) ∧ W.frozen? ⟨F.eB, pn, none⟩ = false ∧ CAt (W.setCell ⟨F.eB, pn, none⟩ (.int .i64 (s.erases.getD pn 0 + 1))) F (s.erase pn) S') := by
        intro W S' hca
        refine ⟨hca.cEr, hca.er.cell _ _ (by show (s.erases.map (Value.int .i64))[pn]? = _; rw [List.getElem?_map, List.getD_eq_getElem?_getD, List.getElem?_eq_getElem (by omega)]; rfl), hca.er.frozen pn, ?_⟩
        rw [HE.out]
        exact hca.setErase pn (by show pn < s.erases.length; omega) _
      generalize s.erases.getD pn 0 = E0 at *
      generalize s.erases.length = EL at *
      go_enter Tryd.func37, Tryd.ntmps37
      go_wp2_with fail
      refine (HASK.out _ HH.out).mono ?_
      rintro e w1 ⟨rfl, rfl⟩
      go_wp2
      go_quiet (fail)
      go_wp2_with fail
      refine (HACT.out _ (HH.out.dr ⟨nq, rfl⟩)).mono ?_
      rintro e w2 ⟨M, S', rfl, ⟨m, hM, hm, hbit⟩, ra2, sb2⟩
      rw [← HRE.out]
      have kl2 : KeptL F.blocks w1 w2 := ((KeptL.refl _ _).dr ⟨nq, rfl⟩).but sb2 (.inl hbg)
      have c7 := ra2.cPages
      obtain ⟨q, hq, cp, pr, hqm, hqg, hqp⟩ := ra2.pageAt pn hpl
      replace c7 : w2.cell? ⟨F.g, 7, none⟩ = some (.slice (some ⟨F.pB, 0, none⟩) s.pages.length F.pcap) := c7
      replace cp : w2.cell? ⟨F.pB, pn, none⟩ = some (.slice (some ⟨q.1, 0, none⟩) (s.pages.getD pn []).length q.2) := cp
      obtain ⟨rst, rp⟩ := pr
      replace rp : Row w2 q.1 40 ((s.pages.getD pn []).flatten.map B8 ++ rst) := rp
      have HRA : Hid (Calls Tryd.prog 47 #[.string M, .slice (some ⟨q.1, 0, none⟩) (s.pages.getD pn []).length q.2] w2 fun e w' => e = .returned (.tuple #[]) ∧ Row w' q.1 40 ((erasePage s.cut s.mask (s.pages.getD pn [])).flatten.map B8 ++ rst) ∧ KeptL [q.1] w2 w') := by
        have := raise_any M m hM hm q.1 _ q.2 (s.pages.getD pn []) rst rfl hPL2 k2 w2 rp
        rw [raise_page s m _ k1 hbit] at this
        exact this
      have HEND : Hid (∀ W', Row W' q.1 40 ((erasePage s.cut s.mask (s.pages.getD pn [])).flatten.map B8 ++ rst) → KeptL [q.1] w2 W' → W'.cell? ⟨F.g, 8, none⟩ = some (.slice (some ⟨F.eB, 0, none⟩) EL F.ecap) ∧ W'.cell? ⟨F.eB, pn, none⟩ = some (.int .i64 E0) ∧ W'.frozen? ⟨F.eB, pn, none⟩ = false ∧ CPost F (s.erase pn) res w1 (.returned (.int .i64 res)) (W'.setCell ⟨F.eB, pn, none⟩ (.int .i64 (E0 + 1)))) := by
        intro W' hr kl
        have hca : CAt W' F { s.act with pages := s.act.pages.set pn (erasePage s.cut s.mask (s.pages.getD pn [])) } S' := by
          refine ra2.setPage pn hpl q hq _ (by show (erasePage _ _ _).length = (s.pages.getD pn []).length; simp [erasePage]) ?_ ⟨rst, hr⟩ (fun B hB hne => kl.block B (ra2.blt B hB) (by simpa using hne))
          intro y hy
          unfold erasePage at hy
          obtain ⟨i, hi, rfl⟩ := List.mem_mapIdx.1 hy
          exact eraseCell_len _ _ _ _
        obtain ⟨g1, g2, g3, g4⟩ := HCE.out W' S' hca
        exact ⟨g1, g2, g3, rfl, ⟨S', g4⟩, (kl2.trans (kl.sub (by intro b hb; simp at hb; subst hb; exact hqm))).but (SameBut.setCell F.eB pn (.int .i64 (E0 + 1)) W') (.inl hbe)⟩
      clear hM hm hbit ra2 sb2 kl2 rp hq k1 k2 he0 c5 c8 ce
      generalize (s.pages.getD pn []).length = PL at *
      go_wp2_with (refine HRA.out.mono ?_; rintro e w4 ⟨rfl, hr4, kl4⟩; obtain ⟨d8, de, df, hfin⟩ := HEND.out w4 hr4 kl4; clear hr4 kl4)
      go_ret
      exact hfin
  · have HP : Hid (s.erase p = s) := by show _ = _; simp [RS.erase, h0]
    have HF : Hid (∀ W, CAt W F s S → Calls Tryd.prog 43 #[.pointer (some ⟨F.g, 0, none⟩), .int .i64 p] W fun e w' => e = .returned (.int .i64 res) ∧ w' = W) := fun W hW => by have := caskPage_any F s S p W hW; rw [HR.out, RS.eraseE, if_neg h0]; exact this
    have e1 : (res != 0) = true := by rw [bne_iff_ne, HR.out, RS.eraseE, if_neg h0]; exact h0
    have HH : Hid (CAt w F s S) := h
    clear h h0 HR
    go_enter Tryd.func37, Tryd.ntmps37
    go_wp2_with fail
    refine (HF.out _ HH.out).mono ?_
    rintro e w1 ⟨rfl, rfl⟩
    go_wp2
    go_ret
    exact ⟨rfl, ⟨S, by rw [HP.out]; exact HH.out⟩, KeptL.refl _ _⟩
end Go.Proofs.YtcpdanjbnijoiaaDoor


/-! make and copy: rows of one value; a copy over a whole row. -/
namespace Go.Proofs.YtcpdanjbnijoiaaDoor
open Go.RowKit

theorem made_same (z : Array Value) (v : Value) (n : Nat) (hz : 0 < z.size) (hv : ∀ i, (h : i < z.size) → z[i] = v) : madeCells z n = (List.replicate n v).toArray := by
  unfold madeCells
  apply Array.ext
  · simp
  · intro i h1 h2
    have hm : i % z.size < z.size := Nat.mod_lt _ hz
    simp only [Array.getElem_map, Array.getElem_range, List.getElem_toArray, List.getElem_replicate]
    rw [getElem!_pos z (i % z.size) hm]
    exact hv _ hm

/-- A slice type whose elements' zero is one value in all its cells. -/
structure ElZ (T e size bytes : Nat) (v : Value) : Prop where
  und : Tryd.prog.underlying T = some (.slice e)
  info : ∃ z, (Tryd.prog.info? e).map (fun i => (i.zero, i.size, i.bytes)) = some (some z, size, bytes) ∧ 0 < z.cells.size ∧ ∀ i, (h : i < z.cells.size) → z.cells[i] = v

theorem elz_ints : ElZ 25 3 1 8 (.int .i64 0) := ⟨Tryd.underlying25, _, el_ints.info, by simp [Value.cells], fun i h => by simp [Value.cells] at h ⊢⟩
theorem elz_bools : ElZ 26 4 1 1 (.bool false) := ⟨Tryd.underlying26, _, el_bools.info, by simp [Value.cells], fun i h => by simp [Value.cells] at h ⊢⟩
theorem elz_pages : ElZ 24 38 1 24 (.slice none 0 0) := ⟨Tryd.underlying24, _, el_pages.info, by simp [Value.cells], fun i h => by simp [Value.cells] at h ⊢⟩
theorem elz_cells : ElZ 38 40 32 32 (.int .u8 0) := ⟨Tryd.underlying38, _, el_cells.info, by simp [Value.cells], fun i h => by
  simp only [Value.cells, List.map_replicate, List.getElem_toArray, List.getElem_replicate]; rfl⟩

theorem run_make_same {T e size bytes : Nat} {v : Value} (E : ElZ T e size bytes v) (n : Nat) (hb : bytes * n ≤ 281474976710656) (h63 : n ≤ 9223372036854775807) (w : World) :
    (Instr.makeSlice T (.int .i64 (n : Int)) (.int .i64 (n : Int))).run Tryd.prog w = .ok (.slice (some ⟨w.heap.size, 0, none⟩) n n) (w.alloc (.cells (List.replicate (n * size) v).toArray e)) := by
  obtain ⟨z, hi0, hz0, hzv⟩ := E.info
  obtain ⟨i0, hi, hz1, hz2, hz3⟩ := info_parts hi0
  have hb' : (i0.bytes : Int) * (n : Int) ≤ 281474976710656 := by
    have h1 : ((bytes * n : Nat) : Int) ≤ 281474976710656 := by omega
    rw [hz3]
    rwa [Int.natCast_mul] at h1
  have hr := run_make (P := Tryd.prog) w T e i0 z E.und hi hz1 .i64 .i64 (n : Int) (n : Int) (by omega) (Int.le_refl _) hb' (by omega)
  rw [hz2, Int.toNat_natCast, made_same z.cells v _ hz0 hzv] at hr
  exact hr

theorem step_make {T e size bytes : Nat} {v : Value} (E : ElZ T e size bytes v) {ops : Array Oper} {o : Oper} {a : Act} {w : World} {K : Act → World → Prop} {Q : Exit → Act → World → Prop} {X : Prop} (hgd : o.guard = none) (x : Operand) (ho : o.op = .makeSlice T x x)
    (n : Nat) (hx : a.eval x = .int .i64 (n : Int)) (hb : bytes * n ≤ 281474976710656) (h63 : n ≤ 9223372036854775807)
    (h : K (a.put o.dst (.slice (some ⟨w.heap.size, 0, none⟩) n n)) (w.alloc (.cells (List.replicate (n * size) v).toArray e))) : if Region.wanted o (yielded ops a.tmps) = true then Oper.wp Tryd.prog o a w K Q else X := by
  have hw : Region.wanted o (yielded ops a.tmps) = true := by simp [Region.wanted, hgd]
  rw [if_pos hw]
  unfold Oper.wp execOp
  simp only [ho, hx, run_make_same E n hb h63 w, Sem.run_bind, Result.andThen_ok, Sem.run_pure]
  exact h

theorem run_copy_whole (w : World) (dT sT ty elem size : Nat) (hu : Tryd.prog.underlying dT = some (.slice elem)) (hs : (Tryd.prog.info? elem).map (·.size) = some size) (hpos : 0 < size) (g n dCap : Nat) (sp : Option Addr) (sCap : Nat) (old cs : List Value) (t : Nat)
    (hr : Row w g t old) (hl : old.length = cs.length) (hcs : cs.length = n * size) (hsrc : IsL w sp cs) (h1 : ∀ v ∈ cs, v.oneCell' = true) :
    ∃ w', (Builtin.copy_ #[dT, sT] ty #[.slice (some ⟨g, 0, none⟩) n dCap, .slice sp n sCap]).run Tryd.prog w = .ok (goInt n) w' ∧ Row w' g t cs ∧ SameBut g w w' := by
  cases hq : Tryd.prog.info? elem with
  | none => simp [hq] at hs
  | some i =>
    have hi : i.size = size := by simpa [hq] using hs
    have key : ∀ a : Addr, (∀ j v, cs[j]? = some v → w.cell? (a.add j) = some v) → ∃ w', (Builtin.copy_ #[dT, sT] ty #[.slice (some ⟨g, 0, none⟩) n dCap, .slice (some a) n sCap]).run Tryd.prog w = .ok (goInt n) w' ∧ Row w' g t cs ∧ SameBut g w w' := by
      intro a hsrc
      have hld := run_loadCells_list (P := Tryd.prog) w a cs hsrc
      have hst := run_storeCells_at Tryd.prog g 0 t cs 0 old.toArray w hr (by simp [hl]) h1
      have e : ((old.toArray.toList.take (0 + 0)) ++ cs ++ old.toArray.toList.drop (0 + 0 + cs.length)).toArray = cs.toArray := by
        have : old.drop cs.length = [] := List.drop_eq_nil_of_le (by omega)
        simp [this]
      rw [e] at hst
      refine ⟨w.setRow g cs.toArray, ?_, setRow_heap w g old.toArray cs.toArray t (0, 0) hr, ⟨rfl, rfl, rfl, by simp [World.setRow], fun k hk => setRow_other w g k _ hk⟩⟩
      simp [Builtin.copy_, run_underlying hu, Builtin.lenOf, Builtin.firstCells, sizeOf, typeInfo, hq, hi, ← hcs, hld, hst]
    rcases hsrc with h0 | ⟨B, off, rfl, hc⟩
    · subst h0
      have hn0 : n = 0 := by
        have : n * size = 0 := by rw [← hcs]; rfl
        rcases Nat.mul_eq_zero.1 this with h | h
        · exact h
        · omega
      cases sp with
      | some a => exact key a (by simp)
      | none =>
        subst hn0
        have ho : old = [] := List.eq_nil_of_length_eq_zero hl
        refine ⟨w, ?_, by rw [← ho]; exact hr, SameBut.refl _ _⟩
        simp [Builtin.copy_, run_underlying hu, Builtin.lenOf, Builtin.firstCells, sizeOf, typeInfo, hq, storeCells]
    · exact key _ (fun j v hj => by rw [Addr.add_mid]; exact hc j v hj)

theorem wpList_copy_whole {ops : Array Oper} {rest : List Oper} {o : Oper} {a : Act} {w : World} {Q : Exit → Act → World → Prop} (hgd : o.guard = none) (d s : Operand) (dT sT elem size : Nat)
    (ho : o.op = .call { callee := .builtin .copy, args := #[d, s], argTypes := #[dT, sT] }) (hu : Tryd.prog.underlying dT = some (.slice elem)) (hs : (Tryd.prog.info? elem).map (·.size) = some size) (hpos : 0 < size)
    (g n dCap : Nat) (sp : Option Addr) (sCap : Nat) (hd : a.eval d = .slice (some ⟨g, 0, none⟩) n dCap) (hsv : a.eval s = .slice sp n sCap) (old cs : List Value) (t : Nat)
    (hr : Row w g t old) (hl : old.length = cs.length) (hcs : cs.length = n * size) (hsrc : IsL w sp cs) (h1 : ∀ v ∈ cs, v.oneCell' = true)
    (h : ∀ w', Row w' g t cs → SameBut g w w' → wpList Tryd.prog ops Q rest (a.put o.dst (goInt n)) w') : wpList Tryd.prog ops Q (o :: rest) a w := by
  refine wpList_plain hgd fun K hK => ?_
  obtain ⟨w', hrun, h2, h3⟩ := run_copy_whole w dT sT o.type elem size hu hs hpos g n dCap sp sCap old cs t hr hl hcs hsrc h1
  unfold Oper.wp
  simp [execOp, ho, resolve, invoke, builtin, hd, hsv, hrun, Result.andThen]
  exact hK _ _ (h w' h2 h3)
end Go.Proofs.YtcpdanjbnijoiaaDoor
