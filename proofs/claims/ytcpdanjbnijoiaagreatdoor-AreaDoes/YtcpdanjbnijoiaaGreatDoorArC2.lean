
import Derived.Test.YtcpdanjbnijoiaaGreatDoorArC1
/-! The program's area: used, anyWorn, erase. -/
namespace Go.Proofs.YtcpdanjbnijoiaaGreatDoor
open Go.RowKit
set_option linter.unusedVariables false

/-- A number as a value. -/
def IV (q : Nat) : Value := .int .i64 (q : Int)
/-- A list of numbers in memory of the call's own. -/
def Lst (N : Nat) (w : World) (v : Value) (L : List Nat) : Prop := w.ownsRow N 3 1 v L.length (L.map IV) ∧ N ≤ w.heap.size

theorem lst_nil (N : Nat) (w : World) (h : N ≤ w.heap.size) : Lst N w (.slice none 0 0) [] := ⟨World.ownsRow_nil _ _ _ _, h⟩
theorem Lst.form {N : Nat} {w : World} {v : Value} {L : List Nat} (h : Lst N w v L) : ∃ ao c, v = .slice ao L.length c := by
  rcases h.1.2 with ⟨e, e0⟩ | ⟨g, c, cur, e, _⟩
  · exact ⟨none, 0, by rw [e, e0]⟩
  · exact ⟨_, _, e⟩
theorem Lst.keep {N : Nat} {w w' : World} {v : Value} {L : List Nat} (h : Lst N w v L) (hb : Below w.heap.size w w') : Lst N w' v L := by
  refine ⟨⟨h.1.1, ?_⟩, Nat.le_trans h.2 hb.size⟩
  rcases h.1.2 with h1 | ⟨g, c, cur, e, hg, hh, hr⟩
  · exact .inl h1
  · exact .inr ⟨g, c, cur, e, hg, (hb.block g (Array.getElem?_eq_some_iff.1 hh).1).trans hh, hr⟩
/-- What the walk reads of it. -/
def Tl (N : Nat) (w : World) (v : Value) (L : List Nat) (j : Nat) : Prop :=
  ∃ ao c, v = .slice ao (L.length - j) c ∧ L.length - j ≤ c ∧ (j < L.length → ∃ g, ao = some ⟨g, j, none⟩ ∧ N ≤ g ∧ g < w.heap.size ∧ ∀ i q, L[i]? = some q → w.cell? ⟨g, i, none⟩ = some (IV q))
theorem Lst.tl {N : Nat} {w : World} {v : Value} {L : List Nat} (h : Lst N w v L) : Tl N w v L 0 := by
  obtain ⟨ao, c, rfl⟩ := h.form
  have h1 := h.1
  rcases h.1.2 with ⟨e, e0⟩ | ⟨g, c', cur, e, hg, hh, hc, _⟩
  · injection e with e1 e2 e3
    exact ⟨ao, c, rfl, by omega, fun hl => by omega⟩
  · injection e with e1 e2 e3
    subst e1
    refine ⟨_, c, rfl, by omega, fun hl => ⟨g, rfl, hg, (Array.getElem?_eq_some_iff.1 hh).1, fun i q hq => ?_⟩⟩
    have hi : i < L.length := (List.getElem?_eq_some_iff.1 hq).1
    rw [h1.cellAt i (by omega), List.getElem?_map, hq]; rfl
theorem Tl.kept {N : Nat} {w w' : World} {v : Value} {L : List Nat} {j : Nat} {B : List Nat} (h : Tl N w v L j) (kl : KeptL B w w') (hB : ∀ b ∈ B, b < N) : Tl N w' v L j := by
  obtain ⟨ao, c, e, hc, hx⟩ := h
  refine ⟨ao, c, e, hc, fun hj => ?_⟩
  obtain ⟨g, e1, hg, hs, hcell⟩ := hx hj
  refine ⟨g, e1, hg, Nat.lt_of_lt_of_le hs kl.size, fun i q hq => ?_⟩
  rw [← hcell i q hq]
  unfold World.cell?
  rw [kl.block g hs (fun hm => by have := hB g hm; omega)]

theorem wpList_append_int {ops : Array Oper} {rest : List Oper} {o : Oper} {a : Act} {w : World} {Q : Exit → Act → World → Prop} (hgd : o.guard = none) (s x : Operand)
    (ho : o.op = .call { callee := .builtin .append, args := #[s, x], argTypes := #[25, 25] })
    (N t : Nat) (a0 : World) (v : Value) (L : List Nat) (q : Nat) (yy : Int) (hyy : yy = (q : Int)) (g0 : Nat) (hg0 : g0 = w.heap.size) (hs : a.eval s = v) (hx : a.eval x = .slice (some ⟨g0, 0, none⟩) 1 1)
    (hown : Lst N w v L) (hbel : Below N a0 w) (hm : L.length < 1000000)
    (h : ∀ v' w', Lst N w' v' (L ++ [q]) → Below N a0 w' → wpList Tryz.prog ops Q rest (a.put o.dst v') w') :
    wpList Tryz.prog ops Q (o :: rest) a (w.alloc (.cells #[.int .i64 yy] t)) := by
  subst hyy
  subst hg0
  obtain ⟨ao, c, rfl⟩ := hown.form
  refine wpList_append_gen el_ints hgd s x ho N a0 ao L.length c (L.map IV) hs (hown.1.alloc _) (by have := hown.2; simp; omega) (hbel.alloc hown.2 _) (some ⟨w.heap.size, 0, none⟩) 1 1 [IV q] hx rfl (.inr ⟨_, _, rfl, fun j u hu => ?_⟩) ?_ (fun e => by cases e) (by unfold maxLen; omega) (by omega) ?_
  · rw [← Addr.add_mid]
    exact cell_one_new w _ t j u hu
  · intro u hu; simp at hu; subst hu; rfl
  · intro ao' cap' w' h1 h2 h3 h4
    refine h _ w' ⟨?_, ?_⟩ h2
    · rw [List.length_append, List.map_append]; exact h1
    · have := hown.2; simp at h3; omega


set_option maxHeartbeats 2000000 in
set_option maxRecDepth 100000 in
theorem arused_any (G : RF) (s : RS) (S : ByteArray) (a : Int) (w : World) (h : CAt w G s S) (hA : s.Ar) (hg : s.gone = false) (ha : a = 0 ∨ a = 1) :
    Calls Tryz.prog 38 #[.pointer (some ⟨G.g, 0, none⟩), .int .i64 a] w fun e w' => ∃ v, e = .returned (.tuple #[v, .int .i64 0]) ∧ Lst w.heap.size w' v (usedL s a 0 s.c.area.toNat) ∧ Below w.heap.size w w' := by
  have fl := acfg_area
  have har := hA.area
  obtain ⟨M, hM⟩ : ∃ M : Nat, s.c.area = (M : Int) := Int.eq_ofNat_of_zero_le har.1
  have hMt : s.c.area.toNat = M := by omega
  have HC : Hid (∀ W, W = w → Calls Tryz.prog 37 #[.pointer (some ⟨G.g, 0, none⟩)] W fun e w' => e = .returned (.agg #[.int .i64 s.c.cells, .int .i64 s.c.slots, .int .i64 s.c.fuses, .int .i64 s.c.step, .int .i64 s.c.keys, .int .i64 s.c.erases, .int .i64 (M : Int)]) ∧ Below W.heap.size W w') := by
    rintro W rfl
    rw [← hM]
    exact acconfig G s S W h
  obtain ⟨n1, n2, n3⟩ := hA.nums ha
  have HN : Hid (∀ p : Nat, p < M → IntKind.i64.wrap (2 + a * s.c.area + (p : Int)) = ((s.pgN a p : Nat) : Int)) := fun p hp => (n3 p (by omega)).1
  have HF : Hid (∀ W, Below w.heap.size w W → Calls Tryz.prog 56 #[.pointer (some ⟨G.g, 0, none⟩), .int .i64 a] W fun e w' => e = .returned (.int .i64 (2 + a * s.c.area)) ∧ Below W.heap.size W w') := fun W hW => arfirst_any G s S a W (h.below hW (Nat.le_refl _)) hA ha
  have HI : Hid (∀ W (p : Nat), Below w.heap.size w W → p < M → Calls Tryz.prog 57 #[.pointer (some ⟨G.g, 0, none⟩), .int .i64 ((s.pgN a p : Nat) : Int)] W fun e w' => e = .returned (.tuple #[.bool (isBlank (s.pages.getD (s.pgN a p) [])), .int .i64 0]) ∧ Below W.heap.size W w') := fun W p hW hp => arisBlank_any G s S _ W (h.below hW (Nat.le_refl _)) hA hg (n3 p (by omega)).2.1
  have HS : Hid (∀ p, usedL s a 0 (p + 1) = usedL s a 0 p ++ (if isBlank (s.pages.getD (s.pgN a p) []) = true then [] else [s.pgN a p])) := fun p => by
    have := usedL_snoc s a p 0
    rw [Nat.zero_add] at this
    exact this
  have HZ : Hid (usedL s a 0 0 = []) := rfl
  have HLE : Hid (∀ p, (usedL s a 0 p).length ≤ p) := fun p => usedL_len s a p 0
  rw [hMt]
  clear h hA hg n3 hMt
  generalize usedL s a 0 = U at *
  generalize s.c.area = AR at *
  generalize 2 + a * AR = A2 at *
  go_enter Tryz.func38, Tryz.ntmps38
  go_wp2_with fail
  refine (HC.out _ rfl).mono ?_
  rintro e w1 ⟨rfl, hb1⟩
  dsimp only
  go_wp2
  go_loopw [6, 14] (fun lv iv wr => ∃ p : Nat, p ≤ M ∧ iv = .int .i64 p ∧ Hid (Lst w.heap.size wr lv (U p)) ∧ Hid (Below w.heap.size w wr)) (fun _ iv _ => M - (intOf iv).toNat)
  case atStart => exact ⟨0, by omega, rfl, by rw [HZ.out]; exact lst_nil _ _ hb1.size, hb1⟩
  case round =>
    clear hb1 HC
    obtain ⟨p, hp, rfl, hl, hb⟩ := hrel
    by_cases hlt : p < M
    · have y1 : (p : Int) < (M : Int) := by omega
      have m1 := HN.out p hlt
      have HI1 : Hid (∀ W, Below w.heap.size w W → Calls Tryz.prog 57 #[.pointer (some ⟨G.g, 0, none⟩), .int .i64 ((s.pgN a p : Nat) : Int)] W fun e w' => e = .returned (.tuple #[.bool (isBlank (s.pages.getD (s.pgN a p) [])), .int .i64 0]) ∧ Below W.heap.size W w') := fun W hW => HI.out W p hW hlt
      have hn := HS.out p
      have hle := HLE.out p
      have HL : Hid ((U p).length < 1000000) := by show _ < _; omega
      have HLB : Hid (∀ W, Below wr.heap.size wr W → Lst w.heap.size W u6 (U p)) := fun W hW => hl.out.keep hW
      generalize isBlank (s.pages.getD (s.pgN a p) []) = b at *
      generalize s.pgN a p = PN at *
      go_wp2_with fail
      refine (HF.out _ hb.out).mono ?_
      rintro e w2 ⟨rfl, hb2⟩
      dsimp only
      have bb2 : Below w.heap.size w w2 := hb.out.trans (hb2.mono hb.out.size)
      go_wp2_with fail
      refine (HI1.out _ bb2).mono ?_
      rintro e w3 ⟨rfl, hb3⟩
      dsimp only
      have bb3 : Hid (Below w.heap.size w w3) := bb2.trans (hb3.mono bb2.size)
      have hl3 : Hid (Lst w.heap.size w3 u6 (U p)) := HLB.out _ (hb2.trans (hb3.mono hb2.size))
      clear hb2 hb3 bb2 hl hb
      cases b with
      | true =>
        have HN2 : Hid (U (p + 1) = U p) := by show _ = _; simpa using hn
        clear hn
        go_wp2
        exact ⟨⟨p + 1, by omega, by go_num, by rw [HN2.out]; exact hl3, bb3⟩, by simp [intOf]; omega⟩
      | false =>
        have HN2 : Hid (U (p + 1) = U p ++ [PN]) := by show _ = _; simpa using hn
        clear hn
        go_wp2_with (at_builtin; refine wpList_append_int rfl (.tmp 33) (.tmp 35) rfl w.heap.size _ w _ (U p) PN _ rfl _ rfl rfl rfl hl3.out bb3.out HL.out ?_; intro v6 w6 hl6 hb6)
        exact ⟨⟨p + 1, by omega, by go_num, by rw [HN2.out]; exact hl6, hb6⟩, by simp [intOf]; omega⟩
    · obtain rfl : p = M := by omega
      go_wp2
      go_ret2
      exact ⟨_, rfl, hl.out, hb.out⟩

/-- A list of pages, in memory of its own. -/
def Pgs (N : Nat) (w : World) (v : Value) (L : List Nat) : Prop := ∃ ao c, v = .slice ao L.length c ∧ ∀ j q : Nat, L[j]? = some q → ∃ g, ao = some ⟨g, 0, none⟩ ∧ N ≤ g ∧ g < w.heap.size ∧ w.cell? ⟨g, j, none⟩ = some (.int .i64 (q : Int))
theorem Lst.pgs {N : Nat} {w : World} {v : Value} {L : List Nat} (h : Lst N w v L) : Pgs N w v L := by
  obtain ⟨ao, c, e, hc, hx⟩ := h.tl
  refine ⟨ao, c, by simpa using e, fun j q hq => ?_⟩
  have hj : j < L.length := (List.getElem?_eq_some_iff.1 hq).1
  obtain ⟨g, h1, h2, h3, h4⟩ := hx (by omega)
  exact ⟨g, h1, h2, h3, h4 j q hq⟩
theorem Pgs.kept {N : Nat} {w w' : World} {v : Value} {L B : List Nat} (h : Pgs N w v L) (kl : KeptL B w w') (hB : ∀ b ∈ B, b < N) : Pgs N w' v L := by
  obtain ⟨ao, c, e, hx⟩ := h
  refine ⟨ao, c, e, fun j q hq => ?_⟩
  obtain ⟨g, e1, hg, hs, hcell⟩ := hx j q hq
  exact ⟨g, e1, hg, Nat.lt_of_lt_of_le hs kl.size, (World.cell?_of_block (kl.block g hs (fun hm => by have := hB g hm; omega))).trans hcell⟩
theorem Pgs.below {N : Nat} {w w' : World} {v : Value} {L : List Nat} (h : Pgs N w v L) (hb : Below w.heap.size w w') : Pgs N w' v L := h.kept (B := []) ((KeptL.refl _ _).below hb (Nat.le_refl _)) (by simp)

set_option maxHeartbeats 2000000 in
set_option maxRecDepth 100000 in
theorem aranyWorn_any (G : RF) (s : RS) (S : ByteArray) (N : Nat) (v : Value) (L : List Nat) (w : World) (h : CAt w G s S) (hA : s.Ar) (hg : s.gone = false) (hv : Pgs N w v L) (hL : ∀ q ∈ L, q < s.pages.length) (hl : L.length ≤ 64) :
    Calls Tryz.prog 39 #[.pointer (some ⟨G.g, 0, none⟩), v] w fun e w' => e = .returned (.tuple #[.bool (wornL s L), .int .i64 0]) ∧ Below w.heap.size w w' := by
  have fl := acfg_erases
  have HC : Hid (∀ W, Below w.heap.size w W → Calls Tryz.prog 37 #[.pointer (some ⟨G.g, 0, none⟩)] W fun e w' => e = .returned (.agg #[.int .i64 s.c.cells, .int .i64 s.c.slots, .int .i64 s.c.fuses, .int .i64 s.c.step, .int .i64 s.c.keys, .int .i64 s.c.erases, .int .i64 s.c.area]) ∧ Below W.heap.size W w') := fun W hW => acconfig G s S W (h.below hW (Nat.le_refl _))
  have HE : Hid (∀ W (q : Nat), Below w.heap.size w W → q < s.pages.length → Calls Tryz.prog 58 #[.pointer (some ⟨G.g, 0, none⟩), .int .i64 (q : Int)] W fun e w' => e = .returned (.tuple #[.int .i64 (s.erases.getD q 0), .int .i64 0]) ∧ w' = W) := fun W q hW hq => by
    have := cerases_any G s S (q : Int) W (h.below hW (Nat.le_refl _))
    have e1 : s.at (q : Int) 0 = 0 := at_of (c := 0) hg hq (by have := hA.cells; omega)
    rw [e1, if_pos rfl, Int.toNat_natCast] at this
    exact this
  have HV : Hid (∀ W, Below w.heap.size w W → Pgs N W v L) := fun W hW => hv.below hW
  obtain ⟨ao, cp, rfl, _⟩ := hv
  have HLL : Hid (∀ q ∈ L, q < s.pages.length) := hL
  have HW0 : Hid (∀ i, wornL s (L.take i) = (L.take i).any fun q => decide (s.c.erases ≤ s.erases.getD q 0)) := fun i => rfl
  have HWL : Hid (wornL s L = L.any fun q => decide (s.c.erases ≤ s.erases.getD q 0)) := rfl
  obtain ⟨n, hn⟩ : ∃ n, L.length = n := ⟨_, rfl⟩
  have HLN : Hid (L.length = n) := hn
  rw [hn] at HV hl ⊢
  clear h hA hg hL hn
  go_enter Tryz.func39, Tryz.ntmps39
  go_wp2_with fail
  go_loopw [12] (fun iv wr => ∃ i : Nat, i ≤ n ∧ iv = .int .i64 i ∧ Hid (wornL s (L.take i) = false) ∧ Hid (Below w.heap.size w wr)) (fun iv _ => n - (intOf iv).toNat)
  case atStart => exact ⟨0, by omega, rfl, rfl, Below.refl _ _⟩
  case round =>
    obtain ⟨i, hi, rfl, HT, hb⟩ := hrel
    by_cases hlt : i < n
    · have y0 : (0 : Int) ≤ (i : Int) := by omega
      have y1 : (i : Int) < (n : Int) := by omega
      obtain ⟨q, hq⟩ : ∃ q, L[i]? = some q := ⟨_, List.getElem?_eq_getElem (by rw [HLN.out]; exact hlt)⟩
      obtain ⟨ao', c', e1, hx⟩ := HV.out _ hb.out
      injection e1 with e1 _ _
      subst e1
      obtain ⟨g, rfl, _, _, hc⟩ := hx i q hq
      have HE1 := HE.out _ q hb.out (HLL.out q (List.mem_of_getElem? hq))
      have HT1 : Hid (s.c.erases ≤ s.erases.getD q 0 → wornL s L = true) := fun e => by
        rw [HWL.out, List.any_eq_true]
        exact ⟨q, List.mem_of_getElem? hq, by simpa using e⟩
      have HT2 : Hid (¬ s.c.erases ≤ s.erases.getD q 0 → wornL s (L.take (i + 1)) = false) := fun e => by
        have h1 := HT.out
        rw [HW0.out] at h1 ⊢
        rw [List.take_add_one, hq, List.any_append, h1]
        simpa using e
      clear hx HT hq
      generalize s.erases.getD q 0 = E0 at *
      go_wp2_with fail
      refine HE1.mono ?_
      clear HE1
      rintro e w2 ⟨rfl, rfl⟩
      dsimp only
      go_wp2_with fail
      refine (HC.out _ hb.out).mono ?_
      rintro e w3 ⟨rfl, hb3⟩
      dsimp only
      have bb3 : Hid (Below w.heap.size w w3) := hb.out.trans (hb3.mono hb.out.size)
      clear hb3 hb hc
      by_cases hw : s.c.erases ≤ E0
      · have hw2 : E0 ≥ s.c.erases := hw
        have HF : Hid (wornL s L = true) := HT1.out hw
        go_wp2
        go_ret2
        exact ⟨by rw [HF.out]; rfl, bb3.out⟩
      · have HF : Hid (wornL s (L.take (i + 1)) = false) := HT2.out (by omega)
        have hw2 : ¬ E0 ≥ s.c.erases := hw
        have hw3 : decide (s.c.erases ≤ E0) = false := by simpa using hw
        have hw4 : E0 < s.c.erases := by omega
        clear hw
        go_wp2
        exact ⟨⟨_, _, _, _, _, _, ⟨i + 1, by omega, by go_num, HF⟩, rfl, rfl, rfl, rfl, rfl, rfl⟩, by simp [intOf]; omega⟩
    · obtain rfl : i = n := by omega
      have HF : Hid (wornL s L = false) := by have := HT.out; rw [List.take_of_length_le (Nat.le_of_eq HLN.out)] at this; exact this
      clear HT
      go_wp2
      go_ret2
      exact ⟨by rw [HF.out]; rfl, hb.out⟩

set_option maxHeartbeats 2000000 in
set_option maxRecDepth 100000 in
theorem arerase_any (G : RF) (s : RS) (S : ByteArray) (N : Nat) (hN : ∀ b ∈ G.blocks, b < N) (v : Value) (L : List Nat) (w : World) (h : CAt w G s S) (hA : s.Ar) (hG : s.Good) (hg : s.gone = false) (hn : s.n < 4611686018427300000) (hv : Pgs N w v L) (hL : ∀ q ∈ L, q < s.pages.length) (hl : L.length ≤ 64) :
    Calls Tryz.prog 40 #[.pointer (some ⟨G.g, 0, none⟩), v] w (CPost G (eraseL L s).1 (eraseL L s).2 w) := by
  have HEZ : Hid (EzL (eraseL L s) s s 0 L) := ⟨hA, hG, rfl, rfl, by omega, hg, by rw [List.drop_zero]⟩
  have HER : Hid (∀ W (s' : RS) (k q : Nat), k ≤ 64 → EzL (eraseL L s) s s' k L → (∃ S', CAt W G s' S') → Calls Tryz.prog 59 #[.pointer (some ⟨G.g, 0, none⟩), .int .i64 (q : Int)] W (CPost G (s'.erase (q : Int)) (s'.eraseE (q : Int)) W)) := fun W s' k q hk hz hW => by
    obtain ⟨S', c⟩ := hW
    have := hz.n
    exact cerase_any G s' S' (q : Int) W c hz.good.n0 (by omega) hz.good.wt hz.good.ce hz.good.e0
  generalize eraseL L s = R at *
  have HV : Hid (∀ W, KeptL G.blocks w W → Pgs N W v L) := fun W hW => hv.kept hW hN
  obtain ⟨ao, cp, rfl, _⟩ := hv
  have HLL : Hid (∀ q ∈ L, q < s.pages.length) := hL
  have HC0 : Hid (∃ S', CAt w G s S') := ⟨S, h⟩
  obtain ⟨n, hn'⟩ : ∃ n, L.length = n := ⟨_, rfl⟩
  have HLN : Hid (L.length = n) := hn'
  rw [hn'] at HV hl ⊢
  clear h hA hg hL hn' hG
  go_enter Tryz.func40, Tryz.ntmps40
  go_wp2_with fail
  go_loopw [10] (fun iv wr => ∃ (i : Nat) (s' : RS), i ≤ n ∧ iv = .int .i64 i ∧ Hid (EzL R s s' i L) ∧ Hid (∃ S', CAt wr G s' S') ∧ Hid (KeptL G.blocks w wr)) (fun iv _ => n - (intOf iv).toNat)
  case atStart => exact ⟨0, s, by omega, rfl, HEZ, HC0, KeptL.refl _ _⟩
  case round =>
    clear HEZ HC0
    obtain ⟨i, s', hi, rfl, EZ, CA, KL⟩ := hrel
    by_cases hlt : i < n
    · have y0 : (0 : Int) ≤ (i : Int) := by omega
      have y1 : (i : Int) < (n : Int) := by omega
      obtain ⟨q, hq⟩ : ∃ q, L[i]? = some q := ⟨_, List.getElem?_eq_getElem (by rw [HLN.out]; exact hlt)⟩
      obtain ⟨ao', c', e1, hx⟩ := HV.out _ KL.out
      injection e1 with e1 _ _
      subst e1
      obtain ⟨g, rfl, _, _, hc⟩ := hx i q hq
      have ER := HER.out wr s' i q (by omega) EZ.out CA.out
      have F2 : Hid (s'.eraseE (q : Int) = 0 → EzL R s (s'.erase (q : Int)) (i + 1) L) := fun e => EZ.out.next q hq (HLL.out q (List.mem_of_getElem? hq)) e
      have F3 : Hid (¬ s'.eraseE (q : Int) = 0 → R = (s'.erase (q : Int), s'.eraseE (q : Int))) := fun e => EZ.out.out q hq e
      clear hx EZ hq CA
      generalize s'.erase (q : Int) = s2 at *
      generalize s'.eraseE (q : Int) = E2 at *
      go_wp2_with fail
      refine ER.mono ?_
      clear ER
      rintro e w4 ⟨rfl, c4, k4⟩
      dsimp only
      have KW4 : Hid (KeptL G.blocks w w4) := KL.out.trans k4
      have CW4 : Hid (∃ S', CAt w4 G s2 S') := c4
      clear c4 k4 KL hc
      by_cases he2 : E2 = 0
      · have HN : Hid (EzL R s s2 (i + 1) L) := F2.out he2
        subst he2
        clear F2 F3
        go_wp2
        exact ⟨⟨i + 1, s2, by omega, by go_num, HN, CW4, KW4⟩, by simp [intOf]; omega⟩
      · have hq2 : (E2 != 0) = true := by simpa using he2
        have HF : Hid (R = (s2, E2)) := F3.out he2
        clear F2 F3
        go_wp2
        go_ret
        exact ⟨by rw [HF.out]; rfl, by rw [HF.out]; exact CW4.out, KW4.out⟩
    · obtain rfl : i = n := by omega
      have HF : Hid (R = (s', 0)) := EZ.out.fin (Nat.le_of_eq HLN.out)
      clear EZ
      go_wp2
      go_ret
      exact ⟨by rw [HF.out]; rfl, by rw [HF.out]; exact CA.out, KL.out⟩
end Go.Proofs.YtcpdanjbnijoiaaGreatDoor
