import Derived.Test.YtikakngpbahhgaaMMem
namespace Go.Proofs.Ytikakngpbahhgaa
open Go.RowKit

structure Sc where
  kind : Int
  on : Int
  ao : Option Addr
  cap : Nat
  bs : List By

/-- What is known of a step's bytes. -/
def ScB (w : World) (o : Sc) : Prop := IsB w o.ao o.bs ∧ (o.ao = none → o.cap = 0) ∧ o.bs.length ≤ o.cap ∧ o.bs.length ≤ 140737488351232
theorem ScB.below {w w' : World} {o : Sc} (h : ScB w o) (hb : Below w.heap.size w w') : ScB w' o := ⟨h.1.below hb (Nat.le_refl _), h.2⟩
def ScOk (w : World) (b off i : Nat) (o : Sc) : Prop :=
  w.cell? ⟨b, off + i * 3, none⟩ = some (.int .i64 o.kind) ∧ w.cell? ⟨b, off + i * 3 + 1, none⟩ = some (.int .i64 o.on) ∧ w.cell? ⟨b, off + i * 3 + 2, none⟩ = some (.slice o.ao o.bs.length o.cap) ∧ ScB w o
theorem ScOk.below {w w' : World} {b off i : Nat} {o : Sc} (h : ScOk w b off i o) (hb : Below w.heap.size w w') : ScOk w' b off i o := by
  obtain ⟨h1, h2, h3, h4⟩ := h
  have hl := block_lt_of_cell h1
  simp at hl
  exact ⟨(hb.cell (p := ⟨b, off + i * 3, none⟩) hl).trans h1, (hb.cell (p := ⟨b, off + i * 3 + 1, none⟩) hl).trans h2, (hb.cell (p := ⟨b, off + i * 3 + 2, none⟩) hl).trans h3, h4.below hb⟩

/-- How many steps and bytes the first k steps have. -/
def cost (ops : List Sc) (k : Nat) : Nat := ((ops.take k).map fun o => 1 + o.bs.length).sum
theorem cost_succ (ops : List Sc) (k : Nat) (o : Sc) (h : ops[k]? = some o) : cost ops (k + 1) = cost ops k + (1 + o.bs.length) := by
  unfold cost
  rw [List.take_add_one, h]
  simp
theorem cost_le (ops : List Sc) (k : Nat) : k ≤ ops.length → k ≤ cost ops k := by
  induction k with
  | zero => intro _; simp [cost]
  | succ k ih =>
    intro h
    have := ih (by omega)
    rw [cost_succ ops k ops[k] (List.getElem?_eq_getElem (by omega))]
    omega
theorem cost_mono (ops : List Sc) (i k : Nat) (h : i ≤ k) : cost ops i ≤ cost ops k := by
  induction k with
  | zero => rw [show i = 0 by omega]; exact Nat.le_refl _
  | succ k ih =>
    by_cases hik : i = k + 1
    · rw [hik]; exact Nat.le_refl _
    · refine Nat.le_trans (ih (by omega)) ?_
      by_cases hk : k < ops.length
      · rw [cost_succ ops k ops[k] (List.getElem?_eq_getElem hk)]; omega
      · unfold cost
        rw [List.take_of_length_le (i := k) (by omega), List.take_of_length_le (i := k + 1) (by omega)]
        exact Nat.le_refl _

/-- What is known of one Mac's bytes and key. -/
def ItG (w : World) (c : Nat) (t : Mt) : Prop := t.D = t.M ∧ t.M.length ≤ c ∧ IsB w t.kao t.k ∧ (t.kao = none → t.kcap = 0) ∧ t.k.length ≤ t.kcap ∧ t.k.length ≤ c
theorem ItG.mono {w : World} {c c' : Nat} {t : Mt} (h : ItG w c t) (hc : c ≤ c') : ItG w c' t := ⟨h.1, Nat.le_trans h.2.1 hc, h.2.2.1, h.2.2.2.1, h.2.2.2.2.1, Nat.le_trans h.2.2.2.2.2 hc⟩

/-- What the three calls on one of the Macs, and on its key and bytes, answer. -/
theorem it_calls {N : Nat} {S : Nat → Prop} {w0 w : World} {gk ck gl cl ga ca : Nat} {items : List Mt} (h : PSt N S w gk ck gl cl ga ca items) (hS : ∀ k, S k → k < w.heap.size) (hN : w0.heap.size = N) (hb0 : Below N w0 w) (t : Mt) (ht : t ∈ items) {c : Nat} (hg : ItG w0 c t) (hl : c ≤ 2147483648) :
    ∃ sm : List By, sm.length = 32 ∧
      (∀ W, Below w.heap.size w W → Calls Try.prog 16 #[.pointer (some ⟨t.g, 0, none⟩)] W fun e w' => e = .returned (.agg (sm.map B8).toArray) ∧ Below W.heap.size W w') ∧
      (∀ W, Below w.heap.size w W → Calls Try.prog 8 #[.slice t.kao t.k.length t.kcap, .slice t.ao t.M.length t.cap] W fun e w' => e = .returned (.agg (sm.map B8).toArray) ∧ Below W.heap.size W w') ∧
      (∀ W, Below w.heap.size w W → Calls Try.prog 7 #[.slice t.kao t.k.length t.kcap, .slice t.ao t.M.length t.cap] W fun e w' => e = .returned (.agg (sm.map B8).toArray) ∧ Below W.heap.size W w') := by
  have h0 := h.it t ht
  have hb := h.isB t ht
  obtain ⟨g1, g2, g3, g4, g5, g6⟩ := hg
  have kB : ∀ W, Below w.heap.size w W → IsB W t.kao t.k := fun W hW => g3.below (hb0.trans (hW.mono (by have := hb0.size; omega))) (by omega)
  refine ⟨tag t.k t.M, tag_len _ _, fun W hW => ?_, fun W hW => ?_, fun W hW => ?_⟩
  · have := h0.mac
    rw [g1] at this
    exact macSum_any t.g t.k t.M W (this.of_block (hW.block t.g (hS _ h0.s))) (by omega)
  · exact refMac_any t.kao t.ao _ t.kcap _ t.cap t.k t.M rfl rfl W (kB W hW) (hb.below hW (Nat.le_refl _)) g4 h0.nil (by omega) (by omega)
  · exact mac_any t.kao t.ao _ t.kcap _ t.cap t.k t.M rfl rfl W (kB W hW) (hb.below hW (Nat.le_refl _)) g5 h0.cap (by omega) (by omega)

/-- Where each step leaves the three rows, the Macs, and the bytes that were handed in. 'i' steps are done. -/
def PRel (N : Nat) (w : World) (ops : List Sc) (L : Nat) (kv lv av iv : Value) (wr : World) : Prop :=
  ∃ (i n gk ck gl cl ga ca : Nat) (items : List Mt), i ≤ L + 1 ∧ iv = .int .i64 ((i : Int) - 1) ∧ kv = .slice (some ⟨gk, 0, none⟩) n ck ∧ lv = .slice (some ⟨gl, 0, none⟩) n cl ∧ av = .slice (some ⟨ga, 0, none⟩) n ca ∧
    Hid (n = items.length) ∧ (0 < i → 0 < n) ∧ n ≤ i ∧ Hid (PSt N (· < wr.heap.size) wr gk ck gl cl ga ca items) ∧ Hid (∀ t ∈ items, ItG w (cost ops i) t) ∧ Below N w wr

/-- The same behind the switch; g2: the block that the step's bytes were handed in in. -/
def PMid (N : Nat) (w : World) (ops : List Sc) (i g2 : Nat) (kv lv av : Value) (wr : World) : Prop :=
  ∃ (n gk ck gl cl ga ca : Nat) (items : List Mt), kv = .slice (some ⟨gk, 0, none⟩) n ck ∧ lv = .slice (some ⟨gl, 0, none⟩) n cl ∧ av = .slice (some ⟨ga, 0, none⟩) n ca ∧
    Hid (n = items.length) ∧ 0 < n ∧ n ≤ i + 1 ∧ Hid (PSt N (fun k => k < wr.heap.size ∧ k ≠ g2) wr gk ck gl cl ga ca items) ∧ Hid (∀ t ∈ items, ItG w (cost ops (i + 1)) t) ∧ Below N w wr

/-- Behind the writing over. -/
theorem PMid.next {N : Nat} {w : World} {ops : List Sc} {L i g2 : Nat} {kv lv av : Value} {wr wz : World} {iv : Int} (h : PMid N w ops i g2 kv lv av wr) (hiv : iv = (i : Int)) (hi : i ≤ L) (hg2 : N ≤ g2) (hz : SameBut g2 wr wz) : PRel N w ops L kv lv av (.int .i64 iv) wz := by
  obtain ⟨n, gk, ck, gl, cl, ga, ca, items, rfl, rfl, rfl, hn, hn0, hni, hst, hit, hbl⟩ := h
  refine ⟨i + 1, n, gk, ck, gl, cl, ga, ca, items, by omega, by rw [hiv]; congr 1; omega, rfl, rfl, rfl, hn, fun _ => hn0, hni, ?_, hit, hz.below hbl hg2⟩
  exact hst.out.keep (fun k hk => hz.block k hk.2) (fun k hk => by show k < wz.heap.size; rw [hz.size]; exact hk.1)

theorem PMid.stay {N : Nat} {w : World} {ops : List Sc} {i n gk ck gl cl ga ca g2 : Nat} {items : List Mt} {wr wb w4 : World} (hn : n = items.length) (hn0 : 0 < n) (hni : n ≤ i)
    (hst : PSt N (· < wr.heap.size) wr gk ck gl cl ga ca items) (hit : ∀ t ∈ items, ItG w (cost ops i) t) (hbl : Below N w wr) (hg2 : wr.heap.size ≤ g2) (bb : Below wr.heap.size wr wb) (b4 : Below wb.heap.size wb w4) (hNs : N ≤ wr.heap.size) :
    PMid N w ops i g2 (.slice (some ⟨gk, 0, none⟩) n ck) (.slice (some ⟨gl, 0, none⟩) n cl) (.slice (some ⟨ga, 0, none⟩) n ca) w4 := by
  have b5 : Below wr.heap.size wr w4 := bb.trans (b4.mono bb.size)
  refine ⟨n, gk, ck, gl, cl, ga, ca, items, rfl, rfl, rfl, hn, hn0, by omega, ?_, fun t ht => (hit t ht).mono (cost_mono ops i (i + 1) (by omega)), hbl.trans (b5.mono hNs)⟩
  exact hst.keep (fun k hk => b5.block k hk) (fun k hk => ⟨Nat.lt_of_lt_of_le hk b5.size, by have : k < wr.heap.size := hk; omega⟩)

theorem grown_below {N : Nat} {a w w' : World} {o : Obj} {r : Nat} (hb : Below N a w) (hN : N ≤ w.heap.size) (hr : (w.alloc o).grownBy w' (some r)) (hNr : N ≤ r) : Below N a w' :=
  (hb.alloc hN o).grown hr (by simp; omega) (fun k hk => by injection hk with hk; omega)

theorem Try.info38 : (Try.prog.info? 38).map (fun i => (i.zero, i.size, i.bytes)) = some (some (.pointer none), 1, 8) := by kernel_rfl
theorem Try.info22 : (Try.prog.info? 22).map (fun i => (i.zero, i.size, i.bytes)) = some (some (.slice none 0 0), 1, 24) := by kernel_rfl

theorem wpList_append_cell {ops : Array Oper} {rest : List Oper} {o : Oper} {a : Act} {w : World} {Q : Exit → Act → World → Prop} (hgd : o.guard = none) (s x : Operand) (T e : TypeId)
    (ho : o.op = .call { callee := .builtin .append, args := #[s, x], argTypes := #[T, T] }) (z : Value) (bytes : Nat) (hT : Try.prog.underlying T = some (.slice e)) (hinfo : (Try.prog.info? e).map (fun i => (i.zero, i.size, i.bytes)) = some (some z, 1, bytes)) (hz : z.cells.size = 1) (hby : bytes ≤ 24)
    (N ty g n cap : Nat) (xs : List Value) (y : Value) (hy : y.oneCell' = true) (g0 : Nat) (hg0 : g0 = w.heap.size) (hs : a.eval s = .slice (some ⟨g, 0, none⟩) n cap) (hx : a.eval x = .slice (some ⟨g0, 0, none⟩) 1 1)
    (hown : w.ownsRow N e 1 (.slice (some ⟨g, 0, none⟩) n cap) n xs) (hN : N ≤ w.heap.size) (hn : n ≤ 140737488351233 / 32)
    (h : ∀ g' cap' w', w'.ownsRow N e 1 (.slice (some ⟨g', 0, none⟩) (n + 1) cap') (n + 1) (xs ++ [y]) → (w.alloc (.cells #[y] ty)).grownBy w' (some g) → (some g = some g' ∨ g' = w.heap.size + 1) → g' < w'.heap.size →
      wpList Try.prog ops Q rest (a.put o.dst (.slice (some ⟨g', 0, none⟩) (n + 1) cap')) w') :
    wpList Try.prog ops Q (o :: rest) a (w.alloc (.cells #[y] ty)) := by
  obtain ⟨i0, hi, hz0, hz1, hz2⟩ := info_parts hinfo
  subst hg0
  refine wpList_append_lies (P := Try.prog) _ hgd s x T ho N e i0 z 1 bytes hT hi hz0 hz1 hz2 hz (by decide) _ n xs hs (hown.alloc _) ⟨w.heap.size, 0, none⟩ 1 1 [y] hx rfl (cell_one_new _ _ _) ?_ (by decide) ?_ ?_ ?_ (w.heap.size + 1) (by simp) ?_
  · intro u hu; simp at hu; subst hu; exact hy
  · unfold maxLen; omega
  · have : (n + 1) * bytes ≤ (n + 1) * 24 := Nat.mul_le_mul_left _ hby
    omega
  · simp; omega
  · intro g' cap' w' h1 h2 h3 h4
    exact h g' cap' w' h1 h2 h3 h4

/-- A step of kind 1. -/
theorem PMid.push {N : Nat} {w : World} {ops : List Sc} {i n gk ck gl cl ga ca gk' ck' gl' cl' ga' ca' g2 : Nat} {items : List Mt} {wr wb w1 w2 w3 w4 : World} {o2 o3 o4 : Obj} {o : Sc} {g : Nat} (hn : n = items.length) (hni : n ≤ i)
    (hst : PSt N (· < wr.heap.size) wr gk ck gl cl ga ca items) (hit : ∀ t ∈ items, ItG w (cost ops i) t) (hbl : Below N w wr) (hNs : N ≤ wr.heap.size) (hg2 : wr.heap.size ≤ g2) (hg2b : g2 < wb.heap.size) (bb : Below wr.heap.size wr wb) (b1 : Below wb.heap.size wb w1)
    (hgb : wb.heap.size ≤ g) (hd : MacAt w1 g o.bs []) (hsc : ScB w o) (hc : cost ops (i + 1) = cost ops i + (1 + o.bs.length))
    (hr2 : (w1.alloc o2).grownBy w2 (some gl)) (ho2 : w2.ownsRow N 38 1 (.slice (some ⟨gl', 0, none⟩) (n + 1) cl') (n + 1) (items.map Mt.pt ++ [ptr g])) (ha2 : some gl = some gl' ∨ gl' = w1.heap.size + 1) (hl2 : gl' < w2.heap.size)
    (hr3 : (w2.alloc o3).grownBy w3 (some gk)) (ho3 : w3.ownsRow N 22 1 (.slice (some ⟨gk', 0, none⟩) (n + 1) ck') (n + 1) (items.map Mt.ks ++ [.slice o.ao o.bs.length o.cap])) (ha3 : some gk = some gk' ∨ gk' = w2.heap.size + 1) (hl3 : gk' < w3.heap.size)
    (hr4 : (w3.alloc o4).grownBy w4 (some ga)) (ho4 : w4.ownsRow N 22 1 (.slice (some ⟨ga', 0, none⟩) (n + 1) ca') (n + 1) (items.map Mt.sl ++ [.slice none 0 0])) (ha4 : some ga = some ga' ∨ ga' = w3.heap.size + 1) (hl4 : ga' < w4.heap.size) :
    PMid N w ops i g2 (.slice (some ⟨gk', 0, none⟩) (n + 1) ck') (.slice (some ⟨gl', 0, none⟩) (n + 1) cl') (.slice (some ⟨ga', 0, none⟩) (n + 1) ca') w4 := by
  have hs2 : w1.heap.size + 1 ≤ w2.heap.size := by have := hr2.size; simpa using this
  have hs3 : w2.heap.size + 1 ≤ w3.heap.size := by have := hr3.size; simpa using this
  have hs4 : w3.heap.size + 1 ≤ w4.heap.size := by have := hr4.size; simpa using this
  have hgl : gl < wr.heap.size := hst.sl
  have hgk : gk < wr.heap.size := hst.sk
  have hga : ga < wr.heap.size := hst.sa
  have hbs := bb.size
  have h1s := b1.size
  have hgw := hd.lt
  have b5 : Below wr.heap.size wr w1 := bb.trans (b1.mono bb.size)
  have st1 : PSt N (· < wr.heap.size) w1 gk ck gl cl ga ca items := hst.keep (fun k hk => b5.block k hk) (fun _ h => h)
  have e2 : gl' = gl ∨ gl' = w1.heap.size + 1 := by
    rcases ha2 with e | e
    · injection e with e; exact .inl e.symm
    · exact .inr e
  have e3 : gk' = gk ∨ gk' = w2.heap.size + 1 := by
    rcases ha3 with e | e
    · injection e with e; exact .inl e.symm
    · exact .inr e
  have e4 : ga' = ga ∨ ga' = w3.heap.size + 1 := by
    rcases ha4 with e | e
    · injection e with e; exact .inl e.symm
    · exact .inr e
  obtain ⟨q1, q2, q3, q4⟩ := hsc
  have P := PSt.push (S' := fun k => k < w4.heap.size ∧ k ≠ g2) (t := ⟨g, o.bs, [], o.ao, o.cap, none, 0, []⟩) st1 (fun k hk => Nat.lt_of_lt_of_le hk b5.size) hn (by show N ≤ g; omega) (by show ¬ g < wr.heap.size; omega) hgw hd rfl (fun _ => rfl) hr2 ho2 ha2 hl2 hr3 ho3 ha3 hl3 hr4 ho4 ha4
    (fun k hk => by have : k < wr.heap.size := hk; exact ⟨by omega, by omega⟩) ⟨by show g < _; omega, by show g ≠ g2; omega⟩ ⟨by omega, by omega⟩ ⟨by omega, by omega⟩ ⟨by omega, by omega⟩
  refine ⟨n + 1, gk', ck', gl', cl', ga', ca', items ++ [(⟨g, o.bs, [], o.ao, o.cap, none, 0, []⟩ : Mt)], rfl, rfl, rfl, by show _ = _; simp [hn], by omega, by omega, (show Hid _ from P), ?_, ?_⟩
  · intro t ht
    rcases List.mem_append.1 ht with h | h
    · exact (hit t h).mono (by omega)
    · simp at h
      subst h
      exact ⟨rfl, by simp, q1, q2, q3, by show o.bs.length ≤ _; omega⟩
  · refine grown_below (grown_below (grown_below (hbl.trans (b5.mono hNs)) (by omega) hr2 hst.geL) (by omega) hr3 hst.geK) (by omega) hr4 hst.geA

/-- A step of kind 2. -/
theorem PMid.store {N : Nat} {w : World} {ops : List Sc} {i n gk ck gl cl ga ca g2 kk : Nat} {items : List Mt} {t : Mt} {o : Sc} {wr wb wc w6 : World} {ao : Option Addr} {m c : Nat} (hn : n = items.length) (hn0 : 0 < n) (hni : n ≤ i)
    (hk : items[kk]? = some t) (hst : PSt N (· < wr.heap.size) wr gk ck gl cl ga ca items) (hit : ∀ t ∈ items, ItG w (cost ops i) t) (hbl : Below N w wr) (hNs : N ≤ wr.heap.size) (hg2 : wr.heap.size ≤ g2) (bb : Below wr.heap.size wr wb) (kc : Kept t.g wb wc) (hd : MacAt wc t.g t.k (t.D ++ o.bs))
    (hc : cost ops (i + 1) = cost ops i + (1 + o.bs.length)) (hg2c : g2 < wc.heap.size) (h6 : Below wc.heap.size wc w6) (ho : Own wc.heap.size w6 (.slice ao m c) (t.M ++ o.bs)) :
    PMid N w ops i g2 (.slice (some ⟨gk, 0, none⟩) n ck) (.slice (some ⟨gl, 0, none⟩) n cl) (.slice (some ⟨ga, 0, none⟩) n ca) (w6.setCell ⟨ga, kk, none⟩ (.slice ao m c)) := by
  have hkl : kk < items.length := (List.getElem?_eq_some_iff.1 hk).1
  have ht : t ∈ items := List.mem_of_getElem? hk
  obtain ⟨e1, e2, e3, e4⟩ := own_isb ho
  have hbs := bb.size
  have hcs := kc.size
  have h6s := h6.size
  have st1 : PSt N (· < wr.heap.size) wb gk ck gl cl ga ca items := hst.keep (fun k hk => bb.block k hk) (fun _ h => h)
  have st2 := st1.write kk t hk (t.D ++ o.bs) (fun j hj hne => kc.block j (by have : j < wr.heap.size := hj; omega) hne) hd
  have st3 : PSt N (· < wr.heap.size) w6 gk ck gl cl ga ca (items.set kk { t with D := t.D ++ o.bs }) := st2.keep (fun k hk => h6.block k (by have : k < wr.heap.size := hk; omega)) (fun _ h => h)
  have hsz : (w6.setCell ⟨ga, kk, none⟩ (.slice ao m c)).heap.size = w6.heap.size := (SameBut.setCell ga kk _ w6).size
  have st4 := st3.storeA (S' := fun k => k < (w6.setCell ⟨ga, kk, none⟩ (.slice ao m c)).heap.size ∧ k ≠ g2) kk { t with D := t.D ++ o.bs } (by rw [List.getElem?_set_self hkl]) ao c (t.M ++ o.bs) e2 e3
    (fun k hk => by have : k < wr.heap.size := hk; exact ⟨by omega, by omega⟩)
    (by
      rcases e4 with h | ⟨B, off, h1, h2, h3, h4⟩
      · exact .inl h
      · exact .inr ⟨B, off, h1, by show ¬ B < wr.heap.size; omega, ⟨by omega, by omega⟩, h4⟩)
  rw [e1, List.set_set] at st4
  have hge := (hst.it t ht).ge
  refine ⟨n, gk, ck, gl, cl, ga, ca, items.set kk { t with D := t.D ++ o.bs, ao := ao, cap := c, M := t.M ++ o.bs }, rfl, rfl, rfl, by show _ = _; rw [List.length_set]; exact hn, hn0, by omega, st4, ?_, ?_⟩
  · intro s hs
    rcases List.mem_or_eq_of_mem_set hs with h | h
    · exact (hit s h).mono (by omega)
    · obtain ⟨h1, h2, h3, h4, h5, h6⟩ := hit t ht
      subst h
      exact ⟨by show t.D ++ o.bs = t.M ++ o.bs; rw [h1], by show (t.M ++ o.bs).length ≤ _; rw [List.length_append]; omega, h3, h4, h5, by show t.k.length ≤ _; omega⟩
  · exact ((kc.toBelow (hbl.trans (bb.mono hNs)) hge (by omega)).trans (h6.mono (by omega))).setCell (p := ⟨ga, kk, none⟩) hst.geA _
end Go.Proofs.Ytikakngpbahhgaa
