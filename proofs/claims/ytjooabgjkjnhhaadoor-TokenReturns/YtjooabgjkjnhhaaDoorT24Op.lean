import Derived.Test.YtjooabgjkjnhhaaDoorT24Re
import Derived.Test.YtjooabgjkjnhhaaDoorArLaid

/-! Get of the code and of the document, both ways at once; rows of bytes in memory; TokenNames. -/
namespace Go.Proofs.YtjooabgjkjnhhaaDoor
open Go.RowKit
set_option linter.unusedVariables false
set_option linter.unusedSimpArgs false
set_option maxRecDepth 100000

/-- An error that told tells as E at A. -/
def TldV (w : World) (v : Value) (E A : Int) : Prop := ∀ W, Below w.heap.size w W → HG W → Calls Tryd.prog 13 #[v] W fun e w' => e = .returned (.tuple #[.agg #[.int .i64 E, .int .i64 A], .bool true]) ∧ Below W.heap.size W w'
theorem get_both (C : Tok) (b : List By) (hbl : b.length ≤ 140737488351232) : ∃ (x : Tk) (E A : Int), x.cs.length ≤ 32 ∧ (0 ≤ E ∧ E ≤ 7) ∧ (0 ≤ A ∧ A ≤ 140737488351232) ∧
    (∀ (bo : Option Addr) (cap : Nat) (W : World), IsB W bo b → b.length ≤ cap → (bo = none → cap = 0) → Calls Tryd.prog 11 #[.slice bo b.length cap] W fun e w' => Below W.heap.size W w' ∧ ∃ v, TkA x v W e w' ∧ TldV w' v E A) ∧
    (∀ (bo : Option Addr) (cap : Nat) (W : World), IsB W bo b → b.length ≤ cap → Calls Tryd.prog 12 #[.slice bo b.length cap] W fun e w' => Below W.heap.size W w' ∧ ∃ io ic lo lc, e = .returned (.tuple #[.agg (tkCells x io ic lo lc).toArray, .agg #[.int .i64 E, .int .i64 A]]) ∧ TkV w' x io ic lo lc) := by
  cases hq : getR b with
  | error r =>
    obtain ⟨E, A⟩ := r
    have hw := get_wrong hq
    refine ⟨tk0, E, A, by decide, by omega, by omega, fun bo cap W h1 h2 h3 => ?_, fun bo cap W h1 h2 => ?_⟩
    · refine (C.get bo cap b W h1 h2 h3 hbl).mono fun e w' ⟨k1, k2, _⟩ => ⟨k1, ?_⟩
      obtain ⟨ge, ht, hr⟩ := k2 E A hq
      exact ⟨_, ht, fun W2 hb hg => told24_wrong W2 ge E A (by omega) hg (hr.below hb hr.lt)⟩
    · refine (r24Get_any bo b.length cap b rfl W h1 h2 hbl).mono fun e w' ⟨k1, k2, _⟩ => ⟨k1, none, 0, none, 0, k2 E A hq, tk0_v w'⟩
  | ok x =>
    refine ⟨x, 0, 0, (getR_short hq).2, by omega, by omega, fun bo cap W h1 h2 h3 => ?_, fun bo cap W h1 h2 => ?_⟩
    · refine (C.get bo cap b W h1 h2 h3 hbl).mono fun e w' ⟨k1, _, k2⟩ => ⟨k1, .nilIface, k2 x hq, fun W2 hb hg => told24_nil W2⟩
    · refine (r24Get_any bo b.length cap b rfl W h1 h2 hbl).mono fun e w' ⟨k1, _, k2⟩ => ?_
      obtain ⟨io, ic, lo, lc, he, ho⟩ := k2 x hq
      exact ⟨k1, io, ic, lo, lc, he, ho.v⟩
/-- Rows of bytes in memory. -/
def LsB (W : World) (lo : Option Addr) (L : List (List By)) : Prop := ∀ (i : Nat) (b : List By), L[i]? = some b → ∃ B off bo cap, lo = some ⟨B, off, none⟩ ∧ B < W.heap.size ∧ W.cell? ⟨B, off + i, none⟩ = some (.slice bo b.length cap) ∧ IsB W bo b ∧ b.length ≤ cap ∧ (bo = none → cap = 0) ∧ b.length ≤ 140737488351232
theorem LsB.keep {W W2 : World} {lo : Option Addr} {L : List (List By)} (h : LsB W lo L) (hb : Below W.heap.size W W2) : LsB W2 lo L := fun i b hi => by
  obtain ⟨B, off, bo, cap, e, hB, hc, h1, h2, h3, h4⟩ := h i b hi
  exact ⟨B, off, bo, cap, e, Nat.lt_of_lt_of_le hB hb.size, (hb.cell (p := ⟨B, off + i, none⟩) hB).trans hc, h1.below hb (Nat.le_refl _), h2, h3, h4⟩
set_option maxHeartbeats 1000000 in
theorem names24_any (C : Tok) (w : World) (hg : HG w) : Calls Tryd.prog 3 #[] w (OkP w) := by
  have A := awake24_any C w hg
  clear C hg
  go_enter Tryd.func3, Tryd.ntmps3
  go_wp2_with fail
  refine A.mono ?_
  clear A
  rintro e w1 ⟨rfl, b1⟩
  dsimp only
  have HB : Hid (Below w.heap.size w w1) := b1
  clear b1
  go_wp2
  go_ret
  exact ⟨rfl, HB.out⟩
end Go.Proofs.YtjooabgjkjnhhaaDoor


/-! Token's statements: caveats, tokens and rows of bytes that came in, laid open. -/
namespace Go.Proofs.YtjooabgjkjnhhaaDoor
open Go.ChangeShapes Go.WideShapes Go.ChangeAt Go.RowKit
set_option linter.unusedVariables false
set_option maxRecDepth 100000
section
variable {H : Type} {enc : TypeId × Value → H} {W : World} {n : Nat} {cs : List Value} {x : DataW H × List MemPlace}
theorem open_cv (h : DataW.trod enc Tryd.prog W 0 (fun _ => true) true n 72 cs = some x) : ∃ c : Cv, cs = cvC c ∧ c.ok := by
  obtain ⟨ys, m, rfl, rfl, hl, hx, hf⟩ := DataW.trod_struct Tryd.underlying72 h
  have hl5 : cs.length = 5 := by rw [hl]; kernel_rfl
  have hx5 : ys.length = 5 := hx
  match cs, hl5 with
  | [c0, c1, c2, c3, c4], _ =>
    match ys, hx5 with
    | [y0, y1, y2, y3, y4], _ =>
      have t0 : DataW.trod enc Tryd.prog W 0 (fun _ => true) true m 3 [c0] = some y0 := hf 0 _ rfl
      have t1 : DataW.trod enc Tryd.prog W 0 (fun _ => true) true m 3 [c1] = some y1 := hf 1 _ rfl
      have t2 : DataW.trod enc Tryd.prog W 0 (fun _ => true) true m 2 [c2] = some y2 := hf 2 _ rfl
      have t3 : DataW.trod enc Tryd.prog W 0 (fun _ => true) true m 2 [c3] = some y3 := hf 3 _ rfl
      have t4 : DataW.trod enc Tryd.prog W 0 (fun _ => true) true m 62 [c4] = some y4 := hf 4 _ rfl
      obtain ⟨z0, e0, _, w0⟩ := DataW.trod_int Tryd.underlying3 t0
      obtain ⟨z1, e1, _, w1⟩ := DataW.trod_int Tryd.underlying3 t1
      obtain ⟨z2, e2, _, w2⟩ := DataW.trod_int Tryd.underlying2 t2
      obtain ⟨z3, e3, _, w3⟩ := DataW.trod_int Tryd.underlying2 t3
      obtain ⟨z4, e4, _, w4⟩ := DataW.trod_int Tryd.underlying62 t4
      injection e0 with e0 _; injection e1 with e1 _; injection e2 with e2 _; injection e3 with e3 _; injection e4 with e4 _
      subst e0 e1 e2 e3 e4
      have b0 := bounds_i64 w0; have b1 := bounds_i64 w1; have b2 := bounds_i64 w2; have b3 := bounds_i64 w3; have b4 := bounds_u64 w4
      refine ⟨⟨z0, z1, z2, z3, z4.toNat⟩, ?_, ?_⟩
      · show _ = [Value.int .i64 z0, .int .i64 z1, .int .i64 z2, .int .i64 z3, .int .u64 (z4.toNat : Int)]
        rw [show (z4.toNat : Int) = z4 by omega]
      · exact ⟨⟨b0.1, by show z0 < _; omega⟩, ⟨b1.1, by show z1 < _; omega⟩, ⟨b2.1, by show z2 < _; omega⟩, ⟨b3.1, by show z3 < _; omega⟩, by show z4.toNat < _; omega⟩
/-- Caveats that came in. -/
theorem open_cvs (h : DataW.trod enc Tryd.prog W 0 (fun _ => true) true n 24 cs = some x) (hsz : ∀ k ∈ x.1.weights Tryd.prog 24, k ≤ reachBytes) :
    ∃ (a : Option Addr) (cap : Nat) (l : List Cv), cs = [.slice a l.length cap] ∧ CvsIn W a l ∧ (a = none → cap = 0) ∧ l.length ≤ cap ∧ (∀ c ∈ l, c.ok) ∧ l.length ≤ 140737488351232 := by
  rcases Deep.open_slice Tryd.underlying24 h with ⟨rfl, rfl⟩ | ⟨a, len, cap, m, n, D, Pl, rfl, hb, hl, hm, hmm, rfl, hel⟩
  · exact ⟨none, 0, [], rfl, fun i c hi => (by cases hi), fun _ => rfl, by simp, fun c hc => (by cases hc), by simp⟩
  · rw [show Tryd.prog.cellsOf 72 = 5 by kernel_rfl] at hel
    simp at hmm
    subst hmm
    simp only [DataW.weights, Tryd.underlying24] at hsz
    have hlen : len ≤ 140737488351232 := by
      have h1 := hsz _ (List.mem_cons_self ..)
      rw [show Tryd.prog.bytesOf 72 = 40 by kernel_rfl] at h1
      simp only [List.length_map, List.length_range, reachBytes] at h1
      omega
    by_cases h0 : 0 < len
    · obtain ⟨b, off, spot⟩ := a
      have hspot : spot = none := by
        obtain ⟨cs', h1, _⟩ := hel 0 (by omega)
        obtain ⟨_, hl3, hc⟩ := World.cells?_some h1
        have h2 := hc 0 (by omega)
        rw [List.getElem?_eq_getElem (by omega)] at h2
        simpa [Addr.add] using World.cell?_spot h2
      subst hspot
      obtain ⟨l, ho1, ho2⟩ := list_of (fun i c => b < W.heap.size ∧ W.rangeAt b (off + i * 5) (cvC c) ∧ c.ok) len (fun i hi => by
        obtain ⟨cs', h1, h2⟩ := hel i (by omega)
        obtain ⟨c, rfl, hok⟩ := open_cv h2
        obtain ⟨_, hl3, hc⟩ := World.cells?_some h1
        have hcell : ∀ j v, (cvC c)[j]? = some v → W.cell? ⟨b, off + i * 5 + j, none⟩ = some v := fun j v hv => by
          have h3 := hc j (by have := (List.getElem?_eq_some_iff.1 hv).1; rw [hl3] at this; exact this)
          rw [hv, Addr.add_mid, Addr.add_mid] at h3
          exact h3
        refine ⟨c, ?_, hcell, hok⟩
        have h4 := hcell 0 _ rfl
        exact Nat.lt_of_not_le fun hle => by
          have : W.heap[b]? = none := by simp; exact hle
          simp [World.cell?, this] at h4)
      subst ho1
      refine ⟨some ⟨b, off, none⟩, m, l, rfl, fun i c hi => ?_, fun e => (by cases e), by omega, fun c hc => ?_, hlen⟩
      · exact ⟨b, off, rfl, (ho2 i c hi).1, (ho2 i c hi).2.1⟩
      · obtain ⟨i, hi⟩ := List.getElem?_of_mem hc
        exact (ho2 i c hi).2.2
    · obtain rfl : len = 0 := by omega
      exact ⟨some a, m, [], rfl, fun i c hi => (by cases hi), fun e => (by cases e), by simp, fun c hc => (by cases hc), by simp⟩
theorem open_sl (h : DataW.trod enc Tryd.prog W 0 (fun _ => true) true n 23 cs = some x) (hsz : ∀ k ∈ x.1.weights Tryd.prog 23, k ≤ reachBytes) :
    ∃ (a : Option Addr) (cap : Nat) (bs : List By), cs = [.slice a bs.length cap] ∧ IsB W a bs ∧ (a = none → cap = 0) ∧ bs.length ≤ cap ∧ bs.length ≤ 140737488351232 := by
  rcases open_ints Tryd.underlying23 Tryd.underlying5 (by kernel_rfl) h with ⟨e2, _⟩ | ⟨a', len', cap', zs, e2, _⟩
  · subst e2
    obtain ⟨bs, hl, ib, hn, hc, hm⟩ := open_bytes h hsz
    exact ⟨_, _, bs, by rw [hl], ib, hn, by omega, by omega⟩
  · subst e2
    obtain ⟨bs, hl, ib, hn, hc, hm⟩ := open_bytes h hsz
    exact ⟨_, _, bs, by rw [hl], ib, hn, by omega, by omega⟩
/-- A token that came in. -/
theorem open_tok (h : DataW.trod enc Tryd.prog W 0 (fun _ => true) true n 28 cs = some x) (hsz : ∀ k ∈ x.1.weights Tryd.prog 28, k ≤ reachBytes) :
    ∃ (t : Tk) (io : Option Addr) (ic : Nat) (lo : Option Addr) (lc : Nat), cs = tkCells t io ic lo lc ∧ TkV W t io ic lo lc := by
  obtain ⟨ys, m, rfl, rfl, hl, hx, hf⟩ := DataW.trod_struct Tryd.underlying28 h
  have hl35 : cs.length = 35 := by rw [hl]; kernel_rfl
  have hx4 : ys.length = 4 := hx
  match cs, hl35 with
  | c0 :: c1 :: c2 :: r, hr =>
    match ys, hx4 with
    | [y0, y1, y2, y3], _ =>
      have t0 : DataW.trod enc Tryd.prog W 0 (fun _ => true) true m 3 [c0] = some y0 := hf 0 _ rfl
      have t1 : DataW.trod enc Tryd.prog W 0 (fun _ => true) true m 23 [c1] = some y1 := hf 1 _ rfl
      have t2 : DataW.trod enc Tryd.prog W 0 (fun _ => true) true m 24 [c2] = some y2 := hf 2 _ rfl
      have t3 : DataW.trod enc Tryd.prog W 0 (fun _ => true) true m 26 (r.take 32) = some y3 := hf 3 _ rfl
      obtain ⟨z0, e0, _, w0⟩ := DataW.trod_int Tryd.underlying3 t0
      injection e0 with e0 _
      subst e0
      obtain ⟨io, ic, id, e1, i1, i2, i3, i4⟩ := open_sl t1 (fun k hk => hsz k (by
        simp only [DataW.weights, Tryd.underlying28]
        exact DataW.weights_mem_each (j := 1) (t := 23) (d := y1.1) rfl rfl _ hk))
      obtain ⟨lo, lc, l, e2, l1, l2, l3, l4, l5⟩ := open_cvs t2 (fun k hk => hsz k (by
        simp only [DataW.weights, Tryd.underlying28]
        exact DataW.weights_mem_each (j := 2) (t := 24) (d := y2.1) rfl rfl _ hk))
      obtain ⟨tg, ht, e3⟩ := open_hash t3
      rw [List.take_of_length_le (by simp at hr; omega)] at e3
      injection e1 with e1 _
      injection e2 with e2 _
      subst e1 e2 e3
      exact ⟨⟨z0, id, l, tg⟩, io, ic, lo, lc, rfl, ⟨i1, i2, i3, l1, l2, l3, ht, l4, i4⟩⟩
/-- Rows of bytes that came in. -/
theorem open_lsb (h : DataW.trod enc Tryd.prog W 0 (fun _ => true) true n 29 cs = some x) (hsz : ∀ k ∈ x.1.weights Tryd.prog 29, k ≤ reachBytes) :
    ∃ (a : Option Addr) (cap : Nat) (L : List (List By)), cs = [.slice a L.length cap] ∧ LsB W a L ∧ L.length ≤ 140737488351232 := by
  rcases Deep.open_slice1 Tryd.underlying29 (show Tryd.prog.cellsOf 23 = 1 by kernel_rfl) h with ⟨rfl, rfl⟩ | ⟨a, len, cap, m, n', V, D, Pl, rfl, hb, hl, hm, hmm, rfl, hx⟩
  · exact ⟨none, 0, [], rfl, fun i b hi => (by cases hi), by simp⟩
  · simp at hmm
    subst hmm
    simp only [DataW.weights, Tryd.underlying29] at hsz
    have hlen : len ≤ 140737488351232 := by
      have h1 := hsz _ (List.mem_cons_self ..)
      rw [show Tryd.prog.bytesOf 23 = 24 by kernel_rfl] at h1
      simp only [List.length_map, List.length_range, reachBytes] at h1
      omega
    by_cases h0 : 0 < len
    · obtain ⟨b, off, spot⟩ := a
      have hspot : spot = none := by
        have h1 := (hx 0 (by omega)).1
        simpa [Addr.add] using World.cell?_spot h1
      subst hspot
      obtain ⟨L, hz1, hz2⟩ := list_of (fun i (z : List By) => ∃ bo cap, b < W.heap.size ∧ W.cell? ⟨b, off + i, none⟩ = some (.slice bo z.length cap) ∧ IsB W bo z ∧ z.length ≤ cap ∧ (bo = none → cap = 0) ∧ z.length ≤ 140737488351232) len (fun i hi => by
        obtain ⟨h1, h2⟩ := hx i (by omega)
        obtain ⟨bo, cap, bs, e, j1, j2, j3, j4⟩ := open_sl h2 (fun k hk => hsz k (List.mem_cons_of_mem _ (List.mem_append.2 (.inl (weights_all (d := D i) (List.mem_map.2 ⟨i, List.mem_range.2 hi, rfl⟩) hk)))))
        injection e with e _
        rw [Addr.add_mid, e] at h1
        refine ⟨bs, bo, cap, ?_, h1, j1, j3, j2, j4⟩
        exact Nat.lt_of_not_le fun hle => by
          have : W.heap[b]? = none := by simp; exact hle
          simp [World.cell?, this] at h1)
      subst hz1
      refine ⟨some ⟨b, off, none⟩, m, L, rfl, fun i z hi => ?_, hlen⟩
      obtain ⟨bo, cap, k1, k2, k3, k4, k5, k6⟩ := hz2 i z hi
      exact ⟨b, off, bo, cap, rfl, k1, k2, k3, k4, k5, k6⟩
    · obtain rfl : len = 0 := by omega
      exact ⟨some a, m, [], rfl, fun i b hi => (by cases hi), by simp⟩
end
end Go.Proofs.YtjooabgjkjnhhaaDoor
