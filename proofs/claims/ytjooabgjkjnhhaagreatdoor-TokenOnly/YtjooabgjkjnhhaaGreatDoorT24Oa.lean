import Derived.Test.YtjooabgjkjnhhaaGreatDoorT24Y

import Derived.Test.YtjooabgjkjnhhaaGreatDoorT24Is
/-! TokenOnly: what its drawn regions keep. -/
namespace Go.Proofs.YtjooabgjkjnhhaaGreatDoor
open Go.RowKit
set_option linter.unusedVariables false
set_option linter.unusedSimpArgs false
set_option maxRecDepth 100000

theorem new_sec1 {s : List By} (h : 1 ≤ s.length ∧ s.length ≤ 256) : newE (sec1 s) = none := by
  have h1 : secE (sec1 s) 0 = none := by
    unfold secE
    have e : (sec1 s).getD 0 (0, []) = (3, s) := rfl
    rw [e, if_neg (by simp), if_neg (by show ¬ (s.length < 1 ∨ 256 < s.length); omega), if_neg (by simp [fnd])]
  unfold newE
  rw [if_neg (by simp [sec1])]
  show List.findSome? _ [0] = none
  simp [h1]
theorem new_sec1_bad {s : List By} (h : ¬ (1 ≤ s.length ∧ s.length ≤ 256)) : newE (sec1 s) = some (4, 0) := by
  have h1 : secE (sec1 s) 0 = some 4 := by
    unfold secE
    have e : (sec1 s).getD 0 (0, []) = (3, s) := rfl
    rw [e, if_neg (by simp), if_pos (by show s.length < 1 ∨ 256 < s.length; omega)]
  unfold newE
  rw [if_neg (by simp [sec1])]
  show List.findSome? _ [0] = _
  simp [h1]
theorem sec1In {w : World} {so : Option Addr} {sc : Nat} {s : List By} {c : Nat} (hs : IsB w so s) (hsc : s.length ≤ sc) (hsn : so = none → sc = 0) (hc : Row w c 57 [.int .i64 3, .slice so s.length sc]) :
    SecIn w c 0 [.slice so s.length sc] (sec1 s) where
  key
    | 0, _ => hc.cell 0 _ rfl
    | n + 1, h => absurd h (by simp [sec1])
  sl
    | 0, _ => hc.cell 1 _ rfl
    | n + 1, h => absurd h (by simp [sec1])
  bytes
    | 0, _ => ⟨_, _, rfl, hs, hsc, hsn⟩
    | n + 1, h => absurd h (by simp [sec1])
theorem own_isL {W : World} {N e size : Nat} {ao : Option Addr} {n c : Nat} {vs : List Value} (h : W.ownsRow N e size (.slice ao n c) n vs) (hn : 0 < n) : ∃ g, ao = some ⟨g, 0, none⟩ ∧ IsL W ao vs := by
  obtain ⟨pb, rfl⟩ : ∃ pb, ao = some ⟨pb, 0, none⟩ := by
    rcases h.2 with ⟨_, e0⟩ | ⟨g, cc, cur, e, _⟩
    · exact absurd e0 (by omega)
    · injection e with e1 _ _; exact ⟨g, e1⟩
  refine ⟨pb, rfl, .inr ⟨pb, 0, rfl, fun j v hj => ?_⟩⟩
  have := h.cells (g := pb) rfl j v hj
  rw [Addr.add_mid] at this
  exact this
theorem tkO_back {N M : Nat} {W : World} {x : Tk} {io : Option Addr} {ic : Nat} {lo : Option Addr} {lc : Nat} {lo' : Option Addr} {lc' : Nat} (h : TkO 52 N W x io ic lo lc) (ho : W.ownsRow M 50 5 (.slice lo' x.cs.length lc') x.cs.length (x.cs.flatMap cvC)) : TkO 50 0 W x io ic lo' lc' :=
  ⟨own_le h.id (Nat.zero_le _), owB_low ho (Nat.zero_le _), h.tag, h.ok, h.big⟩
theorem wpList_load_part24 {ops : Array Oper} {rest : List Oper} {op : Oper} {a : Act} {w : World} {Q : Exit → Act → World → Prop} (hgd : op.guard = none) (ty : TypeId) (x : Operand) (ho : op.op = .load ty x)
    (g o t n : Nat) (cs : List Value) (hr : Row w g t cs) (hx : a.eval x = .pointer (some ⟨g, o, none⟩)) (d : TypeDesc) (part : List Value) (hp : (cs.drop o).take n = part) (hn : part.length = n)
    (hu : Tryz.prog.underlying ty = some d) (hd : d.isRow = true) (hi : (Tryz.prog.info? ty).map (·.size) = some n)
    (h : wpList Tryz.prog ops Q rest (a.put op.dst (.agg part.toArray)) w) : wpList Tryz.prog ops Q (op :: rest) a w :=
  wpList_load_part_g (by simp [Region.wanted, hgd]) ty x ho g o t n cs hr hx d part hp hn hu hd hi h
/-- One side of x, y := back(a), back(b): asked, its variable made, laid. -/
structure SB (Wz : World) (t : Tk) (io : Option Addr) (ic : Nat) (qc qa qs : Bool) (xc xa : Value) (W : World) : Prop where
  bel : Below Wz.heap.size Wz W
  cs : qs = true → qc = true ∧ qa = true
  v : qc = true → ∃ lo lc, xc = .agg (tkCells t io ic lo lc).toArray ∧ TkO 50 0 W t io ic lo lc ∧ (qs = true → ∃ g, xa = .pointer (some ⟨g, 0, none⟩) ∧ Wz.heap.size ≤ g ∧ Row W g 28 (tkCells t io ic lo lc))
  a : qa = true → ∃ g cs, xa = .pointer (some ⟨g, 0, none⟩) ∧ Wz.heap.size ≤ g ∧ Row W g 28 cs ∧ (qs = false → cs = zTk)
section
variable {Wz : World} {t : Tk} {io : Option Addr} {ic : Nat} {qc qa qs : Bool} {xc xa : Value} {W W2 : World}
theorem SB.zero (Wz : World) (t : Tk) (io : Option Addr) (ic : Nat) (xc xa : Value) : SB Wz t io ic false false false xc xa Wz.drew := ⟨(Below.refl _ _).drew, fun h => (by cases h), fun h => (by cases h), fun h => (by cases h)⟩
theorem SB.keep (h : SB Wz t io ic qc qa qs xc xa W) (hb : Below W.heap.size W W2) : SB Wz t io ic qc qa qs xc xa W2 :=
  ⟨h.bel.trans (hb.mono h.bel.size), h.cs, fun e => let ⟨a, b, k1, k2, k3⟩ := h.v e; ⟨a, b, k1, k2.keep hb, fun f => let ⟨g, m1, m2, m3⟩ := k3 f; ⟨g, m1, m2, m3.below hb m3.lt⟩⟩, fun e => let ⟨g, cs, m1, m2, m3, m4⟩ := h.a e; ⟨g, cs, m1, m2, m3.below hb m3.lt, m4⟩⟩
theorem SB.other (h : SB Wz t io ic qc qa qs xc xa W) {g : Nat} {cs : List Value} (hs : SameBut g W W2) (hr : Row W g 28 cs) (hg : Wz.heap.size ≤ g) (hne : qa = true → ∀ g', xa = .pointer (some ⟨g', 0, none⟩) → g' ≠ g) : SB Wz t io ic qc qa qs xc xa W2 :=
  ⟨hs.below h.bel hg, h.cs, fun e => let ⟨a, b, k1, k2, k3⟩ := h.v e; ⟨a, b, k1, k2.but hs hr (by decide) (by decide), fun f => let ⟨g, m1, m2, m3⟩ := k3 f; ⟨g, m1, m2, m3.but hs (hne (h.cs f).2 _ m1)⟩⟩, fun e => let ⟨g, cs, m1, m2, m3, m4⟩ := h.a e; ⟨g, cs, m1, m2, m3.but hs (hne e _ m1), m4⟩⟩
theorem SB.call (h : SB Wz t io ic qc qa qs xc xa W) (hq : qc = false) (hb : Below W.heap.size W W2) {lo : Option Addr} {lc : Nat} (ho : TkO 50 0 W2 t io ic lo lc) {q' : Bool} (hq' : q' = true) : SB Wz t io ic q' qa qs (.agg (tkCells t io ic lo lc).toArray) xa W2 := by
  have h1 : qs = false := Bool.eq_false_iff.2 fun e => by rw [(h.cs e).1] at hq; exact Bool.noConfusion hq
  have k := h.keep hb
  exact ⟨k.bel, fun e => (by rw [h1] at e; cases e), fun _ => ⟨lo, lc, rfl, ho, fun e => (by rw [h1] at e; cases e)⟩, k.a⟩
theorem SB.alloc (h : SB Wz t io ic qc qa qs xc xa W) (hq : qa = false) {q' : Bool} (hq' : q' = true) : SB Wz t io ic qc q' qs xc (.pointer (some ⟨W.heap.size, 0, none⟩)) (W.alloc (.cells zTk.toArray 28)) := by
  have h1 : qs = false := Bool.eq_false_iff.2 fun e => by rw [(h.cs e).2] at hq; exact Bool.noConfusion hq
  have hb : Below W.heap.size W (W.alloc (.cells zTk.toArray 28)) := (Below.refl _ _).alloc (Nat.le_refl _) _
  have k := h.keep hb
  exact ⟨k.bel, fun e => (by rw [h1] at e; cases e), fun e => let ⟨a, b, k1, k2, k3⟩ := k.v e; ⟨a, b, k1, k2, fun e => (by rw [h1] at e; cases e)⟩, fun _ => ⟨_, zTk, rfl, h.bel.size, Row.at W _ _ _ _ rfl rfl, fun _ => rfl⟩⟩
theorem SB.store (h : SB Wz t io ic qc qa qs xc xa W) (hc : qc = true) (ha : qa = true) {lo : Option Addr} {lc g : Nat} (e1 : xc = .agg (tkCells t io ic lo lc).toArray) (e2 : xa = .pointer (some ⟨g, 0, none⟩)) (hg : Wz.heap.size ≤ g) (hz : Row W g 28 zTk) (hr : Row W2 g 28 (tkCells t io ic lo lc)) (hs : SameBut g W W2) {q' : Bool} (hq' : q' = true) : SB Wz t io ic qc qa q' xc xa W2 :=
  ⟨hs.below h.bel hg, fun _ => ⟨hc, ha⟩, fun e => let ⟨a, b, k1, k2, k3⟩ := h.v e; ⟨a, b, k1, k2.but hs hz (by decide) (by decide), fun _ => ⟨g, e2, hg, (by rw [e1] at k1; injection k1 with k1; have h2 : tkCells t io ic lo lc = tkCells t io ic a b := (by simpa using congrArg Array.toList k1); rw [← h2]; exact hr)⟩⟩, fun _ => ⟨g, _, e2, hg, hr, fun f => (by rw [hq'] at f; cases f)⟩⟩
theorem SB.old (h : SB Wz t io ic qc qa qs xc xa W) (ha : qa = true) {g : Nat} (e : xa = .pointer (some ⟨g, 0, none⟩)) : g < W.heap.size := by
  obtain ⟨g', cs, m1, _, m3, _⟩ := h.a ha
  rw [e] at m1
  injection m1 with m1
  injection m1 with m1
  injection m1 with m1
  rw [m1]; exact m3.lt
end
/-- Both sides. -/
structure B10 (Wz : World) (ta : Tk) (ia : Option Addr) (ica : Nat) (tb : Tk) (ib : Option Addr) (icb : Nat) (q1 q3 q4 q5 q6 q7 : Bool) (x74 x76 x18 x19 : Value) (W : World) : Prop where
  A : SB Wz ta ia ica q1 q4 q6 x74 x18 W
  B : SB Wz tb ib icb q3 q5 q7 x76 x19 W
  d : q4 = true → q5 = true → ∀ g h, x18 = .pointer (some ⟨g, 0, none⟩) → x19 = .pointer (some ⟨h, 0, none⟩) → g ≠ h
section
variable {Wz : World} {ta tb : Tk} {ia ib : Option Addr} {ica icb : Nat} {q1 q3 q4 q5 q6 q7 : Bool} {x74 x76 x18 x19 : Value} {W W2 : World}
theorem B10.al18 (h : B10 Wz ta ia ica tb ib icb q1 q3 q4 q5 q6 q7 x74 x76 x18 x19 W) (hq : q4 = false) {q' : Bool} (hq' : q' = true) : B10 Wz ta ia ica tb ib icb q1 q3 q' q5 q6 q7 x74 x76 (.pointer (some ⟨W.heap.size, 0, none⟩)) x19 (W.alloc (.cells zTk.toArray 28)) :=
  ⟨h.A.alloc hq hq', h.B.keep ((Below.refl _ _).alloc (Nat.le_refl _) _), fun _ h5 g k e1 e2 => (by
    injection e1 with e1; injection e1 with e1; injection e1 with e1
    have := h.B.old h5 e2
    omega)⟩
theorem B10.al19 (h : B10 Wz ta ia ica tb ib icb q1 q3 q4 q5 q6 q7 x74 x76 x18 x19 W) (hq : q5 = false) {q' : Bool} (hq' : q' = true) : B10 Wz ta ia ica tb ib icb q1 q3 q4 q' q6 q7 x74 x76 x18 (.pointer (some ⟨W.heap.size, 0, none⟩)) (W.alloc (.cells zTk.toArray 28)) :=
  ⟨h.A.keep ((Below.refl _ _).alloc (Nat.le_refl _) _), h.B.alloc hq hq', fun h4 _ g k e1 e2 => (by
    injection e2 with e2; injection e2 with e2; injection e2 with e2
    have := h.A.old h4 e1
    omega)⟩
end
/-- While pairs are told and joined. -/
structure P15 (Wz : World) (L1 L2 : List (List By × List By × List By)) (q7 q12 q13 : Bool) (x115 x120 x121 : Value) (W : World) : Prop where
  bel : Below Wz.heap.size Wz W
  c : q13 = true → q7 = true ∧ q12 = true
  v7 : q7 = true → q13 = false → ∃ ao c, x115 = .slice ao L1.length c ∧ W.ownsRow Wz.heap.size 98 34 (.slice ao L1.length c) L1.length (L1.flatMap prC)
  v12 : q12 = true → q13 = false → ∃ ao c, x120 = .slice ao L2.length c ∧ W.ownsRow Wz.heap.size 98 34 (.slice ao L2.length c) L2.length (L2.flatMap prC)
  v13 : q13 = true → ∃ ao c, x121 = .slice ao (L1.length + L2.length) c ∧ W.ownsRow Wz.heap.size 98 34 (.slice ao (L1.length + L2.length) c) (L1.length + L2.length) ((L1 ++ L2).flatMap prC)
section
variable {Wz : World} {L1 L2 : List (List By × List By × List By)} {q7 q12 q13 : Bool} {x115 x120 x121 : Value} {W W2 : World}
theorem P15.zero (Wz : World) (L1 L2 : List (List By × List By × List By)) (x115 x120 x121 : Value) : P15 Wz L1 L2 false false false x115 x120 x121 Wz.drew := ⟨(Below.refl _ _).drew, fun h => (by cases h), fun h => (by cases h), fun h => (by cases h), fun h => (by cases h)⟩
theorem P15.keep (h : P15 Wz L1 L2 q7 q12 q13 x115 x120 x121 W) (hb : Below W.heap.size W W2) : P15 Wz L1 L2 q7 q12 q13 x115 x120 x121 W2 :=
  ⟨h.bel.trans (hb.mono h.bel.size), h.c, fun e f => let ⟨a, b, k1, k2⟩ := h.v7 e f; ⟨a, b, k1, owB_keep k2 hb⟩, fun e f => let ⟨a, b, k1, k2⟩ := h.v12 e f; ⟨a, b, k1, owB_keep k2 hb⟩, fun e => let ⟨a, b, k1, k2⟩ := h.v13 e; ⟨a, b, k1, owB_keep k2 hb⟩⟩
theorem P15.s7 (h : P15 Wz L1 L2 q7 q12 q13 x115 x120 x121 W) (hq : q7 = false) (hb : Below W.heap.size W W2) {ao : Option Addr} {c : Nat} (ho : W2.ownsRow W.heap.size 98 34 (.slice ao L1.length c) L1.length (L1.flatMap prC)) {q' : Bool} (hq' : q' = true) : P15 Wz L1 L2 q' q12 q13 (.slice ao L1.length c) x120 x121 W2 := by
  have k := h.keep hb
  exact ⟨k.bel, fun e => ⟨hq', (h.c e).2⟩, fun _ _ => ⟨ao, c, rfl, owB_low ho h.bel.size⟩, k.v12, k.v13⟩
theorem P15.s12 (h : P15 Wz L1 L2 q7 q12 q13 x115 x120 x121 W) (hq : q12 = false) (hb : Below W.heap.size W W2) {ao : Option Addr} {c : Nat} (ho : W2.ownsRow W.heap.size 98 34 (.slice ao L2.length c) L2.length (L2.flatMap prC)) {q' : Bool} (hq' : q' = true) : P15 Wz L1 L2 q7 q' q13 x115 (.slice ao L2.length c) x121 W2 := by
  have k := h.keep hb
  exact ⟨k.bel, fun e => ⟨(h.c e).1, hq'⟩, k.v7, fun _ _ => ⟨ao, c, rfl, owB_low ho h.bel.size⟩, k.v13⟩
theorem P15.s13 (h : P15 Wz L1 L2 q7 q12 q13 x115 x120 x121 W) (h7 : q7 = true) (h12 : q12 = true) (hb : Below Wz.heap.size W W2) {ao : Option Addr} {c : Nat} (ho : W2.ownsRow Wz.heap.size 98 34 (.slice ao (L1.length + L2.length) c) (L1.length + L2.length) (L1.flatMap prC ++ L2.flatMap prC)) {q' : Bool} (hq' : q' = true) : P15 Wz L1 L2 q7 q12 q' x115 x120 (.slice ao (L1.length + L2.length) c) W2 :=
  ⟨h.bel.trans hb, fun _ => ⟨h7, h12⟩, fun _ f => (by rw [hq'] at f; cases f), fun _ f => (by rw [hq'] at f; cases f), fun _ => ⟨ao, c, rfl, (by rw [List.flatMap_append]; exact ho)⟩⟩
end
theorem prIn_own {W : World} {N g n c : Nat} {L : List (List By × List By × List By)} (h : W.ownsRow N 98 34 (.slice (some ⟨g, 0, none⟩) n c) n (L.flatMap prC)) (ht : ∀ p ∈ L, p.2.2.length = 32) : PrIn W g 0 L := fun i p hi j v hv => by
  have h1 := flP_at L ht i p hi j v hv
  have := h.cells (g := g) rfl (i * 34 + j) v h1
  rw [Addr.add_mid, ← Nat.add_assoc] at this
  exact this
theorem flP_one (L : List (List By × List By × List By)) : ∀ v ∈ L.flatMap prC, v.oneCell' = true := fun v hv => by
  obtain ⟨p, _, hp⟩ := List.mem_flatMap.1 hv
  exact prC_one p v hp
theorem isT_len {s id : List By} {l : List Cv} : (isT s id (l.take 32)).cs.length ≤ 32 := Nat.le_trans (List.length_filter_le _ _) (by rw [List.length_take]; omega)
/-- The secret and both IDs in memory. -/
structure OnM (W : World) (s : List By) (so : Option Addr) (sc : Nat) (id : List By) (io : Option Addr) (ic : Nat) (id2 : List By) (jo : Option Addr) (jc : Nat) : Prop where
  hs : IsB W so s
  hsn : so = none → sc = 0
  hsb : s.length ≤ 256
  hi : IsB W io id
  hin : io = none → ic = 0
  hib : id.length ≤ 64
  hj : IsB W jo id2
  hjn : jo = none → jc = 0
  hjb : id2.length ≤ 64
theorem OnM.keep {W W2 : World} {s : List By} {so : Option Addr} {sc : Nat} {id : List By} {io : Option Addr} {ic : Nat} {id2 : List By} {jo : Option Addr} {jc : Nat} (h : OnM W s so sc id io ic id2 jo jc) (hb : Below W.heap.size W W2) : OnM W2 s so sc id io ic id2 jo jc :=
  ⟨h.hs.below hb (Nat.le_refl _), h.hsn, h.hsb, h.hi.below hb (Nat.le_refl _), h.hin, h.hib, h.hj.below hb (Nat.le_refl _), h.hjn, h.hjb⟩
/-- Both tokens, as the program has them and as the document has them. -/
structure OnT (W : World) (s id id2 : List By) (ta tb : Tk) (ga gb gx gy : Nat) (CA CB CX CY : List Value) (lo : Option Addr) (lc : Nat) (mo : Option Addr) (mc : Nat) : Prop where
  ra : Row W ga 40 CA
  rb : Row W gb 40 CB
  rx : Row W gx 28 CX
  ry : Row W gy 28 CY
  pa : (CA.drop 3).take 32 = ta.tag.map B8
  pb : (CB.drop 3).take 32 = tb.tag.map B8
  x2 : CX[2]? = some (.slice lo ta.cs.length lc)
  y2 : CY[2]? = some (.slice mo tb.cs.length mc)
  cx : CvsIn W lo ta.cs
  cy : CvsIn W mo tb.cs
  ea : ta.tag = rightT tag s id ta.cs
  eb : tb.tag = rightT tag s id2 tb.cs
  la : ta.cs.length ≤ 32
  lb : tb.cs.length ≤ 32
  oka : ∀ c ∈ ta.cs, c.ok ∧ cvMay c = true
  okb : ∀ c ∈ tb.cs, c.ok ∧ cvMay c = true
theorem rightT_len (s id : List By) (l : List Cv) : (rightT tag s id l).length = 32 := by
  obtain ⟨a9, b9, hl9⟩ := prs_last s id l
  exact prs_tags s id l _ (List.mem_of_getElem? hl9)
end Go.Proofs.YtjooabgjkjnhhaaGreatDoor
