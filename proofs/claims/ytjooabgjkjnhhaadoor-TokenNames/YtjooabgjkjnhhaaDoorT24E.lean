
import Derived.Test.YtjooabgjkjnhhaaDoorT24D
import Derived.Lib.AppendStr
/-! The reference's token: first, Put. -/
namespace Go.Proofs.YtjooabgjkjnhhaaDoor
open Go.RowKit
set_option linter.unusedVariables false
set_option linter.unusedSimpArgs false

theorem run_append_str (N : Nat) (a0 w : World) (ty : TypeId) (aoD : Option Addr) (nD capD : Nat) (m : List By) (hD : m.length = nD) (hown : Own N w (.slice aoD nD capD) m) (hbel : Below N a0 w)
    (s : ByteArray) (bs : List By) (hs : Lib.strCells s = bs.map B8) (n : Nat) (hn : bs.length = n) (hl : nD + n ≤ 140737488353280) :
    ∃ ao' cap' w', (Builtin.append_ #[23, 9] ty #[.slice aoD nD capD, .string s]).run Tryd.prog w = .ok (.slice ao' (nD + n) cap') w' ∧ Own N w' (.slice ao' (nD + n) cap') (m ++ bs) ∧ Below N a0 w' := by
  obtain ⟨i0, hi, hz0, hz1, hz2⟩ := info_parts Tryd.info5
  have hz : s.size = n := by have := congrArg List.length hs; rw [Lib.strCells_length, List.length_map, hn] at this; exact this
  subst hD
  obtain ⟨v', w', h1, h2, h3, _⟩ := Lib.run_append_own_string (P := Tryd.prog) w N 23 9 ty 5 i0 Tryd.underlying23 Tryd.underlying9 hi hz0 hz1 hz2 _ m.length (m.map B8) hown.1 s (by unfold maxLen; omega) (by omega) hown.2
  have hform : ∃ ao' cap', v' = .slice ao' (m.length + n) cap' := by
    rcases h2.2 with ⟨e, e0⟩ | ⟨g, c, cur, e, _⟩
    · exact ⟨none, 0, by rw [e, ← hz, e0]⟩
    · exact ⟨_, _, by rw [← hz]; exact e⟩
  obtain ⟨ao', cap', rfl⟩ := hform
  refine ⟨ao', cap', w', h1, ⟨?_, Nat.le_trans hown.2 h3.size⟩, hbel.grown h3 hown.2 (fun k hk => (hown.1.lt k hk).1)⟩
  rw [hz, hs] at h2
  rw [List.length_append, List.map_append, hn]; exact h2
/-- 'append(b, "..."...)' onto the call's own (or nil). -/
theorem wpList_append_str {ops : Array Oper} {rest : List Oper} {o : Oper} {a : Act} {w : World} {Q : Exit → Act → World → Prop} (hgd : o.guard = none) (x y : Operand)
    (ho : o.op = .call { callee := .builtin .append, args := #[x, y], argTypes := #[23, 9] })
    (N : Nat) (a0 : World) (aoD : Option Addr) (nD capD : Nat) (m : List By) (hx : a.eval x = .slice aoD nD capD) (hD : m.length = nD) (hown : Own N w (.slice aoD nD capD) m) (hbel : Below N a0 w)
    (s : ByteArray) (hy : a.eval y = .string s) (bs : List By) (hs : Lib.strCells s = bs.map B8) (n : Nat) (hn : bs.length = n) (hl : nD + n ≤ 140737488353280)
    (h : ∀ ao' cap' w', Own N w' (.slice ao' (nD + n) cap') (m ++ bs) → Below N a0 w' → wpList Tryd.prog ops Q rest (a.put o.dst (.slice ao' (nD + n) cap')) w') : wpList Tryd.prog ops Q (o :: rest) a w := by
  refine wpList_plain hgd fun K hK => ?_
  obtain ⟨ao', cap', w', hrun, h2, h3⟩ := run_append_str N a0 w o.type aoD nD capD m hD hown hbel s bs hs n hn hl
  unfold Oper.wp execOp
  simp only [ho, resolve, invoke, builtin, Sem.run_bind, Sem.run_pure, Result.andThen_ok, List.map_toArray, List.map_cons, List.map_nil, hx, hy, hrun]
  exact hK _ _ (h ao' cap' w' h2 h3)
def labelB : List By := [112#8, 111#8, 114#8, 116#8, 99#8, 117#8, 108#8, 108#8, 105#8, 115#8, 32#8, 116#8, 111#8, 107#8, 101#8, 110#8]
theorem ofNat_mod (n : Nat) : ((BitVec.ofNat 8 n).toNat : Int) = (n : Int) % 256 := by rw [BitVec.toNat_ofNat]; omega
theorem two_IsB (W : World) (n : Nat) : IsB (W.alloc (.cells #[.int .u8 0, .int .u8 ((n : Int) % 256)] 5)) (some ⟨W.heap.size, 0, none⟩) [0#8, BitVec.ofNat 8 n] := by
  have r := Row.at W 5 ([0#8, BitVec.ofNat 8 n].map B8) _ _ rfl rfl
  have e : ([0#8, BitVec.ofNat 8 n].map B8).toArray = #[.int .u8 0, .int .u8 ((n : Int) % 256)] := by
    simp only [List.map_cons, List.map_nil, B8, ofNat_mod]; rfl
  rw [e] at r
  exact row_isb r
theorem own_nilcap {N : Nat} {w : World} {ao : Option Addr} {n c : Nat} {m : List By} (h : Own N w (.slice ao n c) m) : ao = none → c = 0 := fun e => by
  rcases h.1.2 with ⟨e1, _⟩ | ⟨g, c', cur, e1, _⟩
  · injection e1
  · injection e1 with e2; rw [e2] at e; cases e

/-- A token in memory. -/
structure TkV (W : World) (t : Tk) (io : Option Addr) (ic : Nat) (lo : Option Addr) (lc : Nat) : Prop where
  id : IsB W io t.id
  inil : io = none → ic = 0
  ile : t.id.length ≤ ic
  cs : CvsIn W lo t.cs
  lnil : lo = none → lc = 0
  lle : t.cs.length ≤ lc
  tag : t.tag.length = 32
  ok : ∀ c ∈ t.cs, c.ok
  big : t.id.length ≤ 140737488351232
theorem TkV.keep {W W2 : World} {t : Tk} {io : Option Addr} {ic : Nat} {lo : Option Addr} {lc : Nat} (h : TkV W t io ic lo lc) (hb : Below W.heap.size W W2) : TkV W2 t io ic lo lc :=
  ⟨h.id.below hb (Nat.le_refl _), h.inil, h.ile, h.cs.keep hb, h.lnil, h.lle, h.tag, h.ok, h.big⟩
def tkCells (t : Tk) (io : Option Addr) (ic : Nat) (lo : Option Addr) (lc : Nat) : List Value := tkC t.key io t.id.length ic lo t.cs.length lc t.tag
theorem Cv.ok.z {c : Cv} (h : c.ok) : c.z < 18446744073709551616 := h.2.2.2.2
/-- What Put tells. -/
def PutP (t : Tk) (w : World) (e : Ending) (w' : World) : Prop :=
  Below w.heap.size w w' ∧ if tkMay t = true then ∃ ao c', e = .returned (.tuple #[.slice ao (tkB t).length c', .int .i64 0]) ∧ Own w.heap.size w' (.slice ao (tkB t).length c') (tkB t) else e = .returned (.tuple #[.slice none 0 0, .int .i64 5])
def headB (t : Tk) : List By := [80#8, 67#8, 84#8, 75#8, 1#8, BitVec.ofInt 8 t.key, BitVec.ofNat 8 t.id.length, BitVec.ofNat 8 t.cs.length]
theorem fl_len (l : List Cv) : (l.flatMap cvB).length = 26 * l.length := by
  induction l with
  | nil => rfl
  | cons c l ih => rw [List.flatMap_cons, List.length_append, cvB_len, ih, List.length_cons]; omega
theorem tkB_len {t : Tk} (h : t.tag.length = 32) : (tkB t).length = 8 + t.id.length + 26 * t.cs.length + 32 := by
  unfold tkB; simp only [List.length_append, fl_len, h, List.length_cons, List.length_nil]
theorem tkB_eq (t : Tk) : tkB t = headB t ++ t.id ++ t.cs.flatMap cvB ++ t.tag := rfl
theorem tkMay_parts {t : Tk} (h : tkMay t = true) : 0 ≤ t.key ∧ t.key ≤ 63 ∧ 1 ≤ t.id.length ∧ t.id.length ≤ 64 ∧ t.cs.length ≤ 32 := by
  unfold tkMay at h
  rw [Bool.and_eq_true, decide_eq_true_eq] at h
  exact h.1
set_option maxHeartbeats 4000000 in
set_option maxRecDepth 100000 in
theorem r24Put_any (t : Tk) (io : Option Addr) (ic : Nat) (lo : Option Addr) (lc : Nat) (w : World) (h : TkV w t io ic lo lc) : Calls Tryd.prog 10 #[.agg (tkCells t io ic lo lc).toArray] w (PutP t w) := by
  obtain ⟨T, hT⟩ : ∃ T, T = tkCells t io ic lo lc := ⟨_, rfl⟩
  have lT : T.length = 35 := by rw [hT]; exact tkC_len h.tag
  have t0 : T[0]? = some (.int .i64 t.key) := by rw [hT]; rfl
  have t1 : T[1]? = some (.slice io t.id.length ic) := by rw [hT]; rfl
  have t2 : T[2]? = some (.slice lo t.cs.length lc) := by rw [hT]; rfl
  have t3 : ∀ i, i < 32 → T[3 + i]? = some (.int .u8 ((t.tag.getD i 0).toNat : Int)) := fun i hi => by
    rw [hT, tkCells, tkC, List.getElem?_append_right (by simp), List.getElem?_map]
    have : i < t.tag.length := by rw [h.tag]; exact hi
    simp [this, B8]
  obtain ⟨W1, hW1⟩ : ∃ W1, W1 = w.alloc (.cells T.toArray 28) := ⟨_, rfl⟩
  have r1 : Row W1 w.heap.size 28 T := by rw [hW1]; exact Row.at w _ _ _ _ rfl rfl
  have b1 : Below w.heap.size w W1 := by rw [hW1]; exact (Below.refl _ _).alloc (Nat.le_refl _) _
  have s1 : W1.heap.size = w.heap.size + 1 := by rw [hW1]; simp
  have hv1 := h.keep b1
  have F1 := r24tMay_any t.key t.id io ic t.cs lo lc t.tag W1 hv1.cs (fun c hc => (h.ok c hc).z)
  have e1 : tkC t.key io t.id.length ic lo t.cs.length lc t.tag = T := hT.symm
  rw [e1] at F1
  have HB1 : Hid (Below w.heap.size w W1 ∧ W1.heap.size = w.heap.size + 1) := ⟨b1, s1⟩
  have R : Hid (∀ W, Below W1.heap.size W1 W → Row W w.heap.size 28 T) := fun W hb => r1.below hb r1.lt
  have V : Hid (∀ W, Below W1.heap.size W1 W → TkV W t io ic lo lc) := fun W hb => hv1.keep hb
  have G : Hid (t.tag.length = 32) := h.tag
  have T3 : Hid (∀ i, i < 32 → T[3 + i]? = some (.int .u8 ((t.tag.getD i 0).toNat : Int))) := t3
  have T0 : Hid (T[0]? = some (.int .i64 t.key)) := t0
  have T1 : Hid (T[1]? = some (.slice io t.id.length ic)) := t1
  have T2 : Hid (T[2]? = some (.slice lo t.cs.length lc)) := t2
  have T5 : Hid (T.length = 35) := lT
  have HF1 : Hid (∀ q, tkMay t = q → Calls Tryd.prog 22 #[.agg T.toArray] W1 fun e w' => e = .returned (.bool q) ∧ Below W1.heap.size W1 w') := fun q hq => by rw [← hq]; exact F1
  have e0 : tkCells t io ic lo lc = T := hT.symm
  rw [e0]
  clear h hT t0 t1 t2 t3 lT b1 s1 hv1 F1 e1 e0
  cases hq : tkMay t with
  | false =>
    have FM := HF1.out false hq
    have HQ : Hid (tkMay t = false) := hq
    clear HF1 hq
    go_enter Tryd.func10, Tryd.ntmps10
    go_wp2_with (first
      | (rw [← hW1]; clear hW1)
      | (have hz := r1; clear hz; refine wpList_load_Row rfl 28 (.tmp 1) rfl w.heap.size 28 T r1 rfl _ Tryd.underlying28 rfl (by rw [T5.out]; kernel_rfl) ?_; clear r1)
      | (go_at_call 22; refine FM.mono ?_; clear FM; rintro e w2 ⟨rfl, hb2⟩; have HF : Hid (Below w.heap.size w w2) := HB1.out.1.trans (hb2.mono HB1.out.1.size); clear hb2))
    go_ret2
    exact ⟨HF.out, by rw [HQ.out]; rfl⟩
  | true =>
    have FM := HF1.out true hq
    have HQ : Hid (tkMay t = true) := hq
    obtain ⟨p1, p2, p3, p4, p5⟩ := tkMay_parts hq
    have HP : Hid (t.id.length ≤ 64 ∧ t.cs.length ≤ 32) := ⟨p4, p5⟩
    clear HF1 hq p1 p2 p3 p4 p5
    go_enter Tryd.func10, Tryd.ntmps10
    go_wp2_with (first
      | (rw [← hW1]; clear hW1)
      | (have hz := r1; clear hz; refine wpList_load_Row rfl 28 (.tmp 1) rfl w.heap.size 28 T r1 rfl _ Tryd.underlying28 rfl (by rw [T5.out]; kernel_rfl) ?_; clear r1)
      | (go_at_call 22; refine FM.mono ?_; clear FM; rintro e w2 ⟨rfl, hb2⟩
         have HB2 : Hid (Below W1.heap.size W1 w2) := hb2
         have c0 := (R.out w2 hb2).cell 0 _ T0.out
         have c1 := (R.out w2 hb2).cell 1 _ T1.out
         have c2 := (R.out w2 hb2).cell 2 _ T2.out
         obtain ⟨w3, hw3⟩ : ∃ w3, w3 = w2.alloc (.cells #[.int .u8 80, .int .u8 67, .int .u8 84, .int .u8 75, .int .u8 1, .int .u8 (t.key % 256), .int .u8 ((t.id.length : Int) % 256), .int .u8 ((t.cs.length : Int) % 256)] 5) := ⟨_, rfl⟩
         have HO3 : Hid (Own W1.heap.size w3 (.slice (some ⟨w2.heap.size, 0, none⟩) 8 8) (headB t)) := (by rw [hw3]; exact own_new _ w2 hb2.size (headB t) _ (by simp only [headB, List.map_cons, List.map_nil, B8, ofInt_mod, ofNat_mod]; rfl) 8 rfl (by omega))
         have HB3 : Hid (Below W1.heap.size W1 w3) := (by rw [hw3]; exact hb2.alloc hb2.size _)
         clear hb2)
      | (rw [← hw3]; have c3 := (R.out w3 HB3.out).cell 1 _ T1.out; clear hw3)
      | (at_builtin; have hz := HO3; clear hz; refine wpList_append_more rfl (.tmp 22) (.tmp 24) rfl W1.heap.size W1 _ 8 8 (headB t) rfl rfl HO3.out HB3.out io t.id.length ic t.id rfl rfl (V.out _ HB3.out).id (V.out _ HB3.out).inil (by have := HP.out.1; omega) ?_
         intro ao4 q4 w4 ho4 hb4
         have HO4 : Hid (Own W1.heap.size w4 (.slice ao4 (8 + t.id.length) q4) (headB t ++ t.id) ∧ Below W1.heap.size W1 w4) := ⟨ho4, hb4⟩
         clear ho4 hb4 HO3 HB3 c3 c2 c1 c0))
    go_loopw [4, 5] (fun bv iv wr => ∃ (i : Nat) (bo : Option Addr) (bc : Nat), i ≤ t.cs.length ∧ bv = .slice bo (8 + t.id.length + 26 * i) bc ∧ iv = .int .i64 i ∧ Hid (Own W1.heap.size wr (.slice bo (8 + t.id.length + 26 * i) bc) (headB t ++ t.id ++ (t.cs.take i).flatMap cvB) ∧ Below W1.heap.size W1 wr)) (fun _ iv _ => t.cs.length - (intOf iv).toNat)
    case atStart => exact ⟨0, ao4, q4, by omega, rfl, rfl, ⟨by simpa using HO4.out.1, HO4.out.2⟩⟩
    case round =>
      clear HO4
      obtain ⟨i, bo, bc, hi, rfl, rfl, HI⟩ := hrel
      have c2 := (R.out _ HI.out.2).cell 2 _ T2.out
      by_cases hlt : i < t.cs.length
      · have y0 : (0 : Int) ≤ (i : Int) := by omega
        have y1 : (i : Int) < (t.cs.length : Int) := by omega
        have z1 : IntKind.i64.wrap ((i : Int) + 1) = (i : Int) + 1 := i64_in _ (by omega) (by have := HP.out.2; omega)
        obtain ⟨c, hc⟩ : ∃ c, t.cs[i]? = some c := ⟨_, List.getElem?_eq_getElem hlt⟩
        have hv := V.out _ HI.out.2
        have hck := hv.ok c (List.mem_of_getElem? hc)
        obtain ⟨B, off, hlo, hB, hr⟩ := hv.cs i c hc
        have F := r24cBytes_any c hck.z wr
        have HT : Hid ((t.cs.take (i + 1)).flatMap cvB = (t.cs.take i).flatMap cvB ++ cvB c) := by show _ = _; rw [List.take_add_one, hc]; simp
        have HL : Hid ((headB t ++ t.id ++ (t.cs.take i).flatMap cvB).length = 8 + t.id.length + 26 * i) := HI.out.1.len
        have HP2 : Hid (8 + t.id.length + 26 * i + 26 ≤ 140737488353280) := by show _ ≤ _; have := HP.out; omega
        have HLT : Hid (i < t.cs.length) := hlt
        subst hlo
        clear hc hck hv hlt hi
        generalize t.cs.length = m at *
        generalize t.id.length = n at *
        go_wp2_with (first
          | (have hz := hr; clear hz; refine wpList_load_mid rfl 72 (.tmp 37) rfl B (off + i * 5) rfl (cvC c) _ hr Tryd.underlying72 rfl (by kernel_rfl) ?_; clear hr)
          | (go_at_call 23; refine F.mono ?_; clear F; rintro e w5 ⟨ao5, q5, rfl, ho5, hb5⟩; have HO5 : Hid (Own wr.heap.size w5 (.slice ao5 26 q5) (cvB c)) := ho5; have HB5 : Hid (Below wr.heap.size wr w5) := hb5; clear ho5 hb5)
          | (at_builtin; have hz := HO5; clear hz; refine wpList_append_more rfl (.tmp 33) (.tmp 39) rfl W1.heap.size W1 bo (8 + n + 26 * i) bc _ rfl HL.out (HI.out.1.keep HB5.out) (HI.out.2.trans (HB5.out.mono HI.out.2.size)) ao5 26 q5 (cvB c) rfl (cvB_len c) (own_IsB HO5.out) (own_nilcap HO5.out) HP2.out ?_
             intro ao6 q6 w6 ho6 hb6
             have HO6 : Hid (Own W1.heap.size w6 (.slice ao6 (8 + n + 26 * i + 26) q6) (headB t ++ t.id ++ (t.cs.take i).flatMap cvB ++ cvB c) ∧ Below W1.heap.size W1 w6) := ⟨ho6, hb6⟩
             clear ho6 hb6 HO5 HB5))
        exact ⟨⟨i + 1, ao6, q6, HLT.out, by rw [show 8 + n + 26 * (i + 1) = 8 + n + 26 * i + 26 by omega], by go_num, ⟨by rw [HT.out, ← List.append_assoc, show 8 + n + 26 * (i + 1) = 8 + n + 26 * i + 26 by omega]; exact HO6.out.1, HO6.out.2⟩⟩, by have := HLT.out; simp [intOf]; omega⟩
      · obtain rfl : i = t.cs.length := by omega
        have y1 : ¬ ((t.cs.length : Nat) : Int) < (t.cs.length : Int) := by omega
        rw [List.take_length] at HI
        obtain ⟨m0, hm0⟩ : ∃ m0, m0 = 8 + t.id.length + 26 * t.cs.length := ⟨_, rfl⟩
        have HM0 : Hid (m0 = 8 + t.id.length + 26 * t.cs.length) := hm0
        rw [← hm0] at HI ⊢
        have HM1 : Hid (m0 ≤ 1000) := by show m0 ≤ 1000; have := HP.out; omega
        clear hm0 hlt hi
        go_wp2
        go_loopw [4, 6] (fun bv iv wx => ∃ (i : Nat) (bo : Option Addr) (bc : Nat), i ≤ 32 ∧ bv = .slice bo (m0 + i) bc ∧ iv = .int .i64 i ∧ Hid (Own W1.heap.size wx (.slice bo (m0 + i) bc) (headB t ++ t.id ++ t.cs.flatMap cvB ++ t.tag.take i) ∧ Below W1.heap.size W1 wx)) (fun _ iv _ => 32 - (intOf iv).toNat)
        case atStart => exact ⟨0, bo, bc, by omega, rfl, rfl, ⟨by simpa using HI.out.1, HI.out.2⟩⟩
        case round =>
          clear HI c2
          obtain ⟨j, bo2, bc2, hj, rfl, rfl, HJ⟩ := hrel
          by_cases hlt : j < 32
          · have y0 : (0 : Int) ≤ (j : Int) := by omega
            have y2 : (j : Int) < 32 := by omega
            have z1 : IntKind.i64.wrap ((j : Int) + 1) = (j : Int) + 1 := i64_in _ (by omega) (by omega)
            have cj := (R.out _ HJ.out.2).cell (3 + j) _ (T3.out j hlt)
            have HT : Hid (t.tag.take (j + 1) = t.tag.take j ++ [t.tag.getD j 0]) := by
              show _ = _
              have hjl : j < t.tag.length := by rw [G.out]; exact hlt
              rw [List.take_add_one, List.getElem?_eq_getElem hjl]
              simp [hjl]
            have HL : Hid ((headB t ++ t.id ++ t.cs.flatMap cvB ++ t.tag.take j).length = m0 + j) := HJ.out.1.len
            have HLT : Hid (j < 32) := hlt
            have HM2 : Hid (m0 + j < 140737488353280) := by show _ < _; have := HM1.out; omega
            generalize t.tag.getD j 0 = x at *
            go_wp2_with (at_builtin; refine wpList_append_one rfl (.tmp 45) (.tmp 50) rfl W1.heap.size 5 W1 (.slice bo2 (m0 + j) bc2) _ x _ rfl _ rfl rfl rfl HJ.out.1 HJ.out.2 (m0 + j) HL.out (by have := HM2.out; omega) ?_; intro g6 q6 w6 ho6 hb6; have HO6 : Hid (Own W1.heap.size w6 (.slice (some ⟨g6, 0, none⟩) (m0 + j + 1) q6) (headB t ++ t.id ++ t.cs.flatMap cvB ++ t.tag.take j ++ [x]) ∧ Below W1.heap.size W1 w6) := ⟨ho6, hb6⟩; clear ho6 hb6)
            exact ⟨⟨j + 1, _, q6, HLT.out, rfl, by go_num, ⟨by rw [HT.out, ← List.append_assoc]; exact HO6.out.1, HO6.out.2⟩⟩, by have := HLT.out; simp [intOf]; omega⟩
          · obtain rfl : j = 32 := by omega
            have y2 : ¬ ((32 : Nat) : Int) < 32 := by omega
            have HF : Hid (PutP t w (.returned (.tuple #[.slice bo2 (m0 + 32) bc2, .int .i64 0])) wr) := by
              have hx := HJ.out
              have hs := HB1.out
              unfold PutP
              have e : (tkB t).length = m0 + 32 := by rw [tkB_len G.out, HM0.out]
              refine ⟨hs.1.trans (hx.2.mono hs.1.size), ?_⟩
              rw [if_pos HQ.out]
              refine ⟨bo2, bc2, by rw [e], ?_⟩
              rw [e, tkB_eq]
              have h1 := own_le hx.1 (by omega : w.heap.size ≤ W1.heap.size)
              rw [List.take_of_length_le (by rw [G.out]; omega)] at h1
              exact h1
            clear HJ
            go_wp2
            go_ret2
            exact HF.out
end Go.Proofs.YtjooabgjkjnhhaaDoor
