import Derived.Test.YtjooabgjkjnhhaaDoorT24H
import Derived.Test.YtjooabgjkjnhhaaDoorPiece
import Derived.Test.YtjooabgjkjnhhaaDoorRows
import Derived.DeepKeys
import Derived.Test.YtjooabgjkjnhhaaDoorI11Mem
import Derived.Lib.ConvBytes

/-! The reference's token: Get, whole. (Printed by tools/gent24b.py.) -/
namespace Go.Proofs.YtjooabgjkjnhhaaDoor
open Go.RowKit
set_option linter.unusedVariables false
set_option linter.unusedSimpArgs false
set_option maxHeartbeats 4000000 in
set_option maxRecDepth 100000 in
theorem r24Get_any (ao : Option Addr) (n cap : Nat) (b : List By) (hb0 : b.length = n) (w : World) (hb : IsB w ao b) (hcap : n ≤ cap) (hn : n ≤ 140737488351232) :
    Calls Tryd.prog 12 #[.slice ao n cap] w (GetP b w) := by
  have P0 : Hid (GP w ((w.alloc (.cells zTk.toArray 28)).alloc (.cells #[.int .i64 0, .int .i64 0] 44))) := GP.start w
  have HB0 : Hid (b.length = n) := hb0
  have HB : Hid (IsB w ao b) := hb
  have HC : Hid (n ≤ cap ∧ n ≤ 140737488351232) := ⟨hcap, hn⟩
  clear hb hb0 hcap hn
  go_enter Tryd.func12, Tryd.ntmps12
  refine wp_seq_k fun K hK => ?_
  have HKS : Hid _ := hK
  clear hK
  go_wp2_with fail
  refine HKS.out _ _ ?_
  clear HKS
  refine wp_seq_k fun K hK => ?_
  have HKS : Hid _ := hK
  clear hK
  go_wp2_with fail
  go_loopw [4] (fun i wr => ∃ q : Nat, q ≤ 8 ∧ i = .int .i64 q ∧ Hid (q ≤ n) ∧ Hid (scan24 b 0 8 = scan24 b q (8 - q)) ∧ Hid (GP w wr)) (fun i _ => 8 - (intOf i).toNat)
  case atStart => exact ⟨0, by omega, rfl, Nat.zero_le _, rfl, P0⟩
  case round =>
    clear P0
    obtain ⟨q, hq, rfl, HQN, HQ, HG⟩ := hrel
    by_cases hq8 : q < 8
    · have i2 : (q : Int) < 8 := by omega
      obtain ⟨hs1, hs2⟩ := scan24_at HB0.out hq8 HQ.out
      by_cases hqe : q = n
      · have i3 : ((q : Int) == (n : Int)) = true := by rw [hqe]; simp
        have HX : Hid (getR b = .error (6, q)) := hs1 hqe
        clear hs1 hs2 HQ
        subst hqe
        go_wp2_with (first
          | (have hz := HG; clear hz; refine wpList_store_Row rfl 28 _ _ rfl w.heap.size 28 0 zTk zTk HG.out.tok (Nat.le_refl _) rfl rfl (by kernel_rfl) (tkC_one _ _ _ _ _ _ _ _) ?_; intro w2 hr2 hs2)
          | (have hz := HG; clear hz; refine wpList_store_Row rfl 44 _ _ rfl (w.heap.size + 1) 44 0 _ [.int .i64 6, .int .i64 (q : Int)] (HG.out.wrg.but hs2 (by omega)) (Nat.le_refl _) rfl rfl (by kernel_rfl) (by simp [Value.oneCell']) ?_; intro w3 hr3 hs3))
        have q2 := (row_whole hr2 (by simp)).but hs3 (by omega)
        have q3 := row_whole hr3 (by simp)
        refine bodyPost_ret_by (results_rowrow Tryd.results12 _ w3 w.heap.size 28 (w.heap.size + 1) 44 _ _ _ _ rfl q2 Tryd.underlying28 rfl (by kernel_rfl) rfl q3 Tryd.underlying44 rfl (by kernel_rfl)) rfl ?_
        exact GetP.bad (hs3.below (hs2.below HG.out.bel (Nat.le_refl _)) (by omega)) HX.out
      · have i3 : ((q : Int) == (n : Int)) = false := by rw [beq_eq_false_iff_ne]; omega
        have i4 : (q : Int) < (n : Int) := by have := HQN.out; omega
        have i5 : (0 : Int) ≤ (q : Int) := by omega
        obtain ⟨B, off, rfl⟩ : ∃ B off, ao = some ⟨B, off, none⟩ := by
          rcases HB.out with e | ⟨B, off, e, _⟩
          · have := HB0.out; rw [e] at this; simp at this; omega
          · exact ⟨B, off, e⟩
        have hc := bytes_at HB.out HG.out.bel q (by rw [HB0.out]; omega)
        have F := r24head_any q hq8 (b.getD q 0) wr
        have HL8 : Hid (q < 8 ∧ q < n) := ⟨hq8, by omega⟩
        have HSQ : Hid (∀ v, v = hd24 q (b.getD q 0).toNat → (v = false → getR b = .error (5, q)) ∧ (v = true → scan24 b 0 8 = scan24 b (q + 1) (8 - (q + 1)))) := hs2 hqe
        clear hs1 hs2 HQ
        generalize hv : hd24 q (b.getD q 0).toNat = v at *
        generalize (b.getD q 0).toNat = y at *
        obtain ⟨s1, s2⟩ := HSQ.out v rfl
        clear HSQ hv
        have z1 : IntKind.i64.wrap ((q : Int) + 1) = (q : Int) + 1 := i64_in _ (by omega) (by omega)
        cases v with
        | false =>
          have HX : Hid (getR b = .error (5, q)) := s1 rfl
          clear s1 s2
          go_wp2_with (first
            | (go_at_call 29; refine F.mono ?_; clear F; rintro e w4 ⟨rfl, hb4⟩; have HG4 : Hid (GP w w4) := HG.out.keep hb4; clear hb4 HG; have HG := HG4; clear HG4)
            | (have hz := HG; clear hz; refine wpList_store_Row rfl 28 _ _ rfl w.heap.size 28 0 zTk zTk HG.out.tok (Nat.le_refl _) rfl rfl (by kernel_rfl) (tkC_one _ _ _ _ _ _ _ _) ?_; intro w2 hr2 hs2)
            | (have hz := HG; clear hz; refine wpList_store_Row rfl 44 _ _ rfl (w.heap.size + 1) 44 0 _ [.int .i64 5, .int .i64 (q : Int)] (HG.out.wrg.but hs2 (by omega)) (Nat.le_refl _) rfl rfl (by kernel_rfl) (by simp [Value.oneCell']) ?_; intro w3 hr3 hs3))
          have q2 := (row_whole hr2 (by simp)).but hs3 (by omega)
          have q3 := row_whole hr3 (by simp)
          refine bodyPost_ret_by (results_rowrow Tryd.results12 _ w3 w.heap.size 28 (w.heap.size + 1) 44 _ _ _ _ rfl q2 Tryd.underlying28 rfl (by kernel_rfl) rfl q3 Tryd.underlying44 rfl (by kernel_rfl)) rfl ?_
          exact GetP.bad (hs3.below (hs2.below HG.out.bel (Nat.le_refl _)) (by omega)) HX.out
        | true =>
          have HSN : Hid (scan24 b 0 8 = scan24 b (q + 1) (8 - (q + 1))) := s2 rfl
          clear s1 s2
          go_wp2_with (go_at_call 29; refine F.mono ?_; clear F; rintro e w4 ⟨rfl, hb4⟩; have HG4 : Hid (GP w w4) := HG.out.keep hb4; clear hb4 HG)
          exact ⟨⟨q + 1, HL8.out.1, by go_num, HL8.out.2, HSN, HG4⟩, by have := HL8.out; simp [intOf]; omega⟩
    · obtain rfl : q = 8 := by omega
      have i2 : ¬ ((8 : Nat) : Int) < 8 := by omega
      have hs0 : scan24 b 0 8 = none := by rw [HQ.out]; rfl
      obtain ⟨h8, _⟩ := scan24_none 8 0 (by omega) hs0
      obtain ⟨B, off, rfl⟩ : ∃ B off, ao = some ⟨B, off, none⟩ := by
        rcases HB.out with e | ⟨B, off, e, _⟩
        · rw [e] at h8; simp at h8
        · exact ⟨B, off, e⟩
      have HBI : Hid (BI w B off n cap b) := ⟨HB0.out, fun W hW j hj => bytes_at HB.out hW j (by rw [HB0.out]; exact hj), HC.out.1, HC.out.2⟩
      have HS0 : Hid (scan24 b 0 8 = none) := hs0
      clear hs0 h8 HQ HQN hq8 hq
      go_wp2
      refine HKS.out _ _ ?_
      exact gst2 _ _ _ _ _ _ _ _ _ _ _ _ _ _ _ _ _ _ _ _ _ _ _ _ _ _ _ _ _ _ _ _ _ _ _ _ _ _ _ _ _ _ _ _ _ _ _ _ _ _ _ _ _ _ _ _ _ _ _ _ _ _ _ _ _ _ _ _ _ _ _ _ _ _ _ _ _ _ _ _ _ _ _ _ _ _ _ _ _ _ _ _ _ _ _ _ _ _ _ _ _ _ _ _ _ _ _ _ _ _ _ _ _ _ _ _ _ _ _ _ _ _ _ _ _ _ _ _ _ _ _ _ _ _ _ _ _ _ _ _ _ _ _ _ _ _ _ w _ B off n cap b HBI.out HG.out HS0.out
end Go.Proofs.YtjooabgjkjnhhaaDoor


namespace Go.Proofs.YtjooabgjkjnhhaaDoor
open Go.RowKit

theorem mapM_some {α β : Type} {f : α → Option β} (g : α → β) : ∀ (l : List α), (∀ x ∈ l, f x = some (g x)) → l.mapM f = some (l.map g)
  | [], _ => rfl
  | x :: l, h => by
    rw [List.mapM_cons, h x (by simp), mapM_some g l (fun y hy => h y (by simp [hy]))]
    rfl

theorem Tryd.cells26 : Tryd.prog.cellsOf 26 = 32 := by kernel_rfl
theorem Tryd.cells5 : Tryd.prog.cellsOf 5 = 1 := by kernel_rfl

theorem hash_key (bs : List By) (hl : bs.length = 32) : ∃ l, Tryd.prog.keyLits 2 26 (bs.map B8) = some l := by
  have hu : Tryd.prog.underlying 26 = some (.array 32 5) := Tryd.underlying26
  refine ⟨((List.range 32).map fun i => [Lit.int .u8 ((bs.getD i 0).toNat : Int)]).flatten, ?_⟩
  unfold Program.keyLits
  simp only [hu]
  rw [if_pos (by rw [Tryd.cells26, List.length_map, hl])]
  rw [mapM_some (fun i => [Lit.int .u8 ((bs.getD i 0).toNat : Int)])]
  · rfl
  · intro i hi
    rw [List.mem_range] at hi
    have e : ((bs.map B8).drop (i * Tryd.prog.cellsOf 5)).take (Tryd.prog.cellsOf 5) = [.int .u8 ((bs.getD i 0).toNat : Int)] := by
      rw [Tryd.cells5, Nat.mul_one, List.drop_eq_getElem_cons (by rw [List.length_map, hl]; exact hi)]
      simp [B8, hl, hi]
    rw [e]
    unfold Program.keyLits
    have h8 := b8_lt (bs.getD i 0)
    simp only [Tryd.underlying5]
    rw [if_pos ⟨trivial, WalkArith.wf_u8 (by omega)⟩]

theorem eq_self (bs : List By) (hl : bs.length = 32) (w : World) : (Op.equalIn 10000 26 (.agg (bs.map B8).toArray) (.agg (bs.map B8).toArray)).run Tryd.prog w = .ok true w := by
  obtain ⟨l, hk⟩ := hash_key bs hl
  have hf : (Value.agg (bs.map B8).toArray).formed Tryd.prog 26 = true := by
    simp [Value.formed, Tryd.underlying26, Tryd.cells26, hl]
  have hk' : Tryd.prog.keyLits 2 26 (Value.agg (bs.map B8).toArray).cells.toList = some l := by simpa [Value.cells] using hk
  obtain ⟨r, hr, hiff⟩ := run_equalIn_deep (P := Tryd.prog) 9998 2 26 (by kernel_rfl) w 2 2 _ _ l l hf hf hk' hk'
  rw [hr, hiff.2 rfl]
end Go.Proofs.YtjooabgjkjnhhaaDoor


/-! Two hashes held against each other; a whole row loaded where a guard lets it. -/
namespace Go.Proofs.YtjooabgjkjnhhaaDoor
open Go.RowKit
set_option linter.unusedVariables false
set_option maxRecDepth 100000

def hashLits (bs : List By) : List Lit := ((List.range 32).map fun i => [Lit.int .u8 ((bs.getD i 0).toNat : Int)]).flatten
theorem hash_key_at (bs : List By) (hl : bs.length = 32) : Tryd.prog.keyLits 2 26 (bs.map B8) = some (hashLits bs) := by
  have hu : Tryd.prog.underlying 26 = some (.array 32 5) := Tryd.underlying26
  unfold Program.keyLits
  simp only [hu]
  rw [if_pos (by rw [Tryd.cells26, List.length_map, hl])]
  rw [mapM_some (fun i => [Lit.int .u8 ((bs.getD i 0).toNat : Int)])]
  · rfl
  · intro i hi
    rw [List.mem_range] at hi
    have e : ((bs.map B8).drop (i * Tryd.prog.cellsOf 5)).take (Tryd.prog.cellsOf 5) = [.int .u8 ((bs.getD i 0).toNat : Int)] := by
      rw [Tryd.cells5, Nat.mul_one, List.drop_eq_getElem_cons (by rw [List.length_map, hl]; exact hi)]
      simp [B8, hl, hi]
    rw [e]
    unfold Program.keyLits
    have h8 := b8_lt (bs.getD i 0)
    simp only [Tryd.underlying5]
    rw [if_pos ⟨trivial, WalkArith.wf_u8 (by omega)⟩]
theorem flat_one {α β : Type} (g : α → β) : ∀ l : List α, (l.map fun i => [g i]).flatten = l.map g
  | [] => rfl
  | x :: l => by simp [flat_one g l]
theorem hashLits_inj {a b : List By} (ha : a.length = 32) (hb : b.length = 32) (h : hashLits a = hashLits b) : a = b := by
  unfold hashLits at h
  rw [flat_one (fun i => Lit.int .u8 ((a.getD i 0).toNat : Int)), flat_one (fun i => Lit.int .u8 ((b.getD i 0).toNat : Int)), List.map_inj_left] at h
  refine List.ext_getElem (by rw [ha, hb]) fun i h1 h2 => ?_
  have := h i (by rw [List.mem_range]; omega)
  rw [getD_lt h1, getD_lt h2] at this
  injection this with _ e
  exact BitVec.eq_of_toNat_eq (by omega)
theorem eq_any (a b : List By) (ha : a.length = 32) (hb : b.length = 32) (r : Bool) (hr0 : r = decide (a = b)) (w : World) : (Op.equalIn 10000 26 (.agg (a.map B8).toArray) (.agg (b.map B8).toArray)).run Tryd.prog w = .ok r w := by
  have hf : ∀ bs : List By, bs.length = 32 → (Value.agg (bs.map B8).toArray).formed Tryd.prog 26 = true := fun bs hl => by
    simp [Value.formed, Tryd.underlying26, Tryd.cells26, hl]
  have hk : ∀ bs : List By, bs.length = 32 → Tryd.prog.keyLits 2 26 (Value.agg (bs.map B8).toArray).cells.toList = some (hashLits bs) := fun bs hl => by simpa [Value.cells] using hash_key_at bs hl
  obtain ⟨q, hr, hiff⟩ := run_equalIn_deep (P := Tryd.prog) 9998 2 26 (by kernel_rfl) w 2 2 _ _ _ _ (hf a ha) (hf b hb) (hk a ha) (hk b hb)
  rw [hr, hr0]
  congr 1
  rw [Bool.eq_iff_iff, hiff, decide_eq_true_iff]
  exact ⟨hashLits_inj ha hb, fun h => by rw [h]⟩

theorem wpList_load_whole_g {ops : Array Oper} {rest : List Oper} {op : Oper} {a : Act} {w : World} {Q : Exit → Act → World → Prop} (hw : Region.wanted op (yielded ops a.tmps) = true) (ty : TypeId) (x : Operand) (ho : op.op = .load ty x)
    (g t n : Nat) (cs : List Value) (hr : Row w g t cs) (hx : a.eval x = .pointer (some ⟨g, 0, none⟩)) (d : TypeDesc) (hn : cs.length = n)
    (hu : Tryd.prog.underlying ty = some d) (hd : d.isRow = true) (hi : (Tryd.prog.info? ty).map (·.size) = some n)
    (h : wpList Tryd.prog ops Q rest (a.put op.dst (.agg cs.toArray)) w) : wpList Tryd.prog ops Q (op :: rest) a w := by
  refine wpList_step fun K hK => ?_
  rw [if_pos hw]
  exact wp_load_mid ty x ho g 0 hx _ d (by have := hr.range 0 cs.length; simpa using this) hu hd (by rw [hn]; exact hi) (hK _ _ h)
end Go.Proofs.YtjooabgjkjnhhaaDoor


/-! The reference's token: Same, Few; the law's caveat. -/
namespace Go.Proofs.YtjooabgjkjnhhaaDoor
open Go.RowKit
set_option linter.unusedVariables false
set_option linter.unusedSimpArgs false
set_option maxRecDepth 100000

theorem fold_push : ∀ (l : List Int) (r : ByteArray), (l.foldl (fun r n => r.push (UInt8.ofNat n.toNat)) r).data.toList = r.data.toList ++ l.map fun n => UInt8.ofNat n.toNat
  | [], r => by simp
  | n :: l, r => by
    rw [List.foldl_cons, fold_push l]
    simp [ByteArray.push]
theorem strOf_data (bs : List By) : (strOf bs).data.toList = bs.map fun b => UInt8.ofNat b.toNat := by
  unfold strOf
  rw [fold_push]
  simp
theorem strOf_size (bs : List By) : (strOf bs).size = bs.length := by
  have : (strOf bs).data.toList.length = bs.length := by rw [strOf_data, List.length_map]
  rw [Array.length_toList] at this
  exact this
theorem strOf_inj {a b : List By} (h : strOf a = strOf b) : a = b := by
  have h1 : (strOf a).data.toList = (strOf b).data.toList := by rw [h]
  rw [strOf_data, strOf_data] at h1
  have key : ∀ (a b : List By), (a.map fun x => UInt8.ofNat x.toNat) = (b.map fun x => UInt8.ofNat x.toNat) → a = b := by
    intro a
    induction a with
    | nil => intro b h; cases b with | nil => rfl | cons y b => cases h
    | cons x a ih =>
      intro b h
      cases b with
      | nil => cases h
      | cons y b =>
        rw [List.map_cons, List.map_cons] at h
        injection h with h1 h2
        have h3 : x.toNat = y.toNat := by
          have := congrArg UInt8.toNat h1
          have hx := x.isLt
          have hy := y.isLt
          simpa [UInt8.toNat_ofNat, Nat.mod_eq_of_lt hx, Nat.mod_eq_of_lt hy] using this
        rw [BitVec.eq_of_toNat_eq h3, ih b h2]
  exact key a b h1
theorem strOf_beq (a b : List By) (r : Bool) (hr : r = decide (a = b)) : ((strOf a).toList == (strOf b).toList) = r := by
  rw [hr]
  by_cases h : a = b
  · subst h; simp
  · rw [decide_eq_false h, beq_eq_false_iff_ne]
    intro e
    rw [ByteArray.toList_eq, ByteArray.toList_eq] at e
    refine h (strOf_inj ?_)
    have e2 : (strOf a).data = (strOf b).data := Array.toList_inj.1 e
    cases ha : strOf a
    cases hb : strOf b
    rw [ha, hb] at e2
    simp only at e2
    rw [e2]
theorem wpList_load_part_g {ops : Array Oper} {rest : List Oper} {op : Oper} {a : Act} {w : World} {Q : Exit → Act → World → Prop} (hw : Region.wanted op (yielded ops a.tmps) = true) (ty : TypeId) (x : Operand) (ho : op.op = .load ty x)
    (g o t n : Nat) (cs : List Value) (hr : Row w g t cs) (hx : a.eval x = .pointer (some ⟨g, o, none⟩)) (d : TypeDesc) (cs' : List Value) (hcs : (cs.drop o).take n = cs') (hn : cs'.length = n)
    (hu : Tryd.prog.underlying ty = some d) (hd : d.isRow = true) (hi : (Tryd.prog.info? ty).map (·.size) = some n)
    (h : wpList Tryd.prog ops Q rest (a.put op.dst (.agg cs'.toArray)) w) : wpList Tryd.prog ops Q (op :: rest) a w := by
  subst hcs
  refine wpList_step fun K hK => ?_
  rw [if_pos hw]
  exact wp_load_mid ty x ho g o hx _ d (hr.range o n) hu hd (by rw [hn]; exact hi) (hK _ _ h)

theorem step_load_part {ops : Array Oper} {op : Oper} {a : Act} {w : World} {K : Act → World → Prop} {Q : Exit → Act → World → Prop} {X : Prop} (hw : Region.wanted op (yielded ops a.tmps) = true) (ty : TypeId) (x : Operand) (ho : op.op = .load ty x)
    (g o t n : Nat) (cs : List Value) (hr : Row w g t cs) (hx : a.eval x = .pointer (some ⟨g, o, none⟩)) (d : TypeDesc) (cs' : List Value) (hcs : (cs.drop o).take n = cs') (hn : cs'.length = n)
    (hu : Tryd.prog.underlying ty = some d) (hd : d.isRow = true) (hi : (Tryd.prog.info? ty).map (·.size) = some n)
    (h : K (a.put op.dst (.agg cs'.toArray)) w) : if Region.wanted op (yielded ops a.tmps) = true then Oper.wp Tryd.prog op a w K Q else X := by
  subst hcs
  rw [if_pos hw]
  exact wp_load_mid ty x ho g o hx _ d (hr.range o n) hu hd (by rw [hn]; exact hi) h


def cvL (c : Cv) : List Lit := [.int .i64 c.k, .int .i64 c.s, .int .i64 c.f, .int .i64 c.t, .int .u64 (c.z : Int)]
theorem cvL_inj {c d : Cv} (h : cvL c = cvL d) : c = d := by
  unfold cvL at h
  simp only [List.cons.injEq, Lit.int.injEq, true_and, and_true, Int.natCast_inj] at h
  cases c; cases d
  simp_all
theorem cwf_i64 {x : Int} (h : -9223372036854775808 ≤ x ∧ x < 9223372036854775808) : (Lit.int .i64 x).wf = true := WalkArith.wf_i64 ⟨h.1, by omega⟩
theorem cwf_u64 {z : Nat} (h : z < 18446744073709551616) : (Lit.int .u64 (z : Int)).wf = true := by
  simp [Lit.wf, IntKind.min, IntKind.max, IntKind.signed, IntKind.bits]
  omega
theorem ckey_int {x : Int} (h : -9223372036854775808 ≤ x ∧ x < 9223372036854775808) (d : Nat) : Tryd.prog.keyLits (d + 1) 3 [.int .i64 x] = some [.int .i64 x] := by
  unfold Program.keyLits
  simp only [Tryd.underlying3]
  rw [if_pos ⟨trivial, cwf_i64 h⟩]
theorem ckey_int64 {x : Int} (h : -9223372036854775808 ≤ x ∧ x < 9223372036854775808) (d : Nat) : Tryd.prog.keyLits (d + 1) 2 [.int .i64 x] = some [.int .i64 x] := by
  unfold Program.keyLits
  simp only [Tryd.underlying2]
  rw [if_pos ⟨trivial, cwf_i64 h⟩]
theorem ckey_u64 {z : Nat} (h : z < 18446744073709551616) (d : Nat) : Tryd.prog.keyLits (d + 1) 62 [.int .u64 (z : Int)] = some [.int .u64 (z : Int)] := by
  unfold Program.keyLits
  simp only [Tryd.underlying62]
  rw [if_pos ⟨trivial, cwf_u64 h⟩]
theorem cv_key (c : Cv) (h : c.ok) : Tryd.prog.keyLits 2 72 (cvC c) = some (cvL c) := by
  obtain ⟨h1, h2, h3, h4, h5⟩ := h
  unfold Program.keyLits
  simp only [Tryd.underlying72]
  rw [if_pos ⟨by kernel_rfl, by kernel_rfl⟩]
  have k1 := ckey_int h1 0
  have k2 := ckey_int h2 0
  have k3 := ckey_int64 h3 0
  have k4 := ckey_int64 h4 0
  have k5 := ckey_u64 h5 0
  have f1 : Tryd.prog.keyLits 1 3 (((cvC c).drop 0).take (Tryd.prog.cellsOf 3)) = some [.int .i64 c.k] := by rw [show Tryd.prog.cellsOf 3 = 1 by kernel_rfl]; exact k1
  have f2 : Tryd.prog.keyLits 1 3 (((cvC c).drop 1).take (Tryd.prog.cellsOf 3)) = some [.int .i64 c.s] := by rw [show Tryd.prog.cellsOf 3 = 1 by kernel_rfl]; exact k2
  have f3 : Tryd.prog.keyLits 1 2 (((cvC c).drop 2).take (Tryd.prog.cellsOf 2)) = some [.int .i64 c.f] := by rw [show Tryd.prog.cellsOf 2 = 1 by kernel_rfl]; exact k3
  have f4 : Tryd.prog.keyLits 1 2 (((cvC c).drop 3).take (Tryd.prog.cellsOf 2)) = some [.int .i64 c.t] := by rw [show Tryd.prog.cellsOf 2 = 1 by kernel_rfl]; exact k4
  have f5 : Tryd.prog.keyLits 1 62 (((cvC c).drop 4).take (Tryd.prog.cellsOf 62)) = some [.int .u64 (c.z : Int)] := by rw [show Tryd.prog.cellsOf 62 = 1 by kernel_rfl]; exact k5
  simp only [List.mapM_cons, List.mapM_nil, f1, f2, f3, f4, f5, Option.pure_def, Option.bind_eq_bind, Option.bind_some, Option.map_some]
  simp [cvL]
theorem eqC_any (c d : Cv) (hc : c.ok) (hd : d.ok) (r : Bool) (hr0 : r = true ↔ c = d) (w : World) : (Op.equalIn 10000 72 (.agg (cvC c).toArray) (.agg (cvC d).toArray)).run Tryd.prog w = .ok r w := by
  have hf : ∀ c : Cv, (Value.agg (cvC c).toArray).formed Tryd.prog 72 = true := fun c => by
    simp [Value.formed, Tryd.underlying72, show Tryd.prog.cellsOf 72 = 5 by kernel_rfl, cvC]
  have hk : ∀ c : Cv, c.ok → Tryd.prog.keyLits 2 72 (Value.agg (cvC c).toArray).cells.toList = some (cvL c) := fun c h => by simpa [Value.cells] using cv_key c h
  obtain ⟨q, hr, hiff⟩ := run_equalIn_deep (P := Tryd.prog) 9998 2 72 (by kernel_rfl) w 2 2 _ _ _ _ (hf c) (hf d) (hk c hc) (hk d hd)
  rw [hr]
  congr 1
  rw [Bool.eq_iff_iff, hiff, hr0]
  exact ⟨cvL_inj, fun h => by rw [h]⟩
theorem tkC_tagpart (key : Int) (io : Option Addr) (n ic : Nat) (lo : Option Addr) (m lc : Nat) (tag : List By) (ht : tag.length = 32) : ((tkC key io n ic lo m lc tag).drop 3).take 32 = tag.map B8 := by
  have : (tkC key io n ic lo m lc tag).drop 3 = tag.map B8 := rfl
  rw [this, List.take_of_length_le (by simp [ht])]
end Go.Proofs.YtjooabgjkjnhhaaDoor
