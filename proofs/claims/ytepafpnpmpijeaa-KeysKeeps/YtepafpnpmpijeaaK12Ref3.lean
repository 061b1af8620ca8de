
import Derived.Test.YtepafpnpmpijeaaK12Ref2
import Derived.Test.YtepafpnpmpijeaaEq
/-! Two hashes held against each other; the reference's Check. -/
namespace Go.Proofs.Ytepafpnpmpijeaa
open Go.RowKit
set_option linter.unusedVariables false

def hashLits (bs : List By) : List Lit := ((List.range 32).map fun i => [Lit.int .u8 ((bs.getD i 0).toNat : Int)]).flatten
theorem hash_key_at (bs : List By) (hl : bs.length = 32) : Try.prog.keyLits 2 38 (bs.map B8) = some (hashLits bs) := by
  have hu : Try.prog.underlying 38 = some (.array 32 5) := Try.underlying38
  unfold Program.keyLits
  simp only [hu]
  rw [if_pos (by rw [Try.cells38, List.length_map, hl])]
  rw [mapM_some (fun i => [Lit.int .u8 ((bs.getD i 0).toNat : Int)])]
  · rfl
  · intro i hi
    rw [List.mem_range] at hi
    have e : ((bs.map B8).drop (i * Try.prog.cellsOf 5)).take (Try.prog.cellsOf 5) = [.int .u8 ((bs.getD i 0).toNat : Int)] := by
      rw [Try.cells5, Nat.mul_one, List.drop_eq_getElem_cons (by rw [List.length_map, hl]; exact hi)]
      simp [B8, hl, hi]
    rw [e]
    unfold Program.keyLits
    have h8 := b8_lt (bs.getD i 0)
    simp only [Try.underlying5]
    rw [if_pos ⟨trivial, WalkArith.wf_u8 (by omega)⟩]
theorem flat_one {α β : Type} (g : α → β) : ∀ l : List α, (l.map fun i => [g i]).flatten = l.map g
  | [] => rfl
  | x :: l => by simp [flat_one g l]
theorem hashLits_inj {a b : List By} (ha : a.length = 32) (hb : b.length = 32) (h : hashLits a = hashLits b) : a = b := by
  unfold hashLits at h
  rw [flat_one (fun i => Lit.int .u8 ((a.getD i 0).toNat : Int)), flat_one (fun i => Lit.int .u8 ((b.getD i 0).toNat : Int)), List.map_inj_left] at h
  refine List.ext_getElem (by rw [ha, hb]) fun i h1 h2 => ?_
  have := h i (by rw [List.mem_range]; omega)
  rw [getD_lt h1, getD_lt h2] at this
  injection this with _ e
  exact BitVec.eq_of_toNat_eq (by omega)
theorem eq_any (a b : List By) (ha : a.length = 32) (hb : b.length = 32) (r : Bool) (hr0 : r = decide (a = b)) (w : World) : (Op.equalIn 10000 38 (.agg (a.map B8).toArray) (.agg (b.map B8).toArray)).run Try.prog w = .ok r w := by
  have hf : ∀ bs : List By, bs.length = 32 → (Value.agg (bs.map B8).toArray).formed Try.prog 38 = true := fun bs hl => by
    simp [Value.formed, Try.underlying38, Try.cells38, hl]
  have hk : ∀ bs : List By, bs.length = 32 → Try.prog.keyLits 2 38 (Value.agg (bs.map B8).toArray).cells.toList = some (hashLits bs) := fun bs hl => by simpa [Value.cells] using hash_key_at bs hl
  obtain ⟨q, hr, hiff⟩ := run_equalIn_deep (P := Try.prog) 9998 2 38 (by kernel_rfl) w 2 2 _ _ _ _ (hf a ha) (hf b hb) (hk a ha) (hk b hb)
  rw [hr, hr0]
  congr 1
  rw [Bool.eq_iff_iff, hiff, decide_eq_true_iff]
  exact ⟨hashLits_inj ha hb, fun h => by rw [h]⟩

theorem wpList_load_whole_g {ops : Array Oper} {rest : List Oper} {op : Oper} {a : Act} {w : World} {Q : Exit → Act → World → Prop} (hw : Region.wanted op (yielded ops a.tmps) = true) (ty : TypeId) (x : Operand) (ho : op.op = .load ty x)
    (g t n : Nat) (cs : List Value) (hr : Row w g t cs) (hx : a.eval x = .pointer (some ⟨g, 0, none⟩)) (d : TypeDesc) (hn : cs.length = n)
    (hu : Try.prog.underlying ty = some d) (hd : d.isRow = true) (hi : (Try.prog.info? ty).map (·.size) = some n)
    (h : wpList Try.prog ops Q rest (a.put op.dst (.agg cs.toArray)) w) : wpList Try.prog ops Q (op :: rest) a w := by
  refine wpList_step fun K hK => ?_
  rw [if_pos hw]
  exact wp_load_mid ty x ho g 0 hx _ d (by have := hr.range 0 cs.length; simpa using this) hu hd (by rw [hn]; exact hi) (hK _ _ h)

set_option maxHeartbeats 1000000 in
set_option maxRecDepth 100000 in
theorem rcheck_any (w : World) (g : Nat) (ao : Option Addr) (cap : Nat) (vs : List Value) (l : Secs) (h : RgAt w g ao cap vs l) (hl : l.length ≤ 64) (hb256 : ∀ i, i < l.length → (l.getD i (0, [])).2.length ≤ 256) (key : Int)
    (bo : Option Addr) (nb cb : Nat) (b : List By) (hnb : b.length = nb) (hb : IsB w bo b) (hbk : bo = none → cb = 0) (hmb : nb ≤ 140737488353000) (t : List By) (ht : t.length = 32) :
    Calls Try.prog 21 #[.pointer (some ⟨g, 0, none⟩), .int .i64 key, .slice bo nb cb, .agg (t.map B8).toArray] w fun e w' => e = .returned (.tuple #[.bool (decide (sgnE l key = 0 ∧ sgn l key b = t)), .int .i64 (sgnE l key)]) ∧ Below w.heap.size w w' := by
  have b0 : ∀ o1, Below w.heap.size w (w.alloc o1) := fun o1 => (Below.refl _ _).alloc (Nat.le_refl _) _
  have H : Hid (∀ o1, Calls Try.prog 20 #[.pointer (some ⟨g, 0, none⟩), .int .i64 key, .slice bo nb cb] (w.alloc o1) fun e w' => e = .returned (.tuple #[.agg ((sgn l key b).map B8).toArray, .int .i64 (sgnE l key)]) ∧ Below (w.alloc o1).heap.size (w.alloc o1) w') :=
    fun o1 => rsign_any _ g ao cap vs l (h.keep (b0 o1)) hl hb256 key bo nb cb b hnb (hb.below (b0 o1) (Nat.le_refl _)) hbk hmb
  have r0 : Row (w.alloc (.cells (t.map B8).toArray 38)) w.heap.size 38 (t.map B8) := Row.at w _ _ _ _ rfl rfl
  have HL : Hid ((sgn l key b).length = 32) := sgn_len l key b
  have HT : Hid (t.length = 32) := ht
  have HE : Hid (sgnE l key = 0 ∨ sgnE l key = 13) := by
    show _ ∨ _
    unfold sgnE; split
    · exact .inl rfl
    · exact .inr rfl
  generalize sgn l key b = SG at *
  generalize sgnE l key = SE at *
  clear h hb hb256 ht hnb
  have q := fun r hr => eq_any SG t HL.out HT.out r hr
  go_enter Try.func21, Try.ntmps21
  go_wp2_with fail
  refine (H.out _).mono ?_
  rintro e w1 ⟨rfl, hb1⟩
  replace r0 := r0.below hb1 (by simp)
  have bw : Below w.heap.size w w1 := (b0 _).trans (hb1.mono (by simp))
  clear hb1 b0 H
  have hsz : w.heap.size < w1.heap.size := r0.lt
  have l1 : Hid ((SG.map B8).length = 32) := by show _ = _; rw [List.length_map, HL.out]
  have l2 : Hid ((t.map B8).length = 32) := by show _ = _; rw [List.length_map, HT.out]
  rcases HE.out with rfl | rfl
  · obtain ⟨r, hr⟩ : ∃ r, r = decide (SG = t) := ⟨_, rfl⟩
    have q1 := q r hr
    have HR : Hid (r = decide (SG = t)) := hr
    clear hr q HE
    go_wp2_with (first | (refine wpList_store_Row rfl 38 _ _ rfl w1.heap.size 38 0 ((List.replicate 32 (0 : By)).map B8) (SG.map B8) (Row.at w1 _ _ _ _ rfl rfl) (by simp [HL.out]) rfl rfl (by rw [List.length_map, HL.out]; kernel_rfl) (B8_one _) ?_; intro w2 hr2 hs2; have r2 := row_whole hr2 (by simp [HL.out]); have r3 : Row w2 w.heap.size 38 (t.map B8) := (r0.alloc _).but hs2 (by omega); have bw2 : Below w.heap.size w w2 := hs2.below (bw.alloc (by omega) _) (by omega); clear hr2 hs2) | (refine wpList_load_whole_g ?_ 38 (.tmp 10) rfl w1.heap.size 38 32 (SG.map B8) r2 rfl _ l1.out Try.underlying38 rfl (by kernel_rfl) ?_; · rfl) | (refine wpList_load_whole_g ?_ 38 (.tmp 7) rfl w.heap.size 38 32 (t.map B8) r3 rfl _ l2.out Try.underlying38 rfl (by kernel_rfl) ?_; · rfl))
    go_ret2
    exact ⟨by simp [HR.out], bw2⟩
  · clear q HE
    go_wp2_with (refine wpList_store_Row rfl 38 _ _ rfl w1.heap.size 38 0 ((List.replicate 32 (0 : By)).map B8) (SG.map B8) (Row.at w1 _ _ _ _ rfl rfl) (by simp [HL.out]) rfl rfl (by rw [List.length_map, HL.out]; kernel_rfl) (B8_one _) ?_; intro w2 hr2 hs2; have r2 := row_whole hr2 (by simp [HL.out]); have r3 : Row w2 w.heap.size 38 (t.map B8) := (r0.alloc _).but hs2 (by omega); have bw2 : Below w.heap.size w w2 := hs2.below (bw.alloc (by omega) _) (by omega); clear hr2 hs2)
    go_ret2
    exact ⟨by simp, bw2⟩

end Go.Proofs.Ytepafpnpmpijeaa
