
import Derived.Test.YtjooabgjkjnhhaaDoorMCode
import Derived.Deep.RegionHeld3
/-! A Mac made new. -/
namespace Go.Proofs.YtjooabgjkjnhhaaDoor
open Go.RowKit
set_option linter.unusedSimpArgs false

/-- The cells of a Digest that has the bytes M. -/
def DigV (cs : List Value) (M : List By) : Prop := ∃ p, p.length = 64 ∧ p.take (M.length % 64) = M.drop (64 * (M.length / 64)) ∧ cs = digCells (hs M (M.length / 64)) p M.length
theorem digT_iff (w : World) (D T : Nat) (post : List Value) (M : List By) : DigT w D T post M ↔ ∃ cs, DigV cs M ∧ Row w D T (cs ++ post) := by
  constructor
  · rintro ⟨p, h1, h2, h3⟩; exact ⟨_, ⟨p, h1, h2, rfl⟩, h3⟩
  · rintro ⟨cs, ⟨p, h1, h2, rfl⟩, h3⟩; exact ⟨p, h1, h2, h3⟩
theorem dig_cells {w : World} {D : Nat} {M : List By} (h : Dig w D M) : ∃ cs, DigV cs M ∧ Row w D 146 cs := by
  obtain ⟨p, h1, h2, h3⟩ := h
  exact ⟨_, ⟨p, h1, h2, rfl⟩, h3⟩
theorem DigV.len {cs : List Value} {M : List By} (h : DigV cs M) : cs.length = 73 := by
  obtain ⟨p, h1, h2, rfl⟩ := h; exact digCells_len _ _ _ h1
theorem DigV.one {cs : List Value} {M : List By} (h : DigV cs M) : ∀ v ∈ cs, v.oneCell' = true := by
  obtain ⟨p, h1, h2, rfl⟩ := h; exact digCells_one _ _ _
theorem DigV.dig {cs : List Value} {M : List By} (h : DigV cs M) {w : World} {D : Nat} (r : Row w D 146 cs) : Dig w D M := by
  obtain ⟨p, h1, h2, rfl⟩ := h; exact ⟨p, h1, h2, r⟩

theorem tn_set (l : List By) (x : By) (k : Nat) (hk : k < l.length) : (tn (l.take k) x ++ l.drop k).set k (l.getD k 0 ^^^ x) = tn (l.take (k + 1)) x ++ l.drop (k + 1) := by
  have hl : (tn (l.take k) x).length = k := by rw [tn_len, List.length_take]; omega
  rw [List.set_append_right _ _ (by omega), hl, Nat.sub_self, List.drop_eq_getElem_cons hk, List.set_cons_zero, tn_take l x k hk, List.append_assoc]; rfl
theorem tn_at (l : List By) (x : By) (k : Nat) (hk : k < l.length) : (tn (l.take k) x ++ l.drop k)[k]? = some (l.getD k 0) := by
  have hl : (tn (l.take k) x).length = k := by rw [tn_len, List.length_take]; omega
  rw [List.getElem?_append_right (by omega), hl, Nat.sub_self, List.getElem?_drop, Nat.add_zero, List.getD_eq_getElem?_getD, List.getElem?_eq_getElem hk]; rfl

set_option maxHeartbeats 1000000 in
set_option maxRecDepth 100000 in
theorem started_any (l : List By) (hl : l.length = 64) (x : By) (w : World) :
    Calls Tryd.prog 57 #[.agg (l.map B8).toArray, .int .u8 (x.toNat : Int)] w fun e w' => ∃ cs, e = .returned (.agg cs.toArray) ∧ DigV cs (tn l x) ∧ Below w.heap.size w w' := by
  have hz : ∀ w : World, (zeroValue 146).run Tryd.prog w = .ok (.agg (digCells zero8 (List.replicate 64 0) 0).toArray) w := fun _ => by kernel_rfl
  have r0 : Row (w.alloc (.cells (l.map B8).toArray 144)) w.heap.size 144 (l.map B8) := Row.at w 144 _ _ _ rfl rfl
  have r1 : Row ((w.alloc (.cells (l.map B8).toArray 144)).alloc (.cells (digCells zero8 (List.replicate 64 0) 0).toArray 146)) (w.heap.size + 1) 146 (digCells zero8 (List.replicate 64 0) 0) := Row.at _ _ _ _ _ (by simp) rfl
  have r0' := r0.alloc (.cells (digCells zero8 (List.replicate 64 0) 0).toArray 146)
  have b1 : Below w.heap.size w ((w.alloc (.cells (l.map B8).toArray 144)).alloc (.cells (digCells zero8 (List.replicate 64 0) 0).toArray 146)) := ((Below.refl _ _).alloc (Nat.le_refl _) _).alloc (by simp) _
  have hzl := digCells_len zero8 (List.replicate 64 0) 0 (by simp)
  generalize digCells zero8 (List.replicate 64 0) 0 = Z at *
  go_enter Tryd.func57, Tryd.ntmps57
  go_wp2
  go_loopw [7] (fun i wr => ∃ k : Nat, k ≤ 64 ∧ i = .int .i64 k ∧ Row wr w.heap.size 144 ((tn (l.take k) x ++ l.drop k).map B8) ∧ Row wr (w.heap.size + 1) 146 Z ∧ Below w.heap.size w wr) (fun i _ => 64 - (intOf i).toNat)
  case atStart => exact ⟨0, by omega, rfl, r0', r1, b1⟩
  case round =>
    clear r0 r0' r1 b1
    obtain ⟨k, hk, rfl, r0, r1, bb⟩ := hrel
    by_cases hlt : k < 64
    · have i1 : (k : Int) < 64 := by omega
      have i0 : (0 : Int) ≤ (k : Int) := by omega
      have c0 : wr.cell? ⟨w.heap.size, k, none⟩ = some (.int .u8 ((l.getD k 0).toNat : Int)) := r0.cell k _ (by rw [List.getElem?_map, tn_at l x k (by omega)]; rfl)
      have f0 := r0.frozen k
      have E : Hid ((tn (l.take k) x ++ l.drop k).set k (l.getD k 0 ^^^ x) = tn (l.take (k + 1)) x ++ l.drop (k + 1)) := tn_set l x k (by omega)
      generalize tn (l.take k) x ++ l.drop k = LL at *
      generalize l.getD k 0 = y at *
      go_wp2
      refine ⟨⟨k + 1, by omega, by go_num, ?_, r1.setOther _ _ (by simp), bb.setCell (p := ⟨w.heap.size, k, none⟩) (Nat.le_refl _) _⟩, by simp [intOf]; omega⟩
      have := r0.set k (.int .u8 ((y ^^^ x).toNat : Int))
      rw [map_set_B8, E.out] at this
      rw [bits8_xor]; exact this
    · obtain rfl : k = 64 := by omega
      have e64 : tn (l.take 64) x ++ l.drop 64 = tn l x := by rw [List.take_of_length_le (by omega), List.drop_eq_nil_of_le (by omega), List.append_nil]
      rw [e64] at r0
      have htl : (tn l x).length = 64 := by rw [tn_len]; exact hl
      clear hlt hk e64
      have hzw := r1.lt
      obtain ⟨M, hM⟩ : ∃ M, M = tn l x := ⟨_, rfl⟩
      rw [← hM] at r0 htl
      have HM : Hid (M = tn l x) := hM
      clear hM
      go_wp2_with fail
      refine (new_any _).mono ?_
      rintro e w2 ⟨g, rfl, hg, rg, hb2⟩
      have dg : Dig w2 g [] := ⟨List.replicate 64 0, by simp, by simp, by simpa [hs] using rg⟩
      replace r0 := r0.below hb2 r0.lt
      replace r1 := r1.below hb2 r1.lt
      have hz1 := r1.lt
      replace bb := bb.trans (hb2.mono (by omega))
      clear hb2 rg
      go_wp2_with fail
      have wt := write_any g [] (some ⟨w.heap.size, 0, none⟩) 64 M w2 dg (.inr ⟨w.heap.size, 0, rfl, fun j v hj => ⟨by omega, by rw [Nat.zero_add]; exact r0.cell j _ (by rw [List.getElem?_map, hj]; rfl)⟩⟩) (by omega) (by simp; omega) (by omega)
      rw [htl] at wt
      refine wt.mono ?_
      clear wt
      rintro e w3 ⟨rfl, dg3, k3⟩
      rw [List.nil_append] at dg3
      replace r1 := r1.kept k3 (by omega)
      replace bb := k3.toBelow bb (by omega) (by omega)
      obtain ⟨cs, dv, r3⟩ := dig_cells dg3
      have hcl := dv.len
      have hc1 := dv.one
      go_wp2_with (first | (refine wpList_load_Row rfl 146 _ rfl _ _ _ r3 rfl _ Tryd.underlying146 rfl (by rw [hcl]; kernel_rfl) ?_) | (refine wpList_store_Row rfl 146 _ _ rfl _ _ 0 _ cs r1 (by omega) rfl rfl (by rw [hcl]; kernel_rfl) hc1 ?_; intro w9 hr9 hs9))
      have hr := row_whole hr9 (by omega)
      exact bodyPost_ret_by (results_Row Tryd.results57 _ w9 (w.heap.size + 1) 146 _ _ rfl hr Tryd.underlying146 rfl (by rw [hcl]; kernel_rfl)) rfl ⟨cs, rfl, by rw [← HM.out]; exact dv, hs9.below bb (by omega)⟩

theorem fold_set : ∀ (cs : List Value) (s off : Nat) (C : Array Value), off + s + cs.length ≤ C.size →
    ((cs.zipIdx s).foldl (fun a (x : Value × Nat) => a.setIfInBounds (off + x.2) x.1) C).toList = C.toList.take (off + s) ++ cs ++ C.toList.drop (off + s + cs.length)
  | [], s, off, C, _ => by simp
  | c :: cs, s, off, C, h => by
    simp only [List.length_cons] at h
    rw [List.zipIdx_cons, List.foldl_cons, fold_set cs (s + 1) off _ (by simp; omega)]
    simp only [Array.toList_setIfInBounds, List.length_cons]
    rw [show off + (s + 1) = off + s + 1 by omega, show off + s + 1 + cs.length = off + s + (cs.length + 1) by omega]
    have hl : off + s < C.toList.length := by simp; omega
    rw [List.drop_set_of_lt (by omega), List.take_set, List.take_add_one, List.getElem?_eq_getElem hl, List.set_append_right _ _ (by simp; omega)]
    have e : off + s - (C.toList.take (off + s)).length = 0 := by simp; omega
    rw [e]
    simp
theorem fill_two (Z : Array Value) (hZ : Z.size = 146) (a b : List Value) (ha : a.length = 73) (hb : b.length = 73) :
    Instr.fill ((#[(0, 73), (73, 73)] : Array (Nat × Nat))[·]?) Z [(0, .agg a.toArray), (1, .agg b.toArray)] = some (a ++ b).toArray := by
  have key : ∀ (cs : List Value) (off : Nat) (C : Array Value), off + cs.length ≤ C.size → (cs.toArray.zipIdx.foldl (fun (a : Array Value) (x : Value × Nat) => a.setIfInBounds (off + x.2) x.1) C) = (C.toList.take off ++ cs ++ C.toList.drop (off + cs.length)).toArray := by
    intro cs off C h
    rw [← Array.foldl_toList, Array.toList_zipIdx]
    apply Array.toList_inj.1
    rw [fold_set cs 0 off C (by omega), List.toList_toArray, Nat.add_zero]
  have e1 := key a 0 Z (by omega)
  have e2 := key b 73 (a ++ Z.toList.drop 73).toArray (by simp [ha, hZ]; omega)
  rw [List.take_zero, List.nil_append, ha, Nat.zero_add] at e1
  have d0 : List.drop (73 + b.length) (a ++ Z.toList.drop 73) = [] := List.drop_eq_nil_of_le (by simp [ha, hb, hZ])
  rw [List.toList_toArray, List.take_left' ha, d0, List.append_nil] at e2
  have s1 : (a ++ Z.toList.drop 73).toArray.size = 146 := by simp [ha, hZ]
  have p0 : (#[(0, 73), (73, 73)] : Array (Nat × Nat))[0]? = some (0, 73) := rfl
  have p1 : (#[(0, 73), (73, 73)] : Array (Nat × Nat))[1]? = some (73, 73) := rfl
  have c1 : (Value.agg a.toArray).cells = a.toArray := rfl
  have c2 : (Value.agg b.toArray).cells = b.toArray := rfl
  have z1 : a.toArray.size = 73 := by simp [ha]
  have z2 : b.toArray.size = 73 := by simp [hb]
  rw [Instr.fill]
  simp only [p0, c1, z1, hZ]
  rw [if_neg (by decide), e1, Instr.fill]
  simp only [p1, c2, z2, s1]
  rw [if_neg (by decide), e2, Instr.fill]
theorem yieldsIf_build {ops : Array Oper} {S : World → Prop} {op : Oper} {a : Act} (hw : Region.wanted op (yielded ops a.tmps) = true) (t : TypeId) (x y : Operand) (ho : op.op = .build t #[(0, x), (1, y)])
    (vx vy : Value) (hx : a.eval x = vx) (hy : a.eval y = vy) (cells : Array Value) (hb : Tryd.prog.built t [(0, vx), (1, vy)] = some cells) : YieldsIf Tryd.prog ops S op (.agg cells) a :=
  .inl ⟨hw, fun w _ => by
    have hr := run_build (P := Tryd.prog) w t #[(0, vx), (1, vy)] cells hb
    unfold execOp
    simp [ho, hx, hy, hr]⟩

theorem built48 (parts : List (Nat × Value)) : Tryd.prog.built 148 parts = Instr.fill ((#[(0, 73), (73, 73)] : Array (Nat × Nat))[·]?) (digCells zero8 (List.replicate 64 0) 0 ++ digCells zero8 (List.replicate 64 0) 0).toArray parts := by kernel_rfl

/-- The Mac at block g: under the key k, with the bytes b. -/
def MacAt (w : World) (g : Nat) (k b : List By) : Prop := ∃ post, DigV post (tn (kb k) 92#8) ∧ DigT w g 148 post (tn (kb k) 54#8 ++ b)

set_option maxHeartbeats 1000000 in
set_option maxRecDepth 100000 in
theorem newMac_any (ao : Option Addr) (cap nk : Nat) (k : List By) (hk : k.length = nk) (w : World) (hb : IsB w ao k) (hcap : nk ≤ cap) (hm : nk ≤ 140737488353280) :
    Calls Tryd.prog 53 #[.slice ao nk cap] w fun e w' => ∃ g, e = .returned (.pointer (some ⟨g, 0, none⟩)) ∧ w.heap.size ≤ g ∧ MacAt w' g k [] ∧ Below w.heap.size w w' := by
  have HK : Hid (k.length = nk) := hk
  have IB : Hid (IsB w ao k) := hb
  clear hk hb
  have hkbl := kb_len k
  go_enter Tryd.func53, Tryd.ntmps53
  go_wp2_with fail
  refine (blockKey_any ao cap nk k HK.out _ IB.out hcap hm).mono ?_
  rintro e w1 ⟨rfl, bb⟩
  have HKB : Hid (∀ cs1 cs2 w' g, DigV cs1 (tn (kb k) 54#8) → DigV cs2 (tn (kb k) 92#8) → Row w' g 148 (cs1 ++ cs2) → MacAt w' g k []) := fun cs1 cs2 w' g h1 h2 h3 => ⟨cs2, h2, by rw [List.append_nil]; exact (digT_iff _ _ _ _ _).2 ⟨cs1, h1, h3⟩⟩
  generalize kb k = K at *
  have hz1 := bb.size
  generalize hHB : w1.heap.size = HB at *
  go_wp2_with (refine wpList_store_Row rfl 144 _ _ rfl HB 144 0 ((List.replicate 64 (0 : By)).map B8) (K.map B8) (Row.at _ _ _ _ _ hHB.symm rfl) (by simp [hkbl]) rfl rfl (by rw [List.length_map, hkbl]; kernel_rfl) (B8_one _) ?_; intro w2 hr2 hs2)
  have r2 := row_whole hr2 (by simp [hkbl])
  have b2 : Below w.heap.size w w2 := hs2.below (bb.alloc (by omega) _) (by omega)
  clear hr2 hs2 bb
  have u43 : Tryd.prog.underlying 144 = some (.array 64 5) := Tryd.underlying144
  have i43 : (Tryd.prog.info? 144).map (·.size) = some (K.map B8).length := by rw [List.length_map, hkbl]; kernel_rfl
  have HRG : Hid (∀ w' : World, Row w' HB 144 (K.map B8) → w'.rangeAt HB 0 (K.map B8)) := fun w' h => by have := h.range 0 64; rw [List.drop_zero, List.take_of_length_le (by rw [List.length_map, hkbl]; omega)] at this; exact this
  have hz2 := r2.lt
  refine wp_region_held_drew (S := fun w' => w'.rangeAt HB 0 (K.map B8)) (by kernel_rfl) (HRG.out _ r2.drew) (fun hHeld => ?_)
  refine wpAnyH_take (i := 0) (v := .agg (K.map B8).toArray) rfl (by kernel_rfl) (by kernel_rfl) (by kernel_rfl) (fun _ _ _ h => h) (yieldsIf_load_mid (by rfl) 144 _ rfl HB 0 rfl _ _ (fun _ h => h) u43 rfl i43) hHeld ?_
  simp only [Act.put, List.setIfInBounds_toArray, List.set_cons_zero, List.set_cons_succ]
  refine wpAnyH_take (i := 2) (v := .agg (K.map B8).toArray) rfl (by kernel_rfl) (by kernel_rfl) (by kernel_rfl) (fun _ _ _ h => h) (yieldsIf_load_mid (by rfl) 144 _ rfl HB 0 rfl _ _ (fun _ h => h) u43 rfl i43) hHeld ?_
  simp only [Act.put, List.setIfInBounds_toArray, List.set_cons_zero, List.set_cons_succ]
  refine wpAnyH_ready (rs := [1]) (by kernel_rfl) (by simp) ?_
  refine AllReadyH.cons rfl (fun K' hK => ?_) AllReadyH.nil
  go_simp
  go_at_call 57
  refine (started_any K hkbl 54#8 _).mono ?_
  rintro e w3 ⟨cs1, rfl, dv1, hb3⟩
  have r3 := r2.drew.below hb3 hz2
  go_wp2_with fail
  refine hK.out _ _ (HRG.out _ r3) (fun hHeld3 => ?_)
  clear hK K'
  refine wpAnyH_ready (rs := [3]) (by kernel_rfl) (by simp) ?_
  refine AllReadyH.cons rfl (fun K' hK => ?_) AllReadyH.nil
  go_simp
  go_at_call 57
  refine (started_any K hkbl 92#8 _).mono ?_
  rintro e w4 ⟨cs2, rfl, dv2, hb4⟩
  have r4 := r3.below hb4 r3.lt
  go_wp2_with fail
  refine hK.out _ _ (HRG.out _ r4) (fun hHeld4 => ?_)
  clear hK K'
  have hbt : Tryd.prog.built 148 [(0, .agg cs1.toArray), (1, .agg cs2.toArray)] = some (cs1 ++ cs2).toArray := (built48 _).trans (fill_two _ (by kernel_rfl) cs1 cs2 dv1.len dv2.len)
  refine wpAnyH_take (i := 4) (v := .agg (cs1 ++ cs2).toArray) rfl (by kernel_rfl) (by kernel_rfl) (by kernel_rfl) (fun _ _ _ h => h) (yieldsIf_build (by rfl) 148 (.tmp 7) (.tmp 9) rfl (.agg cs1.toArray) (.agg cs2.toArray) rfl rfl _ hbt) hHeld4 ?_
  simp only [Act.put, List.setIfInBounds_toArray, List.set_cons_zero, List.set_cons_succ]
  refine wpAnyH_ready (rs := [5]) (by kernel_rfl) (by simp) ?_
  refine AllReadyH.cons rfl (fun K' hK => ?_) AllReadyH.nil
  go_simp
  have r5 : Row (w4.alloc (.cells (cs1 ++ cs2).toArray 148)) w4.heap.size 148 (cs1 ++ cs2) := Row.at _ _ _ _ _ rfl rfl
  have b5 : Below w.heap.size w (w4.alloc (.cells (cs1 ++ cs2).toArray 148)) := (((b2.trans (((Below.refl _ _).drew).mono b2.size)).trans (hb3.mono b2.size)).trans (hb4.mono (Nat.le_trans b2.size hb3.size))).alloc (Nat.le_trans b2.size (Nat.le_trans hb3.size hb4.size)) _
  have ge5 : w.heap.size ≤ w4.heap.size := Nat.le_trans b2.size (Nat.le_trans hb3.size hb4.size)
  refine hK.out _ _ (HRG.out _ (r4.alloc _)) (fun hHeld5 => ?_)
  clear hK K'
  refine wpAnyH_ready (rs := [6]) (by kernel_rfl) (by simp) ?_
  refine AllReadyH.cons rfl (fun K' hK => ?_) AllReadyH.nil
  go_simp
  refine hK.out _ _ (HRG.out _ (r4.alloc _)) (fun hHeld6 => ?_)
  clear hK K'
  refine wpAnyH_done (by kernel_rfl) ?_ _
  go_wp2
  go_ret
  exact ⟨_, rfl, ge5, HKB.out cs1 cs2 _ _ dv1 dv2 r5, b5⟩
end Go.Proofs.YtjooabgjkjnhhaaDoor
