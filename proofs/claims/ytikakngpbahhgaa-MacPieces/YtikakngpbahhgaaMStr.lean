import Derived.Test.YtikakngpbahhgaaMFix
import Derived.Lib.ConvBytes
import Derived.ArgAppend
/-! Keys out of keys: a string's bytes, and five bytes behind them. -/
namespace Go.Proofs.Ytikakngpbahhgaa
open Go.RowKit

/-- A string's bytes. -/
def bytesOf (s : ByteArray) : List By := s.data.toList.map fun b => BitVec.ofNat 8 b.toNat
theorem bytesOf_len (s : ByteArray) : (bytesOf s).length = s.size := by simp [bytesOf]
theorem bytesOf_cell (s : ByteArray) (j : Nat) (v : By) (h : (bytesOf s)[j]? = some v) : (s.data.toList.getD j 0).toNat = v.toNat ∧ j < s.size := by
  unfold bytesOf at h
  rw [List.getElem?_map] at h
  cases hj : s.data.toList[j]? with
  | none => rw [hj] at h; cases h
  | some x =>
    rw [hj] at h
    injection h with h
    subst h
    refine ⟨?_, ?_⟩
    · rw [List.getD_eq_getElem?_getD, hj]
      have := x.toNat_lt
      simp
    · have := (List.getElem?_eq_some_iff.1 hj).1
      simpa using this

def five : List By := [0#8, 1#8, 0#8, 0#8, 0#8]
def capOf (w : World) (s : ByteArray) : Nat := grownCap w s.size 0 5

theorem conv_str (w : World) (s : ByteArray) : (convert 9 22 (.string s)).run Try.prog w = .ok (.slice (some ⟨w.heap.size, 0, none⟩) s.size (capOf w s)) (Lib.bytesWorld w 5 s) :=
  Lib.run_convert_string_bytes (P := Try.prog) w 9 22 5 s Try.underlying9 Try.underlying22 Try.underlying5

theorem bytesWorld_below (w : World) (s : ByteArray) : Below w.heap.size w (Lib.bytesWorld w 5 s) := by
  refine ⟨?_, ?_, ?_, ?_, fun k hk => Lib.bytesWorld_at_old w 5 s k hk⟩
  · simp [Lib.bytesWorld, World.freeze]; rfl
  · simp [Lib.bytesWorld, World.freeze]
  · simp [Lib.bytesWorld, World.freeze]; rfl
  · rw [Lib.bytesWorld_size]; omega

theorem append_five (w : World) (s : ByteArray) (hs : s.size ≤ 140737488352000) (w1 : World) (hw1 : w1 = Lib.bytesWorld w 5 s) (c1 : Nat) (hc1 : c1 = capOf w s) (ty : TypeId) :
    ∃ g c w', (Builtin.append_ #[22, 22] ty #[.slice (some ⟨w.heap.size, 0, none⟩) s.size c1, .slice (some ⟨w.heap.size + 1, 0, none⟩) 5 5]).run Try.prog (w1.alloc (.cells (five.map B8).toArray 5)) = .ok (.slice (some ⟨g, 0, none⟩) (s.size + 5) c) w' ∧
      s.size + 5 ≤ c ∧ IsB w' (some ⟨g, 0, none⟩) (bytesOf s ++ five) ∧ Below w.heap.size w w' := by
  obtain ⟨i0, hi, hz0, hz1, hz2⟩ := info_parts Try.info5
  have hsz : w1.heap.size = w.heap.size + 1 := by rw [hw1]; exact Lib.bytesWorld_size w 5 s
  have bl : Below w.heap.size w w1 := by rw [hw1]; exact bytesWorld_below w s
  have hge : s.size ≤ c1 := by rw [hc1]; exact grownCap_ge w s.size 0 5
  have hnew : (w1.alloc (.cells (five.map B8).toArray 5)).heap[w.heap.size]? = some (.cells (Lib.bytesCells w 5 s) 5 ((Lib.bytesCells w 5 s).size, (Lib.bytesCells w 5 s).size + 1)) := by
    rw [Below.heap_alloc w1 _ w.heap.size (by omega), hw1]; exact Lib.bytesWorld_at_new w 5 s
  have hcs : (Lib.bytesCells w 5 s).size = c1 := by
    have e : s.data.size = s.size := rfl
    simp only [Lib.bytesCells, Array.size_append, Array.size_map, Array.size_replicate, e]
    have : grownCap w s.size 0 5 = c1 := hc1.symm
    omega
  have rfive : Row (w1.alloc (.cells (five.map B8).toArray 5)) (w.heap.size + 1) 5 (five.map B8) := Row.at _ _ _ _ _ hsz.symm rfl
  have cOld : ∀ j v, (bytesOf s)[j]? = some v → (w1.alloc (.cells (five.map B8).toArray 5)).cell? ⟨w.heap.size, j, none⟩ = some (B8 v) := by
    intro j v hj
    obtain ⟨h1, h2⟩ := bytesOf_cell s j v hj
    have h3 := Lib.bytesWorld_cell w 5 s j h2
    rw [← hw1] at h3
    rw [World.cell?_alloc_past (w := w1) _ w.heap.size j (by omega), h3, h1]; rfl
  have hnews : ∀ j u, (five.map B8)[j]? = some u → (w1.alloc (.cells (five.map B8).toArray 5)).cell? (Addr.add ⟨w.heap.size + 1, 0, none⟩ j) = some u := by
    intro j u hu
    rw [Addr.add_mid, Nat.zero_add]; exact rfive.cell j u hu
  have bl2 : Below w.heap.size w (w1.alloc (.cells (five.map B8).toArray 5)) := bl.alloc bl.size _
  have hsize : i0.size = 1 := hz1
  by_cases hroom : s.size + 5 ≤ c1
  · have hcell : ∀ j, j < c1 → ((w1.alloc (.cells (five.map B8).toArray 5)).cell? ⟨w.heap.size, j, none⟩).isSome = true := by
      intro j hj
      rw [cell_of_row _ _ j _ 5 _ hnew, Array.getElem?_eq_getElem (by omega)]; rfl
    have hfr : ∀ j, j < c1 → (w1.alloc (.cells (five.map B8).toArray 5)).frozen? ⟨w.heap.size, j, none⟩ = false := by
      intro j hj
      unfold World.frozen?
      simp only [hnew]
      rw [Bool.and_eq_false_iff]
      left
      rw [decide_eq_false_iff_not]
      omega
    have hl5 : (five.map B8).length = 5 := rfl
    have hrun := run_append_room_cells (P := Try.prog) (w1.alloc (.cells (five.map B8).toArray 5)) 22 ty 5 i0 Try.underlying22 hi w.heap.size 0 s.size c1 ⟨w.heap.size + 1, 0, none⟩ 5 5 (five.map B8) (by rw [hsize]; rfl) hnews (B8_one _) hroom
      (fun j hj => by rw [hsize]; exact hcell _ (by omega)) (fun j hj => by rw [hsize]; exact hfr _ (by omega))
    rw [hsize, Nat.zero_add, Nat.mul_one] at hrun
    refine ⟨w.heap.size, c1, _, hrun, hroom, .inr ⟨w.heap.size, 0, rfl, fun j v hj => ?_⟩, (SameBut.setCells w.heap.size _ _ _).below bl2 (Nat.le_refl _)⟩
    rw [Nat.zero_add]
    by_cases hjs : j < s.size
    · rw [List.getElem?_append_left (by rw [bytesOf_len]; exact hjs)] at hj
      rw [World.cell?_setCells_out _ _ _ _ ⟨w.heap.size, j, none⟩ (fun _ _ => .inl hjs)]
      exact cOld j v hj
    · rw [List.getElem?_append_right (by rw [bytesOf_len]; omega), bytesOf_len] at hj
      have hj5 := (List.getElem?_eq_some_iff.1 hj).1
      have h5 : five.length = 5 := rfl
      have hin := World.rangeAt_setCells_same (w1.alloc (.cells (five.map B8).toArray 5)) w.heap.size s.size (five.map B8) (fun i hi' => ⟨hcell _ (by omega), hfr _ (by omega)⟩) (j - s.size) (B8 v) (by rw [List.getElem?_map, hj]; rfl)
      rw [show s.size + (j - s.size) = j by omega] at hin
      exact hin
  · have hrun := run_append_grow (P := Try.prog) (w1.alloc (.cells (five.map B8).toArray 5)) 22 ty 5 i0 (.int .u8 0) Try.underlying22 hi hz0 ⟨w.heap.size, 0, none⟩ s.size c1 ((bytesOf s).map B8) (by rw [hsize, List.length_map, bytesOf_len, Nat.mul_one])
      (fun j v hv => by
        rw [Addr.add_mid, Nat.zero_add]
        rw [List.getElem?_map] at hv
        cases hj : (bytesOf s)[j]? with
        | none => rw [hj] at hv; cases hv
        | some x => rw [hj] at hv; injection hv with hv; subst hv; exact cOld j x hj)
      ⟨w.heap.size + 1, 0, none⟩ 5 5 (five.map B8) (by rw [hsize]; rfl) hnews (by omega) (by omega) (growslice_fits (by omega) (by rw [hz2]; omega))
    refine ⟨_, _, _, hrun, grownCap_ge _ _ _ _, ?_, ?_⟩
    · refine .inr ⟨_, 0, rfl, fun j v hj => ?_⟩
      rw [Nat.zero_add]
      refine (cell_of_row _ _ j _ 5 (0, 0) (heap_alloc_new (w1.alloc (.cells (five.map B8).toArray 5)).drew _)).trans ?_
      have hj5 := (List.getElem?_eq_some_iff.1 hj).1
      have e : ((bytesOf s).map B8).toArray ++ (five.map B8).toArray = ((bytesOf s ++ five).map B8).toArray := by simp
      rw [e, Array.getElem?_append_left (by simpa using hj5)]
      rw [List.getElem?_toArray, List.getElem?_map, hj]; rfl
    · exact (Below.drew bl2).alloc (by have := bl2.size; simpa using this) _

theorem wpList_append_five {ops : Array Oper} {rest : List Oper} {o : Oper} {a : Act} {w : World} {Q : Exit → Act → World → Prop} (hgd : o.guard = none) (x y : Operand)
    (ho : o.op = .call { callee := .builtin .append, args := #[x, y], argTypes := #[22, 22] })
    (s : ByteArray) (hs : s.size ≤ 140737488352000) (w1 : World) (hw1 : w1 = Lib.bytesWorld w 5 s) (c1 : Nat) (hc1 : c1 = capOf w s) (hx : a.eval x = .slice (some ⟨w.heap.size, 0, none⟩) s.size c1) (hy : a.eval y = .slice (some ⟨w.heap.size + 1, 0, none⟩) 5 5)
    (h : ∀ g c w', s.size + 5 ≤ c → IsB w' (some ⟨g, 0, none⟩) (bytesOf s ++ five) → Below w.heap.size w w' → wpList Try.prog ops Q rest (a.put o.dst (.slice (some ⟨g, 0, none⟩) (s.size + 5) c)) w') :
    wpList Try.prog ops Q (o :: rest) a (w1.alloc (.cells (five.map B8).toArray 5)) := by
  refine wpList_plain hgd fun K hK => ?_
  obtain ⟨g, c, w', hrun, h1, h2, h3⟩ := append_five w s hs w1 hw1 c1 hc1 o.type
  unfold Oper.wp execOp
  simp only [ho, resolve, invoke, builtin, Sem.run_bind, Sem.run_pure, Result.andThen_ok, List.map_toArray, List.map_cons, List.map_nil, hx, hy, hrun]
  exact hK _ _ (h g c w' h1 h2 h3)

set_option maxHeartbeats 1000000 in
set_option maxRecDepth 100000 in
theorem derive_any (ao : Option Addr) (na ca : Nat) (k : List By) (hna : k.length = na) (s : ByteArray) (w : World) (hk : IsB w ao k) (hca : na ≤ ca) (hma : na ≤ 140737488353280) (hs : s.size ≤ 140737488352000) :
    Calls Try.prog 9 #[.slice ao na ca, .string s] w fun e w' => e = .returned (.agg ((tag k (bytesOf s ++ five)).map B8).toArray) ∧ Below w.heap.size w w' := by
  have HA : Hid (k.length = na) := hna
  have IK : Hid (IsB w ao k) := hk
  clear hna hk
  have hsl := tag_len k (bytesOf s ++ five)
  have hml : Hid ((bytesOf s ++ five).length = s.size + 5) := by show _ = _; rw [List.length_append, bytesOf_len]; rfl
  have b0 : ∀ o1, Below w.heap.size w (w.alloc o1) := fun o1 => (Below.refl _ _).alloc (Nat.le_refl _) _
  have r0 := Row.at w 24 ((List.replicate 32 (0 : By)).map B8) _ _ rfl rfl
  have hz : ∀ o1 : Obj, (w.alloc o1).heap.size = w.heap.size + 1 := fun o1 => by simp
  obtain ⟨W1, hw1⟩ : ∃ f : Obj → World, f = fun o1 => Lib.bytesWorld (w.alloc o1) 5 s := ⟨_, rfl⟩
  obtain ⟨C1, hc1⟩ : ∃ f : Obj → Nat, f = fun o1 => capOf (w.alloc o1) s := ⟨_, rfl⟩
  have HW1 : Hid (∀ o1, W1 o1 = Lib.bytesWorld (w.alloc o1) 5 s) := fun o1 => by rw [hw1]
  have HC1 : Hid (∀ o1, C1 o1 = capOf (w.alloc o1) s) := fun o1 => by rw [hc1]
  have hcv : ∀ o1, (convert 9 22 (.string s)).run Try.prog (w.alloc o1) = .ok (.slice (some ⟨w.heap.size + 1, 0, none⟩) s.size (C1 o1)) (W1 o1) := fun o1 => by
    rw [HW1.out, HC1.out, ← hz o1]; exact conv_str (w.alloc o1) s
  have hw1s : ∀ o1, (W1 o1).heap.size = w.heap.size + 2 := fun o1 => by rw [HW1.out, Lib.bytesWorld_size, hz]
  have HZ : Hid (∀ o1 : Obj, (w.alloc o1).heap.size = w.heap.size + 1) := hz
  clear hw1 hc1 hz
  go_enter Try.func9, Try.ntmps9
  go_wp2_with (at_builtin; refine wpList_append_five rfl (.tmp 7) (.tmp 8) rfl s hs _ (HW1.out _) _ (HC1.out _) (by rw [HZ.out]; rfl) (by rw [HZ.out]; rfl) ?_; intro g c w2 hc2 is2 hb2; rw [HZ.out] at hb2)
  replace r0 := r0.below hb2 (by omega)
  have bb : Below w.heap.size w w2 := (b0 _).trans (hb2.mono (by omega))
  clear hb2 hcv hw1s
  refine (mac_any ao (some ⟨g, 0, none⟩) na ca (s.size + 5) c k (bytesOf s ++ five) HA.out hml.out _ (IK.out.below bb (Nat.le_refl _)) is2 hca hc2 hma (by omega)).mono ?_
  rintro e w3 ⟨rfl, hb3⟩
  replace r0 := r0.below hb3 r0.lt
  replace bb := bb.trans (hb3.mono bb.size)
  clear hb3 is2
  generalize hN : w.heap.size = N at *
  go_wp2_with (refine wpList_store_Row rfl 24 _ _ rfl _ _ 0 _ ((tag k (bytesOf s ++ five)).map B8) r0 (by simp [hsl]) rfl rfl (by rw [List.length_map, hsl]; kernel_rfl) (B8_one _) ?_; intro w9 hr9 hs9)
  have hr := row_whole hr9 (by simp [hsl])
  exact bodyPost_ret_by (results_Row Try.results9 _ w9 N 24 _ _ rfl hr Try.underlying24 rfl (by rw [List.length_map, hsl]; kernel_rfl)) rfl ⟨rfl, by rw [hN]; exact hs9.below bb (Nat.le_refl _)⟩

set_option maxHeartbeats 1000000 in
set_option maxRecDepth 100000 in
theorem refDerive_any (ao : Option Addr) (na ca : Nat) (k : List By) (hna : k.length = na) (s : ByteArray) (w : World) (hk : IsB w ao k) (hnk : ao = none → ca = 0) (hma : na ≤ 140737488353280) (hs : s.size ≤ 140737488352000) :
    Calls Try.prog 10 #[.slice ao na ca, .string s] w fun e w' => e = .returned (.agg ((tag k (bytesOf s ++ five)).map B8).toArray) ∧ Below w.heap.size w w' := by
  have HA : Hid (k.length = na) := hna
  have IK : Hid (IsB w ao k) := hk
  clear hna hk
  have hsl := tag_len k (bytesOf s ++ five)
  have hml : Hid ((bytesOf s ++ five).length = s.size + 5) := by show _ = _; rw [List.length_append, bytesOf_len]; rfl
  have b0 : ∀ o1, Below w.heap.size w (w.alloc o1) := fun o1 => (Below.refl _ _).alloc (Nat.le_refl _) _
  have r0 := Row.at w 24 ((List.replicate 32 (0 : By)).map B8) _ _ rfl rfl
  have hz : ∀ o1 : Obj, (w.alloc o1).heap.size = w.heap.size + 1 := fun o1 => by simp
  obtain ⟨W1, hw1⟩ : ∃ f : Obj → World, f = fun o1 => Lib.bytesWorld (w.alloc o1) 5 s := ⟨_, rfl⟩
  obtain ⟨C1, hc1⟩ : ∃ f : Obj → Nat, f = fun o1 => capOf (w.alloc o1) s := ⟨_, rfl⟩
  have HW1 : Hid (∀ o1, W1 o1 = Lib.bytesWorld (w.alloc o1) 5 s) := fun o1 => by rw [hw1]
  have HC1 : Hid (∀ o1, C1 o1 = capOf (w.alloc o1) s) := fun o1 => by rw [hc1]
  have hcv : ∀ o1, (convert 9 22 (.string s)).run Try.prog (w.alloc o1) = .ok (.slice (some ⟨w.heap.size + 1, 0, none⟩) s.size (C1 o1)) (W1 o1) := fun o1 => by
    rw [HW1.out, HC1.out, ← hz o1]; exact conv_str (w.alloc o1) s
  have hw1s : ∀ o1, (W1 o1).heap.size = w.heap.size + 2 := fun o1 => by rw [HW1.out, Lib.bytesWorld_size, hz]
  have HZ : Hid (∀ o1 : Obj, (w.alloc o1).heap.size = w.heap.size + 1) := hz
  clear hw1 hc1 hz
  go_enter Try.func10, Try.ntmps10
  go_wp2_with (at_builtin; refine wpList_append_five rfl (.tmp 7) (.tmp 8) rfl s hs _ (HW1.out _) _ (HC1.out _) (by rw [HZ.out]; rfl) (by rw [HZ.out]; rfl) ?_; intro g c w2 hc2 is2 hb2; rw [HZ.out] at hb2)
  replace r0 := r0.below hb2 (by omega)
  have bb : Below w.heap.size w w2 := (b0 _).trans (hb2.mono (by omega))
  clear hb2 hcv hw1s
  refine (refMac_any ao (some ⟨g, 0, none⟩) na ca (s.size + 5) c k (bytesOf s ++ five) HA.out hml.out _ (IK.out.below bb (Nat.le_refl _)) is2 hnk (fun h => by cases h) hma (by omega)).mono ?_
  rintro e w3 ⟨rfl, hb3⟩
  replace r0 := r0.below hb3 r0.lt
  replace bb := bb.trans (hb3.mono bb.size)
  clear hb3 is2
  generalize hN : w.heap.size = N at *
  go_wp2_with (refine wpList_store_Row rfl 24 _ _ rfl _ _ 0 _ ((tag k (bytesOf s ++ five)).map B8) r0 (by simp [hsl]) rfl rfl (by rw [List.length_map, hsl]; kernel_rfl) (B8_one _) ?_; intro w9 hr9 hs9)
  have hr := row_whole hr9 (by simp [hsl])
  exact bodyPost_ret_by (results_Row Try.results10 _ w9 N 24 _ _ rfl hr Try.underlying24 rfl (by rw [List.length_map, hsl]; kernel_rfl)) rfl ⟨rfl, by rw [hN]; exact hs9.below bb (Nat.le_refl _)⟩
end Go.Proofs.Ytikakngpbahhgaa
