
import Derived.Test.YtngfdofjflmhhaaF7List
/-! Layer 7, the program's fuse. -/
namespace Go.Proofs.Ytngfdofjflmhhaa
open Go.RowKit
set_option linter.unusedVariables false

set_option maxHeartbeats 1000000 in
set_option maxRecDepth 100000 in
theorem fuask_any (G : RF) (s : RS) (S : ByteArray) (i n : Int) (w : World) (h : CAt w G s S) :
    Calls Try.prog 51 #[.pointer (some ⟨G.g, 0, none⟩), .int .i64 i, .int .i64 n] w fun e w' => e = .returned (.int .i64 (s.ask i n)) ∧ w' = w := by
  have HO : Hid (∀ W, W = w → Calls Try.prog 12 #[.pointer (some ⟨G.g, 0, none⟩)] W fun e w' => e = .returned (.bool s.gone) ∧ w' = W) := by
    rintro W rfl
    exact cout_any G s S W h
  rcases ask_or s i n with ⟨e0, hg⟩ | ⟨hg, ⟨e0, hi⟩ | ⟨e0, i1, i2⟩⟩
  · rw [e0]
    rw [hg] at HO
    go_enter Try.func51, Try.ntmps51
    go_wp2_with (refine (HO.out _ rfl).mono ?_; rintro e w1 ⟨rfl, rfl⟩)
    go_ret
    exact ⟨rfl, rfl⟩
  · rw [e0]
    rw [hg] at HO
    by_cases hi0 : i < 0
    · go_enter Try.func51, Try.ntmps51
      go_wp2_with (refine (HO.out _ rfl).mono ?_; rintro e w1 ⟨rfl, rfl⟩)
      go_ret
      exact ⟨rfl, rfl⟩
    · have hi1 : n ≤ i := by omega
      have hi2 : i ≥ n := hi1
      go_enter Try.func51, Try.ntmps51
      go_wp2_with (refine (HO.out _ rfl).mono ?_; rintro e w1 ⟨rfl, rfl⟩)
      go_ret
      exact ⟨rfl, rfl⟩
  · rw [e0]
    rw [hg] at HO
    have hi0 : ¬ i < 0 := by omega
    have hi1 : ¬ n ≤ i := by omega
    have hi2 : ¬ i ≥ n := by omega
    go_enter Try.func51, Try.ntmps51
    go_wp2_with (refine (HO.out _ rfl).mono ?_; rintro e w1 ⟨rfl, rfl⟩)
    go_ret
    exact ⟨rfl, rfl⟩

/-- A field of a config. -/
theorem cfg_slots (a b c d e f g : Int) (w : World) : (Instr.field 23 (.agg #[.int .i64 a, .int .i64 b, .int .i64 c, .int .i64 d, .int .i64 e, .int .i64 f, .int .i64 g]) 1).run Try.prog w = .ok (.int .i64 b) w := by kernel_rfl
theorem cfg_fuses (a b c d e f g : Int) (w : World) : (Instr.field 23 (.agg #[.int .i64 a, .int .i64 b, .int .i64 c, .int .i64 d, .int .i64 e, .int .i64 f, .int .i64 g]) 2).run Try.prog w = .ok (.int .i64 c) w := by kernel_rfl
theorem cfg_keys (a b c d e f g : Int) (w : World) : (Instr.field 23 (.agg #[.int .i64 a, .int .i64 b, .int .i64 c, .int .i64 d, .int .i64 e, .int .i64 f, .int .i64 g]) 4).run Try.prog w = .ok (.int .i64 e) w := by kernel_rfl

/-- What Config tells, field by field. -/
theorem cconfig7 (G : RF) (s : RS) (S : ByteArray) (w : World) (h : CAt w G s S) :
    Calls Try.prog 35 #[.pointer (some ⟨G.g, 0, none⟩)] w fun e w' => e = .returned (.agg #[.int .i64 s.c.cells, .int .i64 s.c.slots, .int .i64 s.c.fuses, .int .i64 s.c.step, .int .i64 s.c.keys, .int .i64 s.c.erases, .int .i64 s.c.area]) ∧ Below w.heap.size w w' := cconfig_any G s S w h

/-- A number as a value. -/
def IV (q : Nat) : Value := .int .i64 (q : Int)
/-- A list of numbers in memory of the call's own. -/
def Lst (N : Nat) (w : World) (v : Value) (L : List Nat) : Prop := w.ownsRow N 3 1 v L.length (L.map IV) ∧ N ≤ w.heap.size

theorem lst_nil (N : Nat) (w : World) (h : N ≤ w.heap.size) : Lst N w (.slice none 0 0) [] := ⟨World.ownsRow_nil _ _ _ _, h⟩
theorem Lst.form {N : Nat} {w : World} {v : Value} {L : List Nat} (h : Lst N w v L) : ∃ ao c, v = .slice ao L.length c := by
  rcases h.1.2 with ⟨e, e0⟩ | ⟨g, c, cur, e, _⟩
  · exact ⟨none, 0, by rw [e, e0]⟩
  · exact ⟨_, _, e⟩
/-- What the walk reads of it. -/
def Tl (N : Nat) (w : World) (v : Value) (L : List Nat) (j : Nat) : Prop :=
  ∃ ao c, v = .slice ao (L.length - j) c ∧ L.length - j ≤ c ∧ (j < L.length → ∃ g, ao = some ⟨g, j, none⟩ ∧ N ≤ g ∧ g < w.heap.size ∧ ∀ i q, L[i]? = some q → w.cell? ⟨g, i, none⟩ = some (IV q))
theorem Lst.tl {N : Nat} {w : World} {v : Value} {L : List Nat} (h : Lst N w v L) : Tl N w v L 0 := by
  obtain ⟨ao, c, rfl⟩ := h.form
  have h1 := h.1
  rcases h.1.2 with ⟨e, e0⟩ | ⟨g, c', cur, e, hg, hh, hc, _⟩
  · injection e with e1 e2 e3
    exact ⟨ao, c, rfl, by omega, fun hl => by omega⟩
  · injection e with e1 e2 e3
    subst e1
    refine ⟨_, c, rfl, by omega, fun hl => ⟨g, rfl, hg, (Array.getElem?_eq_some_iff.1 hh).1, fun i q hq => ?_⟩⟩
    have hi : i < L.length := (List.getElem?_eq_some_iff.1 hq).1
    rw [h1.cellAt i (by omega), List.getElem?_map, hq]; rfl
theorem Tl.kept {N : Nat} {w w' : World} {v : Value} {L : List Nat} {j : Nat} {B : List Nat} (h : Tl N w v L j) (kl : KeptL B w w') (hB : ∀ b ∈ B, b < N) : Tl N w' v L j := by
  obtain ⟨ao, c, e, hc, hx⟩ := h
  refine ⟨ao, c, e, hc, fun hj => ?_⟩
  obtain ⟨g, e1, hg, hs, hcell⟩ := hx hj
  refine ⟨g, e1, hg, Nat.lt_of_lt_of_le hs kl.size, fun i q hq => ?_⟩
  rw [← hcell i q hq]
  unfold World.cell?
  rw [kl.block g hs (fun hm => by have := hB g hm; omega)]

theorem wpList_append_int {ops : Array Oper} {rest : List Oper} {o : Oper} {a : Act} {w : World} {Q : Exit → Act → World → Prop} (hgd : o.guard = none) (s x : Operand)
    (ho : o.op = .call { callee := .builtin .append, args := #[s, x], argTypes := #[25, 25] })
    (N t : Nat) (a0 : World) (v : Value) (L : List Nat) (q : Nat) (yy : Int) (hyy : yy = (q : Int)) (g0 : Nat) (hg0 : g0 = w.heap.size) (hs : a.eval s = v) (hx : a.eval x = .slice (some ⟨g0, 0, none⟩) 1 1)
    (hown : Lst N w v L) (hbel : Below N a0 w) (hm : L.length < 1000000)
    (h : ∀ v' w', Lst N w' v' (L ++ [q]) → Below N a0 w' → wpList Try.prog ops Q rest (a.put o.dst v') w') :
    wpList Try.prog ops Q (o :: rest) a (w.alloc (.cells #[.int .i64 yy] t)) := by
  subst hyy
  subst hg0
  obtain ⟨ao, c, rfl⟩ := hown.form
  refine wpList_append_gen el_ints hgd s x ho N a0 ao L.length c (L.map IV) hs (hown.1.alloc _) (by have := hown.2; simp; omega) (hbel.alloc hown.2 _) (some ⟨w.heap.size, 0, none⟩) 1 1 [IV q] hx rfl (.inr ⟨_, _, rfl, fun j u hu => ?_⟩) ?_ (fun e => by cases e) (by unfold maxLen; omega) (by omega) ?_
  · rw [← Addr.add_mid]
    exact cell_one_new w _ t j u hu
  · intro u hu; simp at hu; subst hu; rfl
  · intro ao' cap' w' h1 h2 h3 h4
    refine h _ w' ⟨?_, ?_⟩ h2
    · rw [List.length_append, List.map_append]; exact h1
    · have := hown.2; simp at h3; omega

set_option maxHeartbeats 2000000 in
set_option maxRecDepth 100000 in
/-- unblown, where it may be asked. -/
theorem fuunblown_ok (G : RF) (s : RS) (S : ByteArray) (slot : Int) (w : World) (h : CAt w G s S) (hf : s.Fu) (h0 : s.countE slot = 0) :
    Calls Try.prog 34 #[.pointer (some ⟨G.g, 0, none⟩), .int .i64 slot] w fun e w' => ∃ v, e = .returned (.tuple #[v, .int .i64 0]) ∧ Lst w.heap.size w' v (unb s.blown (s.o7 slot) 0 s.c.fuses.toNat) ∧ Below w.heap.size w w' := by
  have fl1 := cfg_slots
  have fl2 := cfg_fuses
  have HW : Hid (∀ W, Below w.heap.size w W → CAt W G s S) := fun W hW => h.below hW (Nat.le_refl _)
  have HCF : Hid (∀ W, Below w.heap.size w W → Calls Try.prog 35 #[.pointer (some ⟨G.g, 0, none⟩)] W fun e w' => e = .returned (.agg #[.int .i64 s.c.cells, .int .i64 s.c.slots, .int .i64 s.c.fuses, .int .i64 s.c.step, .int .i64 s.c.keys, .int .i64 s.c.erases, .int .i64 s.c.area]) ∧ Below w.heap.size w w') := fun W hW =>
    (cconfig7 G s S W (HW.out W hW)).mono fun e w' ⟨h1, h2⟩ => ⟨h1, hW.trans (h2.mono hW.size)⟩
  have HAS : Hid (∀ W, Below w.heap.size w W → Calls Try.prog 51 #[.pointer (some ⟨G.g, 0, none⟩), .int .i64 slot, .int .i64 s.c.slots] W fun e w' => e = .returned (.int .i64 (s.countE slot)) ∧ w' = W) := fun W hW => fuask_any G s S slot s.c.slots W (HW.out W hW)
  have HB0 : Hid (Below w.heap.size w w) := Below.refl _ _
  obtain ⟨hgo, i1, i2⟩ := ask_zero h0
  obtain ⟨r1, r2, r3, r4⟩ := hf.row i1 i2
  have hbl := hf.bl
  have hk := hf.k1
  have f1 := hf.f1
  have f2 := hf.f2
  rw [h0] at HAS
  have HBN : Hid (∀ W, Below w.heap.size w W → ∀ p : Nat, (p : Int) < s.c.fuses → Calls Try.prog 39 #[.pointer (some ⟨G.g, 0, none⟩), .int .i64 (slot * s.c.fuses + p)] W fun e w' => e = .returned (.tuple #[.bool (s.blown.getD (s.o7 slot + p) false), .int .i64 0]) ∧ w' = W) := fun W hW p hp => by
    have := cblown_any G s S (slot * s.c.fuses + p) W (HW.out W hW)
    have e1 : s.fuse (slot * s.c.fuses + p) = 0 := fuse_of hgo (by omega) (by omega)
    have e2 : (slot * s.c.fuses + (p : Int)).toNat = s.o7 slot + p := by omega
    rw [e1, if_pos rfl, e2] at this
    exact this
  have HST : Hid (∀ p, unb s.blown (s.o7 slot) 0 (p + 1) = unb s.blown (s.o7 slot) 0 p ++ (if s.blown.getD (s.o7 slot + p) false then [] else [s.o7 slot + p])) := fun p => by
    have := unb_snoc s.blown (s.o7 slot) p 0
    rw [Nat.zero_add] at this
    exact this
  have HZ : Hid (unb s.blown (s.o7 slot) 0 0 = []) := rfl
  have HLE : Hid (∀ p, (unb s.blown (s.o7 slot) 0 p).length ≤ p) := fun p => by have := unb_len s.blown (s.o7 slot) p; omega
  generalize unb s.blown (s.o7 slot) 0 = U at *
  generalize s.o7 slot = o at *
  generalize s.blown.length = BL at *
  clear h0 hf h
  generalize s.c.slots = SL at *
  generalize s.c.fuses = FSZ at *
  obtain ⟨fn, rfl⟩ := Int.eq_ofNat_of_zero_le (a := FSZ) (by omega)
  have w1 : IntKind.i64.wrap (slot * (fn : Int)) = slot * (fn : Int) := i64_in _ (by omega) (by omega)
  go_enter Try.func34, Try.ntmps34
  go_wp2_with fail
  refine (HCF.out _ HB0.out).mono ?_
  rintro e w2 ⟨rfl, hb2⟩
  go_wp2_with fail
  refine (HAS.out _ hb2).mono ?_
  rintro e w3 ⟨rfl, rfl⟩
  go_wp2_with fail
  refine (HCF.out _ hb2).mono ?_
  rintro e w4 ⟨rfl, hb4⟩
  go_wp2
  go_loopw [7, 25] (fun lv iv wr => ∃ p : Nat, p ≤ fn ∧ iv = .int .i64 p ∧ Hid (Lst w.heap.size wr lv (U p)) ∧ Hid (Below w.heap.size w wr)) (fun _ iv _ => fn - (intOf iv).toNat)
  case atStart => exact ⟨0, by omega, rfl, by rw [HZ.out]; exact lst_nil _ _ hb4.size, hb4⟩
  case round =>
    obtain ⟨p, hp, rfl, hl, hb⟩ := hrel
    by_cases hlt : p < fn
    · have y1 : (p : Int) < (fn : Int) := by omega
      have HBN2 := HBN.out _ hb.out p y1
      have hn := HST.out p
      have hle := HLE.out p
      have w2 : IntKind.i64.wrap (slot * (fn : Int) + (p : Int)) = slot * (fn : Int) + (p : Int) := i64_in _ (by omega) (by omega)
      generalize s.blown.getD (o + p) false = b at *
      have HBN3 : Hid (Calls Try.prog 39 #[.pointer (some ⟨G.g, 0, none⟩), .int .i64 (slot * (fn : Int) + (p : Int))] wr fun e w' => e = .returned (.tuple #[.bool b, .int .i64 0]) ∧ w' = wr) := HBN2
      clear HBN2
      cases b
      · have HN : Hid (U (p + 1) = U p ++ [o + p]) := by show _ = _; simpa using hn
        have HQ : Hid (slot * (fn : Int) + (p : Int) = ((o + p : Nat) : Int)) := by show _ = _; omega
        have HL : Hid ((U p).length < 1000000) := by show _ < _; omega
        clear hn
        go_wp2_with (first | (refine HBN3.out.mono ?_; rintro e w5 ⟨rfl, rfl⟩) | (at_builtin; refine wpList_append_int rfl (.tmp 43) (.tmp 49) rfl w.heap.size _ w _ (U p) (o + p) _ HQ.out _ rfl rfl rfl hl.out hb.out HL.out ?_; intro v6 w6 hl6 hb6))
        exact ⟨⟨p + 1, by omega, by simp, by rw [HN.out]; exact hl6, hb6⟩, by simp [intOf]; omega⟩
      · have HN : Hid (U (p + 1) = U p) := by show _ = _; simpa using hn
        clear hn
        go_wp2_with (refine HBN3.out.mono ?_; rintro e w5 ⟨rfl, rfl⟩)
        exact ⟨⟨p + 1, by omega, by simp, by rw [HN.out]; exact hl.out, hb.out⟩, by simp [intOf]; omega⟩
    · have y1 : ¬ (p : Int) < (fn : Int) := by omega
      obtain rfl : p = fn := by omega
      go_wp2
      go_ret2
      exact ⟨_, rfl, hl.out, hb.out⟩

set_option maxHeartbeats 2000000 in
set_option maxRecDepth 100000 in
/-- unblown, where it may not be asked. -/
theorem fuunblown_no (G : RF) (s : RS) (S : ByteArray) (slot : Int) (w : World) (h : CAt w G s S) (h0 : ¬ s.countE slot = 0) :
    Calls Try.prog 34 #[.pointer (some ⟨G.g, 0, none⟩), .int .i64 slot] w fun e w' => e = .returned (.tuple #[.slice none 0 0, .int .i64 (s.countE slot)]) ∧ Below w.heap.size w w' := by
  have fl1 := cfg_slots
  have HW : Hid (∀ W, Below w.heap.size w W → CAt W G s S) := fun W hW => h.below hW (Nat.le_refl _)
  have HCF : Hid (∀ W, Below w.heap.size w W → Calls Try.prog 35 #[.pointer (some ⟨G.g, 0, none⟩)] W fun e w' => e = .returned (.agg #[.int .i64 s.c.cells, .int .i64 s.c.slots, .int .i64 s.c.fuses, .int .i64 s.c.step, .int .i64 s.c.keys, .int .i64 s.c.erases, .int .i64 s.c.area]) ∧ Below w.heap.size w w') := fun W hW =>
    (cconfig7 G s S W (HW.out W hW)).mono fun e w' ⟨h1, h2⟩ => ⟨h1, hW.trans (h2.mono hW.size)⟩
  have HAS : Hid (∀ W, Below w.heap.size w W → Calls Try.prog 51 #[.pointer (some ⟨G.g, 0, none⟩), .int .i64 slot, .int .i64 s.c.slots] W fun e w' => e = .returned (.int .i64 (s.countE slot)) ∧ w' = W) := fun W hW => fuask_any G s S slot s.c.slots W (HW.out W hW)
  have HB0 : Hid (Below w.heap.size w w) := Below.refl _ _
  generalize s.countE slot = f at *
  have e1 : (f != 0) = true := by rw [bne_iff_ne]; exact h0
  go_enter Try.func34, Try.ntmps34
  go_wp2_with fail
  refine (HCF.out _ HB0.out).mono ?_
  rintro e w2 ⟨rfl, hb2⟩
  go_wp2_with (refine (HAS.out _ hb2).mono ?_; rintro e w1 ⟨rfl, rfl⟩)
  go_ret2
  exact ⟨rfl, hb2⟩

set_option maxHeartbeats 2000000 in
set_option maxRecDepth 100000 in
theorem fucount_any (G : RF) (s : RS) (S : ByteArray) (slot : Int) (w : World) (h : CAt w G s S) (hf : s.Fu) :
    Calls Try.prog 13 #[.pointer (some ⟨G.g, 0, none⟩), .int .i64 slot] w fun e w' => e = .returned (.tuple #[.int .i64 (s.count slot), .int .i64 (s.countE slot)]) ∧ Below w.heap.size w w' := by
  have fl2 := cfg_fuses
  have HW : Hid (∀ W, Below w.heap.size w W → CAt W G s S) := fun W hW => h.below hW (Nat.le_refl _)
  have HCF : Hid (∀ W, Below w.heap.size w W → Calls Try.prog 35 #[.pointer (some ⟨G.g, 0, none⟩)] W fun e w' => e = .returned (.agg #[.int .i64 s.c.cells, .int .i64 s.c.slots, .int .i64 s.c.fuses, .int .i64 s.c.step, .int .i64 s.c.keys, .int .i64 s.c.erases, .int .i64 s.c.area]) ∧ Below w.heap.size w w') := fun W hW =>
    (cconfig7 G s S W (HW.out W hW)).mono fun e w' ⟨h1, h2⟩ => ⟨h1, hW.trans (h2.mono hW.size)⟩
  by_cases h0 : s.countE slot = 0
  · have HU : Hid (Calls Try.prog 34 #[.pointer (some ⟨G.g, 0, none⟩), .int .i64 slot] w fun e w' => ∃ v, e = .returned (.tuple #[v, .int .i64 0]) ∧ Lst w.heap.size w' v (unb s.blown (s.o7 slot) 0 s.c.fuses.toNat) ∧ Below w.heap.size w w') := fuunblown_ok G s S slot w h hf h0
    have f1 := hf.f1
    have f2 := hf.f2
    have ec : s.count slot = (cnt s.blown (s.o7 slot) s.c.fuses.toNat : Int) := by unfold RS.count; rw [if_pos h0]
    have el := unb_len s.blown (s.o7 slot) s.c.fuses.toNat
    rw [ec, h0]
    generalize unb s.blown (s.o7 slot) 0 s.c.fuses.toNat = U at *
    generalize cnt s.blown (s.o7 slot) s.c.fuses.toNat = ct at *
    have w1 : IntKind.i64.wrap (s.c.fuses - (U.length : Int)) = (ct : Int) := by rw [i64_in _ (by omega) (by omega)]; omega
    clear ec h0 hf h el
    generalize s.c.fuses = FSZ at *
    go_enter Try.func13, Try.ntmps13
    go_wp2_with fail
    refine HU.out.mono ?_
    rintro e w2 ⟨v, rfl, hl, hb2⟩
    obtain ⟨ao, c, rfl⟩ := hl.form
    go_wp2_with (refine (HCF.out _ hb2).mono ?_; rintro e w4 ⟨rfl, hb4⟩)
    go_ret2
    exact ⟨rfl, hb4⟩
  · have HU : Hid (Calls Try.prog 34 #[.pointer (some ⟨G.g, 0, none⟩), .int .i64 slot] w fun e w' => e = .returned (.tuple #[.slice none 0 0, .int .i64 (s.countE slot)]) ∧ Below w.heap.size w w') := fuunblown_no G s S slot w h h0
    have ec : s.count slot = 0 := by unfold RS.count; rw [if_neg h0]
    rw [ec]
    generalize s.countE slot = f at *
    have e1 : (f != 0) = true := by rw [bne_iff_ne]; exact h0
    go_enter Try.func13, Try.ntmps13
    go_wp2_with (refine HU.out.mono ?_; rintro e w2 ⟨rfl, hb2⟩)
    go_ret2
    exact ⟨rfl, hb2⟩

end Go.Proofs.Ytngfdofjflmhhaa
