
import Derived.Test.YtgpnbiaghokjkaaDoorD21PgM
import Derived.Test.YtgpnbiaghokjkaaDoorD21OnM
/-! Layer 21, the document's answer: the reader's page. -/
namespace Go.Proofs.YtgpnbiaghokjkaaDoor
open Go.RowKit
set_option linter.unusedVariables false
set_option linter.unusedSimpArgs false
set_option maxRecDepth 100000

abbrev blk : List By := List.replicate 32 255#8
/-- How far a reader in memory is. -/
def atOf (g : Nat) (w : World) : Nat := (intOf ((w.cell? ⟨g, 1, none⟩).getD undef)).toNat
theorem atOf_row {g : Nat} {w : World} {T : List By} {a ln : Nat} (h : Row w g 65 (rdC T a ln)) : atOf g w = a := by
  unfold atOf
  rw [h.cell 1 (.int .i64 (a : Int)) rfl]
  simp [intOf]
/-- What page tells and leaves. -/
def PgP (g C p : Nat) (T : List By) (a ln : Nat) (w : World) (e : Ending) (w' : World) : Prop :=
  (∃ (v : Value) (gs : List (List By)) (en a' ln' : Nat), pageP C p (T.drop a) ln = .ok (gs, en, T.drop a', ln') ∧ a' ≤ T.length ∧ ln' ≤ a' ∧ a < a' ∧ gs.length = C ∧ en ≤ 2147483647 ∧ e = .returned (.tuple #[v, .int .i64 (en : Int), .bool true]) ∧ OwnC w.heap.size w' v gs ∧ Row w' g 65 (rdC T a' ln') ∧ KeptL [g] w w') ∨
  (∃ k a', pageP C p (T.drop a) ln = .error k ∧ e = .returned (.tuple #[.slice none 0 0, .int .i64 0, .bool false]) ∧ Row w' g 65 (rdC T a' k) ∧ KeptL [g] w w')
theorem val_le {w : List By} {n : Nat} (h : val? w = some n) : n ≤ 2147483647 := by
  unfold val? at h
  split at h
  · rename_i h1
    injection h with h
    omega
  · cases h
theorem vals_le : ∀ (ws : List (List By)) (L : List Nat), vals? ws = some L → ∀ n ∈ L, n ≤ 2147483647
  | [], L, h => by injection h with h; subst h; intro n hn; cases hn
  | w :: ws, L, h => by
    rw [vals?] at h
    split at h
    · rename_i m hm
      split at h
      · rename_i l' hl
        injection h with h
        subst h
        intro n hn
        rcases List.mem_cons.1 hn with rfl | hn
        · exact val_le hm
        · exact vals_le ws l' hl n hn
      · cases h
    · cases h
theorem values_le {l word : List By} {L : List Nat} (h : values? l word = some L) : ∀ n ∈ L, n ≤ 2147483647 := by
  unfold values? at h
  split at h
  · split at h
    · exact vals_le _ _ h
    · cases h
  · cases h
theorem values_len {l word : List By} {L : List Nat} (h : values? l word = some L) : L.length ≤ l.length := by
  unfold values? at h
  have h1 := words_len l
  split at h
  · rename_i a b hw
    rw [hw] at h1
    split at h
    · have := vals_len b L h
      rw [List.length_cons] at h1
      omega
    · cases h
  · cases h

/-- What the loop over a page's cells has left of it: what is told then. -/
def Left (C : Nat) (T : List By) (a ln : Nat) (last : Int) (gs : List (List By)) (R : Except Nat (List (List By) × List By × Nat)) : Prop := ∃ k, T.length - a ≤ k ∧ R = cellsP C k (T.drop a) ln last gs
theorem Left.done {C : Nat} {T : List By} {a ln : Nat} {last : Int} {gs : List (List By)} {R : Except Nat (List (List By) × List By × Nat)} (h : Left C T a ln last gs R) (hs : sees (T.drop a) wCell = false) : R = .ok (gs, T.drop a, ln) := by
  obtain ⟨k, hk, rfl⟩ := h
  cases k with
  | zero => rfl
  | succ k => rw [cellsP, hs]; rfl
theorem Left.more {C : Nat} {T : List By} {a ln : Nat} {last : Int} {gs : List (List By)} {R : Except Nat (List (List By) × List By × Nat)} (h : Left C T a ln last gs R) (hs : sees (T.drop a) wCell = true) (ha : a ≤ T.length) :
    ∃ k, T.length - a ≤ k + 1 ∧ R = (match lineOf (T.drop a) with | none => .error (ln + 1) | some (l, r) => match one? l with | none => .error (ln + 1) | some (n, x) => if (n : Int) ≤ last ∨ C ≤ n then .error (ln + 1) else cellsP C k r (ln + 1) n (gs.set n x)) := by
  obtain ⟨k, hk, rfl⟩ := h
  cases k with
  | zero =>
    rw [sees_eq T wCell a ha] at hs
    simp [wCell] at hs
    omega
  | succ k => exact ⟨k, hk, by rw [cellsP, hs]; rfl⟩
theorem Left.noLine {C : Nat} {T : List By} {a ln : Nat} {last : Int} {gs : List (List By)} {R : Except Nat (List (List By) × List By × Nat)} (h : Left C T a ln last gs R) (hs : sees (T.drop a) wCell = true) (ha : a ≤ T.length) (hl : lineOf (T.drop a) = none) : R = .error (ln + 1) := by
  obtain ⟨k, _, e⟩ := h.more hs ha
  rw [e, hl]
theorem Left.bad {C : Nat} {T : List By} {a ln : Nat} {last : Int} {gs : List (List By)} {R : Except Nat (List (List By) × List By × Nat)} {l r : List By} (h : Left C T a ln last gs R) (hs : sees (T.drop a) wCell = true) (ha : a ≤ T.length) (hl : lineOf (T.drop a) = some (l, r)) (ho : one? l = none) : R = .error (ln + 1) := by
  obtain ⟨k, _, e⟩ := h.more hs ha
  rw [e, hl]; simp only [ho]
theorem Left.out {C : Nat} {T : List By} {a ln : Nat} {last : Int} {gs : List (List By)} {R : Except Nat (List (List By) × List By × Nat)} {l r x : List By} {n : Nat} (h : Left C T a ln last gs R) (hs : sees (T.drop a) wCell = true) (ha : a ≤ T.length) (hl : lineOf (T.drop a) = some (l, r)) (ho : one? l = some (n, x)) (hn : (n : Int) ≤ last ∨ C ≤ n) : R = .error (ln + 1) := by
  obtain ⟨k, _, e⟩ := h.more hs ha
  rw [e, hl]; simp only [ho]; rw [if_pos hn]
theorem Left.step {C : Nat} {T : List By} {a ln : Nat} {last : Int} {gs : List (List By)} {R : Except Nat (List (List By) × List By × Nat)} {l x : List By} {n a' : Nat} (h : Left C T a ln last gs R) (hs : sees (T.drop a) wCell = true) (ha : a ≤ T.length) (haa : a < a') (hl : lineOf (T.drop a) = some (l, T.drop a')) (ho : one? l = some (n, x)) (hn : ¬ ((n : Int) ≤ last ∨ C ≤ n)) : Left C T a' (ln + 1) n (gs.set n x) R := by
  obtain ⟨k, hk, e⟩ := h.more hs ha
  refine ⟨k, by omega, ?_⟩
  rw [e, hl]; simp only [ho]; rw [if_neg hn]

theorem line_le {T : List By} {a : Nat} {l r : List By} (h : lineOf (T.drop a) = some (l, r)) : l.length ≤ T.length := by
  have : ∀ (t l r : List By), lineOf t = some (l, r) → l.length ≤ t.length := by
    intro t
    induction t with
    | nil => intro l r h; cases h
    | cons x t ih =>
      intro l r h
      rw [lineOf] at h
      split at h
      · injection h with h; injection h with h1 h2; subst h1; simp
      · split at h
        · rename_i a' b' hab
          injection h with h; injection h with h1 h2; subst h1
          have := ih _ _ hab
          rw [List.length_cons, List.length_cons]; omega
        · cases h
  have h1 := this _ _ _ h
  rw [List.length_drop] at h1
  omega

set_option maxHeartbeats 16000000 in
theorem r21page_any (g : Nat) (T : List By) (a ln : Nat) (c : Cfg) (C p : Nat) (w : World) (hC : c.cells = (C : Int)) (hC1 : 4 ≤ C) (hC2 : C ≤ 256) (hp : p ≤ 1000) (hr : Row w g 65 (rdC T a ln)) (ha : a ≤ T.length) (hT : T.length ≤ 2000000) (hln : ln ≤ a) :
    Calls Tryd.prog 33 #[.pointer (some ⟨g, 0, none⟩), .agg c.vals.toArray, .int .i64 (p : Int)] w (PgP g C p T a ln w) := by
  have hgl := hr.lt
  have r0 : Row (w.alloc (.cells c.vals.toArray 24)) g 65 (rdC T a ln) := hr.alloc _
  have rc : Row (w.alloc (.cells c.vals.toArray 24)) w.heap.size 24 c.vals := Row.at w 24 c.vals _ _ rfl rfl
  have b0 : KeptL [g] w (w.alloc (.cells c.vals.toArray 24)) := (KeptL.refl _ _).below ((Below.refl _ _).alloc (Nat.le_refl _) _) (Nat.le_refl _)
  have hcv : c.vals[0]? = some (.int .i64 (C : Int)) := by rw [← hC]; rfl
  have HNX : Hid (∀ (W : World) (b m : Nat), Row W g 65 (rdC T b m) → b ≤ T.length → m ≤ 4611686018427387904 → Calls Tryd.prog 29 #[.pointer (some ⟨g, 0, none⟩)] W (NextP g T b m W)) := fun W b m h1 h2 h3 => r21next_any g T b m W h1 h2 (by omega) h3
  have HVS : Hid (∀ (W : World) (l : List By), l.length ≤ 2000000 → Calls Tryd.prog 30 #[.string (strOf l), .string { data := #[112, 97, 103, 101] }] W (ValP W.heap.size W l wPage)) := fun W l h1 => r21values_any l wPage h1 W
  have HSE : Hid (∀ (W : World) (b m : Nat), Row W g 65 (rdC T b m) → b ≤ T.length → Calls Tryd.prog 48 #[.pointer (some ⟨g, 0, none⟩), .string { data := #[99, 101, 108, 108] }] W fun e w' => e = .returned (.bool (sees (T.drop b) wCell)) ∧ Dr W w') := fun W b m h1 h2 => r21see_any g T wCell b m W h1 h2 (by omega) (by decide)
  have HON : Hid (∀ (W : World) (l : List By), l.length ≤ 2000000 → Calls Tryd.prog 49 #[.string (strOf l)] W (OneP W.heap.size W l)) := fun W l h1 => r21one_any l h1 W
  have HVN : Hid (values? [] wPage = none) := by show _ = _; decide
  have HP0 : Hid (lineOf (T.drop a) = none → pageP C p (T.drop a) ln = .error (ln + 1)) := fun h => by show _ = _; unfold pageP; rw [h]
  have HP1 : Hid (∀ l r, lineOf (T.drop a) = some (l, r) → values? l wPage = none → pageP C p (T.drop a) ln = .error (ln + 1)) := fun l r h h1 => by show _ = _; unfold pageP; rw [h]; simp only [h1]
  have HP2 : Hid (∀ l r L, lineOf (T.drop a) = some (l, r) → values? l wPage = some L → ¬ L.length = 2 → pageP C p (T.drop a) ln = .error (ln + 1)) := fun l r L h h1 h2 => by
    show _ = _; unfold pageP; rw [h]; simp only [h1]
    match L, h2 with
    | [], _ => rfl
    | [_], _ => rfl
    | [_, _], h => exact absurd rfl h
    | _ :: _ :: _ :: _, _ => rfl
  have HP3 : Hid (∀ l r q en, lineOf (T.drop a) = some (l, r) → values? l wPage = some [q, en] → ¬ q = p → pageP C p (T.drop a) ln = .error (ln + 1)) := fun l r q en h h1 h2 => by
    show _ = _; unfold pageP; rw [h]; simp only [h1]; rw [if_neg h2]
  have HP4 : Hid (∀ l a' en, lineOf (T.drop a) = some (l, T.drop a') → values? l wPage = some [p, en] → ∃ R, Left C T a' (ln + 1) (-1) (List.replicate C blk) R ∧ (∀ gs r2 ln2, R = .ok (gs, r2, ln2) → pageP C p (T.drop a) ln = .ok (gs, en, r2, ln2)) ∧ ∀ k, R = .error k → pageP C p (T.drop a) ln = .error k) := fun l a' en h h1 => by
    refine ⟨_, ⟨_, Nat.le_refl _, rfl⟩, fun gs r2 ln2 h3 => ?_, fun k h3 => ?_⟩
    · unfold pageP; rw [h]; simp only [h1]; rw [if_pos trivial, List.length_drop, h3]
    · unfold pageP; rw [h]; simp only [h1]; rw [if_pos trivial, List.length_drop, h3]
  generalize hPG : pageP C p (T.drop a) ln = PG at *
  have HPG : Hid (pageP C p (T.drop a) ln = PG) := hPG
  clear hPG hC
  generalize c.vals = CV at *
  have HRC0 : Hid (Row (w.alloc (.cells CV.toArray 24)) w.heap.size 24 CV) := rc
  have HR0 : Hid (Row (w.alloc (.cells CV.toArray 24)) g 65 (rdC T a ln)) := r0
  have HK0 : Hid (KeptL [g] w (w.alloc (.cells CV.toArray 24))) := b0
  have HZ0 : Hid (w.heap.size < (w.alloc (.cells CV.toArray 24)).heap.size) := by show _ < _; simp
  clear rc r0 b0 hr
  go_enter Tryd.func33, Tryd.ntmps33
  go_wp2_with fail
  generalize hW0 : w.alloc (.cells CV.toArray 24) = W0 at *
  clear hW0
  refine (HNX.out _ a ln HR0.out ha (by omega)).mono ?_
  rintro e w1 (⟨l, a1, hl, ha1, haa, rfl, hr1, hk1⟩ | ⟨hl, rfl, hr1, hk1⟩)
  · have HL : Hid (lineOf (T.drop a) = some (l, T.drop a1)) := hl
    have HLL : Hid (l.length ≤ 2000000) := by have := line_le hl; show _ ≤ _; omega
    have HR1 : Hid (Row w1 g 65 (rdC T a1 (ln + 1))) := hr1
    have HC1 : Hid (Row w1 w.heap.size 24 CV) := hk1.row HRC0.out (by simp; omega)
    have HK1 : Hid (KeptL [g] w w1) := HK0.out.trans hk1
    have HZ1 : Hid (w.heap.size < w1.heap.size) := by have := HZ0.out; have := hk1.size; show _ < _; omega
    clear hl hr1 hk1 HR0 HRC0 HK0 HZ0
    dsimp only
    go_wp2_with fail
    refine (HVS.out _ l HLL.out).mono ?_
    rintro e w2 ⟨hv, hb2⟩
    have HR2 : Hid (Row w2 g 65 (rdC T a1 (ln + 1))) := HR1.out.below hb2 HR1.out.lt
    have HC2 : Hid (Row w2 w.heap.size 24 CV) := HC1.out.below hb2 HC1.out.lt
    have HK2 : Hid (KeptL [g] w w2) := HK1.out.below hb2 HK1.out.size
    have HZ2 : Hid (w.heap.size < w2.heap.size) := by have := HZ1.out; have := hb2.size; show _ < _; omega
    rcases hv with ⟨v, L, hvs, rfl, ho⟩ | ⟨hvs, rfl⟩
    · obtain ⟨ao, cv, hve⟩ := ho.form
      subst hve
      have HOL : Hid (OwnE 3 w1.heap.size w2 (.slice ao (L.map nI).length cv) (L.map nI)) := ho
      rw [List.length_map] at HOL ⊢
      have hLb := values_len hvs
      have hLL := HLL.out
      clear hb2 ho HR1 HC1 HK1
      dsimp only
      by_cases h2 : L.length = 2
      · obtain ⟨q, en, rfl⟩ : ∃ q en, L = [q, en] := by
          match L, h2 with
          | [q, en], _ => exact ⟨q, en, rfl⟩
        have hen : en ≤ 2147483647 := values_le hvs en (by simp)
        have hqq : q ≤ 2147483647 := values_le hvs q (by simp)
        obtain ⟨gl, c', e', hg, hgl2, k0⟩ := HOL.out.at 0 (.int .i64 (q : Int)) rfl
        injection e' with e1 _ _
        subst e1
        obtain ⟨g2, c2, e2, _, _, k1⟩ := HOL.out.at 1 (.int .i64 (en : Int)) rfl
        injection e2 with e2 _ _
        injection e2 with e2
        injection e2 with e2 _
        subst e2
        have HGL : Hid (gl < w2.heap.size ∧ gl ≠ g) := ⟨hgl2, by have := HZ1.out; omega⟩
        clear HOL h2 hLb hLL hg hgl2
        by_cases hq : q = p
        · subst hq
          obtain ⟨R, HLF, HR8, HR9⟩ := HP4.out l a1 en HL.out hvs
          have HLF0 : Hid (Left C T a1 (ln + 1) (-1) (List.replicate C blk) R) := HLF
          have HRO : Hid (∀ gs r2 ln2, R = .ok (gs, r2, ln2) → PG = .ok (gs, en, r2, ln2)) := HR8
          have HRE : Hid (∀ k, R = .error k → PG = .error k) := HR9
          have nq : ((q : Int) != (q : Int)) = false := by simp
          have HKL : Hid (w2.cell? ⟨gl, 1, none⟩ = some (.int .i64 (en : Int))) := k1
          have HO0 : Hid (OwnC w2.heap.size (w2.alloc (.cells #[] 56)) (.slice (some ⟨w2.heap.size, 0, none⟩) 0 0) (List.replicate 0 blk)) := ownC_empty w2.heap.size w2 (Nat.le_refl _)
          have HB0 : Hid (Below w2.heap.size w2 (w2.alloc (.cells #[] 56))) := (Below.refl _ _).alloc (Nat.le_refl _) _
          clear HLF HR8 HR9 HP0 HP1 HP2 HP3 HP4 hvs HL HLL HVN k1
          have HGC : Hid (w.heap.size < w2.heap.size) := HZ2.out
          go_wp2_with fail
          go_loopw [13, 14] (fun cv iv wr => ∃ i : Nat, i ≤ C ∧ iv = .int .i64 i ∧ Hid (OwnC w2.heap.size wr cv (List.replicate i blk)) ∧ Hid (Below w2.heap.size w2 wr)) (fun _ iv _ => C - (intOf iv).toNat)
          case atStart => exact ⟨0, by omega, rfl, HO0, HB0⟩
          case round =>
            clear HO0 HB0
            obtain ⟨i, hi, rfl, HO, HB⟩ := hrel
            have cc : wr.cell? ⟨w.heap.size, 0, none⟩ = some (.int .i64 (C : Int)) := (HC2.out.below HB.out HGC.out).cell 0 _ hcv
            by_cases hlt : i < C
            · have y0 : (0 : Int) ≤ (i : Int) := by omega
              have y1 : (i : Int) < (C : Int) := by omega
              have r5 : Row (wr.alloc (.cells ((List.replicate 32 (0 : By)).map B8).toArray 56)) wr.heap.size 56 ((List.replicate 32 (0 : By)).map B8) := Row.at wr _ _ _ _ rfl rfl
              go_wp2_with (refine wpList_store_Row rfl 56 _ _ rfl wr.heap.size 56 0 _ ((List.replicate 32 (0 : By)).map B8) r5 (by simp) rfl rfl (by kernel_rfl) (B8_one _) ?_; intro w4 hr4 hs4)
              have hN : w2.heap.size ≤ wr.heap.size := HB.out.size
              have HX0 : Hid (Row w4 wr.heap.size 56 ((List.replicate 0 (255#8 : By) ++ List.replicate (32 - 0) 0).map B8)) := row_whole hr4 (by simp)
              have HB4 : Hid (Below wr.heap.size wr w4) := hs4.below ((Below.refl _ _).alloc (Nat.le_refl _) _) (Nat.le_refl _)
              clear r5 hr4 hs4 cc
              obtain ⟨wo, hwo⟩ : ∃ wo, wo = wr := ⟨wr, rfl⟩
              subst hwo
              go_loopw [16] (fun kv wr => ∃ k : Nat, k ≤ 32 ∧ kv = .int .i64 k ∧ Hid (Row wr wo.heap.size 56 ((List.replicate k (255#8 : By) ++ List.replicate (32 - k) 0).map B8)) ∧ Hid (Below wo.heap.size wo wr)) (fun kv _ => 32 - (intOf kv).toNat)
              case atStart => exact ⟨0, by omega, rfl, HX0, HB4⟩
              case round =>
                clear HX0 HB4
                obtain ⟨k, hk, rfl, HX, HBx⟩ := hrel
                by_cases hk32 : k < 32
                · have z0 : (0 : Int) ≤ (k : Int) := by omega
                  have z1 : (k : Int) < 32 := by omega
                  have hl32 : (List.replicate k (255#8 : By) ++ List.replicate (32 - k) 0).length = 32 := by simp; omega
                  obtain ⟨v0, ck⟩ : ∃ v, wr.cell? ⟨wo.heap.size, k, none⟩ = some v := ⟨_, HX.out.cell k _ (List.getElem?_eq_getElem (by rw [List.length_map, hl32]; exact hk32))⟩
                  have fk := HX.out.frozen k
                  have r3 := HX.out.set k (.int .u8 255)
                  rw [map_set_255, blank_set k hk32] at r3
                  have HR : Hid (Row (wr.setCell ⟨wo.heap.size, k, none⟩ (.int .u8 255)) wo.heap.size 56 ((List.replicate (k + 1) (255#8 : By) ++ List.replicate (32 - (k + 1)) 0).map B8)) := r3
                  have HBy : Hid (Below wo.heap.size wo (wr.setCell ⟨wo.heap.size, k, none⟩ (.int .u8 255))) := (SameBut.setCell wo.heap.size k (.int .u8 255) wr).below HBx.out (Nat.le_refl _)
                  clear r3 hl32 HX HBx
                  go_wp2
                  exact ⟨⟨k + 1, by omega, by go_num, HR, HBy⟩, by simp [intOf]; omega⟩
                · obtain rfl : k = 32 := by omega
                  have z1 : ¬ ((32 : Nat) : Int) < 32 := by omega
                  have rX : Row wr wo.heap.size 56 (blk.map B8) := by simpa using HX.out
                  have hbl : blk.length = 32 := by simp
                  have HOx : Hid (OwnC w2.heap.size wr u13 (List.replicate i blk)) := HO.out.keep HBx.out
                  have HBz : Hid (Below w2.heap.size w2 wr) := HB.out.trans (HBx.out.mono hN)
                  have lmb : (blk.map B8).length = 32 := by simp
                  have hri : (List.replicate i blk).length ≤ 100000 := by simp; omega
                  have wi : IntKind.i64.wrap ((i : Int) + 1) = (i : Int) + 1 := i64_in _ (by omega) (by omega)
                  clear HX HBx hk32 hk HO HB
                  obtain ⟨BK, hBK⟩ : ∃ BK, BK = blk := ⟨_, rfl⟩
                  have HBK : Hid (BK = blk) := hBK
                  rw [← hBK] at rX hbl HOx lmb hri
                  clear hBK
                  go_wp2_with (first | (refine wpList_load_Row rfl 56 _ rfl _ _ (BK.map B8) rX rfl _ Tryd.underlying56 rfl (by rw [lmb]; kernel_rfl) ?_) | (refine wpList_buildC rfl _ rfl (BK.map B8) lmb rfl ?_) | (at_builtin; refine wpList_appC rfl (.tmp 63) (.tmp 65) rfl w2.heap.size w2 _ (List.replicate i BK) BK hbl _ rfl rfl rfl HOx.out HBz.out hri ?_; intro ao6 c6 w6 ho6 hb6))
                  refine ⟨⟨i + 1, by omega, by go_num, ?_, hb6⟩, by simp [intOf]; omega⟩
                  rw [List.replicate_succ']
                  rw [HBK.out, List.length_replicate] at ho6
                  exact ho6
            · obtain rfl : i = C := by omega
              have y1 : ¬ (i : Int) < (i : Int) := by omega
              obtain ⟨wo, hwo⟩ : ∃ wo, wo = wr := ⟨wr, rfl⟩
              subst hwo
              obtain ⟨cz, ccz, hcz⟩ := HO.out.form
              subst hcz
              rw [List.length_replicate] at HO ⊢
              have HR3 : Hid (Row wo g 65 (rdC T a1 (ln + 1))) := HR2.out.below HB.out HR2.out.lt
              have HK3 : Hid (KeptL [g] w2 wo) := (KeptL.refl _ _).below HB.out (Nat.le_refl _)
              have HGN : Hid (g < w2.heap.size ∧ g ≠ w.heap.size) := ⟨HR2.out.lt, by omega⟩
              clear HB hlt hi
              go_wp2_with fail
              clear cc
              go_loopw [17] (fun lv wr => ∃ (b m : Nat) (last : Int) (gs : List (List By)), a1 ≤ b ∧ b ≤ T.length ∧ m ≤ b ∧ lv = .int .i64 last ∧ -1 ≤ last ∧ last < (i : Int) ∧ gs.length = i ∧ Hid (Left i T b m last gs R) ∧ Hid (OwnC w2.heap.size wr (.slice cz i ccz) gs) ∧ Hid (Row wr g 65 (rdC T b m)) ∧ Hid (KeptL [g] w2 wr)) (fun _ wr => T.length - atOf g wr)
              case atStart => exact ⟨a1, ln + 1, -1, List.replicate i blk, Nat.le_refl _, ha1, by omega, rfl, by omega, by omega, by simp, HLF0, HO, HR3, HK3⟩
              case round =>
                clear HO HR3 HK3 HLF0
                obtain ⟨b, m, last, gs, hb1, hbT, hmb, rfl, hla1, hla2, hgs, HLF, HO, HRR, HKK⟩ := hrel
                have hat := atOf_row HRR.out
                go_wp2_with fail
                refine (HSE.out wr b m HRR.out hbT).mono ?_
                rintro e w3 ⟨rfl, hd3⟩
                dsimp only
                have HR3 : Hid (Row w3 g 65 (rdC T b m)) := HRR.out.dr hd3
                have HK3 : Hid (KeptL [g] w2 w3) := HKK.out.dr hd3
                have HO3 : Hid (OwnC w2.heap.size w3 (.slice cz i ccz) gs) := HO.out.keep (Below_dr (Below.refl _ _) hd3)
                cases hse : sees (T.drop b) wCell with
                | false =>
                  have HPK : Hid (PG = .ok (gs, en, T.drop b, m)) := HRO.out _ _ _ (HLF.out.done hse)
                  have k1 : w3.cell? ⟨gl, 1, none⟩ = some (.int .i64 (en : Int)) := (World.cell?_of_block (HK3.out.block gl HGL.out.1 (by simp; exact HGL.out.2))).trans HKL.out
                  clear HLF HO HRR HKK hd3
                  go_wp2
                  go_quiet (fail)
                  go_wp2
                  go_ret3
                  exact .inl ⟨_, gs, en, b, m, by rw [HPG.out, HPK.out], hbT, hmb, by omega, hgs, hen, rfl, (HO3.out.keep (Below_dr (Below.refl _ _) ⟨nq, rfl⟩)).mono HK2.out.size, HR3.out.dr ⟨nq, rfl⟩, HK2.out.trans (HK3.out.dr ⟨nq, rfl⟩)⟩
                | true =>
                  clear HO HRR HKK hd3
                  go_wp2_with fail
                  refine (HNX.out _ b m HR3.out hbT (by omega)).mono ?_
                  rintro e w4 (⟨l2, a2, hl2, ha2, haa2, rfl, hr4, hk4⟩ | ⟨hl2, rfl, hr4, hk4⟩)
                  · have HL2 : Hid (lineOf (T.drop b) = some (l2, T.drop a2)) := hl2
                    have hl2b : l2.length ≤ 2000000 := by have := line_le hl2; omega
                    have HR4 : Hid (Row w4 g 65 (rdC T a2 (m + 1))) := hr4
                    have HK4 : Hid (KeptL [g] w2 w4) := HK3.out.trans hk4
                    have HO4 : Hid (OwnC w2.heap.size w4 (.slice cz i ccz) gs) := HO3.out.kept hk4 (fun x hx => by rw [List.mem_singleton.1 hx]; exact HGN.out.1)
                    clear hl2 hr4 hk4 HR3 HK3 HO3
                    dsimp only
                    go_wp2_with fail
                    refine (HON.out _ l2 hl2b).mono ?_
                    rintro e w5 ⟨⟨n, x, ok, rfl, hx, hok, hno⟩, hb5⟩
                    have HR5 : Hid (Row w5 g 65 (rdC T a2 (m + 1))) := HR4.out.below hb5 HR4.out.lt
                    have HK5 : Hid (KeptL [g] w2 w5) := HK4.out.below hb5 HK4.out.size
                    have HO5 : Hid (OwnC w2.heap.size w5 (.slice cz i ccz) gs) := HO4.out.keep hb5
                    clear hb5 HR4 HK4 HO4
                    dsimp only
                    have r5 : Row (w5.alloc (.cells ((List.replicate 32 (0 : By)).map B8).toArray 56)) w5.heap.size 56 ((List.replicate 32 (0 : By)).map B8) := Row.at w5 _ _ _ _ rfl rfl
                    have lmx : (x.map B8).length = 32 := by rw [List.length_map, hx]
                    have one1 : ∀ v ∈ x.map B8, Value.oneCell' v = true := B8_one _
                    have HXB : Hid (x.length = 32) := hx
                    cases ok with
                    | false =>
                      have HF : Hid (PG = .error (m + 1)) := HRE.out _ (HLF.out.bad hse hbT HL2.out (hno rfl))
                      clear hok hno HLF HL2
                      generalize x.map B8 = XB at *
                      go_wp2_with (refine wpList_store_Row rfl 56 _ _ rfl w5.heap.size 56 0 _ XB r5 (by rw [lmx]; simp) rfl rfl (by rw [lmx]; kernel_rfl) one1 ?_; intro w6 hr6 hs6)
                      go_ret3
                      have hb6 : Below w5.heap.size w5 w6 := hs6.below ((Below.refl _ _).alloc (Nat.le_refl _) _) (Nat.le_refl _)
                      exact .inr ⟨m + 1, a2, by rw [HPG.out, HF.out], rfl, HR5.out.below hb6 HR5.out.lt, HK2.out.trans (HK5.out.below hb6 HK5.out.size)⟩
                    | true =>
                      obtain ⟨n', rfl, ho1⟩ := hok rfl
                      clear hok hno
                      by_cases hn1 : (n' : Int) ≤ last
                      · have HF : Hid (PG = .error (m + 1)) := HRE.out _ (HLF.out.out hse hbT HL2.out ho1 (.inl hn1))
                        clear HLF HL2 ho1
                        generalize x.map B8 = XB at *
                        go_wp2_with (refine wpList_store_Row rfl 56 _ _ rfl w5.heap.size 56 0 _ XB r5 (by rw [lmx]; simp) rfl rfl (by rw [lmx]; kernel_rfl) one1 ?_; intro w6 hr6 hs6)
                        go_ret3
                        have hb6 : Below w5.heap.size w5 w6 := hs6.below ((Below.refl _ _).alloc (Nat.le_refl _) _) (Nat.le_refl _)
                        exact .inr ⟨m + 1, a2, by rw [HPG.out, HF.out], rfl, HR5.out.below hb6 HR5.out.lt, HK2.out.trans (HK5.out.below hb6 HK5.out.size)⟩
                      · by_cases hn2 : i ≤ n'
                        · have HF : Hid (PG = .error (m + 1)) := HRE.out _ (HLF.out.out hse hbT HL2.out ho1 (.inr hn2))
                          have HCC : Hid (∀ W, Below w5.heap.size w5 W → W.cell? ⟨w.heap.size, 0, none⟩ = some (.int .i64 (i : Int))) := fun W hW => ((HK5.out.row HC2.out (by simp; exact fun h => HGN.out.2 h.symm)).below hW (by have := HK5.out.size; have := HGC.out; omega)).cell 0 _ hcv
                          clear HLF HL2 ho1
                          generalize x.map B8 = XB at *
                          go_wp2_with (refine wpList_store_Row rfl 56 _ _ rfl w5.heap.size 56 0 _ XB r5 (by rw [lmx]; simp) rfl rfl (by rw [lmx]; kernel_rfl) one1 ?_; intro w6 hr6 hs6; have hb6 : Below w5.heap.size w5 w6 := hs6.below ((Below.refl _ _).alloc (Nat.le_refl _) _) (Nat.le_refl _); have cc6 := HCC.out _ hb6)
                          go_ret3
                          exact .inr ⟨m + 1, a2, by rw [HPG.out, HF.out], rfl, HR5.out.below hb6 HR5.out.lt, HK2.out.trans (HK5.out.below hb6 HK5.out.size)⟩
                        · have hn3 : n' < i := by omega
                          have HLN : Hid (Left i T a2 (m + 1) n' (gs.set n' x) R) := HLF.out.step hse hbT haa2 HL2.out ho1 (by omega)
                          have HCC : Hid (∀ W, Below w5.heap.size w5 W → W.cell? ⟨w.heap.size, 0, none⟩ = some (.int .i64 (i : Int))) := fun W hW => ((HK5.out.row HC2.out (by simp; exact fun h => HGN.out.2 h.symm)).below hW (by have := HK5.out.size; have := HGC.out; omega)).cell 0 _ hcv
                          obtain ⟨G, cG, cs, hve, hNG, hrG, hcG, hmG, hlG, htG⟩ := HO5.out.row (by omega)
                          rw [hgs] at hve
                          injection hve with hve1 _ hve2
                          subst hve1
                          subst hve2
                          have HGL5 : Hid (G < w5.heap.size) := hrG.lt
                          have HST : Hid (∀ W, Row W G 56 (cs.take (n' * 32) ++ x.map B8 ++ cs.drop (n' * 32 + (x.map B8).length)) → OwnC w2.heap.size W (.slice (some ⟨G, 0, none⟩) i ccz) (gs.set n' x)) := fun W hW => by
                            have := OwnC.store HO5.out.2.2 hNG hcG hmG hlG htG (by rw [hgs]; exact hn3) HXB.out hW
                            rw [hgs] at this
                            exact this
                          have HRG : Hid (∀ W, Below w5.heap.size w5 W → Row W G 56 cs) := fun W hW => hrG.below hW hrG.lt
                          have hsl : n' * 32 + 32 ≤ cs.length := by rw [hlG]; rw [hgs] at hcG; omega
                          have HNG : Hid (w2.heap.size ≤ G) := hNG
                          have z0 : (0 : Int) ≤ (n' : Int) := by omega
                          have z1 : (n' : Int) < (i : Int) := by omega
                          have z2 : ¬ (n' : Int) ≥ (i : Int) := by omega
                          have HGS : Hid (gs.length = i) := hgs
                          clear HLF HL2 ho1 htG hmG hlG hcG hrG HO5 hNG hgs
                          obtain ⟨XB, hXB⟩ : ∃ XB, XB = x.map B8 := ⟨_, rfl⟩
                          rw [← hXB] at lmx one1 HST ⊢
                          clear hXB
                          go_wp2_with (first | (refine wpList_store_Row rfl 56 _ _ rfl w5.heap.size 56 0 _ XB r5 (by rw [lmx]; simp) rfl rfl (by rw [lmx]; kernel_rfl) one1 ?_; intro w6 hr6 hs6; have hb6 : Below w5.heap.size w5 w6 := hs6.below ((Below.refl _ _).alloc (Nat.le_refl _) _) (Nat.le_refl _); have cc6 := HCC.out _ hb6; have rG6 := HRG.out _ hb6; have rX6 := row_whole hr6 (by rw [lmx]; simp)) | (refine wpList_load_Row rfl 56 _ rfl _ _ XB rX6 rfl _ Tryd.underlying56 rfl (by rw [lmx]; kernel_rfl) ?_) | (refine wpList_store_Row rfl 56 _ _ rfl G 56 (n' * 32) cs XB rG6 (by rw [lmx]; exact hsl) rfl rfl (by rw [lmx]; kernel_rfl) one1 ?_; intro w7 hr7 hs7))
                          have h67 : KeptL [g] w2 w7 := (HK5.out.below hb6 HK5.out.size).but hs7 (.inr HNG.out)
                          have hgG : g ≠ G := fun h => by have := HGN.out.1; have := HNG.out; omega
                          have hr8 : Row w7 g 65 (rdC T a2 (m + 1)) := (HR5.out.below hb6 HR5.out.lt).but hs7 hgG
                          refine ⟨⟨a2, m + 1, n', gs.set n' x, by omega, ha2, by omega, rfl, by omega, by omega, by rw [List.length_set]; exact HGS.out, HLN, HST.out _ hr7, hr8, h67⟩, ?_⟩
                          rw [atOf_row hr8, hat]
                          omega
                  · have HF : Hid (PG = .error (m + 1)) := HRE.out _ (HLF.out.noLine hse hbT hl2)
                    have HR4 : Hid (Row w4 g 65 (rdC T b (m + 1))) := hr4
                    have HK4 : Hid (KeptL [g] w2 w4) := HK3.out.trans hk4
                    clear hl2 hr4 hk4 HR3 HK3 HO3 HLF
                    dsimp only
                    go_wp2_with fail
                    refine (HON.out _ [] (by simp)).mono ?_
                    rintro e w5 ⟨⟨n, x, ok, rfl, hx, hok, hno⟩, hb5⟩
                    have HR5 : Hid (Row w5 g 65 (rdC T b (m + 1))) := HR4.out.below hb5 HR4.out.lt
                    have HK5 : Hid (KeptL [g] w2 w5) := HK4.out.below hb5 HK4.out.size
                    clear hb5 HR4 HK4 hok hno
                    dsimp only
                    have r5 : Row (w5.alloc (.cells ((List.replicate 32 (0 : By)).map B8).toArray 56)) w5.heap.size 56 ((List.replicate 32 (0 : By)).map B8) := Row.at w5 _ _ _ _ rfl rfl
                    have lmx : (x.map B8).length = 32 := by rw [List.length_map, hx]
                    have one1 : ∀ v ∈ x.map B8, Value.oneCell' v = true := B8_one _
                    generalize x.map B8 = XB at *
                    go_wp2_with (refine wpList_store_Row rfl 56 _ _ rfl w5.heap.size 56 0 _ XB r5 (by rw [lmx]; simp) rfl rfl (by rw [lmx]; kernel_rfl) one1 ?_; intro w6 hr6 hs6)
                    go_ret3
                    have hb6 : Below w5.heap.size w5 w6 := hs6.below ((Below.refl _ _).alloc (Nat.le_refl _) _) (Nat.le_refl _)
                    exact .inr ⟨m + 1, b, by rw [HPG.out, HF.out], rfl, HR5.out.below hb6 HR5.out.lt, HK2.out.trans (HK5.out.below hb6 HK5.out.size)⟩
        · have nq : ((q : Int) != (p : Int)) = true := by rw [bne_iff_ne]; omega
          have HF := HP3.out l _ q en HL.out hvs hq
          have HFH : Hid (PG = .error (ln + 1)) := HF
          clear HF HP0 HP1 HP2 HP3 HP4 hvs HL HLL HVN k1
          go_wp2
          go_ret3
          exact .inr ⟨ln + 1, a1, by rw [HPG.out, HFH.out], rfl, HR2.out, HK2.out⟩
      · have e2 : ((L.length : Int) != 2) = true := by rw [bne_iff_ne]; omega
        have HF := HP2.out l _ L HL.out hvs h2
        have HFH : Hid (PG = .error (ln + 1)) := HF
        clear HF HP0 HP1 HP2 HP3 HP4 hvs h2 HL HLL HVN HOL
        generalize L.length = n at *
        go_wp2
        go_ret3
        exact .inr ⟨ln + 1, a1, by rw [HPG.out, HFH.out], rfl, HR2.out, HK2.out⟩
    · have HF := HP1.out l _ HL.out hvs
      have HFH : Hid (PG = .error (ln + 1)) := HF
      clear HF HP0 HP1 HP2 HP3 HP4 hvs hb2 HR1 HC1 HK1 HL HLL HZ1 HVN
      dsimp only
      go_wp2
      go_ret3
      exact .inr ⟨ln + 1, a1, by rw [HPG.out, HFH.out], rfl, HR2.out, HK2.out⟩
  · have HF := HP0.out hl
    have HFH : Hid (PG = .error (ln + 1)) := HF
    have HR1 : Hid (Row w1 g 65 (rdC T a (ln + 1))) := hr1
    have HK1 : Hid (KeptL [g] w w1) := HK0.out.trans hk1
    clear HF HP0 HP1 HP2 HP3 HP4 hl hr1 hk1 HR0 HRC0 HK0
    dsimp only
    go_wp2_with fail
    refine (HVS.out _ [] (by simp)).mono ?_
    rintro e w2 ⟨hv, hb2⟩
    have HR2 : Hid (Row w2 g 65 (rdC T a (ln + 1))) := HR1.out.below hb2 HR1.out.lt
    have HK2 : Hid (KeptL [g] w w2) := HK1.out.below hb2 HK1.out.size
    rcases hv with ⟨v, L, hvs, rfl, ho⟩ | ⟨hvs, rfl⟩
    · rw [HVN.out] at hvs
      cases hvs
    · clear hvs hb2 HR1 HK1 HVN
      dsimp only
      go_wp2
      go_ret3
      exact .inr ⟨ln + 1, a, by rw [HPG.out, HFH.out], rfl, HR2.out, HK2.out⟩
end Go.Proofs.YtgpnbiaghokjkaaDoor
