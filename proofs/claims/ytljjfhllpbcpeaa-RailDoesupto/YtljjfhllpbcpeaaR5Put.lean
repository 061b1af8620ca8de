import Derived.Test.YtljjfhllpbcpeaaR5Below
import Derived.Laws.MakeOwn
import Derived.Laws.CopyOwn
/-! rail.Put. -/
namespace Go.Proofs.Ytljjfhllpbcpeaa
open Go.RowKit

theorem made_bytes (n : Nat) : madeCells (Value.int .u8 0).cells n = ((List.replicate n (0 : By)).map B8).toArray := by
  unfold madeCells
  apply Array.ext
  · simp
  · intro i h1 h2
    simp [Value.cells, B8, Nat.mod_one]

theorem run_make_bytes (n : Nat) (hb : n ≤ 281474976710656) (w : World) :
    (Instr.makeSlice 23 (.int .i64 (n : Int)) (.int .i64 (n : Int))).run Try.prog w = .ok (.slice (some ⟨w.heap.size, 0, none⟩) n n) (w.alloc (.cells ((List.replicate n (0 : By)).map B8).toArray 5)) := by
  obtain ⟨i0, hi, hz1, hz2, hz3⟩ := info_parts Try.infoU8
  have hr := run_make (P := Try.prog) w 23 5 i0 (.int .u8 0) Try.underlying23 hi hz1 .i64 .i64 (n : Int) (n : Int) (by omega) (Int.le_refl _) (by rw [hz3]; omega) (by omega)
  rw [hz2, Int.toNat_natCast, Nat.mul_one, made_bytes] at hr
  exact hr

theorem wpList_make_bytes {ops : Array Oper} {rest : List Oper} {o : Oper} {a : Act} {w : World} {Q : Exit → Act → World → Prop} (hgd : o.guard = none) (x : Operand) (ho : o.op = .makeSlice 23 x x)
    (n : Nat) (N : Int) (hN : N = (n : Int)) (hx : a.eval x = .int .i64 N) (hb : n ≤ 281474976710656)
    (h : ∀ w', Row w' w.heap.size 5 ((List.replicate n (0 : By)).map B8) → Below w.heap.size w w' → w'.heap.size = w.heap.size + 1 → wpList Try.prog ops Q rest (a.put o.dst (.slice (some ⟨w.heap.size, 0, none⟩) n n)) w') : wpList Try.prog ops Q (o :: rest) a w := by
  refine wpList_plain hgd fun K hK => ?_
  subst hN
  unfold Oper.wp execOp
  simp only [ho, hx, run_make_bytes n hb w, Sem.run_bind, Result.andThen_ok, Sem.run_pure]
  exact hK _ _ (h _ (Row.new w _ _) ((Below.refl _ _).alloc (Nat.le_refl _) _) (by simp))

/-- What stands there behind p rounds. -/
def putTo (bs : List By) : Nat → List By
  | 0 => List.replicate (2 * bs.length) 0
  | p + 1 => ((putTo bs p).set p (bs.getD p 0)).set (bs.length + p) (~~~ bs.getD p 0)
theorem putTo_len (bs : List By) : ∀ p, (putTo bs p).length = 2 * bs.length
  | 0 => by simp [putTo]
  | p + 1 => by simp [putTo, putTo_len bs p]
theorem getD_set (l : List By) (i j : Nat) (x : By) : (l.set i x).getD j 0 = if i = j ∧ i < l.length then x else l.getD j 0 := by
  simp only [List.getD_eq_getElem?_getD, List.getElem?_set]
  by_cases h : i = j
  · subst h
    by_cases h2 : i < l.length
    · simp [h2]
    · simp [h2]
  · simp [h]
theorem putTo_at (bs : List By) : ∀ p, p ≤ bs.length → ∀ i, i < bs.length → (i < p → (putTo bs p).getD i 0 = bs.getD i 0 ∧ (putTo bs p).getD (bs.length + i) 0 = ~~~ bs.getD i 0)
  | 0, _, i, _ => fun h => by omega
  | p + 1, hp, i, hi => fun h => by
    rw [putTo, getD_set, getD_set, getD_set, getD_set]
    simp only [List.length_set, putTo_len]
    by_cases hip : i = p
    · subst hip
      rw [if_neg (by omega), if_pos (by omega), if_pos (by omega)]
      exact ⟨rfl, rfl⟩
    · have ih := putTo_at bs p (by omega) i hi (by omega)
      rw [if_neg (by omega), if_neg (by omega), if_neg (by omega), if_neg (by omega)]
      exact ih
theorem putTo_all (bs : List By) : putTo bs bs.length = rail bs := by
  refine ext_getD (by rw [putTo_len, rail_len]) fun i hi => ?_
  rw [putTo_len] at hi
  by_cases h : i < bs.length
  · rw [(putTo_at bs _ (Nat.le_refl _) i h h).1, rail_lo bs i h]
  · have e : i = bs.length + (i - bs.length) := by omega
    rw [e, (putTo_at bs _ (Nat.le_refl _) (i - bs.length) (by omega) (by omega)).2, rail_hi bs _ (by omega)]

theorem SameBut.drewN {g : Nat} {a w : World} (h : SameBut g a w) (n : Nat) : SameBut g a (w.drewN n) := ⟨h.os, h.tape, h.output, h.size, h.block⟩
theorem SameBut.dr {g : Nat} {a w w' : World} (h : SameBut g a w) (d : Dr w w') : SameBut g a w' := by
  obtain ⟨n, rfl⟩ := d; exact h.drewN n
theorem IsB.but {g : Nat} {w w' : World} {ao : Option Addr} {m : List By} (h : IsB w ao m) (hs : SameBut g w w') (hg : ∀ B off, ao = some ⟨B, off, none⟩ → m ≠ [] → B ≠ g) : IsB w' ao m := by
  rcases h with h | ⟨B, off, rfl, hc⟩
  · exact .inl h
  · by_cases hm : m = []
    · exact .inl hm
    refine .inr ⟨B, off, rfl, fun j v hj => ?_⟩
    have h1 := hc j v hj
    rw [← h1]
    simp only [World.cell?, hs.block B (hg B off rfl hm)]

set_option maxHeartbeats 1000000 in
set_option maxRecDepth 100000 in
theorem put_any (ao : Option Addr) (n cap : Nat) (bs : List By) (hbs : bs.length = n) (w : World) (hb : IsB w ao bs) (hl : 2 * n ≤ 281474976710656) :
    Calls Try.prog 11 #[.slice ao n cap] w fun e w' => ∃ g, e = .returned (.slice (some ⟨g, 0, none⟩) (2 * n) (2 * n)) ∧ Row w' g 5 ((rail bs).map B8) ∧ w.heap.size ≤ g ∧ Below w.heap.size w w' := by
  have HL : Hid (bs.length = n) := hbs
  have HB : Hid (IsB w ao bs) := hb
  clear hbs hb
  go_enter Try.func11, Try.ntmps11
  go_wp2_with (refine wpList_make_bytes rfl (.tmp 9) rfl (2 * n) (2 * (n : Int)) (by omega) rfl hl ?_; intro w1 r1 b1 s1)
  refine (halves_two (some ⟨w.heap.size, 0, none⟩) n (2 * n) w1 (Nat.le_refl _) hl).mono ?_
  rintro e w2 ⟨ao1, ao2, rfl, d2, hao⟩
  have HAO : Hid _ := hao
  have R2 : Hid (Row w2 w.heap.size 5 ((putTo bs 0).map B8)) := by
    show Row _ _ _ _
    rw [putTo, HL.out]; exact r1.dr d2
  have B2 : Hid (Below w.heap.size w w2) := Below_dr b1 d2
  have I2 : Hid (IsB w2 ao bs) := HB.out.below B2.out (Nat.le_refl _)
  have J2 : Hid (∀ B off, ao = some ⟨B, off, none⟩ → bs ≠ [] → B < w.heap.size) := by
    intro B off he hne
    have hlen : 0 < bs.length := by cases bs with | nil => exact absurd rfl hne | cons _ _ => simp
    obtain ⟨B', off', he', hc⟩ := HB.out.cell 0 hlen
    rw [he] at he'
    injection he' with he'
    injection he' with e1 e2
    subst e1
    exact block_lt_of_cell hc
  clear hao r1 b1 s1 d2 HB
  go_wp2
  go_loopw [18] (fun iv wr => ∃ p : Nat, p ≤ n ∧ iv = .int .i64 p ∧ Row wr w.heap.size 5 ((putTo bs p).map B8) ∧ SameBut w.heap.size w2 wr) (fun iv _ => n - (intOf iv).toNat)
  case atStart => exact ⟨0, by omega, rfl, R2.out, SameBut.refl _ _⟩
  case round =>
    obtain ⟨p, hp, rfl, rr, sb⟩ := hrel
    by_cases hlt : p < n
    · have y1 : (p : Int) < (n : Int) := by omega
      have y0 : (0 : Int) ≤ (p : Int) := by omega
      have hne : bs ≠ [] := fun h => by have := HL.out; rw [h] at this; simp at this; omega
      have ib : IsB wr ao bs := I2.out.but sb (fun B off he hm => Nat.ne_of_lt (J2.out B off he hm))
      obtain ⟨B, off, rfl, c1⟩ := ib.cell p (by rw [HL.out]; omega)
      have hB := J2.out B off rfl hne
      obtain ⟨rfl, rfl⟩ := HAO.out (by omega) w.heap.size 0 rfl
      have c2 := rr.cell p (B8 ((putTo bs p).getD p 0)) (by rw [List.getElem?_map, List.getElem?_eq_getElem (by rw [putTo_len, HL.out]; omega), getD_lt (by rw [putTo_len, HL.out]; omega)]; rfl)
      have c3 := rr.cell (n + p) (B8 ((putTo bs p).getD (n + p) 0)) (by rw [List.getElem?_map, List.getElem?_eq_getElem (by rw [putTo_len, HL.out]; omega), getD_lt (by rw [putTo_len, HL.out]; omega)]; rfl)
      have f2 := rr.frozen p
      have f3 := rr.frozen (n + p)
      have ny := not8 (bs.getD p 0)
      have NX : Hid (∀ Y, Y = ((~~~ bs.getD p 0).toNat : Int) → Row (((wr.setCell ⟨w.heap.size, p, none⟩ (.int .u8 ((bs.getD p 0).toNat : Int))).setCell ⟨w.heap.size, n + p, none⟩ (.int .u8 Y)).drew) w.heap.size 5 ((putTo bs (p + 1)).map B8)) := by
        intro Y hY
        subst hY
        rw [putTo, List.map_set, List.map_set, HL.out]
        exact ((rr.set p _).set (n + p) _).drew
      have SB : Hid (∀ v1 v2, SameBut w.heap.size w2 ((wr.setCell ⟨w.heap.size, p, none⟩ v1).setCell ⟨w.heap.size, n + p, none⟩ v2).drew) := fun v1 v2 =>
        ((sb.trans (SameBut.setCell _ p v1 _)).trans (SameBut.setCell _ (n + p) v2 _)).drewN 1
      clear rr sb ib hne
      generalize bs.getD p 0 = x at *
      have NY : Hid _ := ny
      clear ny
      go_wp2
      go_region
      go_wp2
      exact ⟨⟨p + 1, by omega, by simp, NX.out _ NY.out, SB.out _ _⟩, by simp [intOf]; omega⟩
    · have y1 : ¬ (p : Int) < (n : Int) := by omega
      obtain rfl : p = n := by omega
      go_wp2
      go_ret
      refine ⟨w.heap.size, rfl, ?_, Nat.le_refl _, sb.below B2.out (Nat.le_refl _)⟩
      rw [← putTo_all, HL.out]; exact rr
end Go.Proofs.Ytljjfhllpbcpeaa
