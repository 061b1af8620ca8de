
import Derived.Test.YthegfkcegmeklaaH16Ref4
import Derived.Test.YthegfkcegmeklaaI11Inv
import Derived.BigQuiet
/-! The reference's chain: Check, Same. (Printed by tools/gencheck16.py.) -/
namespace Go.Proofs.Ythegfkcegmeklaa
open Go.RowKit
set_option linter.unusedVariables false

/-- What Check tells. -/
def chk (key nonce : List By) (xs : List EvV) (q : List By) : Int := if 1024 < xs.length then 3 else if quot key nonce xs = q then 0 else 19
structure K3 (W1 : World) (ko : Option Addr) (kn kc : Nat) (no : Option Addr) (nb nc : Nat) (ao : Option Addr) (n cap : Nat) (QQ : List By) (QC : List Value) (r : Bool) (L : Nat → Bool) (x12 x13 x14 x15 x16 x17 : Value) (W : World) : Prop where
  x : Below W1.heap.size W1 W
  p0 : L 0 = true → x12 = .slice ko kn kc
  p1 : L 1 = true → x13 = .slice no nb nc
  p2 : L 2 = true → x14 = .slice ao n cap
  p3 : L 3 = true → x15 = .agg (QQ.map B8).toArray
  p4 : L 4 = true → x16 = .agg QC.toArray
  p5 : L 5 = true → x17 = .bool (!r)
section
variable {W1 : World} {ko : Option Addr} {kn kc : Nat} {no : Option Addr} {nb nc : Nat} {ao : Option Addr} {n cap : Nat} {QQ : List By} {QC : List Value} {r : Bool} {L : Nat → Bool} {x12 x13 x14 x15 x16 x17 : Value} {W W2 : World}
theorem K3.s0 (h : K3 W1 ko kn kc no nb nc ao n cap QQ QC r L x12 x13 x14 x15 x16 x17 W) : K3 W1 ko kn kc no nb nc ao n cap QQ QC r (upd L 0) (.slice ko kn kc) x13 x14 x15 x16 x17 W :=
  ⟨h.x, fun _ => rfl, h.p1, h.p2, h.p3, h.p4, h.p5⟩
theorem K3.s1 (h : K3 W1 ko kn kc no nb nc ao n cap QQ QC r L x12 x13 x14 x15 x16 x17 W) : K3 W1 ko kn kc no nb nc ao n cap QQ QC r (upd L 1) x12 (.slice no nb nc) x14 x15 x16 x17 W :=
  ⟨h.x, h.p0, fun _ => rfl, h.p2, h.p3, h.p4, h.p5⟩
theorem K3.s2 (h : K3 W1 ko kn kc no nb nc ao n cap QQ QC r L x12 x13 x14 x15 x16 x17 W) : K3 W1 ko kn kc no nb nc ao n cap QQ QC r (upd L 2) x12 x13 (.slice ao n cap) x15 x16 x17 W :=
  ⟨h.x, h.p0, h.p1, fun _ => rfl, h.p3, h.p4, h.p5⟩
theorem K3.s3 (h : K3 W1 ko kn kc no nb nc ao n cap QQ QC r L x12 x13 x14 x15 x16 x17 W) (hX : Below W1.heap.size W1 W2) : K3 W1 ko kn kc no nb nc ao n cap QQ QC r (upd L 3) x12 x13 x14 (.agg (QQ.map B8).toArray) x16 x17 W2 :=
  ⟨hX, h.p0, h.p1, h.p2, fun _ => rfl, h.p4, h.p5⟩
theorem K3.s4 (h : K3 W1 ko kn kc no nb nc ao n cap QQ QC r L x12 x13 x14 x15 x16 x17 W) : K3 W1 ko kn kc no nb nc ao n cap QQ QC r (upd L 4) x12 x13 x14 x15 (.agg QC.toArray) x17 W :=
  ⟨h.x, h.p0, h.p1, h.p2, h.p3, fun _ => rfl, h.p5⟩
theorem K3.s5 (h : K3 W1 ko kn kc no nb nc ao n cap QQ QC r L x12 x13 x14 x15 x16 x17 W) : K3 W1 ko kn kc no nb nc ao n cap QQ QC r (upd L 5) x12 x13 x14 x15 x16 (.bool (!r)) W :=
  ⟨h.x, h.p0, h.p1, h.p2, h.p3, h.p4, fun _ => rfl⟩
end
@[reducible] def IK3 (W1 : World) (ko : Option Addr) (kn kc : Nat) (no : Option Addr) (nb nc : Nat) (ao : Option Addr) (n cap : Nat) (QQ : List By) (QC : List Value) (r : Bool) (y0 y1 y2 y3 y4 y5 y6 y7 y8 y9 y10 y11 : Value) : (Nat → Bool) → Act → World → Prop := fun L a W => ∃ x12 x13 x14 x15 x16 x17, a = ⟨#[y0, y1, y2, y3, y4, y5, y6, y7, y8, y9, y10, y11, x12, x13, x14, x15, x16, x17], []⟩ ∧ K3 W1 ko kn kc no nb nc ao n cap QQ QC r L x12 x13 x14 x15 x16 x17 W
theorem K3.step {W1 : World} {ko : Option Addr} {kn kc : Nat} {no : Option Addr} {nb nc : Nat} {ao : Option Addr} {n cap : Nat} {QQ : List By} {QC : List Value} {r : Bool} {y0 y1 y2 y3 y4 y5 y6 y7 y8 y9 y10 y11 : Value} {P : Program} {ops : Array Oper} {Q : Exit → Act → World → Prop} {i : Nat} {o : Oper} (hq : ∀ x12 x13 x14 x15 x16 x17 (L : Nat → Bool) (W : World), K3 W1 ko kn kc no nb nc ao n cap QQ QC r L x12 x13 x14 x15 x16 x17 W → L i = false → (∀ j ∈ onesOf o, L j = true) → ∀ K : Act → World → Prop, Shut (∀ a' w', IK3 W1 ko kn kc no nb nc ao n cap QQ QC r y0 y1 y2 y3 y4 y5 y6 y7 y8 y9 y10 y11 (upd L i) a' w' → K a' w') → if Region.wanted o (yielded ops (⟨#[y0, y1, y2, y3, y4, y5, y6, y7, y8, y9, y10, y11, x12, x13, x14, x15, x16, x17], []⟩ : Act).tmps) = true then Oper.wp P o ⟨#[y0, y1, y2, y3, y4, y5, y6, y7, y8, y9, y10, y11, x12, x13, x14, x15, x16, x17], []⟩ W K Q else K ((⟨#[y0, y1, y2, y3, y4, y5, y6, y7, y8, y9, y10, y11, x12, x13, x14, x15, x16, x17], []⟩ : Act).put o.dst undef) W) : StepI P ops (IK3 W1 ko kn kc no nb nc ao n cap QQ QC r y0 y1 y2 y3 y4 y5 y6 y7 y8 y9 y10 y11) Q i o := by
  rintro L a W ⟨x12, x13, x14, x15, x16, x17, rfl, h⟩
  exact hq _ _ _ _ _ _ _ _ h
theorem K3.ends {W1 : World} {ko : Option Addr} {kn kc : Nat} {no : Option Addr} {nb nc : Nat} {ao : Option Addr} {n cap : Nat} {QQ : List By} {QC : List Value} {r : Bool} {y0 y1 y2 y3 y4 y5 y6 y7 y8 y9 y10 y11 : Value} {mm_ : Nat} {Q : Exit → Act → World → Prop} (hq : ∀ x12 x13 x14 x15 x16 x17 (L : Nat → Bool) (W : World), (∀ j, j < mm_ → L j = true) → K3 W1 ko kn kc no nb nc ao n cap QQ QC r L x12 x13 x14 x15 x16 x17 W → Q .normal ⟨#[y0, y1, y2, y3, y4, y5, y6, y7, y8, y9, y10, y11, x12, x13, x14, x15, x16, x17], []⟩ W) : ∀ L a' w', (∀ j, j < mm_ → L j = true) → IK3 W1 ko kn kc no nb nc ao n cap QQ QC r y0 y1 y2 y3 y4 y5 y6 y7 y8 y9 y10 y11 L a' w' → Q .normal a' w' := by
  rintro L a W hall ⟨x12, x13, x14, x15, x16, x17, rfl, h⟩
  exact hq _ _ _ _ _ _ _ _ hall h
set_option maxHeartbeats 1000000 in
set_option maxRecDepth 100000 in
theorem rcheck_any (w : World) (ko : Option Addr) (kn kc : Nat) (key : List By) (hkn : key.length = kn) (hki : IsB w ko key) (hkk : ko = none → kc = 0) (hkb : kn ≤ 140737488351232) (no : Option Addr) (nb nc : Nat) (nonce : List By) (hnb : nonce.length = nb) (hni : IsB w no nonce) (hnn : no = none → nc = 0) (hbig : nb ≤ 140737488351232)
    (ao : Option Addr) (n cap B off : Nat) (xs : List EvV) (hn : xs.length = n) (hn47 : n ≤ 140737488355328) (hao : 0 < n → ao = some ⟨B, off, none⟩) (hin : EvIn w B off xs) (q : List By) (hq : q.length = 32) :
    Calls Try.prog 16 #[.slice ko kn kc, .slice no nb nc, .slice ao n cap, .agg (q.map B8).toArray] w fun e w' => e = .returned (.int .i64 (chk key nonce xs q)) ∧ Below w.heap.size w w' := by
  have b0 : ∀ o1, Below w.heap.size w (w.alloc o1) := fun o1 => (Below.refl _ _).alloc (Nat.le_refl _) _
  by_cases hm : 1024 < n
  · have i1 : (1024 : Int) < (n : Int) := by omega
    have HC : Hid (chk key nonce xs q = 3) := by show _ = _; unfold chk; rw [if_pos (by omega)]
    have HB := b0 (.cells (q.map B8).toArray 32)
    clear hin hki hni b0
    go_enter Try.func16, Try.ntmps16
    go_wp2
    go_ret
    exact ⟨by rw [HC.out]; rfl, HB⟩
  have i1 : ¬ (1024 : Int) < (n : Int) := by omega
  have HC : Hid (chk key nonce xs q = if quot key nonce xs = q then 0 else 19) := by show _ = _; unfold chk; rw [if_neg (by omega)]
  obtain ⟨W1, hW1⟩ : ∃ W1, W1 = w.alloc (.cells (q.map B8).toArray 32) := ⟨_, rfl⟩
  have b1 : Below w.heap.size w W1 := by rw [hW1]; exact b0 _
  have QU : Hid (∀ W, Below W1.heap.size W1 W → Calls Try.prog 26 #[.slice ko kn kc, .slice no nb nc, .slice ao n cap] W fun e w' => e = .returned (.agg ((quot key nonce xs).map B8).toArray) ∧ Below W.heap.size W w') := fun W h =>
    have hb := b1.trans (h.mono b1.size)
    rquote_any W ko kn kc key hkn (hki.below hb (Nat.le_refl _)) hkk hkb no nb nc nonce hnb (hni.below hb (Nat.le_refl _)) hnn hbig ao n cap B off xs hn hn47 hao (hin.keep hb)
  have hql : (quot key nonce xs).length = 32 := shaLen _
  have R1 : Hid (Row W1 w.heap.size 32 (q.map B8)) := by show Row _ _ _ _; rw [hW1]; exact Row.at w _ _ _ _ rfl rfl
  have lq : (q.map B8).length = 32 := by rw [List.length_map, hq]
  obtain ⟨r, hr⟩ : ∃ r, r = decide (quot key nonce xs = q) := ⟨_, rfl⟩
  have qe := eq_any (quot key nonce xs) q hql hq r hr
  have HR : Hid (r = decide (quot key nonce xs = q)) := hr
  have HB1 : Hid (Below w.heap.size w W1) := b1
  clear hr hin hki hni b0 b1 hn hnb hkn hao
  generalize hQQ : quot key nonce xs = QQ at *
  clear hQQ
  generalize hQC : q.map B8 = QC at *
  clear hQC
  go_enter Try.func16, Try.ntmps16
  go_wp2_with fail
  rw [← hW1]
  refine wp_region_inv (IK3 W1 ko kn kc no nb nc ao n cap QQ QC r _ _ _ _ _ _ _ _ _ _ _ _) (by kernel_rfl) (by kernel_rfl) ⟨_, _, _, _, _, _, rfl, ⟨(Below.refl _ _).drew, fun k => (by cases k), fun k => (by cases k), fun k => (by cases k), fun k => (by cases k), fun k => (by cases k), fun k => (by cases k)⟩⟩ ?_ ?_
  · refine .cons ?_ (.cons ?_ (.cons ?_ (.cons ?_ (.cons ?_ (.cons ?_ .nil)))))
    all_goals (refine K3.step ?_; intro x12 x13 x14 x15 x16 x17 L W hI hL hd K hK)
    · rw [if_pos (by rfl)]
      go_simp
      exact hK.out _ _ ⟨_, _, _, _, _, _, rfl, hI.s0⟩
    · rw [if_pos (by rfl)]
      go_simp
      exact hK.out _ _ ⟨_, _, _, _, _, _, rfl, hI.s1⟩
    · rw [if_pos (by rfl)]
      go_simp
      exact hK.out _ _ ⟨_, _, _, _, _, _, rfl, hI.s2⟩
    · have hx0 := hI.p0 (hd 0 (by decide))
      subst hx0
      have hx1 := hI.p1 (hd 1 (by decide))
      subst hx1
      have hx2 := hI.p2 (hd 2 (by decide))
      subst hx2
      rw [if_pos (by rfl)]
      go_simp
      refine (QU.out _ hI.x).mono ?_
      rintro e W2 ⟨rfl, b2⟩
      go_simp
      have hX := hI.x.trans (b2.mono hI.x.size)
      exact hK.out _ _ ⟨_, _, _, _, _, _, rfl, hI.s3 hX⟩
    · refine step_load_Row rfl 32 _ rfl w.heap.size 32 QC (R1.out.below hI.x R1.out.lt) rfl _ Try.underlying32 rfl (by rw [lq]; kernel_rfl) ?_
      exact hK.out _ _ ⟨_, _, _, _, _, _, rfl, hI.s4⟩
    · have hx3 := hI.p3 (hd 3 (by decide))
      subst hx3
      have hx4 := hI.p4 (hd 4 (by decide))
      subst hx4
      rw [if_pos (by rfl)]
      go_simp
      exact hK.out _ _ ⟨_, _, _, _, _, _, rfl, hI.s5⟩
  · refine K3.ends ?_; intro x12 x13 x14 x15 x16 x17 L W hall hI
    have hx0 := hI.p0 (hall 0 (by decide))
    subst hx0
    have hx1 := hI.p1 (hall 1 (by decide))
    subst hx1
    have hx2 := hI.p2 (hall 2 (by decide))
    subst hx2
    have hx3 := hI.p3 (hall 3 (by decide))
    subst hx3
    have hx4 := hI.p4 (hall 4 (by decide))
    subst hx4
    have hx5 := hI.p5 (hall 5 (by decide))
    subst hx5
    have hXe := hI.x
    clear hI hall
    try dsimp only
    have HBF : Hid (Below w.heap.size w W) := HB1.out.trans (hXe.mono HB1.out.size)
    clear hXe qe QU R1
    cases r with
    | true =>
      have HE : Hid (chk key nonce xs q = 0) := by
        show _ = _
        rw [HC.out, if_pos (of_decide_eq_true HR.out.symm)]
      go_wp2
      go_ret
      exact ⟨by rw [HE.out]; rfl, HBF.out⟩
    | false =>
      have HE : Hid (chk key nonce xs q = 19) := by
        show _ = _
        rw [HC.out, if_neg (of_decide_eq_false HR.out.symm)]
      go_wp2
      go_ret
      exact ⟨by rw [HE.out]; rfl, HBF.out⟩

end Go.Proofs.Ythegfkcegmeklaa
