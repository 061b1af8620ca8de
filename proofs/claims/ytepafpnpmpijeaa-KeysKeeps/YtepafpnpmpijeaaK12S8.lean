import Derived.Test.YtepafpnpmpijeaaK12S9

/-! KeysKeeps: secrets in a row of the law's own, each with its bytes and marked room. -/
namespace Go.Proofs.Ytepafpnpmpijeaa
open Go.RowKit
set_option linter.unusedVariables false

def mk3 : List By := [161#8, 162#8, 163#8]
/-- The own row, when k secrets are written over already. -/
structure O2 (N N1 : Nat) (Wa wr : World) (O n : Nat) (l : Secs) (qs : List (Nat × Nat)) (k : Nat) : Prop where
  row : ∃ C : List Value, Row wr O 42 C ∧ C.length = (n + 2) * 2 ∧ (∀ i, k ≤ i → i < n → C[i * 2]? = some (.int .i64 (l.getD i (0, [])).1)) ∧ (∀ (i : Nat) (p : Nat × Nat), qs[i]? = some p → C[i * 2 + 1]? = some (.slice (some ⟨p.1, 0, none⟩) (l.getD i (0, [])).2.length p.2)) ∧ C[n * 2]? = some (.int .i64 0) ∧ C[n * 2 + 1]? = some (.slice none 0 0) ∧ C[(n + 1) * 2]? = some (.int .i64 0)
  len : qs.length = n
  own : ∀ (i : Nat) (p : Nat × Nat), k ≤ i → qs[i]? = some p → Own N wr (.slice (some ⟨p.1, 0, none⟩) ((l.getD i (0, [])).2.length + 3) p.2) ((l.getD i (0, [])).2 ++ mk3)
  sep : ∀ (i j : Nat) (p p' : Nat × Nat), qs[i]? = some p → qs[j]? = some p' → p.1 = p'.1 → i = j
  bel : Below N Wa wr
  hO : N ≤ O ∧ O < N1
  hq : ∀ (i : Nat) (p : Nat × Nat), qs[i]? = some p → N ≤ p.1 ∧ p.1 < N1 ∧ p.1 ≠ O
  hN : N1 ≤ Wa.heap.size
  mid : ∀ j, N1 ≤ j → j < Wa.heap.size → wr.heap[j]? = Wa.heap[j]?
/-- While one's bytes are written over: nothing else changes. -/
structure X3 (N q m c : Nat) (w2 w : World) : Prop where
  sb : SameBut q w2 w
  own : ∃ b : List By, Own N w (.slice (some ⟨q, 0, none⟩) m c) b
theorem X3.step {N q m c : Nat} {w2 w : World} (h : X3 N q m c w2 w) (j : Nat) (y : By) : X3 N q m c w2 (w.setCell ⟨q, j, none⟩ (.int .u8 (y.toNat : Int))) := by
  obtain ⟨b, hb⟩ := h.own
  exact ⟨h.sb.trans (SameBut.setCell q j _ w), ⟨_, hb.set j y⟩⟩
/-- One round: the struct is copied into a new block (w2), its bytes are written over (w3), its key is set. -/
theorem O2.next {N N1 : Nat} {Wa wr w2 w3 : World} {O n : Nat} {l : Secs} {qs : List (Nat × Nat)} {k : Nat} (h : O2 N N1 Wa wr O n l qs k) (hk : k < n) {p : Nat × Nat} (hp : qs[k]? = some p) (b2 : Below wr.heap.size wr w2) (h3 : SameBut p.1 w2 w3) : O2 N N1 Wa (w3.setCell ⟨O, k * 2, none⟩ (.int .i64 9)) O n l qs (k + 1) := by
  obtain ⟨C, hr, hcl, hck, hcs, hz0, hz1, hz2⟩ := h.row
  have hql := h.hq k p hp
  have hsb := SameBut.setCell O (k * 2) (.int .i64 9) w3
  have h2s := b2.size
  have hNw : N ≤ wr.heap.size := Nat.le_trans (Nat.le_trans (Nat.le_of_lt (Nat.lt_of_le_of_lt h.hO.1 h.hO.2)) h.hN) h.bel.size
  have hr2 := hr.below b2 hr.lt
  have hr3 : Row w3 O 42 C := hr2.but h3 (Ne.symm hql.2.2)
  have hr4 := hr3.set (k * 2) (.int .i64 9)
  refine ⟨⟨C.set (k * 2) (.int .i64 9), hr4, by rw [List.length_set, hcl], ?_, ?_, ?_, ?_, ?_⟩, h.len, ?_, h.sep, ?_, h.hO, h.hq, h.hN, ?_⟩
  · intro i hi hin
    rw [List.getElem?_set_ne (by omega)]; exact hck i (by omega) hin
  · intro i p' hp'
    rw [List.getElem?_set_ne (by omega)]; exact hcs i p' hp'
  · rw [List.getElem?_set_ne (by omega)]; exact hz0
  · rw [List.getElem?_set_ne (by omega)]; exact hz1
  · rw [List.getElem?_set_ne (by omega)]; exact hz2
  · intro i p' hi hp'
    have ho := h.own i p' (by omega) hp'
    have hq' := h.hq i p' hp'
    have ho2 := ho.keep b2
    have ho3 := ho2.but h3 (fun e => by
      injection e with e
      injection e with e
      have := h.sep i k p' p hp' hp e
      omega)
    exact ho3.but hsb (fun e => by
      injection e with e
      injection e with e
      exact hq'.2.2 e)
  · exact hsb.below (h3.below (h.bel.trans (b2.mono hNw)) hql.1) h.hO.1
  · intro j h1 h2
    have hj : j < wr.heap.size := Nat.lt_of_lt_of_le h2 h.bel.size
    rw [hsb.block j (by have := h.hO.2; omega), h3.block j (by omega), b2.block j hj]
    exact h.mid j h1 h2
end Go.Proofs.Ytepafpnpmpijeaa


/-! KeysKeeps: the secrets that were handed in are as they were, and are written over then. (Printed by tools/genst8.py.) -/
namespace Go.Proofs.Ytepafpnpmpijeaa
open Go.RowKit
set_option linter.unusedVariables false

structure E21 (W1 : World) (S : Nat) (kk : Int) (B off n cap ki q Ln c : Nat) (SS : ByteArray) (bo : Option Addr) (bc : Nat) (L : Nat → Bool) (x111 x112 x113 x114 x115 x116 x117 x118 x119 x120 x121 x122 x123 x124 x125 x126 x127 x128 x129 x130 x131 x132 x133 x134 x135 x136 x137 x138 x139 : Value) (W : World) : Prop where
  x : W = W1.drew
  p0 : L 0 = true → x111 = .pointer (some ⟨S, 0, none⟩)
  p1 : L 1 = true → x112 = .int .i64 kk
  p2 : L 2 = true → x113 = .slice (some ⟨B, off, none⟩) n cap
  p3 : L 3 = true → x114 = .int .i64 (ki : Int)
  p4 : L 4 = true → x115 = .pointer (some ⟨B, off + ki * 2, none⟩)
  p5 : L 5 = true → x116 = .pointer (some ⟨B, off + ki * 2, none⟩)
  p6 : L 6 = true → x117 = .int .i64 kk
  p7 : L 7 = true → x118 = .bool false
  p8 : L 8 = true → x119 = .bool false
  p9 : L 9 = true → x120 = .pointer (some ⟨S, 1, none⟩)
  p10 : L 10 = true → x121 = .slice (some ⟨q, 0, none⟩) Ln c
  p11 : L 11 = true → x122 = .string SS
  p12 : L 12 = true → x123 = .slice (some ⟨B, off, none⟩) n cap
  p13 : L 13 = true → x124 = .int .i64 (ki : Int)
  p14 : L 14 = true → x125 = .pointer (some ⟨B, off + ki * 2, none⟩)
  p15 : L 15 = true → x126 = .pointer (some ⟨B, off + ki * 2 + 1, none⟩)
  p16 : L 16 = true → x127 = .slice bo Ln bc
  p17 : L 17 = true → x128 = .string SS
  p18 : L 18 = true → x129 = .bool false
  p19 : L 19 = true → x130 = .bool false
  p20 : L 20 = true → x131 = .bool false
  p21 : L 21 = true → x132 = .slice (some ⟨q, 0, none⟩) (Ln + 3) c
  p22 : L 22 = true → x133 = .pointer (some ⟨S, 1, none⟩)
  p23 : L 23 = true → x134 = .slice (some ⟨q, 0, none⟩) Ln c
  p24 : L 24 = true → x135 = .int .i64 (Ln : Int)
  p25 : L 25 = true → x136 = .slice (some ⟨q, Ln, none⟩) 3 (c - Ln)
  p26 : L 26 = true → x137 = .string { data := #[161, 162, 163] }
  p27 : L 27 = true → x138 = .bool false
  p28 : L 28 = true → x139 = .bool false
section
variable {W1 : World} {S : Nat} {kk : Int} {B off n cap ki q Ln c : Nat} {SS : ByteArray} {bo : Option Addr} {bc : Nat} {L : Nat → Bool} {x111 x112 x113 x114 x115 x116 x117 x118 x119 x120 x121 x122 x123 x124 x125 x126 x127 x128 x129 x130 x131 x132 x133 x134 x135 x136 x137 x138 x139 : Value} {W W2 : World}
theorem E21.s0 (h : E21 W1 S kk B off n cap ki q Ln c SS bo bc L x111 x112 x113 x114 x115 x116 x117 x118 x119 x120 x121 x122 x123 x124 x125 x126 x127 x128 x129 x130 x131 x132 x133 x134 x135 x136 x137 x138 x139 W) : E21 W1 S kk B off n cap ki q Ln c SS bo bc (upd L 0) (.pointer (some ⟨S, 0, none⟩)) x112 x113 x114 x115 x116 x117 x118 x119 x120 x121 x122 x123 x124 x125 x126 x127 x128 x129 x130 x131 x132 x133 x134 x135 x136 x137 x138 x139 W :=
  ⟨h.x, fun _ => rfl, h.p1, h.p2, h.p3, h.p4, h.p5, h.p6, h.p7, h.p8, h.p9, h.p10, h.p11, h.p12, h.p13, h.p14, h.p15, h.p16, h.p17, h.p18, h.p19, h.p20, h.p21, h.p22, h.p23, h.p24, h.p25, h.p26, h.p27, h.p28⟩
theorem E21.s1 (h : E21 W1 S kk B off n cap ki q Ln c SS bo bc L x111 x112 x113 x114 x115 x116 x117 x118 x119 x120 x121 x122 x123 x124 x125 x126 x127 x128 x129 x130 x131 x132 x133 x134 x135 x136 x137 x138 x139 W) : E21 W1 S kk B off n cap ki q Ln c SS bo bc (upd L 1) x111 (.int .i64 kk) x113 x114 x115 x116 x117 x118 x119 x120 x121 x122 x123 x124 x125 x126 x127 x128 x129 x130 x131 x132 x133 x134 x135 x136 x137 x138 x139 W :=
  ⟨h.x, h.p0, fun _ => rfl, h.p2, h.p3, h.p4, h.p5, h.p6, h.p7, h.p8, h.p9, h.p10, h.p11, h.p12, h.p13, h.p14, h.p15, h.p16, h.p17, h.p18, h.p19, h.p20, h.p21, h.p22, h.p23, h.p24, h.p25, h.p26, h.p27, h.p28⟩
theorem E21.s2 (h : E21 W1 S kk B off n cap ki q Ln c SS bo bc L x111 x112 x113 x114 x115 x116 x117 x118 x119 x120 x121 x122 x123 x124 x125 x126 x127 x128 x129 x130 x131 x132 x133 x134 x135 x136 x137 x138 x139 W) : E21 W1 S kk B off n cap ki q Ln c SS bo bc (upd L 2) x111 x112 (.slice (some ⟨B, off, none⟩) n cap) x114 x115 x116 x117 x118 x119 x120 x121 x122 x123 x124 x125 x126 x127 x128 x129 x130 x131 x132 x133 x134 x135 x136 x137 x138 x139 W :=
  ⟨h.x, h.p0, h.p1, fun _ => rfl, h.p3, h.p4, h.p5, h.p6, h.p7, h.p8, h.p9, h.p10, h.p11, h.p12, h.p13, h.p14, h.p15, h.p16, h.p17, h.p18, h.p19, h.p20, h.p21, h.p22, h.p23, h.p24, h.p25, h.p26, h.p27, h.p28⟩
theorem E21.s3 (h : E21 W1 S kk B off n cap ki q Ln c SS bo bc L x111 x112 x113 x114 x115 x116 x117 x118 x119 x120 x121 x122 x123 x124 x125 x126 x127 x128 x129 x130 x131 x132 x133 x134 x135 x136 x137 x138 x139 W) : E21 W1 S kk B off n cap ki q Ln c SS bo bc (upd L 3) x111 x112 x113 (.int .i64 (ki : Int)) x115 x116 x117 x118 x119 x120 x121 x122 x123 x124 x125 x126 x127 x128 x129 x130 x131 x132 x133 x134 x135 x136 x137 x138 x139 W :=
  ⟨h.x, h.p0, h.p1, h.p2, fun _ => rfl, h.p4, h.p5, h.p6, h.p7, h.p8, h.p9, h.p10, h.p11, h.p12, h.p13, h.p14, h.p15, h.p16, h.p17, h.p18, h.p19, h.p20, h.p21, h.p22, h.p23, h.p24, h.p25, h.p26, h.p27, h.p28⟩
theorem E21.s4 (h : E21 W1 S kk B off n cap ki q Ln c SS bo bc L x111 x112 x113 x114 x115 x116 x117 x118 x119 x120 x121 x122 x123 x124 x125 x126 x127 x128 x129 x130 x131 x132 x133 x134 x135 x136 x137 x138 x139 W) : E21 W1 S kk B off n cap ki q Ln c SS bo bc (upd L 4) x111 x112 x113 x114 (.pointer (some ⟨B, off + ki * 2, none⟩)) x116 x117 x118 x119 x120 x121 x122 x123 x124 x125 x126 x127 x128 x129 x130 x131 x132 x133 x134 x135 x136 x137 x138 x139 W :=
  ⟨h.x, h.p0, h.p1, h.p2, h.p3, fun _ => rfl, h.p5, h.p6, h.p7, h.p8, h.p9, h.p10, h.p11, h.p12, h.p13, h.p14, h.p15, h.p16, h.p17, h.p18, h.p19, h.p20, h.p21, h.p22, h.p23, h.p24, h.p25, h.p26, h.p27, h.p28⟩
theorem E21.s5 (h : E21 W1 S kk B off n cap ki q Ln c SS bo bc L x111 x112 x113 x114 x115 x116 x117 x118 x119 x120 x121 x122 x123 x124 x125 x126 x127 x128 x129 x130 x131 x132 x133 x134 x135 x136 x137 x138 x139 W) : E21 W1 S kk B off n cap ki q Ln c SS bo bc (upd L 5) x111 x112 x113 x114 x115 (.pointer (some ⟨B, off + ki * 2, none⟩)) x117 x118 x119 x120 x121 x122 x123 x124 x125 x126 x127 x128 x129 x130 x131 x132 x133 x134 x135 x136 x137 x138 x139 W :=
  ⟨h.x, h.p0, h.p1, h.p2, h.p3, h.p4, fun _ => rfl, h.p6, h.p7, h.p8, h.p9, h.p10, h.p11, h.p12, h.p13, h.p14, h.p15, h.p16, h.p17, h.p18, h.p19, h.p20, h.p21, h.p22, h.p23, h.p24, h.p25, h.p26, h.p27, h.p28⟩
theorem E21.s6 (h : E21 W1 S kk B off n cap ki q Ln c SS bo bc L x111 x112 x113 x114 x115 x116 x117 x118 x119 x120 x121 x122 x123 x124 x125 x126 x127 x128 x129 x130 x131 x132 x133 x134 x135 x136 x137 x138 x139 W) : E21 W1 S kk B off n cap ki q Ln c SS bo bc (upd L 6) x111 x112 x113 x114 x115 x116 (.int .i64 kk) x118 x119 x120 x121 x122 x123 x124 x125 x126 x127 x128 x129 x130 x131 x132 x133 x134 x135 x136 x137 x138 x139 W :=
  ⟨h.x, h.p0, h.p1, h.p2, h.p3, h.p4, h.p5, fun _ => rfl, h.p7, h.p8, h.p9, h.p10, h.p11, h.p12, h.p13, h.p14, h.p15, h.p16, h.p17, h.p18, h.p19, h.p20, h.p21, h.p22, h.p23, h.p24, h.p25, h.p26, h.p27, h.p28⟩
theorem E21.s7 (h : E21 W1 S kk B off n cap ki q Ln c SS bo bc L x111 x112 x113 x114 x115 x116 x117 x118 x119 x120 x121 x122 x123 x124 x125 x126 x127 x128 x129 x130 x131 x132 x133 x134 x135 x136 x137 x138 x139 W) : E21 W1 S kk B off n cap ki q Ln c SS bo bc (upd L 7) x111 x112 x113 x114 x115 x116 x117 (.bool false) x119 x120 x121 x122 x123 x124 x125 x126 x127 x128 x129 x130 x131 x132 x133 x134 x135 x136 x137 x138 x139 W :=
  ⟨h.x, h.p0, h.p1, h.p2, h.p3, h.p4, h.p5, h.p6, fun _ => rfl, h.p8, h.p9, h.p10, h.p11, h.p12, h.p13, h.p14, h.p15, h.p16, h.p17, h.p18, h.p19, h.p20, h.p21, h.p22, h.p23, h.p24, h.p25, h.p26, h.p27, h.p28⟩
theorem E21.s8 (h : E21 W1 S kk B off n cap ki q Ln c SS bo bc L x111 x112 x113 x114 x115 x116 x117 x118 x119 x120 x121 x122 x123 x124 x125 x126 x127 x128 x129 x130 x131 x132 x133 x134 x135 x136 x137 x138 x139 W) : E21 W1 S kk B off n cap ki q Ln c SS bo bc (upd L 8) x111 x112 x113 x114 x115 x116 x117 x118 (.bool false) x120 x121 x122 x123 x124 x125 x126 x127 x128 x129 x130 x131 x132 x133 x134 x135 x136 x137 x138 x139 W :=
  ⟨h.x, h.p0, h.p1, h.p2, h.p3, h.p4, h.p5, h.p6, h.p7, fun _ => rfl, h.p9, h.p10, h.p11, h.p12, h.p13, h.p14, h.p15, h.p16, h.p17, h.p18, h.p19, h.p20, h.p21, h.p22, h.p23, h.p24, h.p25, h.p26, h.p27, h.p28⟩
theorem E21.s9 (h : E21 W1 S kk B off n cap ki q Ln c SS bo bc L x111 x112 x113 x114 x115 x116 x117 x118 x119 x120 x121 x122 x123 x124 x125 x126 x127 x128 x129 x130 x131 x132 x133 x134 x135 x136 x137 x138 x139 W) : E21 W1 S kk B off n cap ki q Ln c SS bo bc (upd L 9) x111 x112 x113 x114 x115 x116 x117 x118 x119 (.pointer (some ⟨S, 1, none⟩)) x121 x122 x123 x124 x125 x126 x127 x128 x129 x130 x131 x132 x133 x134 x135 x136 x137 x138 x139 W :=
  ⟨h.x, h.p0, h.p1, h.p2, h.p3, h.p4, h.p5, h.p6, h.p7, h.p8, fun _ => rfl, h.p10, h.p11, h.p12, h.p13, h.p14, h.p15, h.p16, h.p17, h.p18, h.p19, h.p20, h.p21, h.p22, h.p23, h.p24, h.p25, h.p26, h.p27, h.p28⟩
theorem E21.s10 (h : E21 W1 S kk B off n cap ki q Ln c SS bo bc L x111 x112 x113 x114 x115 x116 x117 x118 x119 x120 x121 x122 x123 x124 x125 x126 x127 x128 x129 x130 x131 x132 x133 x134 x135 x136 x137 x138 x139 W) : E21 W1 S kk B off n cap ki q Ln c SS bo bc (upd L 10) x111 x112 x113 x114 x115 x116 x117 x118 x119 x120 (.slice (some ⟨q, 0, none⟩) Ln c) x122 x123 x124 x125 x126 x127 x128 x129 x130 x131 x132 x133 x134 x135 x136 x137 x138 x139 W :=
  ⟨h.x, h.p0, h.p1, h.p2, h.p3, h.p4, h.p5, h.p6, h.p7, h.p8, h.p9, fun _ => rfl, h.p11, h.p12, h.p13, h.p14, h.p15, h.p16, h.p17, h.p18, h.p19, h.p20, h.p21, h.p22, h.p23, h.p24, h.p25, h.p26, h.p27, h.p28⟩
theorem E21.s11 (h : E21 W1 S kk B off n cap ki q Ln c SS bo bc L x111 x112 x113 x114 x115 x116 x117 x118 x119 x120 x121 x122 x123 x124 x125 x126 x127 x128 x129 x130 x131 x132 x133 x134 x135 x136 x137 x138 x139 W) : E21 W1 S kk B off n cap ki q Ln c SS bo bc (upd L 11) x111 x112 x113 x114 x115 x116 x117 x118 x119 x120 x121 (.string SS) x123 x124 x125 x126 x127 x128 x129 x130 x131 x132 x133 x134 x135 x136 x137 x138 x139 W :=
  ⟨h.x, h.p0, h.p1, h.p2, h.p3, h.p4, h.p5, h.p6, h.p7, h.p8, h.p9, h.p10, fun _ => rfl, h.p12, h.p13, h.p14, h.p15, h.p16, h.p17, h.p18, h.p19, h.p20, h.p21, h.p22, h.p23, h.p24, h.p25, h.p26, h.p27, h.p28⟩
theorem E21.s12 (h : E21 W1 S kk B off n cap ki q Ln c SS bo bc L x111 x112 x113 x114 x115 x116 x117 x118 x119 x120 x121 x122 x123 x124 x125 x126 x127 x128 x129 x130 x131 x132 x133 x134 x135 x136 x137 x138 x139 W) : E21 W1 S kk B off n cap ki q Ln c SS bo bc (upd L 12) x111 x112 x113 x114 x115 x116 x117 x118 x119 x120 x121 x122 (.slice (some ⟨B, off, none⟩) n cap) x124 x125 x126 x127 x128 x129 x130 x131 x132 x133 x134 x135 x136 x137 x138 x139 W :=
  ⟨h.x, h.p0, h.p1, h.p2, h.p3, h.p4, h.p5, h.p6, h.p7, h.p8, h.p9, h.p10, h.p11, fun _ => rfl, h.p13, h.p14, h.p15, h.p16, h.p17, h.p18, h.p19, h.p20, h.p21, h.p22, h.p23, h.p24, h.p25, h.p26, h.p27, h.p28⟩
theorem E21.s13 (h : E21 W1 S kk B off n cap ki q Ln c SS bo bc L x111 x112 x113 x114 x115 x116 x117 x118 x119 x120 x121 x122 x123 x124 x125 x126 x127 x128 x129 x130 x131 x132 x133 x134 x135 x136 x137 x138 x139 W) : E21 W1 S kk B off n cap ki q Ln c SS bo bc (upd L 13) x111 x112 x113 x114 x115 x116 x117 x118 x119 x120 x121 x122 x123 (.int .i64 (ki : Int)) x125 x126 x127 x128 x129 x130 x131 x132 x133 x134 x135 x136 x137 x138 x139 W :=
  ⟨h.x, h.p0, h.p1, h.p2, h.p3, h.p4, h.p5, h.p6, h.p7, h.p8, h.p9, h.p10, h.p11, h.p12, fun _ => rfl, h.p14, h.p15, h.p16, h.p17, h.p18, h.p19, h.p20, h.p21, h.p22, h.p23, h.p24, h.p25, h.p26, h.p27, h.p28⟩
theorem E21.s14 (h : E21 W1 S kk B off n cap ki q Ln c SS bo bc L x111 x112 x113 x114 x115 x116 x117 x118 x119 x120 x121 x122 x123 x124 x125 x126 x127 x128 x129 x130 x131 x132 x133 x134 x135 x136 x137 x138 x139 W) : E21 W1 S kk B off n cap ki q Ln c SS bo bc (upd L 14) x111 x112 x113 x114 x115 x116 x117 x118 x119 x120 x121 x122 x123 x124 (.pointer (some ⟨B, off + ki * 2, none⟩)) x126 x127 x128 x129 x130 x131 x132 x133 x134 x135 x136 x137 x138 x139 W :=
  ⟨h.x, h.p0, h.p1, h.p2, h.p3, h.p4, h.p5, h.p6, h.p7, h.p8, h.p9, h.p10, h.p11, h.p12, h.p13, fun _ => rfl, h.p15, h.p16, h.p17, h.p18, h.p19, h.p20, h.p21, h.p22, h.p23, h.p24, h.p25, h.p26, h.p27, h.p28⟩
theorem E21.s15 (h : E21 W1 S kk B off n cap ki q Ln c SS bo bc L x111 x112 x113 x114 x115 x116 x117 x118 x119 x120 x121 x122 x123 x124 x125 x126 x127 x128 x129 x130 x131 x132 x133 x134 x135 x136 x137 x138 x139 W) : E21 W1 S kk B off n cap ki q Ln c SS bo bc (upd L 15) x111 x112 x113 x114 x115 x116 x117 x118 x119 x120 x121 x122 x123 x124 x125 (.pointer (some ⟨B, off + ki * 2 + 1, none⟩)) x127 x128 x129 x130 x131 x132 x133 x134 x135 x136 x137 x138 x139 W :=
  ⟨h.x, h.p0, h.p1, h.p2, h.p3, h.p4, h.p5, h.p6, h.p7, h.p8, h.p9, h.p10, h.p11, h.p12, h.p13, h.p14, fun _ => rfl, h.p16, h.p17, h.p18, h.p19, h.p20, h.p21, h.p22, h.p23, h.p24, h.p25, h.p26, h.p27, h.p28⟩
theorem E21.s16 (h : E21 W1 S kk B off n cap ki q Ln c SS bo bc L x111 x112 x113 x114 x115 x116 x117 x118 x119 x120 x121 x122 x123 x124 x125 x126 x127 x128 x129 x130 x131 x132 x133 x134 x135 x136 x137 x138 x139 W) : E21 W1 S kk B off n cap ki q Ln c SS bo bc (upd L 16) x111 x112 x113 x114 x115 x116 x117 x118 x119 x120 x121 x122 x123 x124 x125 x126 (.slice bo Ln bc) x128 x129 x130 x131 x132 x133 x134 x135 x136 x137 x138 x139 W :=
  ⟨h.x, h.p0, h.p1, h.p2, h.p3, h.p4, h.p5, h.p6, h.p7, h.p8, h.p9, h.p10, h.p11, h.p12, h.p13, h.p14, h.p15, fun _ => rfl, h.p17, h.p18, h.p19, h.p20, h.p21, h.p22, h.p23, h.p24, h.p25, h.p26, h.p27, h.p28⟩
theorem E21.s17 (h : E21 W1 S kk B off n cap ki q Ln c SS bo bc L x111 x112 x113 x114 x115 x116 x117 x118 x119 x120 x121 x122 x123 x124 x125 x126 x127 x128 x129 x130 x131 x132 x133 x134 x135 x136 x137 x138 x139 W) : E21 W1 S kk B off n cap ki q Ln c SS bo bc (upd L 17) x111 x112 x113 x114 x115 x116 x117 x118 x119 x120 x121 x122 x123 x124 x125 x126 x127 (.string SS) x129 x130 x131 x132 x133 x134 x135 x136 x137 x138 x139 W :=
  ⟨h.x, h.p0, h.p1, h.p2, h.p3, h.p4, h.p5, h.p6, h.p7, h.p8, h.p9, h.p10, h.p11, h.p12, h.p13, h.p14, h.p15, h.p16, fun _ => rfl, h.p18, h.p19, h.p20, h.p21, h.p22, h.p23, h.p24, h.p25, h.p26, h.p27, h.p28⟩
theorem E21.s18 (h : E21 W1 S kk B off n cap ki q Ln c SS bo bc L x111 x112 x113 x114 x115 x116 x117 x118 x119 x120 x121 x122 x123 x124 x125 x126 x127 x128 x129 x130 x131 x132 x133 x134 x135 x136 x137 x138 x139 W) : E21 W1 S kk B off n cap ki q Ln c SS bo bc (upd L 18) x111 x112 x113 x114 x115 x116 x117 x118 x119 x120 x121 x122 x123 x124 x125 x126 x127 x128 (.bool false) x130 x131 x132 x133 x134 x135 x136 x137 x138 x139 W :=
  ⟨h.x, h.p0, h.p1, h.p2, h.p3, h.p4, h.p5, h.p6, h.p7, h.p8, h.p9, h.p10, h.p11, h.p12, h.p13, h.p14, h.p15, h.p16, h.p17, fun _ => rfl, h.p19, h.p20, h.p21, h.p22, h.p23, h.p24, h.p25, h.p26, h.p27, h.p28⟩
theorem E21.s19 (h : E21 W1 S kk B off n cap ki q Ln c SS bo bc L x111 x112 x113 x114 x115 x116 x117 x118 x119 x120 x121 x122 x123 x124 x125 x126 x127 x128 x129 x130 x131 x132 x133 x134 x135 x136 x137 x138 x139 W) : E21 W1 S kk B off n cap ki q Ln c SS bo bc (upd L 19) x111 x112 x113 x114 x115 x116 x117 x118 x119 x120 x121 x122 x123 x124 x125 x126 x127 x128 x129 (.bool false) x131 x132 x133 x134 x135 x136 x137 x138 x139 W :=
  ⟨h.x, h.p0, h.p1, h.p2, h.p3, h.p4, h.p5, h.p6, h.p7, h.p8, h.p9, h.p10, h.p11, h.p12, h.p13, h.p14, h.p15, h.p16, h.p17, h.p18, fun _ => rfl, h.p20, h.p21, h.p22, h.p23, h.p24, h.p25, h.p26, h.p27, h.p28⟩
theorem E21.s20 (h : E21 W1 S kk B off n cap ki q Ln c SS bo bc L x111 x112 x113 x114 x115 x116 x117 x118 x119 x120 x121 x122 x123 x124 x125 x126 x127 x128 x129 x130 x131 x132 x133 x134 x135 x136 x137 x138 x139 W) : E21 W1 S kk B off n cap ki q Ln c SS bo bc (upd L 20) x111 x112 x113 x114 x115 x116 x117 x118 x119 x120 x121 x122 x123 x124 x125 x126 x127 x128 x129 x130 (.bool false) x132 x133 x134 x135 x136 x137 x138 x139 W :=
  ⟨h.x, h.p0, h.p1, h.p2, h.p3, h.p4, h.p5, h.p6, h.p7, h.p8, h.p9, h.p10, h.p11, h.p12, h.p13, h.p14, h.p15, h.p16, h.p17, h.p18, h.p19, fun _ => rfl, h.p21, h.p22, h.p23, h.p24, h.p25, h.p26, h.p27, h.p28⟩
theorem E21.s21 (h : E21 W1 S kk B off n cap ki q Ln c SS bo bc L x111 x112 x113 x114 x115 x116 x117 x118 x119 x120 x121 x122 x123 x124 x125 x126 x127 x128 x129 x130 x131 x132 x133 x134 x135 x136 x137 x138 x139 W) : E21 W1 S kk B off n cap ki q Ln c SS bo bc (upd L 21) x111 x112 x113 x114 x115 x116 x117 x118 x119 x120 x121 x122 x123 x124 x125 x126 x127 x128 x129 x130 x131 (.slice (some ⟨q, 0, none⟩) (Ln + 3) c) x133 x134 x135 x136 x137 x138 x139 W :=
  ⟨h.x, h.p0, h.p1, h.p2, h.p3, h.p4, h.p5, h.p6, h.p7, h.p8, h.p9, h.p10, h.p11, h.p12, h.p13, h.p14, h.p15, h.p16, h.p17, h.p18, h.p19, h.p20, fun _ => rfl, h.p22, h.p23, h.p24, h.p25, h.p26, h.p27, h.p28⟩
theorem E21.s22 (h : E21 W1 S kk B off n cap ki q Ln c SS bo bc L x111 x112 x113 x114 x115 x116 x117 x118 x119 x120 x121 x122 x123 x124 x125 x126 x127 x128 x129 x130 x131 x132 x133 x134 x135 x136 x137 x138 x139 W) : E21 W1 S kk B off n cap ki q Ln c SS bo bc (upd L 22) x111 x112 x113 x114 x115 x116 x117 x118 x119 x120 x121 x122 x123 x124 x125 x126 x127 x128 x129 x130 x131 x132 (.pointer (some ⟨S, 1, none⟩)) x134 x135 x136 x137 x138 x139 W :=
  ⟨h.x, h.p0, h.p1, h.p2, h.p3, h.p4, h.p5, h.p6, h.p7, h.p8, h.p9, h.p10, h.p11, h.p12, h.p13, h.p14, h.p15, h.p16, h.p17, h.p18, h.p19, h.p20, h.p21, fun _ => rfl, h.p23, h.p24, h.p25, h.p26, h.p27, h.p28⟩
theorem E21.s23 (h : E21 W1 S kk B off n cap ki q Ln c SS bo bc L x111 x112 x113 x114 x115 x116 x117 x118 x119 x120 x121 x122 x123 x124 x125 x126 x127 x128 x129 x130 x131 x132 x133 x134 x135 x136 x137 x138 x139 W) : E21 W1 S kk B off n cap ki q Ln c SS bo bc (upd L 23) x111 x112 x113 x114 x115 x116 x117 x118 x119 x120 x121 x122 x123 x124 x125 x126 x127 x128 x129 x130 x131 x132 x133 (.slice (some ⟨q, 0, none⟩) Ln c) x135 x136 x137 x138 x139 W :=
  ⟨h.x, h.p0, h.p1, h.p2, h.p3, h.p4, h.p5, h.p6, h.p7, h.p8, h.p9, h.p10, h.p11, h.p12, h.p13, h.p14, h.p15, h.p16, h.p17, h.p18, h.p19, h.p20, h.p21, h.p22, fun _ => rfl, h.p24, h.p25, h.p26, h.p27, h.p28⟩
theorem E21.s24 (h : E21 W1 S kk B off n cap ki q Ln c SS bo bc L x111 x112 x113 x114 x115 x116 x117 x118 x119 x120 x121 x122 x123 x124 x125 x126 x127 x128 x129 x130 x131 x132 x133 x134 x135 x136 x137 x138 x139 W) : E21 W1 S kk B off n cap ki q Ln c SS bo bc (upd L 24) x111 x112 x113 x114 x115 x116 x117 x118 x119 x120 x121 x122 x123 x124 x125 x126 x127 x128 x129 x130 x131 x132 x133 x134 (.int .i64 (Ln : Int)) x136 x137 x138 x139 W :=
  ⟨h.x, h.p0, h.p1, h.p2, h.p3, h.p4, h.p5, h.p6, h.p7, h.p8, h.p9, h.p10, h.p11, h.p12, h.p13, h.p14, h.p15, h.p16, h.p17, h.p18, h.p19, h.p20, h.p21, h.p22, h.p23, fun _ => rfl, h.p25, h.p26, h.p27, h.p28⟩
theorem E21.s25 (h : E21 W1 S kk B off n cap ki q Ln c SS bo bc L x111 x112 x113 x114 x115 x116 x117 x118 x119 x120 x121 x122 x123 x124 x125 x126 x127 x128 x129 x130 x131 x132 x133 x134 x135 x136 x137 x138 x139 W) : E21 W1 S kk B off n cap ki q Ln c SS bo bc (upd L 25) x111 x112 x113 x114 x115 x116 x117 x118 x119 x120 x121 x122 x123 x124 x125 x126 x127 x128 x129 x130 x131 x132 x133 x134 x135 (.slice (some ⟨q, Ln, none⟩) 3 (c - Ln)) x137 x138 x139 W :=
  ⟨h.x, h.p0, h.p1, h.p2, h.p3, h.p4, h.p5, h.p6, h.p7, h.p8, h.p9, h.p10, h.p11, h.p12, h.p13, h.p14, h.p15, h.p16, h.p17, h.p18, h.p19, h.p20, h.p21, h.p22, h.p23, h.p24, fun _ => rfl, h.p26, h.p27, h.p28⟩
theorem E21.s26 (h : E21 W1 S kk B off n cap ki q Ln c SS bo bc L x111 x112 x113 x114 x115 x116 x117 x118 x119 x120 x121 x122 x123 x124 x125 x126 x127 x128 x129 x130 x131 x132 x133 x134 x135 x136 x137 x138 x139 W) : E21 W1 S kk B off n cap ki q Ln c SS bo bc (upd L 26) x111 x112 x113 x114 x115 x116 x117 x118 x119 x120 x121 x122 x123 x124 x125 x126 x127 x128 x129 x130 x131 x132 x133 x134 x135 x136 (.string { data := #[161, 162, 163] }) x138 x139 W :=
  ⟨h.x, h.p0, h.p1, h.p2, h.p3, h.p4, h.p5, h.p6, h.p7, h.p8, h.p9, h.p10, h.p11, h.p12, h.p13, h.p14, h.p15, h.p16, h.p17, h.p18, h.p19, h.p20, h.p21, h.p22, h.p23, h.p24, h.p25, fun _ => rfl, h.p27, h.p28⟩
theorem E21.s27 (h : E21 W1 S kk B off n cap ki q Ln c SS bo bc L x111 x112 x113 x114 x115 x116 x117 x118 x119 x120 x121 x122 x123 x124 x125 x126 x127 x128 x129 x130 x131 x132 x133 x134 x135 x136 x137 x138 x139 W) : E21 W1 S kk B off n cap ki q Ln c SS bo bc (upd L 27) x111 x112 x113 x114 x115 x116 x117 x118 x119 x120 x121 x122 x123 x124 x125 x126 x127 x128 x129 x130 x131 x132 x133 x134 x135 x136 x137 (.bool false) x139 W :=
  ⟨h.x, h.p0, h.p1, h.p2, h.p3, h.p4, h.p5, h.p6, h.p7, h.p8, h.p9, h.p10, h.p11, h.p12, h.p13, h.p14, h.p15, h.p16, h.p17, h.p18, h.p19, h.p20, h.p21, h.p22, h.p23, h.p24, h.p25, h.p26, fun _ => rfl, h.p28⟩
theorem E21.s28 (h : E21 W1 S kk B off n cap ki q Ln c SS bo bc L x111 x112 x113 x114 x115 x116 x117 x118 x119 x120 x121 x122 x123 x124 x125 x126 x127 x128 x129 x130 x131 x132 x133 x134 x135 x136 x137 x138 x139 W) : E21 W1 S kk B off n cap ki q Ln c SS bo bc (upd L 28) x111 x112 x113 x114 x115 x116 x117 x118 x119 x120 x121 x122 x123 x124 x125 x126 x127 x128 x129 x130 x131 x132 x133 x134 x135 x136 x137 x138 (.bool false) W :=
  ⟨h.x, h.p0, h.p1, h.p2, h.p3, h.p4, h.p5, h.p6, h.p7, h.p8, h.p9, h.p10, h.p11, h.p12, h.p13, h.p14, h.p15, h.p16, h.p17, h.p18, h.p19, h.p20, h.p21, h.p22, h.p23, h.p24, h.p25, h.p26, h.p27, fun _ => rfl⟩
end
@[reducible] def IE21 (W1 : World) (S : Nat) (kk : Int) (B off n cap ki q Ln c : Nat) (SS : ByteArray) (bo : Option Addr) (bc : Nat) (y0 y1 y2 y3 y4 y5 y6 y7 y8 y9 y10 y11 y12 y13 y14 y15 y16 y17 y18 y19 y20 y21 y22 y23 y24 y25 y26 y27 y28 y29 y30 y31 y32 y33 y34 y35 y36 y37 y38 y39 y40 y41 y42 y43 y44 y45 y46 y47 y48 y49 y50 y51 y52 y53 y54 y55 y56 y57 y58 y59 y60 y61 y62 y63 y64 y65 y66 y67 y68 y69 y70 y71 y72 y73 y74 y75 y76 y77 y78 y79 y80 y81 y82 y83 y84 y85 y86 y87 y88 y89 y90 y91 y92 y93 y94 y95 y96 y97 y98 y99 y100 y101 y102 y103 y104 y105 y106 y107 y108 y109 y110 y140 y141 y142 y143 y144 y145 y146 y147 y148 y149 y150 y151 y152 y153 y154 y155 y156 y157 y158 y159 y160 y161 y162 y163 y164 y165 y166 y167 y168 y169 y170 y171 y172 y173 y174 y175 y176 y177 y178 y179 y180 y181 y182 y183 y184 y185 y186 y187 y188 y189 y190 y191 y192 y193 y194 y195 y196 y197 y198 y199 y200 y201 y202 y203 y204 y205 y206 y207 y208 y209 y210 y211 y212 y213 y214 y215 y216 y217 y218 y219 y220 y221 y222 y223 y224 y225 y226 y227 y228 y229 y230 y231 y232 y233 y234 y235 y236 y237 y238 y239 y240 y241 y242 y243 y244 y245 y246 y247 y248 y249 y250 y251 y252 y253 y254 y255 y256 y257 y258 y259 y260 y261 y262 y263 y264 y265 y266 y267 y268 y269 y270 y271 y272 y273 y274 y275 y276 y277 y278 y279 y280 y281 y282 y283 y284 y285 y286 y287 y288 y289 y290 y291 y292 y293 y294 y295 y296 y297 y298 y299 y300 y301 y302 y303 y304 y305 : Value) : (Nat → Bool) → Act → World → Prop := fun L a W => ∃ x111 x112 x113 x114 x115 x116 x117 x118 x119 x120 x121 x122 x123 x124 x125 x126 x127 x128 x129 x130 x131 x132 x133 x134 x135 x136 x137 x138 x139, a = ⟨#[y0, y1, y2, y3, y4, y5, y6, y7, y8, y9, y10, y11, y12, y13, y14, y15, y16, y17, y18, y19, y20, y21, y22, y23, y24, y25, y26, y27, y28, y29, y30, y31, y32, y33, y34, y35, y36, y37, y38, y39, y40, y41, y42, y43, y44, y45, y46, y47, y48, y49, y50, y51, y52, y53, y54, y55, y56, y57, y58, y59, y60, y61, y62, y63, y64, y65, y66, y67, y68, y69, y70, y71, y72, y73, y74, y75, y76, y77, y78, y79, y80, y81, y82, y83, y84, y85, y86, y87, y88, y89, y90, y91, y92, y93, y94, y95, y96, y97, y98, y99, y100, y101, y102, y103, y104, y105, y106, y107, y108, y109, y110, x111, x112, x113, x114, x115, x116, x117, x118, x119, x120, x121, x122, x123, x124, x125, x126, x127, x128, x129, x130, x131, x132, x133, x134, x135, x136, x137, x138, x139, y140, y141, y142, y143, y144, y145, y146, y147, y148, y149, y150, y151, y152, y153, y154, y155, y156, y157, y158, y159, y160, y161, y162, y163, y164, y165, y166, y167, y168, y169, y170, y171, y172, y173, y174, y175, y176, y177, y178, y179, y180, y181, y182, y183, y184, y185, y186, y187, y188, y189, y190, y191, y192, y193, y194, y195, y196, y197, y198, y199, y200, y201, y202, y203, y204, y205, y206, y207, y208, y209, y210, y211, y212, y213, y214, y215, y216, y217, y218, y219, y220, y221, y222, y223, y224, y225, y226, y227, y228, y229, y230, y231, y232, y233, y234, y235, y236, y237, y238, y239, y240, y241, y242, y243, y244, y245, y246, y247, y248, y249, y250, y251, y252, y253, y254, y255, y256, y257, y258, y259, y260, y261, y262, y263, y264, y265, y266, y267, y268, y269, y270, y271, y272, y273, y274, y275, y276, y277, y278, y279, y280, y281, y282, y283, y284, y285, y286, y287, y288, y289, y290, y291, y292, y293, y294, y295, y296, y297, y298, y299, y300, y301, y302, y303, y304, y305], []⟩ ∧ E21 W1 S kk B off n cap ki q Ln c SS bo bc L x111 x112 x113 x114 x115 x116 x117 x118 x119 x120 x121 x122 x123 x124 x125 x126 x127 x128 x129 x130 x131 x132 x133 x134 x135 x136 x137 x138 x139 W
theorem E21.step {W1 : World} {S : Nat} {kk : Int} {B off n cap ki q Ln c : Nat} {SS : ByteArray} {bo : Option Addr} {bc : Nat} {y0 y1 y2 y3 y4 y5 y6 y7 y8 y9 y10 y11 y12 y13 y14 y15 y16 y17 y18 y19 y20 y21 y22 y23 y24 y25 y26 y27 y28 y29 y30 y31 y32 y33 y34 y35 y36 y37 y38 y39 y40 y41 y42 y43 y44 y45 y46 y47 y48 y49 y50 y51 y52 y53 y54 y55 y56 y57 y58 y59 y60 y61 y62 y63 y64 y65 y66 y67 y68 y69 y70 y71 y72 y73 y74 y75 y76 y77 y78 y79 y80 y81 y82 y83 y84 y85 y86 y87 y88 y89 y90 y91 y92 y93 y94 y95 y96 y97 y98 y99 y100 y101 y102 y103 y104 y105 y106 y107 y108 y109 y110 y140 y141 y142 y143 y144 y145 y146 y147 y148 y149 y150 y151 y152 y153 y154 y155 y156 y157 y158 y159 y160 y161 y162 y163 y164 y165 y166 y167 y168 y169 y170 y171 y172 y173 y174 y175 y176 y177 y178 y179 y180 y181 y182 y183 y184 y185 y186 y187 y188 y189 y190 y191 y192 y193 y194 y195 y196 y197 y198 y199 y200 y201 y202 y203 y204 y205 y206 y207 y208 y209 y210 y211 y212 y213 y214 y215 y216 y217 y218 y219 y220 y221 y222 y223 y224 y225 y226 y227 y228 y229 y230 y231 y232 y233 y234 y235 y236 y237 y238 y239 y240 y241 y242 y243 y244 y245 y246 y247 y248 y249 y250 y251 y252 y253 y254 y255 y256 y257 y258 y259 y260 y261 y262 y263 y264 y265 y266 y267 y268 y269 y270 y271 y272 y273 y274 y275 y276 y277 y278 y279 y280 y281 y282 y283 y284 y285 y286 y287 y288 y289 y290 y291 y292 y293 y294 y295 y296 y297 y298 y299 y300 y301 y302 y303 y304 y305 : Value} {P : Program} {ops : Array Oper} {Q : Exit → Act → World → Prop} {i : Nat} {o : Oper} (hq : ∀ x111 x112 x113 x114 x115 x116 x117 x118 x119 x120 x121 x122 x123 x124 x125 x126 x127 x128 x129 x130 x131 x132 x133 x134 x135 x136 x137 x138 x139 (L : Nat → Bool) (W : World), E21 W1 S kk B off n cap ki q Ln c SS bo bc L x111 x112 x113 x114 x115 x116 x117 x118 x119 x120 x121 x122 x123 x124 x125 x126 x127 x128 x129 x130 x131 x132 x133 x134 x135 x136 x137 x138 x139 W → L i = false → (∀ j ∈ onesOf o, L j = true) → ∀ K : Act → World → Prop, Shut (∀ a' w', IE21 W1 S kk B off n cap ki q Ln c SS bo bc y0 y1 y2 y3 y4 y5 y6 y7 y8 y9 y10 y11 y12 y13 y14 y15 y16 y17 y18 y19 y20 y21 y22 y23 y24 y25 y26 y27 y28 y29 y30 y31 y32 y33 y34 y35 y36 y37 y38 y39 y40 y41 y42 y43 y44 y45 y46 y47 y48 y49 y50 y51 y52 y53 y54 y55 y56 y57 y58 y59 y60 y61 y62 y63 y64 y65 y66 y67 y68 y69 y70 y71 y72 y73 y74 y75 y76 y77 y78 y79 y80 y81 y82 y83 y84 y85 y86 y87 y88 y89 y90 y91 y92 y93 y94 y95 y96 y97 y98 y99 y100 y101 y102 y103 y104 y105 y106 y107 y108 y109 y110 y140 y141 y142 y143 y144 y145 y146 y147 y148 y149 y150 y151 y152 y153 y154 y155 y156 y157 y158 y159 y160 y161 y162 y163 y164 y165 y166 y167 y168 y169 y170 y171 y172 y173 y174 y175 y176 y177 y178 y179 y180 y181 y182 y183 y184 y185 y186 y187 y188 y189 y190 y191 y192 y193 y194 y195 y196 y197 y198 y199 y200 y201 y202 y203 y204 y205 y206 y207 y208 y209 y210 y211 y212 y213 y214 y215 y216 y217 y218 y219 y220 y221 y222 y223 y224 y225 y226 y227 y228 y229 y230 y231 y232 y233 y234 y235 y236 y237 y238 y239 y240 y241 y242 y243 y244 y245 y246 y247 y248 y249 y250 y251 y252 y253 y254 y255 y256 y257 y258 y259 y260 y261 y262 y263 y264 y265 y266 y267 y268 y269 y270 y271 y272 y273 y274 y275 y276 y277 y278 y279 y280 y281 y282 y283 y284 y285 y286 y287 y288 y289 y290 y291 y292 y293 y294 y295 y296 y297 y298 y299 y300 y301 y302 y303 y304 y305 (upd L i) a' w' → K a' w') → if Region.wanted o (yielded ops (⟨#[y0, y1, y2, y3, y4, y5, y6, y7, y8, y9, y10, y11, y12, y13, y14, y15, y16, y17, y18, y19, y20, y21, y22, y23, y24, y25, y26, y27, y28, y29, y30, y31, y32, y33, y34, y35, y36, y37, y38, y39, y40, y41, y42, y43, y44, y45, y46, y47, y48, y49, y50, y51, y52, y53, y54, y55, y56, y57, y58, y59, y60, y61, y62, y63, y64, y65, y66, y67, y68, y69, y70, y71, y72, y73, y74, y75, y76, y77, y78, y79, y80, y81, y82, y83, y84, y85, y86, y87, y88, y89, y90, y91, y92, y93, y94, y95, y96, y97, y98, y99, y100, y101, y102, y103, y104, y105, y106, y107, y108, y109, y110, x111, x112, x113, x114, x115, x116, x117, x118, x119, x120, x121, x122, x123, x124, x125, x126, x127, x128, x129, x130, x131, x132, x133, x134, x135, x136, x137, x138, x139, y140, y141, y142, y143, y144, y145, y146, y147, y148, y149, y150, y151, y152, y153, y154, y155, y156, y157, y158, y159, y160, y161, y162, y163, y164, y165, y166, y167, y168, y169, y170, y171, y172, y173, y174, y175, y176, y177, y178, y179, y180, y181, y182, y183, y184, y185, y186, y187, y188, y189, y190, y191, y192, y193, y194, y195, y196, y197, y198, y199, y200, y201, y202, y203, y204, y205, y206, y207, y208, y209, y210, y211, y212, y213, y214, y215, y216, y217, y218, y219, y220, y221, y222, y223, y224, y225, y226, y227, y228, y229, y230, y231, y232, y233, y234, y235, y236, y237, y238, y239, y240, y241, y242, y243, y244, y245, y246, y247, y248, y249, y250, y251, y252, y253, y254, y255, y256, y257, y258, y259, y260, y261, y262, y263, y264, y265, y266, y267, y268, y269, y270, y271, y272, y273, y274, y275, y276, y277, y278, y279, y280, y281, y282, y283, y284, y285, y286, y287, y288, y289, y290, y291, y292, y293, y294, y295, y296, y297, y298, y299, y300, y301, y302, y303, y304, y305], []⟩ : Act).tmps) = true then Oper.wp P o ⟨#[y0, y1, y2, y3, y4, y5, y6, y7, y8, y9, y10, y11, y12, y13, y14, y15, y16, y17, y18, y19, y20, y21, y22, y23, y24, y25, y26, y27, y28, y29, y30, y31, y32, y33, y34, y35, y36, y37, y38, y39, y40, y41, y42, y43, y44, y45, y46, y47, y48, y49, y50, y51, y52, y53, y54, y55, y56, y57, y58, y59, y60, y61, y62, y63, y64, y65, y66, y67, y68, y69, y70, y71, y72, y73, y74, y75, y76, y77, y78, y79, y80, y81, y82, y83, y84, y85, y86, y87, y88, y89, y90, y91, y92, y93, y94, y95, y96, y97, y98, y99, y100, y101, y102, y103, y104, y105, y106, y107, y108, y109, y110, x111, x112, x113, x114, x115, x116, x117, x118, x119, x120, x121, x122, x123, x124, x125, x126, x127, x128, x129, x130, x131, x132, x133, x134, x135, x136, x137, x138, x139, y140, y141, y142, y143, y144, y145, y146, y147, y148, y149, y150, y151, y152, y153, y154, y155, y156, y157, y158, y159, y160, y161, y162, y163, y164, y165, y166, y167, y168, y169, y170, y171, y172, y173, y174, y175, y176, y177, y178, y179, y180, y181, y182, y183, y184, y185, y186, y187, y188, y189, y190, y191, y192, y193, y194, y195, y196, y197, y198, y199, y200, y201, y202, y203, y204, y205, y206, y207, y208, y209, y210, y211, y212, y213, y214, y215, y216, y217, y218, y219, y220, y221, y222, y223, y224, y225, y226, y227, y228, y229, y230, y231, y232, y233, y234, y235, y236, y237, y238, y239, y240, y241, y242, y243, y244, y245, y246, y247, y248, y249, y250, y251, y252, y253, y254, y255, y256, y257, y258, y259, y260, y261, y262, y263, y264, y265, y266, y267, y268, y269, y270, y271, y272, y273, y274, y275, y276, y277, y278, y279, y280, y281, y282, y283, y284, y285, y286, y287, y288, y289, y290, y291, y292, y293, y294, y295, y296, y297, y298, y299, y300, y301, y302, y303, y304, y305], []⟩ W K Q else K ((⟨#[y0, y1, y2, y3, y4, y5, y6, y7, y8, y9, y10, y11, y12, y13, y14, y15, y16, y17, y18, y19, y20, y21, y22, y23, y24, y25, y26, y27, y28, y29, y30, y31, y32, y33, y34, y35, y36, y37, y38, y39, y40, y41, y42, y43, y44, y45, y46, y47, y48, y49, y50, y51, y52, y53, y54, y55, y56, y57, y58, y59, y60, y61, y62, y63, y64, y65, y66, y67, y68, y69, y70, y71, y72, y73, y74, y75, y76, y77, y78, y79, y80, y81, y82, y83, y84, y85, y86, y87, y88, y89, y90, y91, y92, y93, y94, y95, y96, y97, y98, y99, y100, y101, y102, y103, y104, y105, y106, y107, y108, y109, y110, x111, x112, x113, x114, x115, x116, x117, x118, x119, x120, x121, x122, x123, x124, x125, x126, x127, x128, x129, x130, x131, x132, x133, x134, x135, x136, x137, x138, x139, y140, y141, y142, y143, y144, y145, y146, y147, y148, y149, y150, y151, y152, y153, y154, y155, y156, y157, y158, y159, y160, y161, y162, y163, y164, y165, y166, y167, y168, y169, y170, y171, y172, y173, y174, y175, y176, y177, y178, y179, y180, y181, y182, y183, y184, y185, y186, y187, y188, y189, y190, y191, y192, y193, y194, y195, y196, y197, y198, y199, y200, y201, y202, y203, y204, y205, y206, y207, y208, y209, y210, y211, y212, y213, y214, y215, y216, y217, y218, y219, y220, y221, y222, y223, y224, y225, y226, y227, y228, y229, y230, y231, y232, y233, y234, y235, y236, y237, y238, y239, y240, y241, y242, y243, y244, y245, y246, y247, y248, y249, y250, y251, y252, y253, y254, y255, y256, y257, y258, y259, y260, y261, y262, y263, y264, y265, y266, y267, y268, y269, y270, y271, y272, y273, y274, y275, y276, y277, y278, y279, y280, y281, y282, y283, y284, y285, y286, y287, y288, y289, y290, y291, y292, y293, y294, y295, y296, y297, y298, y299, y300, y301, y302, y303, y304, y305], []⟩ : Act).put o.dst undef) W) : StepI P ops (IE21 W1 S kk B off n cap ki q Ln c SS bo bc y0 y1 y2 y3 y4 y5 y6 y7 y8 y9 y10 y11 y12 y13 y14 y15 y16 y17 y18 y19 y20 y21 y22 y23 y24 y25 y26 y27 y28 y29 y30 y31 y32 y33 y34 y35 y36 y37 y38 y39 y40 y41 y42 y43 y44 y45 y46 y47 y48 y49 y50 y51 y52 y53 y54 y55 y56 y57 y58 y59 y60 y61 y62 y63 y64 y65 y66 y67 y68 y69 y70 y71 y72 y73 y74 y75 y76 y77 y78 y79 y80 y81 y82 y83 y84 y85 y86 y87 y88 y89 y90 y91 y92 y93 y94 y95 y96 y97 y98 y99 y100 y101 y102 y103 y104 y105 y106 y107 y108 y109 y110 y140 y141 y142 y143 y144 y145 y146 y147 y148 y149 y150 y151 y152 y153 y154 y155 y156 y157 y158 y159 y160 y161 y162 y163 y164 y165 y166 y167 y168 y169 y170 y171 y172 y173 y174 y175 y176 y177 y178 y179 y180 y181 y182 y183 y184 y185 y186 y187 y188 y189 y190 y191 y192 y193 y194 y195 y196 y197 y198 y199 y200 y201 y202 y203 y204 y205 y206 y207 y208 y209 y210 y211 y212 y213 y214 y215 y216 y217 y218 y219 y220 y221 y222 y223 y224 y225 y226 y227 y228 y229 y230 y231 y232 y233 y234 y235 y236 y237 y238 y239 y240 y241 y242 y243 y244 y245 y246 y247 y248 y249 y250 y251 y252 y253 y254 y255 y256 y257 y258 y259 y260 y261 y262 y263 y264 y265 y266 y267 y268 y269 y270 y271 y272 y273 y274 y275 y276 y277 y278 y279 y280 y281 y282 y283 y284 y285 y286 y287 y288 y289 y290 y291 y292 y293 y294 y295 y296 y297 y298 y299 y300 y301 y302 y303 y304 y305) Q i o := by
  rintro L a W ⟨x111, x112, x113, x114, x115, x116, x117, x118, x119, x120, x121, x122, x123, x124, x125, x126, x127, x128, x129, x130, x131, x132, x133, x134, x135, x136, x137, x138, x139, rfl, h⟩
  exact hq _ _ _ _ _ _ _ _ _ _ _ _ _ _ _ _ _ _ _ _ _ _ _ _ _ _ _ _ _ _ _ h
theorem E21.ends {W1 : World} {S : Nat} {kk : Int} {B off n cap ki q Ln c : Nat} {SS : ByteArray} {bo : Option Addr} {bc : Nat} {y0 y1 y2 y3 y4 y5 y6 y7 y8 y9 y10 y11 y12 y13 y14 y15 y16 y17 y18 y19 y20 y21 y22 y23 y24 y25 y26 y27 y28 y29 y30 y31 y32 y33 y34 y35 y36 y37 y38 y39 y40 y41 y42 y43 y44 y45 y46 y47 y48 y49 y50 y51 y52 y53 y54 y55 y56 y57 y58 y59 y60 y61 y62 y63 y64 y65 y66 y67 y68 y69 y70 y71 y72 y73 y74 y75 y76 y77 y78 y79 y80 y81 y82 y83 y84 y85 y86 y87 y88 y89 y90 y91 y92 y93 y94 y95 y96 y97 y98 y99 y100 y101 y102 y103 y104 y105 y106 y107 y108 y109 y110 y140 y141 y142 y143 y144 y145 y146 y147 y148 y149 y150 y151 y152 y153 y154 y155 y156 y157 y158 y159 y160 y161 y162 y163 y164 y165 y166 y167 y168 y169 y170 y171 y172 y173 y174 y175 y176 y177 y178 y179 y180 y181 y182 y183 y184 y185 y186 y187 y188 y189 y190 y191 y192 y193 y194 y195 y196 y197 y198 y199 y200 y201 y202 y203 y204 y205 y206 y207 y208 y209 y210 y211 y212 y213 y214 y215 y216 y217 y218 y219 y220 y221 y222 y223 y224 y225 y226 y227 y228 y229 y230 y231 y232 y233 y234 y235 y236 y237 y238 y239 y240 y241 y242 y243 y244 y245 y246 y247 y248 y249 y250 y251 y252 y253 y254 y255 y256 y257 y258 y259 y260 y261 y262 y263 y264 y265 y266 y267 y268 y269 y270 y271 y272 y273 y274 y275 y276 y277 y278 y279 y280 y281 y282 y283 y284 y285 y286 y287 y288 y289 y290 y291 y292 y293 y294 y295 y296 y297 y298 y299 y300 y301 y302 y303 y304 y305 : Value} {mm_ : Nat} {Q : Exit → Act → World → Prop} (hq : ∀ x111 x112 x113 x114 x115 x116 x117 x118 x119 x120 x121 x122 x123 x124 x125 x126 x127 x128 x129 x130 x131 x132 x133 x134 x135 x136 x137 x138 x139 (L : Nat → Bool) (W : World), (∀ j, j < mm_ → L j = true) → E21 W1 S kk B off n cap ki q Ln c SS bo bc L x111 x112 x113 x114 x115 x116 x117 x118 x119 x120 x121 x122 x123 x124 x125 x126 x127 x128 x129 x130 x131 x132 x133 x134 x135 x136 x137 x138 x139 W → Q .normal ⟨#[y0, y1, y2, y3, y4, y5, y6, y7, y8, y9, y10, y11, y12, y13, y14, y15, y16, y17, y18, y19, y20, y21, y22, y23, y24, y25, y26, y27, y28, y29, y30, y31, y32, y33, y34, y35, y36, y37, y38, y39, y40, y41, y42, y43, y44, y45, y46, y47, y48, y49, y50, y51, y52, y53, y54, y55, y56, y57, y58, y59, y60, y61, y62, y63, y64, y65, y66, y67, y68, y69, y70, y71, y72, y73, y74, y75, y76, y77, y78, y79, y80, y81, y82, y83, y84, y85, y86, y87, y88, y89, y90, y91, y92, y93, y94, y95, y96, y97, y98, y99, y100, y101, y102, y103, y104, y105, y106, y107, y108, y109, y110, x111, x112, x113, x114, x115, x116, x117, x118, x119, x120, x121, x122, x123, x124, x125, x126, x127, x128, x129, x130, x131, x132, x133, x134, x135, x136, x137, x138, x139, y140, y141, y142, y143, y144, y145, y146, y147, y148, y149, y150, y151, y152, y153, y154, y155, y156, y157, y158, y159, y160, y161, y162, y163, y164, y165, y166, y167, y168, y169, y170, y171, y172, y173, y174, y175, y176, y177, y178, y179, y180, y181, y182, y183, y184, y185, y186, y187, y188, y189, y190, y191, y192, y193, y194, y195, y196, y197, y198, y199, y200, y201, y202, y203, y204, y205, y206, y207, y208, y209, y210, y211, y212, y213, y214, y215, y216, y217, y218, y219, y220, y221, y222, y223, y224, y225, y226, y227, y228, y229, y230, y231, y232, y233, y234, y235, y236, y237, y238, y239, y240, y241, y242, y243, y244, y245, y246, y247, y248, y249, y250, y251, y252, y253, y254, y255, y256, y257, y258, y259, y260, y261, y262, y263, y264, y265, y266, y267, y268, y269, y270, y271, y272, y273, y274, y275, y276, y277, y278, y279, y280, y281, y282, y283, y284, y285, y286, y287, y288, y289, y290, y291, y292, y293, y294, y295, y296, y297, y298, y299, y300, y301, y302, y303, y304, y305], []⟩ W) : ∀ L a' w', (∀ j, j < mm_ → L j = true) → IE21 W1 S kk B off n cap ki q Ln c SS bo bc y0 y1 y2 y3 y4 y5 y6 y7 y8 y9 y10 y11 y12 y13 y14 y15 y16 y17 y18 y19 y20 y21 y22 y23 y24 y25 y26 y27 y28 y29 y30 y31 y32 y33 y34 y35 y36 y37 y38 y39 y40 y41 y42 y43 y44 y45 y46 y47 y48 y49 y50 y51 y52 y53 y54 y55 y56 y57 y58 y59 y60 y61 y62 y63 y64 y65 y66 y67 y68 y69 y70 y71 y72 y73 y74 y75 y76 y77 y78 y79 y80 y81 y82 y83 y84 y85 y86 y87 y88 y89 y90 y91 y92 y93 y94 y95 y96 y97 y98 y99 y100 y101 y102 y103 y104 y105 y106 y107 y108 y109 y110 y140 y141 y142 y143 y144 y145 y146 y147 y148 y149 y150 y151 y152 y153 y154 y155 y156 y157 y158 y159 y160 y161 y162 y163 y164 y165 y166 y167 y168 y169 y170 y171 y172 y173 y174 y175 y176 y177 y178 y179 y180 y181 y182 y183 y184 y185 y186 y187 y188 y189 y190 y191 y192 y193 y194 y195 y196 y197 y198 y199 y200 y201 y202 y203 y204 y205 y206 y207 y208 y209 y210 y211 y212 y213 y214 y215 y216 y217 y218 y219 y220 y221 y222 y223 y224 y225 y226 y227 y228 y229 y230 y231 y232 y233 y234 y235 y236 y237 y238 y239 y240 y241 y242 y243 y244 y245 y246 y247 y248 y249 y250 y251 y252 y253 y254 y255 y256 y257 y258 y259 y260 y261 y262 y263 y264 y265 y266 y267 y268 y269 y270 y271 y272 y273 y274 y275 y276 y277 y278 y279 y280 y281 y282 y283 y284 y285 y286 y287 y288 y289 y290 y291 y292 y293 y294 y295 y296 y297 y298 y299 y300 y301 y302 y303 y304 y305 L a' w' → Q .normal a' w' := by
  rintro L a W hall ⟨x111, x112, x113, x114, x115, x116, x117, x118, x119, x120, x121, x122, x123, x124, x125, x126, x127, x128, x129, x130, x131, x132, x133, x134, x135, x136, x137, x138, x139, rfl, h⟩
  exact hq _ _ _ _ _ _ _ _ _ _ _ _ _ _ _ _ _ _ _ _ _ _ _ _ _ _ _ _ _ _ _ hall h
set_option maxHeartbeats 4000000 in
set_option maxRecDepth 1000000 in
theorem st8 (c2 c3 c4 c6 c7 c8 c10 c11 c13 c14 c15 c16 c17 c18 c19 c20 c21 c22 c23 c24 c25 c26 c27 c28 c29 c30 c31 c32 c33 c34 c35 c36 c37 c38 c39 c40 c41 c42 c43 c44 c45 c46 c47 c48 c49 c50 c51 c52 c53 c54 c55 c56 c57 c58 c59 c60 c61 c62 c63 c64 c65 c66 c67 c68 c69 c70 c71 c72 c73 c74 c75 c76 c77 c78 c79 c80 c81 c82 c83 c84 c85 c86 c87 c88 c89 c90 c91 c92 c93 c94 c95 c96 c97 c98 c99 c100 c101 c102 c103 c104 c105 c106 c107 c108 c109 c110 c111 c112 c113 c114 c115 c116 c117 c118 c119 c120 c121 c122 c123 c124 c125 c126 c127 c128 c129 c130 c131 c132 c133 c134 c135 c136 c137 c138 c139 c140 c141 c142 c143 c144 c145 c146 c147 c148 c149 c150 c151 c152 c153 c154 c155 c156 c157 c158 c159 c160 c161 c162 c163 c164 c165 c166 c167 c168 c169 c170 c171 c172 c173 c174 c175 c176 c177 c178 c179 c180 c181 c182 c183 c184 c185 c186 c187 c188 c189 c190 c191 c192 c193 c194 c195 c196 c197 c198 c199 c200 c201 c202 c203 c204 c205 c206 c207 c208 c209 c210 c211 c212 c213 c214 c215 c216 c217 c218 c219 c220 c221 c222 c223 c224 c225 c226 c227 c228 c229 c230 c231 c232 c233 c234 c235 c236 c237 c238 c239 c240 c241 c242 c243 c244 c245 c246 c247 c248 c249 c250 c251 c252 c253 c254 c255 c256 c257 c258 c259 c260 c261 c262 c263 c264 c265 c266 c267 c268 c269 c270 c271 c272 c273 c274 c275 c276 c277 c278 c279 c280 c281 c282 c283 c284 c285 c286 c287 c288 c289 c290 c291 c292 c293 c294 c295 c296 c297 c298 c299 c300 c301 c302 c303 c304 c305 : Value) (pv rv : Value) (Q : Exit → Act → World → Prop) (ao : Option Addr) (n cap : Nat) (qo : Option Addr) (m qc : Nat) (N N1 : Nat) (Wa : World) (O : Nat) (l : Secs) (qs : List (Nat × Nat)) (hO : O2 N N1 Wa Wa O n l qs 0) (B off : Nat) (vs : List Value) (hln : l.length = n) (hn : n ≤ 70) (hao : 0 < n → ao = some ⟨B, off, none⟩)
    (hin : ∀ W', Below N Wa W' → SecIn W' B off vs l) (hbig : ∀ i, i < l.length → (l.getD i (0, [])).2.length ≤ 140737488351232)
    (hcont : ∀ wr, O2 N N1 Wa wr O n l qs n → ∀ (c2 c3 c4 c6 c7 c8 c10 c11 c13 c14 c15 c16 c17 c18 c19 c20 c21 c22 c23 c24 c25 c26 c27 c28 c29 c30 c31 c32 c33 c34 c35 c36 c37 c38 c39 c40 c41 c42 c43 c44 c45 c46 c47 c48 c49 c50 c51 c52 c53 c54 c55 c56 c57 c58 c59 c60 c61 c62 c63 c64 c65 c66 c67 c68 c69 c70 c71 c72 c73 c74 c75 c76 c77 c78 c79 c80 c81 c82 c83 c84 c85 c86 c87 c88 c89 c90 c91 c92 c93 c94 c95 c96 c97 c98 c99 c100 c101 c102 c103 c104 c105 c106 c107 c108 c109 c110 c111 c112 c113 c114 c115 c116 c117 c118 c119 c120 c121 c122 c123 c124 c125 c126 c127 c128 c129 c130 c131 c132 c133 c134 c135 c136 c137 c138 c139 c140 c141 c142 c143 c144 c145 c146 c147 c148 c149 c150 c151 c152 c153 c154 c155 c156 c157 c158 c159 c160 c161 c162 c163 c164 c165 c166 c167 c168 c169 c170 c171 c172 c173 c174 c175 c176 c177 c178 c179 c180 c181 c182 c183 c184 c185 c186 c187 c188 c189 c190 c191 c192 c193 c194 c195 c196 c197 c198 c199 c200 c201 c202 c203 c204 c205 c206 c207 c208 c209 c210 c211 c212 c213 c214 c215 c216 c217 c218 c219 c220 c221 c222 c223 c224 c225 c226 c227 c228 c229 c230 c231 c232 c233 c234 c235 c236 c237 c238 c239 c240 c241 c242 c243 c244 c245 c246 c247 c248 c249 c250 c251 c252 c253 c254 c255 c256 c257 c258 c259 c260 c261 c262 c263 c264 c265 c266 c267 c268 c269 c270 c271 c272 c273 c274 c275 c276 c277 c278 c279 c280 c281 c282 c283 c284 c285 c286 c287 c288 c289 c290 c291 c292 c293 c294 c295 c296 c297 c298 c299 c300 c301 c302 c303 c304 c305 : Value), Code.wp Try.prog (dropS 9 (Try.f6.body.getD .skip)) Q ⟨#[.slice ao n cap, .slice qo m qc, c2, c3, c4, .slice (some ⟨O, 0, none⟩) n (n + 2), c6, c7, c8, pv, c10, c11, rv, c13, c14, c15, c16, c17, c18, c19, c20, c21, c22, c23, c24, c25, c26, c27, c28, c29, c30, c31, c32, c33, c34, c35, c36, c37, c38, c39, c40, c41, c42, c43, c44, c45, c46, c47, c48, c49, c50, c51, c52, c53, c54, c55, c56, c57, c58, c59, c60, c61, c62, c63, c64, c65, c66, c67, c68, c69, c70, c71, c72, c73, c74, c75, c76, c77, c78, c79, c80, c81, c82, c83, c84, c85, c86, c87, c88, c89, c90, c91, c92, c93, c94, c95, c96, c97, c98, c99, c100, c101, c102, c103, c104, c105, c106, c107, c108, c109, c110, c111, c112, c113, c114, c115, c116, c117, c118, c119, c120, c121, c122, c123, c124, c125, c126, c127, c128, c129, c130, c131, c132, c133, c134, c135, c136, c137, c138, c139, c140, c141, c142, c143, c144, c145, c146, c147, c148, c149, c150, c151, c152, c153, c154, c155, c156, c157, c158, c159, c160, c161, c162, c163, c164, c165, c166, c167, c168, c169, c170, c171, c172, c173, c174, c175, c176, c177, c178, c179, c180, c181, c182, c183, c184, c185, c186, c187, c188, c189, c190, c191, c192, c193, c194, c195, c196, c197, c198, c199, c200, c201, c202, c203, c204, c205, c206, c207, c208, c209, c210, c211, c212, c213, c214, c215, c216, c217, c218, c219, c220, c221, c222, c223, c224, c225, c226, c227, c228, c229, c230, c231, c232, c233, c234, c235, c236, c237, c238, c239, c240, c241, c242, c243, c244, c245, c246, c247, c248, c249, c250, c251, c252, c253, c254, c255, c256, c257, c258, c259, c260, c261, c262, c263, c264, c265, c266, c267, c268, c269, c270, c271, c272, c273, c274, c275, c276, c277, c278, c279, c280, c281, c282, c283, c284, c285, c286, c287, c288, c289, c290, c291, c292, c293, c294, c295, c296, c297, c298, c299, c300, c301, c302, c303, c304, c305], []⟩ wr) :
    Code.wp Try.prog (dropS 8 (Try.f6.body.getD .skip)) Q ⟨#[.slice ao n cap, .slice qo m qc, c2, c3, c4, .slice (some ⟨O, 0, none⟩) n (n + 2), c6, c7, c8, pv, c10, c11, rv, c13, c14, c15, c16, c17, c18, c19, c20, c21, c22, c23, c24, c25, c26, c27, c28, c29, c30, c31, c32, c33, c34, c35, c36, c37, c38, c39, c40, c41, c42, c43, c44, c45, c46, c47, c48, c49, c50, c51, c52, c53, c54, c55, c56, c57, c58, c59, c60, c61, c62, c63, c64, c65, c66, c67, c68, c69, c70, c71, c72, c73, c74, c75, c76, c77, c78, c79, c80, c81, c82, c83, c84, c85, c86, c87, c88, c89, c90, c91, c92, c93, c94, c95, c96, c97, c98, c99, c100, c101, c102, c103, c104, c105, c106, c107, c108, c109, c110, c111, c112, c113, c114, c115, c116, c117, c118, c119, c120, c121, c122, c123, c124, c125, c126, c127, c128, c129, c130, c131, c132, c133, c134, c135, c136, c137, c138, c139, c140, c141, c142, c143, c144, c145, c146, c147, c148, c149, c150, c151, c152, c153, c154, c155, c156, c157, c158, c159, c160, c161, c162, c163, c164, c165, c166, c167, c168, c169, c170, c171, c172, c173, c174, c175, c176, c177, c178, c179, c180, c181, c182, c183, c184, c185, c186, c187, c188, c189, c190, c191, c192, c193, c194, c195, c196, c197, c198, c199, c200, c201, c202, c203, c204, c205, c206, c207, c208, c209, c210, c211, c212, c213, c214, c215, c216, c217, c218, c219, c220, c221, c222, c223, c224, c225, c226, c227, c228, c229, c230, c231, c232, c233, c234, c235, c236, c237, c238, c239, c240, c241, c242, c243, c244, c245, c246, c247, c248, c249, c250, c251, c252, c253, c254, c255, c256, c257, c258, c259, c260, c261, c262, c263, c264, c265, c266, c267, c268, c269, c270, c271, c272, c273, c274, c275, c276, c277, c278, c279, c280, c281, c282, c283, c284, c285, c286, c287, c288, c289, c290, c291, c292, c293, c294, c295, c296, c297, c298, c299, c300, c301, c302, c303, c304, c305], []⟩ Wa := by
  have HCT : Hid (∀ wr, O2 N N1 Wa wr O n l qs n → ∀ (c2 c3 c4 c6 c7 c8 c10 c11 c13 c14 c15 c16 c17 c18 c19 c20 c21 c22 c23 c24 c25 c26 c27 c28 c29 c30 c31 c32 c33 c34 c35 c36 c37 c38 c39 c40 c41 c42 c43 c44 c45 c46 c47 c48 c49 c50 c51 c52 c53 c54 c55 c56 c57 c58 c59 c60 c61 c62 c63 c64 c65 c66 c67 c68 c69 c70 c71 c72 c73 c74 c75 c76 c77 c78 c79 c80 c81 c82 c83 c84 c85 c86 c87 c88 c89 c90 c91 c92 c93 c94 c95 c96 c97 c98 c99 c100 c101 c102 c103 c104 c105 c106 c107 c108 c109 c110 c111 c112 c113 c114 c115 c116 c117 c118 c119 c120 c121 c122 c123 c124 c125 c126 c127 c128 c129 c130 c131 c132 c133 c134 c135 c136 c137 c138 c139 c140 c141 c142 c143 c144 c145 c146 c147 c148 c149 c150 c151 c152 c153 c154 c155 c156 c157 c158 c159 c160 c161 c162 c163 c164 c165 c166 c167 c168 c169 c170 c171 c172 c173 c174 c175 c176 c177 c178 c179 c180 c181 c182 c183 c184 c185 c186 c187 c188 c189 c190 c191 c192 c193 c194 c195 c196 c197 c198 c199 c200 c201 c202 c203 c204 c205 c206 c207 c208 c209 c210 c211 c212 c213 c214 c215 c216 c217 c218 c219 c220 c221 c222 c223 c224 c225 c226 c227 c228 c229 c230 c231 c232 c233 c234 c235 c236 c237 c238 c239 c240 c241 c242 c243 c244 c245 c246 c247 c248 c249 c250 c251 c252 c253 c254 c255 c256 c257 c258 c259 c260 c261 c262 c263 c264 c265 c266 c267 c268 c269 c270 c271 c272 c273 c274 c275 c276 c277 c278 c279 c280 c281 c282 c283 c284 c285 c286 c287 c288 c289 c290 c291 c292 c293 c294 c295 c296 c297 c298 c299 c300 c301 c302 c303 c304 c305 : Value), Code.wp Try.prog (dropS 9 (Try.f6.body.getD .skip)) Q ⟨#[.slice ao n cap, .slice qo m qc, c2, c3, c4, .slice (some ⟨O, 0, none⟩) n (n + 2), c6, c7, c8, pv, c10, c11, rv, c13, c14, c15, c16, c17, c18, c19, c20, c21, c22, c23, c24, c25, c26, c27, c28, c29, c30, c31, c32, c33, c34, c35, c36, c37, c38, c39, c40, c41, c42, c43, c44, c45, c46, c47, c48, c49, c50, c51, c52, c53, c54, c55, c56, c57, c58, c59, c60, c61, c62, c63, c64, c65, c66, c67, c68, c69, c70, c71, c72, c73, c74, c75, c76, c77, c78, c79, c80, c81, c82, c83, c84, c85, c86, c87, c88, c89, c90, c91, c92, c93, c94, c95, c96, c97, c98, c99, c100, c101, c102, c103, c104, c105, c106, c107, c108, c109, c110, c111, c112, c113, c114, c115, c116, c117, c118, c119, c120, c121, c122, c123, c124, c125, c126, c127, c128, c129, c130, c131, c132, c133, c134, c135, c136, c137, c138, c139, c140, c141, c142, c143, c144, c145, c146, c147, c148, c149, c150, c151, c152, c153, c154, c155, c156, c157, c158, c159, c160, c161, c162, c163, c164, c165, c166, c167, c168, c169, c170, c171, c172, c173, c174, c175, c176, c177, c178, c179, c180, c181, c182, c183, c184, c185, c186, c187, c188, c189, c190, c191, c192, c193, c194, c195, c196, c197, c198, c199, c200, c201, c202, c203, c204, c205, c206, c207, c208, c209, c210, c211, c212, c213, c214, c215, c216, c217, c218, c219, c220, c221, c222, c223, c224, c225, c226, c227, c228, c229, c230, c231, c232, c233, c234, c235, c236, c237, c238, c239, c240, c241, c242, c243, c244, c245, c246, c247, c248, c249, c250, c251, c252, c253, c254, c255, c256, c257, c258, c259, c260, c261, c262, c263, c264, c265, c266, c267, c268, c269, c270, c271, c272, c273, c274, c275, c276, c277, c278, c279, c280, c281, c282, c283, c284, c285, c286, c287, c288, c289, c290, c291, c292, c293, c294, c295, c296, c297, c298, c299, c300, c301, c302, c303, c304, c305], []⟩ wr) := hcont
  have HO0 : Hid (O2 N N1 Wa Wa O n l qs 0) := hO
  have HIN : Hid (∀ W', Below N Wa W' → SecIn W' B off vs l) := hin
  have HAO : Hid (0 < n → ao = some ⟨B, off, none⟩) := hao
  have HLN : Hid (l.length = n) := hln
  have HBG : Hid (∀ i, i < l.length → (l.getD i (0, [])).2.length ≤ 140737488351232) := hbig
  clear hcont hO hin hao hln hbig
  conv => arg 2; whnf
  refine wp_seq_k fun K hK => ?_
  have HKK : Hid _ := hK
  clear hK
  go_wp2
  go_loopw [99] (fun iv wr => ∃ k : Nat, k ≤ n ∧ iv = .int .i64 k ∧ Hid (O2 N N1 Wa wr O n l qs k)) (fun iv _ => n - (intOf iv).toNat)
  case atStart => exact ⟨0, by omega, rfl, HO0⟩
  case round =>
    clear HO0
    obtain ⟨k, hk, rfl, HO⟩ := hrel
    by_cases hlt : k < n
    · obtain rfl := HAO.out (by omega)
      have y0 : (0 : Int) ≤ (k : Int) := by omega
      have y1 : (k : Int) < (n : Int) := by omega
      obtain ⟨wo, hwo⟩ : ∃ wo, wo = wr := ⟨wr, rfl⟩
      subst hwo
      obtain ⟨p, hp⟩ : ∃ p, qs[k]? = some p := ⟨_, List.getElem?_eq_getElem (by rw [HO.out.len]; exact hlt)⟩
      have HP : Hid (qs[k]? = some p) := hp
      have hkl : k < l.length := by rw [HLN.out]; exact hlt
      obtain ⟨C, hr, hcl, hck, hcs, _⟩ := HO.out.row
      have hown : Hid (Own N wo (.slice (some ⟨p.1, 0, none⟩) ((l.getD k (0, [])).2.length + 3) p.2) ((l.getD k (0, [])).2 ++ mk3)) := HO.out.own k p (Nat.le_refl _) hp
      have hcp : (l.getD k (0, [])).2.length + 3 ≤ p.2 := own_cap hown.out
      have hsc := HIN.out _ HO.out.bel
      obtain ⟨bo, bc, ev, hbb, hbc, hbn⟩ := hsc.bytes k hkl
      have hsk := hsc.key k hkl
      have hss := hsc.sl k hkl
      rw [ev] at hss
      have hlb := HBG.out k hkl
      have hqk := HO.out.hq k p hp
      have hrg : wo.rangeAt O (k * 2) [.int .i64 (l.getD k (0, [])).1, .slice (some ⟨p.1, 0, none⟩) (l.getD k (0, [])).2.length p.2] := by
        intro q v hv
        match q, hv with
        | 0, hv => injection hv with hv; subst hv; exact hr.cell (k * 2) _ (hck k (Nat.le_refl _) hlt)
        | 1, hv => injection hv with hv; subst hv; exact hr.cell (k * 2 + 1) _ (hcs k p hp)
      have HBO : Hid (∀ W', Below N Wa W' → IsB W' bo (l.getD k (0, [])).2) := fun W' h => by
        obtain ⟨bo2, bc2, ev2, hb2, _⟩ := (HIN.out W' h).bytes k hkl
        rw [ev] at ev2
        injection ev2 with e1 _ _
        rw [e1]; exact hb2
      have HCK : Hid (∀ W', Below N Wa W' → W'.cell? ⟨B, off + k * 2, none⟩ = some (.int .i64 (l.getD k (0, [])).1)) := fun W' h => (HIN.out W' h).key k hkl
      have HCS : Hid (∀ W', Below N Wa W' → W'.cell? ⟨B, off + k * 2 + 1, none⟩ = some (.slice bo (l.getD k (0, [])).2.length bc)) := fun W' h => by rw [← ev]; exact (HIN.out W' h).sl k hkl
      have HLN2 : Hid ((l.getD k (0, [])).2.length ≤ 140737488351232) := hlb
      have HROW : Hid (Row wo O 42 C) := hr
      have HCKK : Hid (C[k * 2]? = some (.int .i64 (l.getD k (0, [])).1)) := hck k (Nat.le_refl _) hlt
      have HNW : Hid (N ≤ wo.heap.size) := hown.out.2
      have HOK : Hid (O2 N N1 Wa wo O n l qs k) := HO
      clear hbb hbc hbn hsk hss hsc ev hlb hr hcl hck hcs hp hkl HO
      obtain ⟨q, c⟩ := p
      dsimp only at hown hcp hqk hrg
      generalize (l.getD k (0, [])).1 = kk at *
      generalize (l.getD k (0, [])).2 = bs at *
      have HB8 : Hid (strOf mk3 = { data := #[161, 162, 163] }) := rfl
      generalize hS : wo.heap.size = S at *
      have hqS : q < S := by rw [← hS]; exact hown.out.lt.2
      have hOS : O < S := by rw [← hS]; exact HROW.out.lt
      generalize hL : bs.length = Ln at *
      have HBL : Hid (bs.length = Ln) := hL
      clear hL
      have hl3 := HLN2.out
      have z1 : IntKind.i64.wrap ((Ln : Int) + 3) = (Ln : Int) + 3 := i64_in _ (by omega) (by omega)
      have j1 : (0 : Int) ≤ (Ln : Int) + 3 := by omega
      have j2 : (Ln : Int) + 3 ≤ (c : Int) := by omega
      have t1 : ((Ln : Int) + 3).toNat = Ln + 3 := by omega
      go_wp2_with (first | (refine wpList_load_mid rfl 42 (.tmp 102) rfl O (k * 2) rfl [.int .i64 kk, .slice (some ⟨q, 0, none⟩) Ln c] _ hrg Try.underlying42 rfl (by kernel_rfl) ?_) | (refine wpList_store_Row rfl 42 _ _ rfl S 42 0 [.int .i64 0, .slice none 0 0] [.int .i64 kk, .slice (some ⟨q, 0, none⟩) Ln c] (Row.at wo _ _ _ _ hS.symm rfl) (by simp) rfl rfl (by kernel_rfl) (by intro u hu; simp at hu; rcases hu with rfl | rfl <;> rfl) ?_; intro w2 hr2 hs2; have r2 := row_whole hr2 (by simp); have b2 : Hid (Below S wo w2) := hs2.below ((Below.refl _ _).alloc (by omega) _) (Nat.le_refl _); clear hr2 hs2; have c1 := r2.cell 1 _ rfl))
      clear c1 hrg
      have bw2 : Hid (Below N Wa w2) := HOK.out.bel.trans (b2.out.mono HNW.out)
      have r2h : Hid (Row w2 S 42 [.int .i64 kk, .slice (some ⟨q, 0, none⟩) Ln c]) := r2
      have ho2 : Hid (Own N w2 (.slice (some ⟨q, 0, none⟩) (Ln + 3) c) (bs ++ mk3)) := hown.out.keep (by rw [hS]; exact b2.out)
      have HS0 : Hid (∀ W, W = w2.drew → W.cell? ⟨S, 0, none⟩ = some (.int .i64 kk)) := fun W h => by subst h; exact r2.cell 0 _ rfl
      have HS1 : Hid (∀ W, W = w2.drew → W.cell? ⟨S, 1, none⟩ = some (.slice (some ⟨q, 0, none⟩) Ln c)) := fun W h => by subst h; exact r2.cell 1 _ rfl
      have HC0 : Hid (∀ W, W = w2.drew → W.cell? ⟨B, off + k * 2, none⟩ = some (.int .i64 kk)) := fun W h => by subst h; exact HCK.out _ bw2.out.drew
      have HC1 : Hid (∀ W, W = w2.drew → W.cell? ⟨B, off + k * 2 + 1, none⟩ = some (.slice bo Ln bc)) := fun W h => by subst h; exact HCS.out _ bw2.out.drew
      have HV1 : Hid (∀ W, W = w2.drew → (convert 36 9 (.slice (some ⟨q, 0, none⟩) Ln c)).run Try.prog W = .ok (.string (strOf bs)) W) := fun W h => by subst h; exact conv_bytes _ _ _ _ bs HBL.out (isB_pre (own_IsB ho2.out))
      have HV2 : Hid (∀ W, W = w2.drew → (convert 36 9 (.slice bo Ln bc)).run Try.prog W = .ok (.string (strOf bs)) W) := fun W h => by subst h; exact conv_bytes _ _ _ _ bs HBL.out (HBO.out _ bw2.out.drew)
      have HV3 : Hid (∀ W, W = w2.drew → (convert 36 9 (.slice (some ⟨q, Ln, none⟩) 3 (c - Ln))).run Try.prog W = .ok (.string { data := #[161, 162, 163] }) W) := fun W h => by
        subst h
        have := conv_bytes w2.drew (some ⟨q, bs.length, none⟩) 3 (c - bs.length) mk3 rfl (isB_suf (own_IsB ho2.out))
        rw [HBL.out] at this
        exact this
      clear r2 HBO HCK HCS
      generalize strOf bs = SS at *
      refine wp_region_inv (IE21 w2 S kk B off n cap k q Ln c SS bo bc _ _ _ _ _ _ _ _ _ _ _ _ _ _ _ _ _ _ _ _ _ _ _ _ _ _ _ _ _ _ _ _ _ _ _ _ _ _ _ _ _ _ _ _ _ _ _ _ _ _ _ _ _ _ _ _ _ _ _ _ _ _ _ _ _ _ _ _ _ _ _ _ _ _ _ _ _ _ _ _ _ _ _ _ _ _ _ _ _ _ _ _ _ _ _ _ _ _ _ _ _ _ _ _ _ _ _ _ _ _ _ _ _ _ _ _ _ _ _ _ _ _ _ _ _ _ _ _ _ _ _ _ _ _ _ _ _ _ _ _ _ _ _ _ _ _ _ _ _ _ _ _ _ _ _ _ _ _ _ _ _ _ _ _ _ _ _ _ _ _ _ _ _ _ _ _ _ _ _ _ _ _ _ _ _ _ _ _ _ _ _ _ _ _ _ _ _ _ _ _ _ _ _ _ _ _ _ _ _ _ _ _ _ _ _ _ _ _ _ _ _ _ _ _ _ _ _ _ _ _ _ _ _ _ _ _ _ _ _ _ _ _ _ _ _ _ _ _ _ _ _ _ _ _ _ _ _ _ _ _ _ _ _ _ _ _ _ _ _ _ _ _ _ _ _ _ _) (by kernel_rfl) (by kernel_rfl) ⟨_, _, _, _, _, _, _, _, _, _, _, _, _, _, _, _, _, _, _, _, _, _, _, _, _, _, _, _, _, rfl, ⟨rfl, fun k => (by cases k), fun k => (by cases k), fun k => (by cases k), fun k => (by cases k), fun k => (by cases k), fun k => (by cases k), fun k => (by cases k), fun k => (by cases k), fun k => (by cases k), fun k => (by cases k), fun k => (by cases k), fun k => (by cases k), fun k => (by cases k), fun k => (by cases k), fun k => (by cases k), fun k => (by cases k), fun k => (by cases k), fun k => (by cases k), fun k => (by cases k), fun k => (by cases k), fun k => (by cases k), fun k => (by cases k), fun k => (by cases k), fun k => (by cases k), fun k => (by cases k), fun k => (by cases k), fun k => (by cases k), fun k => (by cases k), fun k => (by cases k)⟩⟩ ?_ ?_
      · refine .cons ?_ (.cons ?_ (.cons ?_ (.cons ?_ (.cons ?_ (.cons ?_ (.cons ?_ (.cons ?_ (.cons ?_ (.cons ?_ (.cons ?_ (.cons ?_ (.cons ?_ (.cons ?_ (.cons ?_ (.cons ?_ (.cons ?_ (.cons ?_ (.cons ?_ (.cons ?_ (.cons ?_ (.cons ?_ (.cons ?_ (.cons ?_ (.cons ?_ (.cons ?_ (.cons ?_ (.cons ?_ (.cons ?_ .nil))))))))))))))))))))))))))))
        all_goals (refine E21.step ?_; intro x111 x112 x113 x114 x115 x116 x117 x118 x119 x120 x121 x122 x123 x124 x125 x126 x127 x128 x129 x130 x131 x132 x133 x134 x135 x136 x137 x138 x139 L W hI hL hd K hK)
        · rw [if_pos (by rfl)]
          go_simp
          exact hK.out _ _ ⟨_, _, _, _, _, _, _, _, _, _, _, _, _, _, _, _, _, _, _, _, _, _, _, _, _, _, _, _, _, rfl, hI.s0⟩
        · have hx0 := hI.p0 (hd 0 (by decide))
          subst hx0
          rw [if_pos (by rfl)]
          have hc := HS0.out _ hI.x
          go_simp
          exact hK.out _ _ ⟨_, _, _, _, _, _, _, _, _, _, _, _, _, _, _, _, _, _, _, _, _, _, _, _, _, _, _, _, _, rfl, hI.s1⟩
        · rw [if_pos (by rfl)]
          go_simp
          exact hK.out _ _ ⟨_, _, _, _, _, _, _, _, _, _, _, _, _, _, _, _, _, _, _, _, _, _, _, _, _, _, _, _, _, rfl, hI.s2⟩
        · rw [if_pos (by rfl)]
          go_simp
          exact hK.out _ _ ⟨_, _, _, _, _, _, _, _, _, _, _, _, _, _, _, _, _, _, _, _, _, _, _, _, _, _, _, _, _, rfl, hI.s3⟩
        · have hx2 := hI.p2 (hd 2 (by decide))
          subst hx2
          have hx3 := hI.p3 (hd 3 (by decide))
          subst hx3
          rw [if_pos (by rfl)]
          go_simp
          exact hK.out _ _ ⟨_, _, _, _, _, _, _, _, _, _, _, _, _, _, _, _, _, _, _, _, _, _, _, _, _, _, _, _, _, rfl, hI.s4⟩
        · have hx4 := hI.p4 (hd 4 (by decide))
          subst hx4
          rw [if_pos (by rfl)]
          go_simp
          exact hK.out _ _ ⟨_, _, _, _, _, _, _, _, _, _, _, _, _, _, _, _, _, _, _, _, _, _, _, _, _, _, _, _, _, rfl, hI.s5⟩
        · have hx5 := hI.p5 (hd 5 (by decide))
          subst hx5
          rw [if_pos (by rfl)]
          have hc := HC0.out _ hI.x
          go_simp
          exact hK.out _ _ ⟨_, _, _, _, _, _, _, _, _, _, _, _, _, _, _, _, _, _, _, _, _, _, _, _, _, _, _, _, _, rfl, hI.s6⟩
        · have hx1 := hI.p1 (hd 1 (by decide))
          subst hx1
          have hx6 := hI.p6 (hd 6 (by decide))
          subst hx6
          rw [if_pos (by rfl)]
          go_simp
          exact hK.out _ _ ⟨_, _, _, _, _, _, _, _, _, _, _, _, _, _, _, _, _, _, _, _, _, _, _, _, _, _, _, _, _, rfl, hI.s7⟩
        · have hx7 := hI.p7 (hd 7 (by decide))
          subst hx7
          rw [if_pos (by rfl)]
          go_simp
          exact hK.out _ _ ⟨_, _, _, _, _, _, _, _, _, _, _, _, _, _, _, _, _, _, _, _, _, _, _, _, _, _, _, _, _, rfl, hI.s8⟩
        · have hx8 := hI.p8 (hd 8 (by decide))
          subst hx8
          rw [if_pos (by rfl)]
          go_simp
          exact hK.out _ _ ⟨_, _, _, _, _, _, _, _, _, _, _, _, _, _, _, _, _, _, _, _, _, _, _, _, _, _, _, _, _, rfl, hI.s9⟩
        · have hx9 := hI.p9 (hd 9 (by decide))
          subst hx9
          have hx8 := hI.p8 (hd 8 (by decide))
          subst hx8
          rw [if_pos (by rfl)]
          have hc := HS1.out _ hI.x
          go_simp
          exact hK.out _ _ ⟨_, _, _, _, _, _, _, _, _, _, _, _, _, _, _, _, _, _, _, _, _, _, _, _, _, _, _, _, _, rfl, hI.s10⟩
        · have hx10 := hI.p10 (hd 10 (by decide))
          subst hx10
          have hx8 := hI.p8 (hd 8 (by decide))
          subst hx8
          rw [if_pos (by rfl)]
          have hc := HV1.out _ hI.x
          go_simp
          exact hK.out _ _ ⟨_, _, _, _, _, _, _, _, _, _, _, _, _, _, _, _, _, _, _, _, _, _, _, _, _, _, _, _, _, rfl, hI.s11⟩
        · have hx8 := hI.p8 (hd 8 (by decide))
          subst hx8
          rw [if_pos (by rfl)]
          go_simp
          exact hK.out _ _ ⟨_, _, _, _, _, _, _, _, _, _, _, _, _, _, _, _, _, _, _, _, _, _, _, _, _, _, _, _, _, rfl, hI.s12⟩
        · have hx8 := hI.p8 (hd 8 (by decide))
          subst hx8
          rw [if_pos (by rfl)]
          go_simp
          exact hK.out _ _ ⟨_, _, _, _, _, _, _, _, _, _, _, _, _, _, _, _, _, _, _, _, _, _, _, _, _, _, _, _, _, rfl, hI.s13⟩
        · have hx12 := hI.p12 (hd 12 (by decide))
          subst hx12
          have hx13 := hI.p13 (hd 13 (by decide))
          subst hx13
          have hx8 := hI.p8 (hd 8 (by decide))
          subst hx8
          rw [if_pos (by rfl)]
          go_simp
          exact hK.out _ _ ⟨_, _, _, _, _, _, _, _, _, _, _, _, _, _, _, _, _, _, _, _, _, _, _, _, _, _, _, _, _, rfl, hI.s14⟩
        · have hx14 := hI.p14 (hd 14 (by decide))
          subst hx14
          have hx8 := hI.p8 (hd 8 (by decide))
          subst hx8
          rw [if_pos (by rfl)]
          go_simp
          exact hK.out _ _ ⟨_, _, _, _, _, _, _, _, _, _, _, _, _, _, _, _, _, _, _, _, _, _, _, _, _, _, _, _, _, rfl, hI.s15⟩
        · have hx15 := hI.p15 (hd 15 (by decide))
          subst hx15
          have hx8 := hI.p8 (hd 8 (by decide))
          subst hx8
          rw [if_pos (by rfl)]
          have hc := HC1.out _ hI.x
          go_simp
          exact hK.out _ _ ⟨_, _, _, _, _, _, _, _, _, _, _, _, _, _, _, _, _, _, _, _, _, _, _, _, _, _, _, _, _, rfl, hI.s16⟩
        · have hx16 := hI.p16 (hd 16 (by decide))
          subst hx16
          have hx8 := hI.p8 (hd 8 (by decide))
          subst hx8
          rw [if_pos (by rfl)]
          have hc := HV2.out _ hI.x
          go_simp
          exact hK.out _ _ ⟨_, _, _, _, _, _, _, _, _, _, _, _, _, _, _, _, _, _, _, _, _, _, _, _, _, _, _, _, _, rfl, hI.s17⟩
        · have hx11 := hI.p11 (hd 11 (by decide))
          subst hx11
          have hx17 := hI.p17 (hd 17 (by decide))
          subst hx17
          have hx8 := hI.p8 (hd 8 (by decide))
          subst hx8
          rw [if_pos (by rfl)]
          go_simp
          exact hK.out _ _ ⟨_, _, _, _, _, _, _, _, _, _, _, _, _, _, _, _, _, _, _, _, _, _, _, _, _, _, _, _, _, rfl, hI.s18⟩
        · have hx8 := hI.p8 (hd 8 (by decide))
          subst hx8
          have hx18 := hI.p18 (hd 18 (by decide))
          subst hx18
          rw [if_pos (by rfl)]
          go_simp
          exact hK.out _ _ ⟨_, _, _, _, _, _, _, _, _, _, _, _, _, _, _, _, _, _, _, _, _, _, _, _, _, _, _, _, _, rfl, hI.s19⟩
        · have hx19 := hI.p19 (hd 19 (by decide))
          subst hx19
          rw [if_pos (by rfl)]
          go_simp
          exact hK.out _ _ ⟨_, _, _, _, _, _, _, _, _, _, _, _, _, _, _, _, _, _, _, _, _, _, _, _, _, _, _, _, _, rfl, hI.s20⟩
        · have hx20 := hI.p20 (hd 20 (by decide))
          subst hx20
          rw [if_pos (by rfl)]
          go_simp
          exact hK.out _ _ ⟨_, _, _, _, _, _, _, _, _, _, _, _, _, _, _, _, _, _, _, _, _, _, _, _, _, _, _, _, _, rfl, hI.s21⟩
        · have hx20 := hI.p20 (hd 20 (by decide))
          subst hx20
          rw [if_pos (by rfl)]
          go_simp
          exact hK.out _ _ ⟨_, _, _, _, _, _, _, _, _, _, _, _, _, _, _, _, _, _, _, _, _, _, _, _, _, _, _, _, _, rfl, hI.s22⟩
        · have hx22 := hI.p22 (hd 22 (by decide))
          subst hx22
          have hx20 := hI.p20 (hd 20 (by decide))
          subst hx20
          rw [if_pos (by rfl)]
          have hc := HS1.out _ hI.x
          go_simp
          exact hK.out _ _ ⟨_, _, _, _, _, _, _, _, _, _, _, _, _, _, _, _, _, _, _, _, _, _, _, _, _, _, _, _, _, rfl, hI.s23⟩
        · have hx23 := hI.p23 (hd 23 (by decide))
          subst hx23
          have hx20 := hI.p20 (hd 20 (by decide))
          subst hx20
          rw [if_pos (by rfl)]
          go_simp
          exact hK.out _ _ ⟨_, _, _, _, _, _, _, _, _, _, _, _, _, _, _, _, _, _, _, _, _, _, _, _, _, _, _, _, _, rfl, hI.s24⟩
        · have hx21 := hI.p21 (hd 21 (by decide))
          subst hx21
          have hx24 := hI.p24 (hd 24 (by decide))
          subst hx24
          have hx20 := hI.p20 (hd 20 (by decide))
          subst hx20
          rw [if_pos (by rfl)]
          have g1 : (0 : Int) ≤ (Ln : Int) := by omega
          have g2 : (Ln : Int) ≤ (Ln : Int) + 3 := by omega
          have g3 : Ln ≤ Ln + 3 := by omega
          have g4 : Ln + 3 - Ln = 3 := by omega
          have g5 : ¬ c = Ln := by omega
          go_simp
          exact hK.out _ _ ⟨_, _, _, _, _, _, _, _, _, _, _, _, _, _, _, _, _, _, _, _, _, _, _, _, _, _, _, _, _, rfl, hI.s25⟩
        · have hx25 := hI.p25 (hd 25 (by decide))
          subst hx25
          have hx20 := hI.p20 (hd 20 (by decide))
          subst hx20
          rw [if_pos (by rfl)]
          have hc := HV3.out _ hI.x
          go_simp
          exact hK.out _ _ ⟨_, _, _, _, _, _, _, _, _, _, _, _, _, _, _, _, _, _, _, _, _, _, _, _, _, _, _, _, _, rfl, hI.s26⟩
        · have hx26 := hI.p26 (hd 26 (by decide))
          subst hx26
          have hx20 := hI.p20 (hd 20 (by decide))
          subst hx20
          rw [if_pos (by rfl)]
          go_simp
          exact hK.out _ _ ⟨_, _, _, _, _, _, _, _, _, _, _, _, _, _, _, _, _, _, _, _, _, _, _, _, _, _, _, _, _, rfl, hI.s27⟩
        · have hx20 := hI.p20 (hd 20 (by decide))
          subst hx20
          have hx27 := hI.p27 (hd 27 (by decide))
          subst hx27
          rw [if_pos (by rfl)]
          go_simp
          exact hK.out _ _ ⟨_, _, _, _, _, _, _, _, _, _, _, _, _, _, _, _, _, _, _, _, _, _, _, _, _, _, _, _, _, rfl, hI.s28⟩
      · refine E21.ends ?_; intro x111 x112 x113 x114 x115 x116 x117 x118 x119 x120 x121 x122 x123 x124 x125 x126 x127 x128 x129 x130 x131 x132 x133 x134 x135 x136 x137 x138 x139 L W hall hI
        have hx0 := hI.p0 (hall 0 (by decide))
        subst hx0
        have hx1 := hI.p1 (hall 1 (by decide))
        subst hx1
        have hx2 := hI.p2 (hall 2 (by decide))
        subst hx2
        have hx3 := hI.p3 (hall 3 (by decide))
        subst hx3
        have hx4 := hI.p4 (hall 4 (by decide))
        subst hx4
        have hx5 := hI.p5 (hall 5 (by decide))
        subst hx5
        have hx6 := hI.p6 (hall 6 (by decide))
        subst hx6
        have hx7 := hI.p7 (hall 7 (by decide))
        subst hx7
        have hx8 := hI.p8 (hall 8 (by decide))
        subst hx8
        have hx9 := hI.p9 (hall 9 (by decide))
        subst hx9
        have hx10 := hI.p10 (hall 10 (by decide))
        subst hx10
        have hx11 := hI.p11 (hall 11 (by decide))
        subst hx11
        have hx12 := hI.p12 (hall 12 (by decide))
        subst hx12
        have hx13 := hI.p13 (hall 13 (by decide))
        subst hx13
        have hx14 := hI.p14 (hall 14 (by decide))
        subst hx14
        have hx15 := hI.p15 (hall 15 (by decide))
        subst hx15
        have hx16 := hI.p16 (hall 16 (by decide))
        subst hx16
        have hx17 := hI.p17 (hall 17 (by decide))
        subst hx17
        have hx18 := hI.p18 (hall 18 (by decide))
        subst hx18
        have hx19 := hI.p19 (hall 19 (by decide))
        subst hx19
        have hx20 := hI.p20 (hall 20 (by decide))
        subst hx20
        have hx21 := hI.p21 (hall 21 (by decide))
        subst hx21
        have hx22 := hI.p22 (hall 22 (by decide))
        subst hx22
        have hx23 := hI.p23 (hall 23 (by decide))
        subst hx23
        have hx24 := hI.p24 (hall 24 (by decide))
        subst hx24
        have hx25 := hI.p25 (hall 25 (by decide))
        subst hx25
        have hx26 := hI.p26 (hall 26 (by decide))
        subst hx26
        have hx27 := hI.p27 (hall 27 (by decide))
        subst hx27
        have hx28 := hI.p28 (hall 28 (by decide))
        subst hx28
        have hXe := hI.x
        clear hI hall
        try dsimp only
        have r3 : Hid (Row W S 42 [.int .i64 kk, .slice (some ⟨q, 0, none⟩) Ln c]) := by rw [hXe]; exact r2h.out
        have b3 : Hid (Below S wo W) := by rw [hXe]; exact b2.out.drew
        have HX0 : Hid (X3 N q (Ln + 3) c W W) := ⟨SameBut.refl _ _, ⟨_, by rw [hXe]; exact ho2.out⟩⟩
        clear hXe HS0 HS1 HC0 HC1 HV1 HV2 HV3 r2h b2 ho2 bw2
        have c1 := r3.out.cell 1 _ rfl
        go_wp2
        clear c1
        go_loopw [143] (fun iv wr' => ∃ j : Nat, j ≤ Ln ∧ iv = .int .i64 j ∧ Hid (X3 N q (Ln + 3) c W wr')) (fun iv _ => Ln - (intOf iv).toNat)
        case atStart => exact ⟨0, by omega, rfl, HX0⟩
        case round =>
          clear HX0
          obtain ⟨j, hj, rfl, HX⟩ := hrel
          by_cases hjl : j < Ln
          · have x0 : (0 : Int) ≤ (j : Int) := by omega
            have x1 : (j : Int) < (Ln : Int) := by omega
            have c1 := (r3.out.but HX.out.sb (by omega)).cell 1 _ rfl
            obtain ⟨bb, hbb⟩ := HX.out.own
            have hcj := hbb.cell j (by omega)
            have hfj := hbb.frozen j
            clear hbb
            generalize bb.getD j 0 = y at hcj
            have hbx : bits .xor .u8 (y.toNat : Int) 85 = ((y ^^^ 85#8).toNat : Int) := bits8_xor y 85#8
            have HX2 := HX.out.step j (y ^^^ 85#8)
            generalize y ^^^ 85#8 = y2 at *
            go_wp2
            exact ⟨⟨j + 1, by omega, by go_num, HX2⟩, by simp [intOf]; omega⟩
          · obtain rfl : j = Ln := by omega
            have x1 : ¬ ((j : Nat) : Int) < (j : Int) := by omega
            have rO := (HROW.out.below b3.out hOS).but HX.out.sb (Ne.symm hqk.2.2)
            have cO := rO.cell (k * 2) _ HCKK.out
            have fO := rO.frozen (k * 2)
            have HN2 : Hid (O2 N N1 Wa (wr.setCell ⟨O, k * 2, none⟩ (.int .i64 9)) O n l qs (k + 1)) := HOK.out.next hlt HP.out (by rw [hS]; exact b3.out) HX.out.sb
            clear rO HX HOK
            go_wp2
            exact ⟨⟨k + 1, by omega, by go_num, HN2⟩, by simp [intOf]; omega⟩
    · obtain rfl : k = n := by omega
      have y1 : ¬ ((k : Nat) : Int) < (k : Int) := by omega
      go_wp2
      refine HKK.out _ _ ?_
      exact HCT.out _ HO.out _ _ _ _ _ _ _ _ _ _ _ _ _ _ _ _ _ _ _ _ _ _ _ _ _ _ _ _ _ _ _ _ _ _ _ _ _ _ _ _ _ _ _ _ _ _ _ _ _ _ _ _ _ _ _ _ _ _ _ _ _ _ _ _ _ _ _ _ _ _ _ _ _ _ _ _ _ _ _ _ _ _ _ _ _ _ _ _ _ _ _ _ _ _ _ _ _ _ _ _ _ _ _ _ _ _ _ _ _ _ _ _ _ _ _ _ _ _ _ _ _ _ _ _ _ _ _ _ _ _ _ _ _ _ _ _ _ _ _ _ _ _ _ _ _ _ _ _ _ _ _ _ _ _ _ _ _ _ _ _ _ _ _ _ _ _ _ _ _ _ _ _ _ _ _ _ _ _ _ _ _ _ _ _ _ _ _ _ _ _ _ _ _ _ _ _ _ _ _ _ _ _ _ _ _ _ _ _ _ _ _ _ _ _ _ _ _ _ _ _ _ _ _ _ _ _ _ _ _ _ _ _ _ _ _ _ _ _ _ _ _ _ _ _ _ _ _ _ _ _ _ _ _ _ _ _ _ _ _ _ _ _ _ _ _ _ _ _ _ _ _ _ _ _ _ _ _ _ _ _ _ _ _ _ _ _ _ _ _ _ _ _ _ _ _ _ _ _ _ _ _

end Go.Proofs.Ytepafpnpmpijeaa
