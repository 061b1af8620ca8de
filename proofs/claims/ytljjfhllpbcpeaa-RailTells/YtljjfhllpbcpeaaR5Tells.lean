import Derived.Test.YtljjfhllpbcpeaaR5Mem2
import Derived.Deep.Cut
/-! RailTells: no right row lies below another one. (Its drawn region is printed by tools/gentells.py.) -/
namespace Go.Proofs.Ytljjfhllpbcpeaa
open Go.RowKit

structure T14 (W1 : World) (aoU aoR aoD : Option Addr) (n2 cU cD : Nat) (ru rd : Bool) (sU sR sD : ByteArray) (L : Nat → Bool) (x79 x80 x81 x82 x83 x84 x85 x86 x87 x88 x89 x90 x91 x92 x93 x94 x95 x96 : Value) (W : World) : Prop where
  bel : Below W1.heap.size W1 W
  p0 : L 0 = true → x79 = .slice aoU n2 cU
  p1 : L 1 = true → x80 = .bool ru
  p2 : L 2 = true → x81 = .slice aoU n2 cU
  p3 : L 3 = true → x82 = .string sU
  p4 : L 4 = true → x83 = .slice aoR n2 n2
  p5 : L 5 = true → x84 = .string sR
  p6 : L 6 = true → x85 = .bool ru
  p7 : L 7 = true → x86 = .bool false
  p8 : L 8 = true → x87 = .bool false
  p9 : L 9 = true → x88 = .slice aoD n2 cD
  p10 : L 10 = true → x89 = .bool rd
  p11 : L 11 = true → x90 = .slice aoD n2 cD
  p12 : L 12 = true → x91 = .string sD
  p13 : L 13 = true → x92 = .slice aoR n2 n2
  p14 : L 14 = true → x93 = .string sR
  p15 : L 15 = true → x94 = .bool rd
  p16 : L 16 = true → x95 = .bool false
  p17 : L 17 = true → x96 = .bool false
section
variable {W1 : World} {aoU aoR aoD : Option Addr} {n2 cU cD : Nat} {ru rd : Bool} {sU sR sD : ByteArray} {L : Nat → Bool} {x79 x80 x81 x82 x83 x84 x85 x86 x87 x88 x89 x90 x91 x92 x93 x94 x95 x96 : Value} {W W2 : World}
theorem T14.zero (W1 : World) (aoU aoR aoD : Option Addr) (n2 cU cD : Nat) (ru rd : Bool) (sU sR sD : ByteArray) (x79 x80 x81 x82 x83 x84 x85 x86 x87 x88 x89 x90 x91 x92 x93 x94 x95 x96 : Value) : T14 W1 aoU aoR aoD n2 cU cD ru rd sU sR sD (fun _ => false) x79 x80 x81 x82 x83 x84 x85 x86 x87 x88 x89 x90 x91 x92 x93 x94 x95 x96 W1.drew :=
  ⟨(Below.refl _ _).drew, fun k => (by cases k), fun k => (by cases k), fun k => (by cases k), fun k => (by cases k), fun k => (by cases k), fun k => (by cases k), fun k => (by cases k), fun k => (by cases k), fun k => (by cases k), fun k => (by cases k), fun k => (by cases k), fun k => (by cases k), fun k => (by cases k), fun k => (by cases k), fun k => (by cases k), fun k => (by cases k), fun k => (by cases k), fun k => (by cases k)⟩
theorem T14.mono (h : T14 W1 aoU aoR aoD n2 cU cD ru rd sU sR sD L x79 x80 x81 x82 x83 x84 x85 x86 x87 x88 x89 x90 x91 x92 x93 x94 x95 x96 W) (hb : Below W.heap.size W W2) : T14 W1 aoU aoR aoD n2 cU cD ru rd sU sR sD L x79 x80 x81 x82 x83 x84 x85 x86 x87 x88 x89 x90 x91 x92 x93 x94 x95 x96 W2 :=
  ⟨h.bel.trans (hb.mono h.bel.size), h.p0, h.p1, h.p2, h.p3, h.p4, h.p5, h.p6, h.p7, h.p8, h.p9, h.p10, h.p11, h.p12, h.p13, h.p14, h.p15, h.p16, h.p17⟩
theorem T14.s0 (h : T14 W1 aoU aoR aoD n2 cU cD ru rd sU sR sD L x79 x80 x81 x82 x83 x84 x85 x86 x87 x88 x89 x90 x91 x92 x93 x94 x95 x96 W) : T14 W1 aoU aoR aoD n2 cU cD ru rd sU sR sD (upd L 0) (.slice aoU n2 cU) x80 x81 x82 x83 x84 x85 x86 x87 x88 x89 x90 x91 x92 x93 x94 x95 x96 W :=
  ⟨h.bel, fun _ => rfl, h.p1, h.p2, h.p3, h.p4, h.p5, h.p6, h.p7, h.p8, h.p9, h.p10, h.p11, h.p12, h.p13, h.p14, h.p15, h.p16, h.p17⟩
theorem T14.s1 (h : T14 W1 aoU aoR aoD n2 cU cD ru rd sU sR sD L x79 x80 x81 x82 x83 x84 x85 x86 x87 x88 x89 x90 x91 x92 x93 x94 x95 x96 W) : T14 W1 aoU aoR aoD n2 cU cD ru rd sU sR sD (upd L 1) x79 (.bool ru) x81 x82 x83 x84 x85 x86 x87 x88 x89 x90 x91 x92 x93 x94 x95 x96 W :=
  ⟨h.bel, h.p0, fun _ => rfl, h.p2, h.p3, h.p4, h.p5, h.p6, h.p7, h.p8, h.p9, h.p10, h.p11, h.p12, h.p13, h.p14, h.p15, h.p16, h.p17⟩
theorem T14.s2 (h : T14 W1 aoU aoR aoD n2 cU cD ru rd sU sR sD L x79 x80 x81 x82 x83 x84 x85 x86 x87 x88 x89 x90 x91 x92 x93 x94 x95 x96 W) : T14 W1 aoU aoR aoD n2 cU cD ru rd sU sR sD (upd L 2) x79 x80 (.slice aoU n2 cU) x82 x83 x84 x85 x86 x87 x88 x89 x90 x91 x92 x93 x94 x95 x96 W :=
  ⟨h.bel, h.p0, h.p1, fun _ => rfl, h.p3, h.p4, h.p5, h.p6, h.p7, h.p8, h.p9, h.p10, h.p11, h.p12, h.p13, h.p14, h.p15, h.p16, h.p17⟩
theorem T14.s3 (h : T14 W1 aoU aoR aoD n2 cU cD ru rd sU sR sD L x79 x80 x81 x82 x83 x84 x85 x86 x87 x88 x89 x90 x91 x92 x93 x94 x95 x96 W) : T14 W1 aoU aoR aoD n2 cU cD ru rd sU sR sD (upd L 3) x79 x80 x81 (.string sU) x83 x84 x85 x86 x87 x88 x89 x90 x91 x92 x93 x94 x95 x96 W :=
  ⟨h.bel, h.p0, h.p1, h.p2, fun _ => rfl, h.p4, h.p5, h.p6, h.p7, h.p8, h.p9, h.p10, h.p11, h.p12, h.p13, h.p14, h.p15, h.p16, h.p17⟩
theorem T14.s4 (h : T14 W1 aoU aoR aoD n2 cU cD ru rd sU sR sD L x79 x80 x81 x82 x83 x84 x85 x86 x87 x88 x89 x90 x91 x92 x93 x94 x95 x96 W) : T14 W1 aoU aoR aoD n2 cU cD ru rd sU sR sD (upd L 4) x79 x80 x81 x82 (.slice aoR n2 n2) x84 x85 x86 x87 x88 x89 x90 x91 x92 x93 x94 x95 x96 W :=
  ⟨h.bel, h.p0, h.p1, h.p2, h.p3, fun _ => rfl, h.p5, h.p6, h.p7, h.p8, h.p9, h.p10, h.p11, h.p12, h.p13, h.p14, h.p15, h.p16, h.p17⟩
theorem T14.s5 (h : T14 W1 aoU aoR aoD n2 cU cD ru rd sU sR sD L x79 x80 x81 x82 x83 x84 x85 x86 x87 x88 x89 x90 x91 x92 x93 x94 x95 x96 W) : T14 W1 aoU aoR aoD n2 cU cD ru rd sU sR sD (upd L 5) x79 x80 x81 x82 x83 (.string sR) x85 x86 x87 x88 x89 x90 x91 x92 x93 x94 x95 x96 W :=
  ⟨h.bel, h.p0, h.p1, h.p2, h.p3, h.p4, fun _ => rfl, h.p6, h.p7, h.p8, h.p9, h.p10, h.p11, h.p12, h.p13, h.p14, h.p15, h.p16, h.p17⟩
theorem T14.s6 (h : T14 W1 aoU aoR aoD n2 cU cD ru rd sU sR sD L x79 x80 x81 x82 x83 x84 x85 x86 x87 x88 x89 x90 x91 x92 x93 x94 x95 x96 W) : T14 W1 aoU aoR aoD n2 cU cD ru rd sU sR sD (upd L 6) x79 x80 x81 x82 x83 x84 (.bool ru) x86 x87 x88 x89 x90 x91 x92 x93 x94 x95 x96 W :=
  ⟨h.bel, h.p0, h.p1, h.p2, h.p3, h.p4, h.p5, fun _ => rfl, h.p7, h.p8, h.p9, h.p10, h.p11, h.p12, h.p13, h.p14, h.p15, h.p16, h.p17⟩
theorem T14.s7 (h : T14 W1 aoU aoR aoD n2 cU cD ru rd sU sR sD L x79 x80 x81 x82 x83 x84 x85 x86 x87 x88 x89 x90 x91 x92 x93 x94 x95 x96 W) : T14 W1 aoU aoR aoD n2 cU cD ru rd sU sR sD (upd L 7) x79 x80 x81 x82 x83 x84 x85 (.bool false) x87 x88 x89 x90 x91 x92 x93 x94 x95 x96 W :=
  ⟨h.bel, h.p0, h.p1, h.p2, h.p3, h.p4, h.p5, h.p6, fun _ => rfl, h.p8, h.p9, h.p10, h.p11, h.p12, h.p13, h.p14, h.p15, h.p16, h.p17⟩
theorem T14.s8 (h : T14 W1 aoU aoR aoD n2 cU cD ru rd sU sR sD L x79 x80 x81 x82 x83 x84 x85 x86 x87 x88 x89 x90 x91 x92 x93 x94 x95 x96 W) : T14 W1 aoU aoR aoD n2 cU cD ru rd sU sR sD (upd L 8) x79 x80 x81 x82 x83 x84 x85 x86 (.bool false) x88 x89 x90 x91 x92 x93 x94 x95 x96 W :=
  ⟨h.bel, h.p0, h.p1, h.p2, h.p3, h.p4, h.p5, h.p6, h.p7, fun _ => rfl, h.p9, h.p10, h.p11, h.p12, h.p13, h.p14, h.p15, h.p16, h.p17⟩
theorem T14.s9 (h : T14 W1 aoU aoR aoD n2 cU cD ru rd sU sR sD L x79 x80 x81 x82 x83 x84 x85 x86 x87 x88 x89 x90 x91 x92 x93 x94 x95 x96 W) : T14 W1 aoU aoR aoD n2 cU cD ru rd sU sR sD (upd L 9) x79 x80 x81 x82 x83 x84 x85 x86 x87 (.slice aoD n2 cD) x89 x90 x91 x92 x93 x94 x95 x96 W :=
  ⟨h.bel, h.p0, h.p1, h.p2, h.p3, h.p4, h.p5, h.p6, h.p7, h.p8, fun _ => rfl, h.p10, h.p11, h.p12, h.p13, h.p14, h.p15, h.p16, h.p17⟩
theorem T14.s10 (h : T14 W1 aoU aoR aoD n2 cU cD ru rd sU sR sD L x79 x80 x81 x82 x83 x84 x85 x86 x87 x88 x89 x90 x91 x92 x93 x94 x95 x96 W) : T14 W1 aoU aoR aoD n2 cU cD ru rd sU sR sD (upd L 10) x79 x80 x81 x82 x83 x84 x85 x86 x87 x88 (.bool rd) x90 x91 x92 x93 x94 x95 x96 W :=
  ⟨h.bel, h.p0, h.p1, h.p2, h.p3, h.p4, h.p5, h.p6, h.p7, h.p8, h.p9, fun _ => rfl, h.p11, h.p12, h.p13, h.p14, h.p15, h.p16, h.p17⟩
theorem T14.s11 (h : T14 W1 aoU aoR aoD n2 cU cD ru rd sU sR sD L x79 x80 x81 x82 x83 x84 x85 x86 x87 x88 x89 x90 x91 x92 x93 x94 x95 x96 W) : T14 W1 aoU aoR aoD n2 cU cD ru rd sU sR sD (upd L 11) x79 x80 x81 x82 x83 x84 x85 x86 x87 x88 x89 (.slice aoD n2 cD) x91 x92 x93 x94 x95 x96 W :=
  ⟨h.bel, h.p0, h.p1, h.p2, h.p3, h.p4, h.p5, h.p6, h.p7, h.p8, h.p9, h.p10, fun _ => rfl, h.p12, h.p13, h.p14, h.p15, h.p16, h.p17⟩
theorem T14.s12 (h : T14 W1 aoU aoR aoD n2 cU cD ru rd sU sR sD L x79 x80 x81 x82 x83 x84 x85 x86 x87 x88 x89 x90 x91 x92 x93 x94 x95 x96 W) : T14 W1 aoU aoR aoD n2 cU cD ru rd sU sR sD (upd L 12) x79 x80 x81 x82 x83 x84 x85 x86 x87 x88 x89 x90 (.string sD) x92 x93 x94 x95 x96 W :=
  ⟨h.bel, h.p0, h.p1, h.p2, h.p3, h.p4, h.p5, h.p6, h.p7, h.p8, h.p9, h.p10, h.p11, fun _ => rfl, h.p13, h.p14, h.p15, h.p16, h.p17⟩
theorem T14.s13 (h : T14 W1 aoU aoR aoD n2 cU cD ru rd sU sR sD L x79 x80 x81 x82 x83 x84 x85 x86 x87 x88 x89 x90 x91 x92 x93 x94 x95 x96 W) : T14 W1 aoU aoR aoD n2 cU cD ru rd sU sR sD (upd L 13) x79 x80 x81 x82 x83 x84 x85 x86 x87 x88 x89 x90 x91 (.slice aoR n2 n2) x93 x94 x95 x96 W :=
  ⟨h.bel, h.p0, h.p1, h.p2, h.p3, h.p4, h.p5, h.p6, h.p7, h.p8, h.p9, h.p10, h.p11, h.p12, fun _ => rfl, h.p14, h.p15, h.p16, h.p17⟩
theorem T14.s14 (h : T14 W1 aoU aoR aoD n2 cU cD ru rd sU sR sD L x79 x80 x81 x82 x83 x84 x85 x86 x87 x88 x89 x90 x91 x92 x93 x94 x95 x96 W) : T14 W1 aoU aoR aoD n2 cU cD ru rd sU sR sD (upd L 14) x79 x80 x81 x82 x83 x84 x85 x86 x87 x88 x89 x90 x91 x92 (.string sR) x94 x95 x96 W :=
  ⟨h.bel, h.p0, h.p1, h.p2, h.p3, h.p4, h.p5, h.p6, h.p7, h.p8, h.p9, h.p10, h.p11, h.p12, h.p13, fun _ => rfl, h.p15, h.p16, h.p17⟩
theorem T14.s15 (h : T14 W1 aoU aoR aoD n2 cU cD ru rd sU sR sD L x79 x80 x81 x82 x83 x84 x85 x86 x87 x88 x89 x90 x91 x92 x93 x94 x95 x96 W) : T14 W1 aoU aoR aoD n2 cU cD ru rd sU sR sD (upd L 15) x79 x80 x81 x82 x83 x84 x85 x86 x87 x88 x89 x90 x91 x92 x93 (.bool rd) x95 x96 W :=
  ⟨h.bel, h.p0, h.p1, h.p2, h.p3, h.p4, h.p5, h.p6, h.p7, h.p8, h.p9, h.p10, h.p11, h.p12, h.p13, h.p14, fun _ => rfl, h.p16, h.p17⟩
theorem T14.s16 (h : T14 W1 aoU aoR aoD n2 cU cD ru rd sU sR sD L x79 x80 x81 x82 x83 x84 x85 x86 x87 x88 x89 x90 x91 x92 x93 x94 x95 x96 W) : T14 W1 aoU aoR aoD n2 cU cD ru rd sU sR sD (upd L 16) x79 x80 x81 x82 x83 x84 x85 x86 x87 x88 x89 x90 x91 x92 x93 x94 (.bool false) x96 W :=
  ⟨h.bel, h.p0, h.p1, h.p2, h.p3, h.p4, h.p5, h.p6, h.p7, h.p8, h.p9, h.p10, h.p11, h.p12, h.p13, h.p14, h.p15, fun _ => rfl, h.p17⟩
theorem T14.s17 (h : T14 W1 aoU aoR aoD n2 cU cD ru rd sU sR sD L x79 x80 x81 x82 x83 x84 x85 x86 x87 x88 x89 x90 x91 x92 x93 x94 x95 x96 W) : T14 W1 aoU aoR aoD n2 cU cD ru rd sU sR sD (upd L 17) x79 x80 x81 x82 x83 x84 x85 x86 x87 x88 x89 x90 x91 x92 x93 x94 x95 (.bool false) W :=
  ⟨h.bel, h.p0, h.p1, h.p2, h.p3, h.p4, h.p5, h.p6, h.p7, h.p8, h.p9, h.p10, h.p11, h.p12, h.p13, h.p14, h.p15, h.p16, fun _ => rfl⟩
end
@[reducible] def IT14 (W1 : World) (aoU aoR aoD : Option Addr) (n2 cU cD : Nat) (ru rd : Bool) (sU sR sD : ByteArray) (y0 y1 y2 y3 y4 y5 y6 y7 y8 y9 y10 y11 y12 y13 y14 y15 y16 y17 y18 y19 y20 y21 y22 y23 y24 y25 y26 y27 y28 y29 y30 y31 y32 y33 y34 y35 y36 y37 y38 y39 y40 y41 y42 y43 y44 y45 y46 y47 y48 y49 y50 y51 y52 y53 y54 y55 y56 y57 y58 y59 y60 y61 y62 y63 y64 y65 y66 y67 y68 y69 y70 y71 y72 y73 y74 y75 y76 y77 y78 y97 y98 y99 y100 y101 y102 y103 y104 y105 y106 y107 y108 y109 y110 y111 y112 y113 y114 y115 y116 : Value) : (Nat → Bool) → Act → World → Prop := fun L a W => ∃ x79 x80 x81 x82 x83 x84 x85 x86 x87 x88 x89 x90 x91 x92 x93 x94 x95 x96, a = ⟨#[y0, y1, y2, y3, y4, y5, y6, y7, y8, y9, y10, y11, y12, y13, y14, y15, y16, y17, y18, y19, y20, y21, y22, y23, y24, y25, y26, y27, y28, y29, y30, y31, y32, y33, y34, y35, y36, y37, y38, y39, y40, y41, y42, y43, y44, y45, y46, y47, y48, y49, y50, y51, y52, y53, y54, y55, y56, y57, y58, y59, y60, y61, y62, y63, y64, y65, y66, y67, y68, y69, y70, y71, y72, y73, y74, y75, y76, y77, y78, x79, x80, x81, x82, x83, x84, x85, x86, x87, x88, x89, x90, x91, x92, x93, x94, x95, x96, y97, y98, y99, y100, y101, y102, y103, y104, y105, y106, y107, y108, y109, y110, y111, y112, y113, y114, y115, y116], []⟩ ∧ T14 W1 aoU aoR aoD n2 cU cD ru rd sU sR sD L x79 x80 x81 x82 x83 x84 x85 x86 x87 x88 x89 x90 x91 x92 x93 x94 x95 x96 W

set_option maxHeartbeats 2000000 in
set_option maxRecDepth 100000 in
theorem tells_any (ao bo mo : Option Addr) (n cap nb cb nm cm : Nat) (b c m : List By) (hb0 : b.length = n) (hc0 : c.length = nb) (hm0 : m.length = nm) (w : World) (ib : IsB w ao b) (ic : IsB w bo c) (im : IsB w mo m)
    (hl : n ≤ 140737488351232) (hlc : nb ≤ 140737488351232) (hlm : nm ≤ 140737488351232) :
    Calls Try.prog 5 #[.slice ao n cap, .slice bo nb cb, .slice mo nm cm] w fun e w' => e = .returned (.bool true) ∧ Below w.heap.size w w' := by
  have HB : Hid (b.length = n) := hb0
  have HC : Hid (c.length = nb) := hc0
  have HM : Hid (m.length = nm) := hm0
  have IB : Hid (∀ w', Below w.heap.size w w' → IsB w' ao b) := fun w' h => ib.below h (Nat.le_refl _)
  have IC : Hid (∀ w', Below w.heap.size w w' → IsB w' bo c) := fun w' h => ic.below h (Nat.le_refl _)
  have IM : Hid (∀ w', Below w.heap.size w w' → IsB w' mo m) := fun w' h => im.below h (Nat.le_refl _)
  clear hb0 hc0 hm0 ib ic im
  have HR : Hid ((rail b).length = 2 * n) := by show _ = _; rw [rail_len, HB.out]
  have HS : Hid ((rail c).length = 2 * nb) := by show _ = _; rw [rail_len, HC.out]
  obtain ⟨same, hsame⟩ : ∃ same : Bool, same = decide (b = c) := ⟨_, rfl⟩
  have SB : Hid (((strOf b).toList == (strOf c).toList) = same) := by show _ = _; rw [hsame, strOf_beq]
  have BB : Hid (belowB (rail b) (rail c) = same) := by show _ = _; rw [hsame, belowB_rails]
  have CC : Hid (belowB (rail c) (rail b) = same) := by
    show _ = _
    rw [hsame, belowB_rails]
    by_cases e : b = c
    · rw [e]
    · rw [decide_eq_false e, decide_eq_false (fun h => e h.symm)]
  have R1 : Hid (rightB (rail b) = true) := by show _ = _; unfold rightB; rw [decide_eq_true_iff]; exact isRail_rail b
  have R2 : Hid (rightB (rail c) = true) := by show _ = _; unfold rightB; rw [decide_eq_true_iff]; exact isRail_rail c
  have RA : Hid (∀ u, isBelow (rail b) u → rightB u = decide (u = rail b)) := fun u h => rightB_above b u h
  have RU : Hid (∀ u, isBelow u (rail b) → rightB u = decide (u = rail b)) := fun u h => rightB_under b u h
  clear hsame
  go_enter Try.func5, Try.ntmps5
  go_wp2_with fail
  refine (put_eq ao n cap b HB.out (2 * n) rfl (rail b) rfl w (IB.out _ (Below.refl _ _)) (by omega)).mono ?_
  rintro e w1 ⟨g1, rfl, o1, b1⟩
  have B1 : Hid (Below w.heap.size w w1) := b1
  have O1 : Hid (∀ w', Below w1.heap.size w1 w' → IsB w' (some ⟨g1, 0, none⟩) (rail b)) := fun w' h => (own_IsB o1).below h (Nat.le_refl _)
  clear o1 b1
  go_wp2_with fail
  refine (put_eq bo nb cb c HC.out (2 * nb) rfl (rail c) rfl w1 (IC.out _ B1.out) (by omega)).mono ?_
  rintro e w2 ⟨g2, rfl, o2, b2⟩
  have B2 : Hid (Below w1.heap.size w1 w2) := b2
  have O2 : Hid (∀ w', Below w2.heap.size w2 w' → IsB w' (some ⟨g2, 0, none⟩) (rail c)) := fun w' h => (own_IsB o2).below h (Nat.le_refl _)
  clear o2 b2
  generalize hR : rail b = R at *
  generalize hS : rail c = S at *
  clear hR hS
  go_wp2_with fail
  refine (right_eq (some ⟨g1, 0, none⟩) (2 * n) (2 * n) R HR.out true R1.out w2 (O1.out _ B2.out) (Nat.le_refl _) (by omega)).mono ?_
  rintro e w3 ⟨rfl, d3⟩
  have D3 : Hid (Dr w2 w3) := d3
  clear d3
  go_wp2_with fail
  refine (right_eq (some ⟨g2, 0, none⟩) (2 * nb) (2 * nb) S HS.out true R2.out w3 (O2.out _ (dr_below D3.out)) (Nat.le_refl _) (by omega)).mono ?_
  rintro e w4 ⟨rfl, d4⟩
  have D4 : Below w2.heap.size w2 w4 := dr_below (D3.out.trans d4)
  -- the world of the appends: what stands there stays
  have J1 : Hid (∀ w', Below w4.heap.size w4 w' → IsB w' (some ⟨g1, 0, none⟩) R) := fun w' h => O1.out w' (B2.out.trans ((D4.trans (h.mono D4.size)).mono B2.out.size))
  have J2 : Hid (∀ w', Below w4.heap.size w4 w' → IsB w' (some ⟨g2, 0, none⟩) S) := fun w' h => O2.out w' (D4.trans (h.mono D4.size))
  have B4 : Below w.heap.size w w4 := B1.out.trans ((B2.out.trans (D4.mono B2.out.size)).mono B1.out.size)
  have B4' : Hid (Below w.heap.size w w4) := B4
  have JB : Hid (∀ w', Below w4.heap.size w4 w' → IsB w' ao b) := fun w' h => IB.out w' (B4.trans (h.mono B4.size))
  have JC : Hid (∀ w', Below w4.heap.size w4 w' → IsB w' bo c) := fun w' h => IC.out w' (B4.trans (h.mono B4.size))
  have JM : Hid (∀ w', Below w4.heap.size w4 w' → IsB w' mo m) := fun w' h => IM.out w' (B4.trans (h.mono B4.size))
  clear d4 D4 D3 O1 O2 B4 B1 B2 IB IC IM R1 R2
  have hl2 : 2 * n ≤ 281474976710656 := by omega
  go_wp2_with (first
    | (at_builtin; refine wpList_append_tonil rfl (.const _) (.tmp 33) rfl rfl g1 (2 * n) (2 * n) R rfl HR.out (J1.out _ (Below.refl _ _)) hl2 ?_; intro aoU cU w5 o5 b5; have O5 : Hid (Own w4.heap.size w5 (.slice aoU (2 * n) cU) R) := o5; have B5 : Hid (Below w4.heap.size w4 w5) := b5; clear o5 b5)
    | (at_builtin; refine wpList_append_tonil rfl (.const _) (.tmp 35) rfl rfl g1 (2 * n) (2 * n) R rfl HR.out (J1.out _ B5.out) hl2 ?_; intro aoD cD w6 o6 b6; have O6 : Hid (Own w5.heap.size w6 (.slice aoD (2 * n) cD) R) := o6; have B6 : Hid (Below w5.heap.size w5 w6) := b6; clear o6 b6))
  have NE : Hid (∀ g, 0 < 2 * n → aoU = some ⟨g, 0, none⟩ → aoD = some ⟨g, 0, none⟩ → False) := by
    intro g hn h1 h2
    obtain ⟨g', e1, _, e2⟩ := O5.out.at hn
    obtain ⟨g'', e3, e4, _⟩ := O6.out.at hn
    rw [h1] at e1
    rw [h2] at e3
    injection e1 with e1
    injection e3 with e3
    injection e1 with e1
    injection e3 with e3
    omega
  have Z6 : Hid (Own w4.heap.size w6 (.slice aoU (2 * n) cU) (mixTo orB R m 0) ∧ Own w4.heap.size w6 (.slice aoD (2 * n) cD) (mixTo anB R m 0) ∧ Below w4.heap.size w4 w6) :=
    ⟨O5.out.keep B6.out, own_le O6.out B5.out.size, B5.out.trans (B6.out.mono B5.out.size)⟩
  clear O5 O6 B5 B6
  go_loopw [11] (fun iv wr => ∃ p : Nat, p ≤ 2 * n ∧ p ≤ nm ∧ iv = .int .i64 p ∧ Own w4.heap.size wr (.slice aoU (2 * n) cU) (mixTo orB R m p) ∧ Own w4.heap.size wr (.slice aoD (2 * n) cD) (mixTo anB R m p) ∧ Below w4.heap.size w4 wr) (fun iv _ => 2 * n - (intOf iv).toNat)
  case atStart => exact ⟨0, by omega, by omega, rfl, Z6.out.1, Z6.out.2.1, Z6.out.2.2⟩
  case round =>
    obtain ⟨p, hp, hp2, rfl, oU, oD, bw⟩ := hrel
    by_cases hlt : p < 2 * n ∧ p < nm
    · obtain ⟨hlt1, hlt2⟩ := hlt
      have y1 : (p : Int) < 2 * (n : Int) := by omega
      have y2 : (p : Int) < (nm : Int) := by omega
      have y0 : (0 : Int) ≤ (p : Int) := by omega
      obtain ⟨gU, rfl, hgU, _⟩ := oU.at (by omega)
      obtain ⟨gD, rfl, hgD, _⟩ := oD.at (by omega)
      have hne : gU ≠ gD := fun e => NE.out gU (by omega) rfl (by rw [e])
      obtain ⟨B, off, rfl, c2⟩ := (JM.out wr bw).cell p (by rw [HM.out]; omega)
      have c1 := oU.cell p hlt1
      have f1 := oU.frozen p
      rw [mixTo_at _ _ _ p (by rw [HR.out]; omega) p (by rw [HR.out]; omega), if_neg (by omega)] at c1
      have NX : Hid (∀ Y, Y = ((orB (R.getD p 0) (m.getD p 0)).toNat : Int) → Own w4.heap.size ((wr.setCell ⟨gU, p, none⟩ (.int .u8 Y)).drew) (.slice (some ⟨gU, 0, none⟩) (2 * n) cU) (mixTo orB R m (p + 1)) ∧ Own w4.heap.size ((wr.setCell ⟨gU, p, none⟩ (.int .u8 Y)).drew) (.slice (some ⟨gD, 0, none⟩) (2 * n) cD) (mixTo anB R m p) ∧ Below w4.heap.size w4 ((wr.setCell ⟨gU, p, none⟩ (.int .u8 Y)).drew)) := by
        rintro Y rfl
        refine ⟨(oU.set p _).drewN 1, ((oD.but (SameBut.setCell gU p _ wr) (fun e => hne (by injection e with e; injection e with e; exact e.symm))).drewN 1), ((SameBut.setCell gU p _ wr).below bw hgU).drew⟩
      have QD : Hid (∀ w7, Own w4.heap.size w7 (.slice (some ⟨gD, 0, none⟩) (2 * n) cD) (mixTo anB R m p) → w7.cell? ⟨gD, p, none⟩ = some (.int .u8 ((R.getD p 0).toNat : Int))) := by
        intro w7 h
        have := h.cell p hlt1
        rwa [mixTo_at _ _ _ p (by rw [HR.out]; omega) p (by rw [HR.out]; omega), if_neg (by omega)] at this
      have QM : Hid (∀ w7, Below w4.heap.size w4 w7 → w7.cell? ⟨B, off + p, none⟩ = some (.int .u8 ((m.getD p 0).toNat : Int))) := by
        intro w7 h
        obtain ⟨B', off', e, h1⟩ := (JM.out w7 h).cell p (by rw [HM.out]; omega)
        injection e with e
        injection e with e1 e2
        subst e1 e2
        exact h1
      have NX2 : Hid (∀ (w7 : World) (Y : Int), Own w4.heap.size w7 (.slice (some ⟨gU, 0, none⟩) (2 * n) cU) (mixTo orB R m (p + 1)) → Own w4.heap.size w7 (.slice (some ⟨gD, 0, none⟩) (2 * n) cD) (mixTo anB R m p) → Below w4.heap.size w4 w7 → Y = ((anB (R.getD p 0) (m.getD p 0)).toNat : Int) →
          Own w4.heap.size ((w7.setCell ⟨gD, p, none⟩ (.int .u8 Y)).drew) (.slice (some ⟨gU, 0, none⟩) (2 * n) cU) (mixTo orB R m (p + 1)) ∧ Own w4.heap.size ((w7.setCell ⟨gD, p, none⟩ (.int .u8 Y)).drew) (.slice (some ⟨gD, 0, none⟩) (2 * n) cD) (mixTo anB R m (p + 1)) ∧ Below w4.heap.size w4 ((w7.setCell ⟨gD, p, none⟩ (.int .u8 Y)).drew)) := by
        intro w7 Y h1 h2 h3 hY
        subst hY
        exact ⟨(h1.but (SameBut.setCell gD p _ w7) (fun e => hne (by injection e with e; injection e with e))).drewN 1, (h2.set p _).drewN 1, ((SameBut.setCell gD p _ w7).below h3 hgD).drew⟩
      have HOR : Hid (bits .or .u8 ((R.getD p 0).toNat : Int) ((m.getD p 0).toNat : Int) = ((orB (R.getD p 0) (m.getD p 0)).toNat : Int)) := bits8_or (R.getD p 0) (m.getD p 0)
      have HAN : Hid (bits .andNot .u8 ((R.getD p 0).toNat : Int) ((m.getD p 0).toNat : Int) = ((anB (R.getD p 0) (m.getD p 0)).toNat : Int)) := and_not8 (R.getD p 0) (m.getD p 0)
      clear oU oD bw
      generalize R.getD p 0 = x at *
      generalize m.getD p 0 = y at *
      go_wp2
      go_region
      obtain ⟨oU, oD, bw⟩ := NX.out _ HOR.out
      clear NX HOR c1 c2 f1
      generalize (wr.setCell ⟨gU, p, none⟩ (Value.int IntKind.u8 (bits BinOp.or IntKind.u8 (x.toNat : Int) (y.toNat : Int)))).drew = w7 at *
      have c3 := QD.out _ oD
      have f3 := oD.frozen p
      have c4 := QM.out _ bw
      have FIN : Hid _ := fun Y => NX2.out w7 Y oU oD bw
      clear NX2 QD QM oU oD bw
      go_wp2
      go_region
      obtain ⟨oU, oD, bw⟩ := FIN.out _ HAN.out
      clear FIN
      generalize (w7.setCell ⟨gD, p, none⟩ (Value.int IntKind.u8 (bits BinOp.andNot IntKind.u8 (x.toNat : Int) (y.toNat : Int)))).drew = w8 at *
      clear c3 c4 f3 HAN
      go_wp2
      exact ⟨⟨p + 1, by omega, by omega, by simp, oU, oD, bw⟩, by simp [intOf]; omega⟩
    · have y3 : (p : Int) < 2 * (n : Int) → ¬ (p : Int) < (nm : Int) := by omega
      have UB : isBelow R (mixTo orB R m p) := up_below R m p (by rw [HR.out]; exact hp)
      have DB : isBelow (mixTo anB R m p) R := down_below R m p (by rw [HR.out]; exact hp)
      have LU : Hid ((mixTo orB R m p).length = 2 * n) := by show _ = _; rw [mixTo_len, HR.out]
      have LD : Hid ((mixTo anB R m p).length = 2 * n) := by show _ = _; rw [mixTo_len, HR.out]
      generalize mixTo orB R m p = U at *
      generalize mixTo anB R m p = D at *
      obtain ⟨ru, hru⟩ : ∃ ru : Bool, ru = decide (U = R) := ⟨_, rfl⟩
      obtain ⟨rd, hrd⟩ : ∃ rd : Bool, rd = decide (D = R) := ⟨_, rfl⟩
      have RU1 : Hid (rightB U = ru) := by show _ = _; rw [hru]; exact RA.out U UB
      have RD1 : Hid (rightB D = rd) := by show _ = _; rw [hrd]; exact RU.out D DB
      have SU : Hid (((strOf U).toList == (strOf R).toList) = ru) := by show _ = _; rw [hru, strOf_beq]
      have SD : Hid (((strOf D).toList == (strOf R).toList) = rd) := by show _ = _; rw [hrd, strOf_beq]
      have BU : Hid (belowB R U = true) := by show _ = _; unfold belowB; rw [decide_eq_true_iff]; exact UB
      have BD : Hid (belowB D R = true) := by show _ = _; unfold belowB; rw [decide_eq_true_iff]; exact DB
      have KU : Hid (∀ w', Below wr.heap.size wr w' → IsB w' aoU U) := fun w' h => (own_IsB oU).below h (Nat.le_refl _)
      have KD : Hid (∀ w', Below wr.heap.size wr w' → IsB w' aoD D) := fun w' h => (own_IsB oD).below h (Nat.le_refl _)
      have KR : Hid (∀ w', Below wr.heap.size wr w' → IsB w' (some ⟨g1, 0, none⟩) R) := fun w' h => J1.out w' (bw.trans (h.mono bw.size))
      have KS : Hid (∀ w', Below wr.heap.size wr w' → IsB w' (some ⟨g2, 0, none⟩) S) := fun w' h => J2.out w' (bw.trans (h.mono bw.size))
      have KB : Hid (∀ w', Below wr.heap.size wr w' → IsB w' ao b) := fun w' h => JB.out w' (bw.trans (h.mono bw.size))
      have KC : Hid (∀ w', Below wr.heap.size wr w' → IsB w' bo c) := fun w' h => JC.out w' (bw.trans (h.mono bw.size))
      have KW : Hid (Below w.heap.size w wr) := B4'.out.trans (bw.mono B4'.out.size)
      have CUH : Hid (2 * n ≤ cU) := own_cap oU
      have CDH : Hid (2 * n ≤ cD) := own_cap oD
      clear hru hrd UB DB oU oD bw RA RU J1 J2 JB JC JM NE Z6 B4' hp hp2 HM hlt
      rcases Int.lt_or_le (p : Int) (2 * (n : Int)) with y1 | y1
      · have y2 := y3 y1
        clear y3
        go_wp2_with fail
        refine (below_eq (some ⟨g1, 0, none⟩) aoU (2 * n) (2 * n) (2 * n) cU R U HR.out LU.out true BU.out wr (KR.out _ (Below.refl _ _)) (KU.out _ (Below.refl _ _)) hl2).mono ?_
        rintro e w9 ⟨rfl, d9⟩
        have D9 : Hid (Below wr.heap.size wr w9) := dr_below d9
        clear d9
        go_wp2_with fail
        refine (below_eq aoD (some ⟨g1, 0, none⟩) (2 * n) (2 * n) cD (2 * n) D R LD.out HR.out true BD.out w9 (KD.out _ D9.out) (KR.out _ D9.out) hl2).mono ?_
        rintro e W1 ⟨rfl, d10⟩
        have D10 : Hid (Below wr.heap.size wr W1) := Below_dr D9.out d10
        have HW : Hid (∀ w', Below W1.heap.size W1 w' → Below wr.heap.size wr w') := fun w' h => D10.out.trans (h.mono D10.out.size)
        clear d10 D9 BU BD
        have su := SU.out
        have sd := SD.out
        clear SU SD
        go_upto_region 14 with fail
        refine wp_region_inv (IT14 W1 aoU (some ⟨g1, 0, none⟩) aoD (2 * n) cU cD ru rd (strOf U) (strOf R) (strOf D) _ _ _ _ _ _ _ _ _ _ _ _ _ _ _ _ _ _ _ _ _ _ _ _ _ _ _ _ _ _ _ _ _ _ _ _ _ _ _ _ _ _ _ _ _ _ _ _ _ _ _ _ _ _ _ _ _ _ _ _ _ _ _ _ _ _ _ _ _ _ _ _ _ _ _ _ _ _ _ _ _ _ _ _ _ _ _ _ _ _ _ _ _ _ _ _ _ _ _) (by kernel_rfl) (by kernel_rfl) ⟨_, _, _, _, _, _, _, _, _, _, _, _, _, _, _, _, _, _, rfl, T14.zero W1 aoU (some ⟨g1, 0, none⟩) aoD (2 * n) cU cD ru rd (strOf U) (strOf R) (strOf D) _ _ _ _ _ _ _ _ _ _ _ _ _ _ _ _ _ _⟩ ?_ ?_
        · refine .cons ?_ (.cons ?_ (.cons ?_ (.cons ?_ (.cons ?_ (.cons ?_ (.cons ?_ (.cons ?_ (.cons ?_ (.cons ?_ (.cons ?_ (.cons ?_ (.cons ?_ (.cons ?_ (.cons ?_ (.cons ?_ (.cons ?_ (.cons ?_ .nil)))))))))))))))))
          all_goals (rintro L a W ⟨x79, x80, x81, x82, x83, x84, x85, x86, x87, x88, x89, x90, x91, x92, x93, x94, x95, x96, rfl, hI⟩ hL hd K hK)
          · rw [if_pos (by rfl)]
            go_simp
            exact hK.out _ _ ⟨_, _, _, _, _, _, _, _, _, _, _, _, _, _, _, _, _, _, rfl, hI.s0⟩
          · have hx0 := hI.p0 (hd 0 (by decide))
            subst hx0
            rw [if_pos (by rfl)]
            go_simp
            refine (right_eq aoU (2 * n) cU U LU.out ru RU1.out W (KU.out W (HW.out W hI.bel)) CUH.out hl2).mono ?_
            rintro e W2 ⟨rfl, hb3⟩
            have hb3 := dr_below hb3
            exact hK.out _ _ ⟨_, _, _, _, _, _, _, _, _, _, _, _, _, _, _, _, _, _, rfl, (hI.mono hb3).s1⟩
          · rw [if_pos (by rfl)]
            go_simp
            exact hK.out _ _ ⟨_, _, _, _, _, _, _, _, _, _, _, _, _, _, _, _, _, _, rfl, hI.s2⟩
          · have hx2 := hI.p2 (hd 2 (by decide))
            subst hx2
            rw [if_pos (by rfl)]
            have cv := conv_bytes W aoU (2 * n) cU U LU.out (KU.out W (HW.out W hI.bel))
            go_simp
            exact hK.out _ _ ⟨_, _, _, _, _, _, _, _, _, _, _, _, _, _, _, _, _, _, rfl, hI.s3⟩
          · rw [if_pos (by rfl)]
            go_simp
            exact hK.out _ _ ⟨_, _, _, _, _, _, _, _, _, _, _, _, _, _, _, _, _, _, rfl, hI.s4⟩
          · have hx4 := hI.p4 (hd 4 (by decide))
            subst hx4
            rw [if_pos (by rfl)]
            have cv := conv_bytes W (some ⟨g1, 0, none⟩) (2 * n) (2 * n) R HR.out (KR.out W (HW.out W hI.bel))
            go_simp
            exact hK.out _ _ ⟨_, _, _, _, _, _, _, _, _, _, _, _, _, _, _, _, _, _, rfl, hI.s5⟩
          · have hx3 := hI.p3 (hd 3 (by decide))
            subst hx3
            have hx5 := hI.p5 (hd 5 (by decide))
            subst hx5
            rw [if_pos (by rfl)]
            go_simp
            exact hK.out _ _ ⟨_, _, _, _, _, _, _, _, _, _, _, _, _, _, _, _, _, _, rfl, hI.s6⟩
          · have hx1 := hI.p1 (hd 1 (by decide))
            subst hx1
            have hx6 := hI.p6 (hd 6 (by decide))
            subst hx6
            rw [if_pos (by rfl)]
            go_simp
            exact hK.out _ _ ⟨_, _, _, _, _, _, _, _, _, _, _, _, _, _, _, _, _, _, rfl, hI.s7⟩
          · have hx7 := hI.p7 (hd 7 (by decide))
            subst hx7
            rw [if_pos (by rfl)]
            go_simp
            exact hK.out _ _ ⟨_, _, _, _, _, _, _, _, _, _, _, _, _, _, _, _, _, _, rfl, hI.s8⟩
          · have hx8 := hI.p8 (hd 8 (by decide))
            subst hx8
            rw [if_pos (by rfl)]
            go_simp
            exact hK.out _ _ ⟨_, _, _, _, _, _, _, _, _, _, _, _, _, _, _, _, _, _, rfl, hI.s9⟩
          · have hx9 := hI.p9 (hd 9 (by decide))
            subst hx9
            have hx8 := hI.p8 (hd 8 (by decide))
            subst hx8
            rw [if_pos (by rfl)]
            go_simp
            refine (right_eq aoD (2 * n) cD D LD.out rd RD1.out W (KD.out W (HW.out W hI.bel)) CDH.out hl2).mono ?_
            rintro e W2 ⟨rfl, hb3⟩
            have hb3 := dr_below hb3
            exact hK.out _ _ ⟨_, _, _, _, _, _, _, _, _, _, _, _, _, _, _, _, _, _, rfl, (hI.mono hb3).s10⟩
          · have hx8 := hI.p8 (hd 8 (by decide))
            subst hx8
            rw [if_pos (by rfl)]
            go_simp
            exact hK.out _ _ ⟨_, _, _, _, _, _, _, _, _, _, _, _, _, _, _, _, _, _, rfl, hI.s11⟩
          · have hx11 := hI.p11 (hd 11 (by decide))
            subst hx11
            have hx8 := hI.p8 (hd 8 (by decide))
            subst hx8
            rw [if_pos (by rfl)]
            have cv := conv_bytes W aoD (2 * n) cD D LD.out (KD.out W (HW.out W hI.bel))
            go_simp
            exact hK.out _ _ ⟨_, _, _, _, _, _, _, _, _, _, _, _, _, _, _, _, _, _, rfl, hI.s12⟩
          · have hx8 := hI.p8 (hd 8 (by decide))
            subst hx8
            rw [if_pos (by rfl)]
            go_simp
            exact hK.out _ _ ⟨_, _, _, _, _, _, _, _, _, _, _, _, _, _, _, _, _, _, rfl, hI.s13⟩
          · have hx13 := hI.p13 (hd 13 (by decide))
            subst hx13
            have hx8 := hI.p8 (hd 8 (by decide))
            subst hx8
            rw [if_pos (by rfl)]
            have cv := conv_bytes W (some ⟨g1, 0, none⟩) (2 * n) (2 * n) R HR.out (KR.out W (HW.out W hI.bel))
            go_simp
            exact hK.out _ _ ⟨_, _, _, _, _, _, _, _, _, _, _, _, _, _, _, _, _, _, rfl, hI.s14⟩
          · have hx12 := hI.p12 (hd 12 (by decide))
            subst hx12
            have hx14 := hI.p14 (hd 14 (by decide))
            subst hx14
            have hx8 := hI.p8 (hd 8 (by decide))
            subst hx8
            rw [if_pos (by rfl)]
            go_simp
            exact hK.out _ _ ⟨_, _, _, _, _, _, _, _, _, _, _, _, _, _, _, _, _, _, rfl, hI.s15⟩
          · have hx10 := hI.p10 (hd 10 (by decide))
            subst hx10
            have hx15 := hI.p15 (hd 15 (by decide))
            subst hx15
            have hx8 := hI.p8 (hd 8 (by decide))
            subst hx8
            rw [if_pos (by rfl)]
            go_simp
            exact hK.out _ _ ⟨_, _, _, _, _, _, _, _, _, _, _, _, _, _, _, _, _, _, rfl, hI.s16⟩
          · have hx8 := hI.p8 (hd 8 (by decide))
            subst hx8
            have hx16 := hI.p16 (hd 16 (by decide))
            subst hx16
            rw [if_pos (by rfl)]
            go_simp
            exact hK.out _ _ ⟨_, _, _, _, _, _, _, _, _, _, _, _, _, _, _, _, _, _, rfl, hI.s17⟩
        · rintro L a W hall ⟨x79, x80, x81, x82, x83, x84, x85, x86, x87, x88, x89, x90, x91, x92, x93, x94, x95, x96, rfl, hI⟩
          have hx0 := hI.p0 (hall 0 (by decide))
          subst hx0
          have hx1 := hI.p1 (hall 1 (by decide))
          subst hx1
          have hx2 := hI.p2 (hall 2 (by decide))
          subst hx2
          have hx3 := hI.p3 (hall 3 (by decide))
          subst hx3
          have hx4 := hI.p4 (hall 4 (by decide))
          subst hx4
          have hx5 := hI.p5 (hall 5 (by decide))
          subst hx5
          have hx6 := hI.p6 (hall 6 (by decide))
          subst hx6
          have hx7 := hI.p7 (hall 7 (by decide))
          subst hx7
          have hx8 := hI.p8 (hall 8 (by decide))
          subst hx8
          have hx9 := hI.p9 (hall 9 (by decide))
          subst hx9
          have hx10 := hI.p10 (hall 10 (by decide))
          subst hx10
          have hx11 := hI.p11 (hall 11 (by decide))
          subst hx11
          have hx12 := hI.p12 (hall 12 (by decide))
          subst hx12
          have hx13 := hI.p13 (hall 13 (by decide))
          subst hx13
          have hx14 := hI.p14 (hall 14 (by decide))
          subst hx14
          have hx15 := hI.p15 (hall 15 (by decide))
          subst hx15
          have hx16 := hI.p16 (hall 16 (by decide))
          subst hx16
          have hx17 := hI.p17 (hall 17 (by decide))
          subst hx17
          have hbel := hI.bel
          clear hI hall
          try dsimp only
          have H11 : Hid (Below wr.heap.size wr W) := HW.out _ hbel
          clear su sd hbel HW
          have cv1 := conv_bytes W ao n cap b HB.out (KB.out _ H11.out)
          have cv2 := conv_bytes W bo nb cb c HC.out (KC.out _ H11.out)
          have sb := SB.out
          go_wp2_with fail
          refine (below_eq (some ⟨g1, 0, none⟩) (some ⟨g2, 0, none⟩) (2 * n) (2 * nb) (2 * n) (2 * nb) R S HR.out HS.out same BB.out W (KR.out _ H11.out) (KS.out _ H11.out) hl2).mono ?_
          rintro e w12 ⟨rfl, d12⟩
          have H12 : Hid (Below wr.heap.size wr w12) := Below_dr H11.out d12
          clear d12 H11 cv1 cv2 sb
          go_wp2_with fail
          refine (below_eq (some ⟨g2, 0, none⟩) (some ⟨g1, 0, none⟩) (2 * nb) (2 * n) (2 * nb) (2 * n) S R HS.out HR.out same CC.out w12 (KS.out _ H12.out) (KR.out _ H12.out) (by omega)).mono ?_
          rintro e w13 ⟨rfl, d13⟩
          have H13 : Hid (Below wr.heap.size wr w13) := Below_dr H12.out d13
          clear d13 H12
          go_wp2_with fail
          refine (fixed_any w13).mono ?_
          rintro e w14 ⟨rfl, b14⟩
          have H14 : Hid (Below wr.heap.size wr w14) := H13.out.trans (b14.mono H13.out.size)
          clear b14 H13
          go_wp2
          go_ret
          exact ⟨rfl, KW.out.trans (H14.out.mono KW.out.size)⟩
      · have y2 : ¬ (p : Int) < 2 * (n : Int) := by omega
        clear y3 y1
        go_wp2_with fail
        refine (below_eq (some ⟨g1, 0, none⟩) aoU (2 * n) (2 * n) (2 * n) cU R U HR.out LU.out true BU.out wr (KR.out _ (Below.refl _ _)) (KU.out _ (Below.refl _ _)) hl2).mono ?_
        rintro e w9 ⟨rfl, d9⟩
        have D9 : Hid (Below wr.heap.size wr w9) := dr_below d9
        clear d9
        go_wp2_with fail
        refine (below_eq aoD (some ⟨g1, 0, none⟩) (2 * n) (2 * n) cD (2 * n) D R LD.out HR.out true BD.out w9 (KD.out _ D9.out) (KR.out _ D9.out) hl2).mono ?_
        rintro e W1 ⟨rfl, d10⟩
        have D10 : Hid (Below wr.heap.size wr W1) := Below_dr D9.out d10
        have HW : Hid (∀ w', Below W1.heap.size W1 w' → Below wr.heap.size wr w') := fun w' h => D10.out.trans (h.mono D10.out.size)
        clear d10 D9 BU BD
        have su := SU.out
        have sd := SD.out
        clear SU SD
        go_upto_region 14 with fail
        refine wp_region_inv (IT14 W1 aoU (some ⟨g1, 0, none⟩) aoD (2 * n) cU cD ru rd (strOf U) (strOf R) (strOf D) _ _ _ _ _ _ _ _ _ _ _ _ _ _ _ _ _ _ _ _ _ _ _ _ _ _ _ _ _ _ _ _ _ _ _ _ _ _ _ _ _ _ _ _ _ _ _ _ _ _ _ _ _ _ _ _ _ _ _ _ _ _ _ _ _ _ _ _ _ _ _ _ _ _ _ _ _ _ _ _ _ _ _ _ _ _ _ _ _ _ _ _ _ _ _ _ _ _ _) (by kernel_rfl) (by kernel_rfl) ⟨_, _, _, _, _, _, _, _, _, _, _, _, _, _, _, _, _, _, rfl, T14.zero W1 aoU (some ⟨g1, 0, none⟩) aoD (2 * n) cU cD ru rd (strOf U) (strOf R) (strOf D) _ _ _ _ _ _ _ _ _ _ _ _ _ _ _ _ _ _⟩ ?_ ?_
        · refine .cons ?_ (.cons ?_ (.cons ?_ (.cons ?_ (.cons ?_ (.cons ?_ (.cons ?_ (.cons ?_ (.cons ?_ (.cons ?_ (.cons ?_ (.cons ?_ (.cons ?_ (.cons ?_ (.cons ?_ (.cons ?_ (.cons ?_ (.cons ?_ .nil)))))))))))))))))
          all_goals (rintro L a W ⟨x79, x80, x81, x82, x83, x84, x85, x86, x87, x88, x89, x90, x91, x92, x93, x94, x95, x96, rfl, hI⟩ hL hd K hK)
          · rw [if_pos (by rfl)]
            go_simp
            exact hK.out _ _ ⟨_, _, _, _, _, _, _, _, _, _, _, _, _, _, _, _, _, _, rfl, hI.s0⟩
          · have hx0 := hI.p0 (hd 0 (by decide))
            subst hx0
            rw [if_pos (by rfl)]
            go_simp
            refine (right_eq aoU (2 * n) cU U LU.out ru RU1.out W (KU.out W (HW.out W hI.bel)) CUH.out hl2).mono ?_
            rintro e W2 ⟨rfl, hb3⟩
            have hb3 := dr_below hb3
            exact hK.out _ _ ⟨_, _, _, _, _, _, _, _, _, _, _, _, _, _, _, _, _, _, rfl, (hI.mono hb3).s1⟩
          · rw [if_pos (by rfl)]
            go_simp
            exact hK.out _ _ ⟨_, _, _, _, _, _, _, _, _, _, _, _, _, _, _, _, _, _, rfl, hI.s2⟩
          · have hx2 := hI.p2 (hd 2 (by decide))
            subst hx2
            rw [if_pos (by rfl)]
            have cv := conv_bytes W aoU (2 * n) cU U LU.out (KU.out W (HW.out W hI.bel))
            go_simp
            exact hK.out _ _ ⟨_, _, _, _, _, _, _, _, _, _, _, _, _, _, _, _, _, _, rfl, hI.s3⟩
          · rw [if_pos (by rfl)]
            go_simp
            exact hK.out _ _ ⟨_, _, _, _, _, _, _, _, _, _, _, _, _, _, _, _, _, _, rfl, hI.s4⟩
          · have hx4 := hI.p4 (hd 4 (by decide))
            subst hx4
            rw [if_pos (by rfl)]
            have cv := conv_bytes W (some ⟨g1, 0, none⟩) (2 * n) (2 * n) R HR.out (KR.out W (HW.out W hI.bel))
            go_simp
            exact hK.out _ _ ⟨_, _, _, _, _, _, _, _, _, _, _, _, _, _, _, _, _, _, rfl, hI.s5⟩
          · have hx3 := hI.p3 (hd 3 (by decide))
            subst hx3
            have hx5 := hI.p5 (hd 5 (by decide))
            subst hx5
            rw [if_pos (by rfl)]
            go_simp
            exact hK.out _ _ ⟨_, _, _, _, _, _, _, _, _, _, _, _, _, _, _, _, _, _, rfl, hI.s6⟩
          · have hx1 := hI.p1 (hd 1 (by decide))
            subst hx1
            have hx6 := hI.p6 (hd 6 (by decide))
            subst hx6
            rw [if_pos (by rfl)]
            go_simp
            exact hK.out _ _ ⟨_, _, _, _, _, _, _, _, _, _, _, _, _, _, _, _, _, _, rfl, hI.s7⟩
          · have hx7 := hI.p7 (hd 7 (by decide))
            subst hx7
            rw [if_pos (by rfl)]
            go_simp
            exact hK.out _ _ ⟨_, _, _, _, _, _, _, _, _, _, _, _, _, _, _, _, _, _, rfl, hI.s8⟩
          · have hx8 := hI.p8 (hd 8 (by decide))
            subst hx8
            rw [if_pos (by rfl)]
            go_simp
            exact hK.out _ _ ⟨_, _, _, _, _, _, _, _, _, _, _, _, _, _, _, _, _, _, rfl, hI.s9⟩
          · have hx9 := hI.p9 (hd 9 (by decide))
            subst hx9
            have hx8 := hI.p8 (hd 8 (by decide))
            subst hx8
            rw [if_pos (by rfl)]
            go_simp
            refine (right_eq aoD (2 * n) cD D LD.out rd RD1.out W (KD.out W (HW.out W hI.bel)) CDH.out hl2).mono ?_
            rintro e W2 ⟨rfl, hb3⟩
            have hb3 := dr_below hb3
            exact hK.out _ _ ⟨_, _, _, _, _, _, _, _, _, _, _, _, _, _, _, _, _, _, rfl, (hI.mono hb3).s10⟩
          · have hx8 := hI.p8 (hd 8 (by decide))
            subst hx8
            rw [if_pos (by rfl)]
            go_simp
            exact hK.out _ _ ⟨_, _, _, _, _, _, _, _, _, _, _, _, _, _, _, _, _, _, rfl, hI.s11⟩
          · have hx11 := hI.p11 (hd 11 (by decide))
            subst hx11
            have hx8 := hI.p8 (hd 8 (by decide))
            subst hx8
            rw [if_pos (by rfl)]
            have cv := conv_bytes W aoD (2 * n) cD D LD.out (KD.out W (HW.out W hI.bel))
            go_simp
            exact hK.out _ _ ⟨_, _, _, _, _, _, _, _, _, _, _, _, _, _, _, _, _, _, rfl, hI.s12⟩
          · have hx8 := hI.p8 (hd 8 (by decide))
            subst hx8
            rw [if_pos (by rfl)]
            go_simp
            exact hK.out _ _ ⟨_, _, _, _, _, _, _, _, _, _, _, _, _, _, _, _, _, _, rfl, hI.s13⟩
          · have hx13 := hI.p13 (hd 13 (by decide))
            subst hx13
            have hx8 := hI.p8 (hd 8 (by decide))
            subst hx8
            rw [if_pos (by rfl)]
            have cv := conv_bytes W (some ⟨g1, 0, none⟩) (2 * n) (2 * n) R HR.out (KR.out W (HW.out W hI.bel))
            go_simp
            exact hK.out _ _ ⟨_, _, _, _, _, _, _, _, _, _, _, _, _, _, _, _, _, _, rfl, hI.s14⟩
          · have hx12 := hI.p12 (hd 12 (by decide))
            subst hx12
            have hx14 := hI.p14 (hd 14 (by decide))
            subst hx14
            have hx8 := hI.p8 (hd 8 (by decide))
            subst hx8
            rw [if_pos (by rfl)]
            go_simp
            exact hK.out _ _ ⟨_, _, _, _, _, _, _, _, _, _, _, _, _, _, _, _, _, _, rfl, hI.s15⟩
          · have hx10 := hI.p10 (hd 10 (by decide))
            subst hx10
            have hx15 := hI.p15 (hd 15 (by decide))
            subst hx15
            have hx8 := hI.p8 (hd 8 (by decide))
            subst hx8
            rw [if_pos (by rfl)]
            go_simp
            exact hK.out _ _ ⟨_, _, _, _, _, _, _, _, _, _, _, _, _, _, _, _, _, _, rfl, hI.s16⟩
          · have hx8 := hI.p8 (hd 8 (by decide))
            subst hx8
            have hx16 := hI.p16 (hd 16 (by decide))
            subst hx16
            rw [if_pos (by rfl)]
            go_simp
            exact hK.out _ _ ⟨_, _, _, _, _, _, _, _, _, _, _, _, _, _, _, _, _, _, rfl, hI.s17⟩
        · rintro L a W hall ⟨x79, x80, x81, x82, x83, x84, x85, x86, x87, x88, x89, x90, x91, x92, x93, x94, x95, x96, rfl, hI⟩
          have hx0 := hI.p0 (hall 0 (by decide))
          subst hx0
          have hx1 := hI.p1 (hall 1 (by decide))
          subst hx1
          have hx2 := hI.p2 (hall 2 (by decide))
          subst hx2
          have hx3 := hI.p3 (hall 3 (by decide))
          subst hx3
          have hx4 := hI.p4 (hall 4 (by decide))
          subst hx4
          have hx5 := hI.p5 (hall 5 (by decide))
          subst hx5
          have hx6 := hI.p6 (hall 6 (by decide))
          subst hx6
          have hx7 := hI.p7 (hall 7 (by decide))
          subst hx7
          have hx8 := hI.p8 (hall 8 (by decide))
          subst hx8
          have hx9 := hI.p9 (hall 9 (by decide))
          subst hx9
          have hx10 := hI.p10 (hall 10 (by decide))
          subst hx10
          have hx11 := hI.p11 (hall 11 (by decide))
          subst hx11
          have hx12 := hI.p12 (hall 12 (by decide))
          subst hx12
          have hx13 := hI.p13 (hall 13 (by decide))
          subst hx13
          have hx14 := hI.p14 (hall 14 (by decide))
          subst hx14
          have hx15 := hI.p15 (hall 15 (by decide))
          subst hx15
          have hx16 := hI.p16 (hall 16 (by decide))
          subst hx16
          have hx17 := hI.p17 (hall 17 (by decide))
          subst hx17
          have hbel := hI.bel
          clear hI hall
          try dsimp only
          have H11 : Hid (Below wr.heap.size wr W) := HW.out _ hbel
          clear su sd hbel HW
          have cv1 := conv_bytes W ao n cap b HB.out (KB.out _ H11.out)
          have cv2 := conv_bytes W bo nb cb c HC.out (KC.out _ H11.out)
          have sb := SB.out
          go_wp2_with fail
          refine (below_eq (some ⟨g1, 0, none⟩) (some ⟨g2, 0, none⟩) (2 * n) (2 * nb) (2 * n) (2 * nb) R S HR.out HS.out same BB.out W (KR.out _ H11.out) (KS.out _ H11.out) hl2).mono ?_
          rintro e w12 ⟨rfl, d12⟩
          have H12 : Hid (Below wr.heap.size wr w12) := Below_dr H11.out d12
          clear d12 H11 cv1 cv2 sb
          go_wp2_with fail
          refine (below_eq (some ⟨g2, 0, none⟩) (some ⟨g1, 0, none⟩) (2 * nb) (2 * n) (2 * nb) (2 * n) S R HS.out HR.out same CC.out w12 (KS.out _ H12.out) (KR.out _ H12.out) (by omega)).mono ?_
          rintro e w13 ⟨rfl, d13⟩
          have H13 : Hid (Below wr.heap.size wr w13) := Below_dr H12.out d13
          clear d13 H12
          go_wp2_with fail
          refine (fixed_any w13).mono ?_
          rintro e w14 ⟨rfl, b14⟩
          have H14 : Hid (Below wr.heap.size wr w14) := H13.out.trans (b14.mono H13.out.size)
          clear b14 H13
          go_wp2
          go_ret
          exact ⟨rfl, KW.out.trans (H14.out.mono KW.out.size)⟩
end Go.Proofs.Ytljjfhllpbcpeaa
