
import Derived.Test.YtplpoehfdhkhmaaDoorP25W2
/-! The law of layer 25: PatchChains. (Printed by tools/genlw25.py.) -/
namespace Go.Proofs.YtplpoehfdhkhmaaDoor
open Go.RowKit
set_option linter.unusedVariables false

section
variable {M J : List By -> List By -> List By}
theorem joins_made (P : Pch M J) {a b c : List By} (ha : a.length <= 524288) (hb : b.length <= 524288) (hc : c.length <= 524288) : (∃ x y, joinsR (M a b) (M b c) = .ok (x, y)) /\ applyR a (J (M a b) (M b c)) = .ok c /\ (J (M a b) (M b c)).length <= 140737488351232 := by
  obtain ⟨x, hx, xb, xa, xo, xn, xt, _⟩ := P.made a b ha hb
  obtain ⟨y, hy, yb, ya, yo, yn, yt, _⟩ := P.made b c hb hc
  have hj : joinsR (M a b) (M b c) = .ok (x, y) := by
    unfold joinsR
    rw [hx]
    dsimp only
    rw [hy]
    dsimp only
    rw [if_neg (by rintro (h | h); exact h (by rw [yo, xn]); exact h (by rw [yb, xa]))]
  obtain ⟨z, hz, zo, zb, zn, za, zl, zt⟩ := P.joined _ _ x y hj
  refine ⟨⟨x, y, hj⟩, ?_, by omega⟩
  unfold applyR
  rw [hz]
  dsimp only
  rw [zt a (by rw [xb]), xt, yt, if_neg (by rintro (h | h); exact h (by rw [zb, xb]); exact h (by rw [zo, xo])), if_neg (by rw [zn, yn]; exact fun h => h rfl)]
theorem joins_then (P : Pch M J) {a b q : List By} {x y : PX} (ha : a.length <= 524288) (hb : b.length <= 524288) (hj : joinsR (M a b) q = .ok (x, y)) : applyR a (J (M a b) q) = applyR b q /\ (J (M a b) q).length <= 140737488351232 := by
  obtain ⟨x', hx, xb, xa, xo, xn, xt, _⟩ := P.made a b ha hb
  obtain ⟨z, hz, zo, zb, zn, za, zl, zt⟩ := P.joined _ _ x y hj
  have hj2 := hj
  unfold joinsR at hj2
  rw [hx] at hj2
  dsimp only at hj2
  cases hq : readR q with
  | error ka => rw [hq] at hj2; cases hj2
  | ok y' =>
    rw [hq] at hj2
    dsimp only at hj2
    split at hj2
    · cases hj2
    · rename_i hne
      injection hj2 with hj2
      injection hj2 with e1 e2
      subst e1 e2
      have h1 : y'.old = x'.new := Classical.byContradiction fun h => hne (.inl h)
      have h2 : y'.before = x'.after := Classical.byContradiction fun h => hne (.inr h)
      refine ⟨?_, by omega⟩
      unfold applyR
      rw [hz, hq]
      dsimp only
      have e1 : ¬ (a.length ≠ z.before ∨ sha a ≠ z.old) := by rintro (h | h); exact h (by rw [zb, xb]); exact h (by rw [zo, xo])
      have e2 : ¬ (b.length ≠ y'.before ∨ sha b ≠ y'.old) := by rintro (h | h); exact h (by rw [h2, xa]); exact h (by rw [h1, xn])
      rw [zt a (by rw [xb]), xt, if_neg e1, if_neg e2, zn]
theorem applies_joins (P : Pch M J) {a b q m : List By} (ha : a.length <= 524288) (hb : b.length <= 524288) (h : applyR b q = .ok m) : ∃ x y, joinsR (M a b) q = .ok (x, y) := by
  obtain ⟨x, hx, xb, xa, xo, xn, xt, _⟩ := P.made a b ha hb
  unfold applyR at h
  cases hq : readR q with
  | error ka => rw [hq] at h; cases h
  | ok y =>
    rw [hq] at h
    dsimp only at h
    split at h
    · cases h
    · rename_i hne
      have h1 : b.length = y.before := Classical.byContradiction fun h => hne (.inl h)
      have h2 : sha b = y.old := Classical.byContradiction fun h => hne (.inr h)
      refine ⟨x, y, ?_⟩
      unfold joinsR
      rw [hx]
      dsimp only
      rw [hq]
      dsimp only
      rw [if_neg (by rintro (h | h); exact h (by rw [<- h2, xn]); exact h (by rw [<- h1, xa]))]
end
theorem applyR_len {old p m : List By} (h : applyR old p = .ok m) : m.length <= 524288 := by
  unfold applyR at h
  cases hq : readR p with
  | error ka => rw [hq] at h; cases h
  | ok x =>
    rw [hq] at h
    dsimp only at h
    have ok := readR_ok hq
    split at h
    · cases h
    · rename_i hne
      have h1 : old.length = x.before := Classical.byContradiction fun h => hne (.inl h)
      split at h
      · cases h
      · injection h with h
        rw [<- h, tells_len ok h1 (fun y hy => hy), ok.sum]
        exact ok.aft
theorem aT_len (old p : List By) : (aT old p).1.length <= 524288 := by
  unfold aT
  cases h : applyR old p with
  | error ka => simp
  | ok m => exact applyR_len h
/-- What Join answers, in one row. -/
def jT (J : List By -> List By -> List By) (p q : List By) : List By × Nat × Nat := match joinsR p q with | .error (k, a) => ([], k, a) | .ok _ => (J p q, 0, 0)
theorem joinsR_wrong {p q : List By} {k a : Nat} (h : joinsR p q = .error (k, a)) : k ≠ 0 := by
  unfold joinsR at h
  split at h
  · rename_i e a' he
    have := (readR_wrong he).1
    injection h with h; injection h with h1 h2; omega
  · split at h
    · rename_i e a' he
      have := (readR_wrong he).1
      injection h with h; injection h with h1 h2; omega
    · split at h
      · injection h with h; injection h with h1 h2; omega
      · cases h
theorem cjo_uni {J : List By -> List By -> List By} {w : World} {p q : List By} {e : Ending} {w' : World} (h : CJo J w p q e w') : Below w.heap.size w w' /\ ∃ b v, e = .returned (.tuple #[b, v]) /\ BV w' b (jT J p q).1 /\ ErO w' (jT J p q).2.1 (jT J p q).2.2 v := by
  refine ⟨h.1, ?_⟩
  have h2 := h.2
  unfold jT
  cases hr : joinsR p q with
  | error ka =>
    rw [hr] at h2
    obtain ⟨b, v, e1, hb, hv⟩ := h2
    exact ⟨b, v, e1, hb, .inr ⟨joinsR_wrong (k := ka.1) (a := ka.2) hr, hv⟩⟩
  | ok m =>
    rw [hr] at h2
    obtain ⟨b, e1, hb⟩ := h2
    exact ⟨b, _, e1, hb, .inl ⟨rfl, rfl, rfl⟩⟩

structure CH19N (W1 : World) (ge gf : Nat) (oo tt : Option Addr) (on oc tn tc : Nat) (S1 : ByteArray) (L : Nat -> Bool) (x111 x112 x113 x114 x115 x116 x117 x118 x119 x120 x121 x122 x123 x124 x125 x2 : Value) (W : World) : Prop where
  x : Below W1.heap.size W1 W
  p0 : L 0 = true -> x111 = .nilIface
  p1 : L 1 = true -> x112 = .bool true
  p2 : L 2 = true -> x113 = .nilIface
  p3 : L 3 = true -> x114 = .bool true
  p4 : L 4 = true -> x115 = .bool true
  p5 : L 5 = true -> x116 = .bool true
  p6 : L 6 = true -> x117 = .slice oo on oc
  p7 : L 7 = true -> x118 = .string S1
  p8 : L 8 = true -> x119 = .slice tt tn tc
  p9 : L 9 = true -> x120 = .string S1
  p10 : L 10 = true -> x121 = .bool true
  p11 : L 11 = true -> x122 = .bool true
  p12 : L 12 = true -> x123 = .bool true
  p13 : L 13 = true -> x124 = .bool true
  p14 : L 14 = true -> x125 = .bool true
  p15 : L 15 = true -> x2 = .bool true
section
variable {W1 : World} {ge gf : Nat} {oo tt : Option Addr} {on oc tn tc : Nat} {S1 : ByteArray} {L : Nat -> Bool} {x111 x112 x113 x114 x115 x116 x117 x118 x119 x120 x121 x122 x123 x124 x125 x2 : Value} {W W2 : World}
end
@[reducible] def ICH19N (W1 : World) (ge gf : Nat) (oo tt : Option Addr) (on oc tn tc : Nat) (S1 : ByteArray) (y0 y1 y3 y4 y5 y6 y7 y8 y9 y10 y11 y12 y13 y14 y15 y16 y17 y18 y19 y20 y21 y22 y23 y24 y25 y26 y27 y28 y29 y30 y31 y32 y33 y34 y35 y36 y37 y38 y39 y40 y41 y42 y43 y44 y45 y46 y47 y48 y49 y50 y51 y52 y53 y54 y55 y56 y57 y58 y59 y60 y61 y62 y63 y64 y65 y66 y67 y68 y69 y70 y71 y72 y73 y74 y75 y76 y77 y78 y79 y80 y81 y82 y83 y84 y85 y86 y87 y88 y89 y90 y91 y92 y93 y94 y95 y96 y97 y98 y99 y100 y101 y102 y103 y104 y105 y106 y107 y108 y109 y110 : Value) : (Nat -> Bool) -> Act -> World -> Prop := fun L a W => ∃ x111 x112 x113 x114 x115 x116 x117 x118 x119 x120 x121 x122 x123 x124 x125 x2, a = ⟨#[y0, y1, x2, y3, y4, y5, y6, y7, y8, y9, y10, y11, y12, y13, y14, y15, y16, y17, y18, y19, y20, y21, y22, y23, y24, y25, y26, y27, y28, y29, y30, y31, y32, y33, y34, y35, y36, y37, y38, y39, y40, y41, y42, y43, y44, y45, y46, y47, y48, y49, y50, y51, y52, y53, y54, y55, y56, y57, y58, y59, y60, y61, y62, y63, y64, y65, y66, y67, y68, y69, y70, y71, y72, y73, y74, y75, y76, y77, y78, y79, y80, y81, y82, y83, y84, y85, y86, y87, y88, y89, y90, y91, y92, y93, y94, y95, y96, y97, y98, y99, y100, y101, y102, y103, y104, y105, y106, y107, y108, y109, y110, x111, x112, x113, x114, x115, x116, x117, x118, x119, x120, x121, x122, x123, x124, x125], []⟩ /\ CH19N W1 ge gf oo tt on oc tn tc S1 L x111 x112 x113 x114 x115 x116 x117 x118 x119 x120 x121 x122 x123 x124 x125 x2 W
theorem CH19N.step {W1 : World} {ge gf : Nat} {oo tt : Option Addr} {on oc tn tc : Nat} {S1 : ByteArray} {y0 y1 y3 y4 y5 y6 y7 y8 y9 y10 y11 y12 y13 y14 y15 y16 y17 y18 y19 y20 y21 y22 y23 y24 y25 y26 y27 y28 y29 y30 y31 y32 y33 y34 y35 y36 y37 y38 y39 y40 y41 y42 y43 y44 y45 y46 y47 y48 y49 y50 y51 y52 y53 y54 y55 y56 y57 y58 y59 y60 y61 y62 y63 y64 y65 y66 y67 y68 y69 y70 y71 y72 y73 y74 y75 y76 y77 y78 y79 y80 y81 y82 y83 y84 y85 y86 y87 y88 y89 y90 y91 y92 y93 y94 y95 y96 y97 y98 y99 y100 y101 y102 y103 y104 y105 y106 y107 y108 y109 y110 : Value} {P : Program} {ops : Array Oper} {Q : Exit -> Act -> World -> Prop} {i : Nat} {o : Oper} (hq : ∀ x111 x112 x113 x114 x115 x116 x117 x118 x119 x120 x121 x122 x123 x124 x125 x2 (L : Nat -> Bool) (W : World), CH19N W1 ge gf oo tt on oc tn tc S1 L x111 x112 x113 x114 x115 x116 x117 x118 x119 x120 x121 x122 x123 x124 x125 x2 W -> L i = false -> (∀ j ∈ onesOf o, L j = true) -> ∀ K : Act -> World -> Prop, Shut (∀ a' w', ICH19N W1 ge gf oo tt on oc tn tc S1 y0 y1 y3 y4 y5 y6 y7 y8 y9 y10 y11 y12 y13 y14 y15 y16 y17 y18 y19 y20 y21 y22 y23 y24 y25 y26 y27 y28 y29 y30 y31 y32 y33 y34 y35 y36 y37 y38 y39 y40 y41 y42 y43 y44 y45 y46 y47 y48 y49 y50 y51 y52 y53 y54 y55 y56 y57 y58 y59 y60 y61 y62 y63 y64 y65 y66 y67 y68 y69 y70 y71 y72 y73 y74 y75 y76 y77 y78 y79 y80 y81 y82 y83 y84 y85 y86 y87 y88 y89 y90 y91 y92 y93 y94 y95 y96 y97 y98 y99 y100 y101 y102 y103 y104 y105 y106 y107 y108 y109 y110 (upd L i) a' w' -> K a' w') -> if Region.wanted o (yielded ops (⟨#[y0, y1, x2, y3, y4, y5, y6, y7, y8, y9, y10, y11, y12, y13, y14, y15, y16, y17, y18, y19, y20, y21, y22, y23, y24, y25, y26, y27, y28, y29, y30, y31, y32, y33, y34, y35, y36, y37, y38, y39, y40, y41, y42, y43, y44, y45, y46, y47, y48, y49, y50, y51, y52, y53, y54, y55, y56, y57, y58, y59, y60, y61, y62, y63, y64, y65, y66, y67, y68, y69, y70, y71, y72, y73, y74, y75, y76, y77, y78, y79, y80, y81, y82, y83, y84, y85, y86, y87, y88, y89, y90, y91, y92, y93, y94, y95, y96, y97, y98, y99, y100, y101, y102, y103, y104, y105, y106, y107, y108, y109, y110, x111, x112, x113, x114, x115, x116, x117, x118, x119, x120, x121, x122, x123, x124, x125], []⟩ : Act).tmps) = true then Oper.wp P o ⟨#[y0, y1, x2, y3, y4, y5, y6, y7, y8, y9, y10, y11, y12, y13, y14, y15, y16, y17, y18, y19, y20, y21, y22, y23, y24, y25, y26, y27, y28, y29, y30, y31, y32, y33, y34, y35, y36, y37, y38, y39, y40, y41, y42, y43, y44, y45, y46, y47, y48, y49, y50, y51, y52, y53, y54, y55, y56, y57, y58, y59, y60, y61, y62, y63, y64, y65, y66, y67, y68, y69, y70, y71, y72, y73, y74, y75, y76, y77, y78, y79, y80, y81, y82, y83, y84, y85, y86, y87, y88, y89, y90, y91, y92, y93, y94, y95, y96, y97, y98, y99, y100, y101, y102, y103, y104, y105, y106, y107, y108, y109, y110, x111, x112, x113, x114, x115, x116, x117, x118, x119, x120, x121, x122, x123, x124, x125], []⟩ W K Q else K ((⟨#[y0, y1, x2, y3, y4, y5, y6, y7, y8, y9, y10, y11, y12, y13, y14, y15, y16, y17, y18, y19, y20, y21, y22, y23, y24, y25, y26, y27, y28, y29, y30, y31, y32, y33, y34, y35, y36, y37, y38, y39, y40, y41, y42, y43, y44, y45, y46, y47, y48, y49, y50, y51, y52, y53, y54, y55, y56, y57, y58, y59, y60, y61, y62, y63, y64, y65, y66, y67, y68, y69, y70, y71, y72, y73, y74, y75, y76, y77, y78, y79, y80, y81, y82, y83, y84, y85, y86, y87, y88, y89, y90, y91, y92, y93, y94, y95, y96, y97, y98, y99, y100, y101, y102, y103, y104, y105, y106, y107, y108, y109, y110, x111, x112, x113, x114, x115, x116, x117, x118, x119, x120, x121, x122, x123, x124, x125], []⟩ : Act).put o.dst undef) W) : StepI P ops (ICH19N W1 ge gf oo tt on oc tn tc S1 y0 y1 y3 y4 y5 y6 y7 y8 y9 y10 y11 y12 y13 y14 y15 y16 y17 y18 y19 y20 y21 y22 y23 y24 y25 y26 y27 y28 y29 y30 y31 y32 y33 y34 y35 y36 y37 y38 y39 y40 y41 y42 y43 y44 y45 y46 y47 y48 y49 y50 y51 y52 y53 y54 y55 y56 y57 y58 y59 y60 y61 y62 y63 y64 y65 y66 y67 y68 y69 y70 y71 y72 y73 y74 y75 y76 y77 y78 y79 y80 y81 y82 y83 y84 y85 y86 y87 y88 y89 y90 y91 y92 y93 y94 y95 y96 y97 y98 y99 y100 y101 y102 y103 y104 y105 y106 y107 y108 y109 y110) Q i o := by
  rintro L a W ⟨x111, x112, x113, x114, x115, x116, x117, x118, x119, x120, x121, x122, x123, x124, x125, x2, rfl, h⟩
  exact hq _ _ _ _ _ _ _ _ _ _ _ _ _ _ _ _ _ _ h
structure CH19E (W1 : World) (ge gf : Nat) (oo tt : Option Addr) (on oc tn tc : Nat) (S1 : ByteArray) (L : Nat -> Bool) (x111 x112 x113 x114 x115 x116 x117 x118 x119 x120 x121 x122 x123 x124 x125 x2 : Value) (W : World) : Prop where
  x : Below W1.heap.size W1 W
  p0 : L 0 = true -> x111 = (.iface 61 (.pointer (some ⟨ge, 0, none⟩)))
  p1 : L 1 = true -> x112 = .bool false
  p2 : L 2 = true -> x113 = (.iface 61 (.pointer (some ⟨gf, 0, none⟩)))
  p3 : L 3 = true -> x114 = .bool false
  p4 : L 4 = true -> x115 = .bool true
  p5 : L 5 = true -> x116 = .bool true
  p6 : L 6 = true -> x117 = .slice oo on oc
  p7 : L 7 = true -> x118 = .string S1
  p8 : L 8 = true -> x119 = .slice tt tn tc
  p9 : L 9 = true -> x120 = .string S1
  p10 : L 10 = true -> x121 = .bool true
  p11 : L 11 = true -> x122 = .bool true
  p12 : L 12 = true -> x123 = .bool true
  p13 : L 13 = true -> x124 = .bool true
  p14 : L 14 = true -> x125 = .bool true
  p15 : L 15 = true -> x2 = .bool true
section
variable {W1 : World} {ge gf : Nat} {oo tt : Option Addr} {on oc tn tc : Nat} {S1 : ByteArray} {L : Nat -> Bool} {x111 x112 x113 x114 x115 x116 x117 x118 x119 x120 x121 x122 x123 x124 x125 x2 : Value} {W W2 : World}
end
@[reducible] def ICH19E (W1 : World) (ge gf : Nat) (oo tt : Option Addr) (on oc tn tc : Nat) (S1 : ByteArray) (y0 y1 y3 y4 y5 y6 y7 y8 y9 y10 y11 y12 y13 y14 y15 y16 y17 y18 y19 y20 y21 y22 y23 y24 y25 y26 y27 y28 y29 y30 y31 y32 y33 y34 y35 y36 y37 y38 y39 y40 y41 y42 y43 y44 y45 y46 y47 y48 y49 y50 y51 y52 y53 y54 y55 y56 y57 y58 y59 y60 y61 y62 y63 y64 y65 y66 y67 y68 y69 y70 y71 y72 y73 y74 y75 y76 y77 y78 y79 y80 y81 y82 y83 y84 y85 y86 y87 y88 y89 y90 y91 y92 y93 y94 y95 y96 y97 y98 y99 y100 y101 y102 y103 y104 y105 y106 y107 y108 y109 y110 : Value) : (Nat -> Bool) -> Act -> World -> Prop := fun L a W => ∃ x111 x112 x113 x114 x115 x116 x117 x118 x119 x120 x121 x122 x123 x124 x125 x2, a = ⟨#[y0, y1, x2, y3, y4, y5, y6, y7, y8, y9, y10, y11, y12, y13, y14, y15, y16, y17, y18, y19, y20, y21, y22, y23, y24, y25, y26, y27, y28, y29, y30, y31, y32, y33, y34, y35, y36, y37, y38, y39, y40, y41, y42, y43, y44, y45, y46, y47, y48, y49, y50, y51, y52, y53, y54, y55, y56, y57, y58, y59, y60, y61, y62, y63, y64, y65, y66, y67, y68, y69, y70, y71, y72, y73, y74, y75, y76, y77, y78, y79, y80, y81, y82, y83, y84, y85, y86, y87, y88, y89, y90, y91, y92, y93, y94, y95, y96, y97, y98, y99, y100, y101, y102, y103, y104, y105, y106, y107, y108, y109, y110, x111, x112, x113, x114, x115, x116, x117, x118, x119, x120, x121, x122, x123, x124, x125], []⟩ /\ CH19E W1 ge gf oo tt on oc tn tc S1 L x111 x112 x113 x114 x115 x116 x117 x118 x119 x120 x121 x122 x123 x124 x125 x2 W
theorem CH19E.step {W1 : World} {ge gf : Nat} {oo tt : Option Addr} {on oc tn tc : Nat} {S1 : ByteArray} {y0 y1 y3 y4 y5 y6 y7 y8 y9 y10 y11 y12 y13 y14 y15 y16 y17 y18 y19 y20 y21 y22 y23 y24 y25 y26 y27 y28 y29 y30 y31 y32 y33 y34 y35 y36 y37 y38 y39 y40 y41 y42 y43 y44 y45 y46 y47 y48 y49 y50 y51 y52 y53 y54 y55 y56 y57 y58 y59 y60 y61 y62 y63 y64 y65 y66 y67 y68 y69 y70 y71 y72 y73 y74 y75 y76 y77 y78 y79 y80 y81 y82 y83 y84 y85 y86 y87 y88 y89 y90 y91 y92 y93 y94 y95 y96 y97 y98 y99 y100 y101 y102 y103 y104 y105 y106 y107 y108 y109 y110 : Value} {P : Program} {ops : Array Oper} {Q : Exit -> Act -> World -> Prop} {i : Nat} {o : Oper} (hq : ∀ x111 x112 x113 x114 x115 x116 x117 x118 x119 x120 x121 x122 x123 x124 x125 x2 (L : Nat -> Bool) (W : World), CH19E W1 ge gf oo tt on oc tn tc S1 L x111 x112 x113 x114 x115 x116 x117 x118 x119 x120 x121 x122 x123 x124 x125 x2 W -> L i = false -> (∀ j ∈ onesOf o, L j = true) -> ∀ K : Act -> World -> Prop, Shut (∀ a' w', ICH19E W1 ge gf oo tt on oc tn tc S1 y0 y1 y3 y4 y5 y6 y7 y8 y9 y10 y11 y12 y13 y14 y15 y16 y17 y18 y19 y20 y21 y22 y23 y24 y25 y26 y27 y28 y29 y30 y31 y32 y33 y34 y35 y36 y37 y38 y39 y40 y41 y42 y43 y44 y45 y46 y47 y48 y49 y50 y51 y52 y53 y54 y55 y56 y57 y58 y59 y60 y61 y62 y63 y64 y65 y66 y67 y68 y69 y70 y71 y72 y73 y74 y75 y76 y77 y78 y79 y80 y81 y82 y83 y84 y85 y86 y87 y88 y89 y90 y91 y92 y93 y94 y95 y96 y97 y98 y99 y100 y101 y102 y103 y104 y105 y106 y107 y108 y109 y110 (upd L i) a' w' -> K a' w') -> if Region.wanted o (yielded ops (⟨#[y0, y1, x2, y3, y4, y5, y6, y7, y8, y9, y10, y11, y12, y13, y14, y15, y16, y17, y18, y19, y20, y21, y22, y23, y24, y25, y26, y27, y28, y29, y30, y31, y32, y33, y34, y35, y36, y37, y38, y39, y40, y41, y42, y43, y44, y45, y46, y47, y48, y49, y50, y51, y52, y53, y54, y55, y56, y57, y58, y59, y60, y61, y62, y63, y64, y65, y66, y67, y68, y69, y70, y71, y72, y73, y74, y75, y76, y77, y78, y79, y80, y81, y82, y83, y84, y85, y86, y87, y88, y89, y90, y91, y92, y93, y94, y95, y96, y97, y98, y99, y100, y101, y102, y103, y104, y105, y106, y107, y108, y109, y110, x111, x112, x113, x114, x115, x116, x117, x118, x119, x120, x121, x122, x123, x124, x125], []⟩ : Act).tmps) = true then Oper.wp P o ⟨#[y0, y1, x2, y3, y4, y5, y6, y7, y8, y9, y10, y11, y12, y13, y14, y15, y16, y17, y18, y19, y20, y21, y22, y23, y24, y25, y26, y27, y28, y29, y30, y31, y32, y33, y34, y35, y36, y37, y38, y39, y40, y41, y42, y43, y44, y45, y46, y47, y48, y49, y50, y51, y52, y53, y54, y55, y56, y57, y58, y59, y60, y61, y62, y63, y64, y65, y66, y67, y68, y69, y70, y71, y72, y73, y74, y75, y76, y77, y78, y79, y80, y81, y82, y83, y84, y85, y86, y87, y88, y89, y90, y91, y92, y93, y94, y95, y96, y97, y98, y99, y100, y101, y102, y103, y104, y105, y106, y107, y108, y109, y110, x111, x112, x113, x114, x115, x116, x117, x118, x119, x120, x121, x122, x123, x124, x125], []⟩ W K Q else K ((⟨#[y0, y1, x2, y3, y4, y5, y6, y7, y8, y9, y10, y11, y12, y13, y14, y15, y16, y17, y18, y19, y20, y21, y22, y23, y24, y25, y26, y27, y28, y29, y30, y31, y32, y33, y34, y35, y36, y37, y38, y39, y40, y41, y42, y43, y44, y45, y46, y47, y48, y49, y50, y51, y52, y53, y54, y55, y56, y57, y58, y59, y60, y61, y62, y63, y64, y65, y66, y67, y68, y69, y70, y71, y72, y73, y74, y75, y76, y77, y78, y79, y80, y81, y82, y83, y84, y85, y86, y87, y88, y89, y90, y91, y92, y93, y94, y95, y96, y97, y98, y99, y100, y101, y102, y103, y104, y105, y106, y107, y108, y109, y110, x111, x112, x113, x114, x115, x116, x117, x118, x119, x120, x121, x122, x123, x124, x125], []⟩ : Act).put o.dst undef) W) : StepI P ops (ICH19E W1 ge gf oo tt on oc tn tc S1 y0 y1 y3 y4 y5 y6 y7 y8 y9 y10 y11 y12 y13 y14 y15 y16 y17 y18 y19 y20 y21 y22 y23 y24 y25 y26 y27 y28 y29 y30 y31 y32 y33 y34 y35 y36 y37 y38 y39 y40 y41 y42 y43 y44 y45 y46 y47 y48 y49 y50 y51 y52 y53 y54 y55 y56 y57 y58 y59 y60 y61 y62 y63 y64 y65 y66 y67 y68 y69 y70 y71 y72 y73 y74 y75 y76 y77 y78 y79 y80 y81 y82 y83 y84 y85 y86 y87 y88 y89 y90 y91 y92 y93 y94 y95 y96 y97 y98 y99 y100 y101 y102 y103 y104 y105 y106 y107 y108 y109 y110) Q i o := by
  rintro L a W ⟨x111, x112, x113, x114, x115, x116, x117, x118, x119, x120, x121, x122, x123, x124, x125, x2, rfl, h⟩
  exact hq _ _ _ _ _ _ _ _ _ _ _ _ _ _ _ _ _ _ h
/-- Four rows of bytes in a struct. -/
structure R4In (w : World) (a b c q : List By) (ao bo co qo : Option Addr) (ac bc cc qc : Nat) : Prop where
  a : RowIn w ao ac a
  b : RowIn w bo bc b
  c : RowIn w co cc c
  q : RowIn w qo qc q
theorem R4In.keep {w w' : World} {a b c q : List By} {ao bo co qo : Option Addr} {ac bc cc qc : Nat} (h : R4In w a b c q ao bo co qo ac bc cc qc) (hb : Below w.heap.size w w') : R4In w' a b c q ao bo co qo ac bc cc qc := ⟨h.a.keep hb, h.b.keep hb, h.c.keep hb, h.q.keep hb⟩

set_option maxHeartbeats 4000000 in
set_option maxRecDepth 100000 in
theorem chains25_any {M J : List By -> List By -> List By} (P : Pch M J) (w : World) (hg : HG w) (a b c q : List By) (ao bo co qo : Option Addr) (ac bc cc qc : Nat) (hr : R4In w a b c q ao bo co qo ac bc cc qc) :
    Calls Tryd.prog 8 #[.agg #[.slice ao a.length ac, .slice bo b.length bc, .slice co c.length cc, .slice qo q.length qc]] w fun e w' => e = .returned (.bool true) /\ Below w.heap.size w w' := by
  obtain ⟨w1, hw1⟩ : ∃ w1, w1 = w.alloc (.cells #[.slice ao a.length ac, .slice bo b.length bc, .slice co c.length cc, .slice qo q.length qc] 51) := ⟨_, rfl⟩
  have r1 : Row w1 w.heap.size 51 [.slice ao a.length ac, .slice bo b.length bc, .slice co c.length cc, .slice qo q.length qc] := by rw [hw1]; exact Row.at w _ _ _ _ rfl rfl
  have b1 : Below w.heap.size w w1 := by rw [hw1]; exact (Below.refl _ _).alloc (Nat.le_refl _) _
  have B1 : Hid (∀ n, Below w.heap.size w (w1.drewN n)) := fun n => Below_dr b1 ⟨n, rfl⟩
  have c0 := r1.cell 0 _ rfl
  have c1 := r1.cell 1 _ rfl
  have c2 := r1.cell 2 _ rfl
  have c3 := r1.cell 3 _ rfl
  have HGB : Hid (∀ W, Below w.heap.size w W -> HG W) := fun W h => hg.below h hg.lt
  have KR : Hid (∀ W, Below w.heap.size w W -> R4In W a b c q ao bo co qo ac bc cc qc) := fun W h => hr.keep h
  have FX : Hid (∀ W, Below w.heap.size w W -> Calls Tryd.prog 9 #[] W fun e w' => e = .returned (.bool true) /\ Below W.heap.size W w') := fun W h => fixed25_any P W (HGB.out W h)
  have HP : Hid (Pch M J) := P
  clear r1 b1 hg hr P
  go_enter Tryd.func8, Tryd.ntmps8
  go_wp2_with (first | (rw [<- hw1]; clear hw1))
  go_quiet (fail)
  generalize hw2 : w1.drewN _ = w2
  have B2 : Hid (Below w.heap.size w w2) := by rw [<- hw2]; exact B1.out _
  clear hw2 B1 c0 c1 c2 c3
  go_wp2_with fail
  refine (HP.out.mk' (HGB.out _ B2.out) (KR.out _ B2.out).a (KR.out _ B2.out).b).mono ?_
  rintro e w3 ⟨hb3, pv, hpv, rfl⟩
  have B3 : Hid (Below w.heap.size w w3) := B2.out.trans (hb3.mono B2.out.size)
  have HPV : Hid (BV w3 pv (if a.length <= 524288 /\ b.length <= 524288 then M a b else [])) := hpv
  obtain ⟨e1, he1⟩ : ∃ e1 : Int, e1 = if a.length <= 524288 /\ b.length <= 524288 then 0 else 4 := ⟨_, rfl⟩
  rw [<- he1]
  have HE1 : Hid (e1 = if a.length <= 524288 /\ b.length <= 524288 then 0 else 4) := he1
  clear hb3 hpv B2 he1
  dsimp only
  go_wp2_with fail
  refine (HP.out.mk' (HGB.out _ B3.out) (KR.out _ B3.out).b (KR.out _ B3.out).c).mono ?_
  rintro e w4 ⟨hb4, rv, hrv, rfl⟩
  have B4 : Hid (Below w.heap.size w w4) := B3.out.trans (hb4.mono B3.out.size)
  have HPV4 : Hid (BV w4 pv (if a.length <= 524288 /\ b.length <= 524288 then M a b else [])) := HPV.out.keep hb4
  have HRV4 : Hid (BV w4 rv (if b.length <= 524288 /\ c.length <= 524288 then M b c else [])) := hrv
  obtain ⟨e2, he2⟩ : ∃ e2 : Int, e2 = if b.length <= 524288 /\ c.length <= 524288 then 0 else 4 := ⟨_, rfl⟩
  rw [<- he2]
  have he1 := HE1.out
  clear hb4 hrv B3 HPV HE1
  dsimp only
  by_cases la : a.length <= 524288
  · by_cases lb : b.length <= 524288
    · by_cases lc : c.length <= 524288
      · rw [if_pos ⟨la, lb⟩] at he1
        rw [if_pos ⟨lb, lc⟩] at he2
        subst he1 he2
        have hp4 := HPV4.out
        have hr4 := HRV4.out
        rw [if_pos ⟨la, lb⟩] at hp4
        rw [if_pos ⟨lb, lc⟩] at hr4
        obtain ⟨po, pc, rfl, hpi⟩ := hp4.rowIn (HP.out.mlen la lb)
        obtain ⟨ro, rc, rfl, hri⟩ := hr4.rowIn (HP.out.mlen lb lc)
        obtain ⟨⟨x, y, hj⟩, hja, hjl⟩ := joins_made HP.out la lb lc
        have HJT : Hid (jT J (M a b) (M b c) = (J (M a b) (M b c), 0, 0)) := by show _ = _; unfold jT; rw [hj]
        have HAT : Hid (aT a (J (M a b) (M b c)) = (c, 0, 0)) := by show _ = _; unfold aT; rw [hja]
        have JT2 : Hid (∀ x y, joinsR (M a b) q = .ok (x, y) -> applyR a (J (M a b) q) = applyR b q /\ (J (M a b) q).length <= 140737488351232) := fun x y h => joins_then HP.out la lb h
        have JT3 : Hid (∀ m, applyR b q = .ok m -> ∃ x y, joinsR (M a b) q = .ok (x, y)) := fun m h => applies_joins HP.out la lb h
        obtain ⟨pp, hpp⟩ : ∃ pp, pp = M a b := ⟨_, rfl⟩
        obtain ⟨rr, hrr⟩ : ∃ rr, rr = M b c := ⟨_, rfl⟩
        rw [<- hpp] at hpi HJT HAT JT2 JT3 hjl ⊢
        rw [<- hrr] at hri HJT HAT hjl ⊢
        obtain ⟨jm, hjm⟩ : ∃ jm, jm = J pp rr := ⟨_, rfl⟩
        rw [<- hjm] at HJT HAT hjl
        have KP : Hid (∀ W, Below w4.heap.size w4 W -> RowIn W po pc pp) := fun W h => hpi.keep h
        have HRI : Hid (RowIn w4 ro rc rr) := hri
        clear hp4 hr4 hj hja hpp hrr hjm HPV4 HRV4 hpi hri la lb lc
        go_wp2_with fail
        refine (HP.out.jo (HGB.out _ B4.out) (KP.out _ (Below.refl _ _)) HRI.out).mono ?_
        intro e w5 he
        obtain ⟨hb5, jv, ev, rfl, hjv, her⟩ := cjo_uni he
        rw [HJT.out] at hjv her
        dsimp only at hjv her
        obtain ⟨_, _, rfl⟩ : (0 : Nat) = 0 /\ (0 : Nat) = 0 /\ ev = .nilIface := by
          rcases her with h | ⟨h, _⟩
          · exact h
          · exact absurd rfl h
        obtain ⟨jo, jc, rfl, hji⟩ := hjv.rowIn hjl
        have B5 : Hid (Below w.heap.size w w5) := B4.out.trans (hb5.mono B4.out.size)
        have KP5 : Hid (∀ W, Below w5.heap.size w5 W -> RowIn W po pc pp) := fun W h => KP.out W (hb5.trans (h.mono hb5.size))
        have HJI : Hid (RowIn w5 jo jc jm) := hji
        clear he hb5 hjv her hji B4 KP HRI HJT
        dsimp only
        go_wp2_with fail
        refine (HP.out.ap (HGB.out _ B5.out) (KR.out _ B5.out).a HJI.out).mono ?_
        intro e w6 he
        obtain ⟨hb6, gv, ev, rfl, hgv, her⟩ := cap_uni he
        rw [HAT.out] at hgv her
        dsimp only at hgv her
        obtain ⟨_, _, rfl⟩ : (0 : Nat) = 0 /\ (0 : Nat) = 0 /\ ev = .nilIface := by
          rcases her with h | ⟨h, _⟩
          · exact h
          · exact absurd rfl h
        obtain ⟨go, gc, rfl, hgi, _, _⟩ := hgv.eq
        have B6 : Hid (Below w.heap.size w w6) := B5.out.trans (hb6.mono B5.out.size)
        have KP6 : Hid (∀ W, Below w6.heap.size w6 W -> RowIn W po pc pp) := fun W h => KP5.out W (hb6.trans (h.mono hb6.size))
        have cv1 := conv_bytes w6 go c.length gc c rfl hgi
        have cv2 := conv_bytes w6 co c.length cc c rfl (KR.out _ B6.out).c.isb
        generalize strOf c = Sc at *
        clear he hb6 hgv her hgi B5 KP5 HJI HAT
        dsimp only
        go_wp2_with fail
        refine (HP.out.ap (HGB.out _ B6.out) (KR.out _ B6.out).b (KR.out _ B6.out).q).mono ?_
        intro e w7 he
        obtain ⟨hb7, ov, hev, rfl, hov, hoe⟩ := cap_uni he
        obtain ⟨T, hT⟩ : ∃ T, T = aT b q := ⟨_, rfl⟩
        rw [<- hT] at hov hoe
        obtain ⟨mm, k1, a1⟩ := T
        dsimp only at hov hoe
        obtain ⟨oo, oc, rfl, hoi, _, _⟩ := hov.eq
        have B7 : Hid (Below w.heap.size w w7) := B6.out.trans (hb7.mono B6.out.size)
        have KP7 : Hid (∀ W, Below w7.heap.size w7 W -> RowIn W po pc pp) := fun W h => KP6.out W (hb7.trans (h.mono hb7.size))
        have HOI : Hid (∀ W, Below w7.heap.size w7 W -> IsB W oo mm) := fun W h => hoi.below h (Nat.le_refl _)
        have HOE : Hid (ErO w7 k1 a1 hev) := hoe
        have HT : Hid ((mm, k1, a1) = aT b q) := hT
        clear he hb7 hov hoe hoi hT B6 KP6 cv1 cv2
        dsimp only
        go_wp2_with fail
        refine (HP.out.jo (HGB.out _ B7.out) (KP7.out _ (Below.refl _ _)) (KR.out _ B7.out).q).mono ?_
        intro e w8 he
        obtain ⟨hb8, kv, gev, rfl, hkv, hge⟩ := cjo_uni he
        have B8 : Hid (Below w.heap.size w w8) := B7.out.trans (hb8.mono B7.out.size)
        have HOI8 : Hid (∀ W, Below w8.heap.size w8 W -> IsB W oo mm) := fun W h => HOI.out W (hb8.trans (h.mono hb8.size))
        have hht := HT.out
        cases hjr : joinsR pp q with
        | error ka =>
          have hjt : jT J pp q = ([], ka.1, ka.2) := by unfold jT; rw [hjr]
          rw [hjt] at hkv hge
          dsimp only at hkv hge
          have hka := joinsR_wrong (k := ka.1) (a := ka.2) hjr
          obtain ⟨gg, rfl, _⟩ : ErrV w8 ka.1 ka.2 gev := by
            rcases hge with h | ⟨_, h⟩
            · exact absurd h.1 hka
            · exact h
          have hk1 : k1 ≠ 0 := by
            intro h0
            unfold aT at hht
            cases hap : applyR b q with
            | error kb =>
              rw [hap] at hht
              have h1 := applyR_wrong (k := kb.1) (a := kb.2) hap
              injection hht with _ hht
              injection hht with h2 _
              exact h1 (by rw [<- h2, h0])
            | ok m =>
              obtain ⟨x, y, h⟩ := JT3.out m hap
              rw [h] at hjr
              cases hjr
          obtain ⟨ge, rfl, _⟩ : ErrV w7 k1 a1 hev := by
            rcases HOE.out with h | ⟨_, h⟩
            · exact absurd h.1 hk1
            · exact h
          obtain ⟨ko, kc, rfl, _, _, _⟩ := hkv.eq
          clear he hb8 hkv hge hjt hka hjr hht B7 KP7 HOI HOI8 HOE HT JT2 JT3 hk1
          dsimp only
          go_wp2_with (have hz := B8; clear hz; go_at_call 9; refine (FX.out _ B8.out).mono ?_; rintro e wC ⟨rfl, hbC⟩; have BC : Hid (Below w.heap.size w wC) := B8.out.trans (hbC.mono B8.out.size); clear hbC B8)
          go_ret
          exact ⟨rfl, BC.out⟩
        | ok xy =>
          obtain ⟨x2, y2⟩ := xy
          obtain ⟨hsame, hkl⟩ := JT2.out x2 y2 hjr
          have hjt : jT J pp q = (J pp q, 0, 0) := by unfold jT; rw [hjr]
          rw [hjt] at hkv hge
          dsimp only at hkv hge
          obtain rfl : gev = .nilIface := by
            rcases hge with h | ⟨h, _⟩
            · exact h.2.2
            · exact absurd rfl h
          obtain ⟨ko, kc, rfl, hki⟩ := hkv.rowIn hkl
          have HTA : Hid (aT a (J pp q) = (mm, k1, a1)) := by
            show _ = _
            rw [hht]
            unfold aT
            rw [hsame]
          obtain ⟨kj, hkj⟩ : ∃ kj, kj = J pp q := ⟨_, rfl⟩
          rw [<- hkj] at HTA hki ⊢
          have HKI : Hid (RowIn w8 ko kc kj) := hki
          have hoe := HOE.out
          clear he hb8 hkv hge hjt hjr hht hsame hkl hki hkj B7 KP7 HOI HOE HT JT2 JT3
          dsimp only
          rcases hoe with ⟨rfl, rfl, rfl⟩ | ⟨hk1, ge, rfl, _⟩
          · have ge : Nat := 0
            have gf : Nat := 0
            go_wp2_with fail
            refine (HP.out.ap (HGB.out _ B8.out) (KR.out _ B8.out).a HKI.out).mono ?_
            intro e w9 he
            obtain ⟨hb9, tv, fev, rfl, htv, hfe⟩ := cap_uni he
            rw [HTA.out] at htv hfe
            dsimp only at htv hfe
            obtain ⟨tt, tc, rfl, hti, _, _⟩ := htv.eq
            have B9 : Hid (Below w.heap.size w w9) := B8.out.trans (hb9.mono B8.out.size)
            have CVS : Hid (∀ W, Below w9.heap.size w9 W -> (convert 23 9 (.slice oo mm.length oc)).run Tryd.prog W = .ok (.string (strOf mm)) W /\ (convert 23 9 (.slice tt mm.length tc)).run Tryd.prog W = .ok (.string (strOf mm)) W) := fun W h => ⟨conv_bytes W oo mm.length oc mm rfl (HOI8.out W (hb9.trans (h.mono hb9.size))), conv_bytes W tt mm.length tc mm rfl (hti.below h (Nat.le_refl _))⟩
            have FX9 : Hid (∀ W, Below w9.heap.size w9 W -> _) := fun W h => FX.out W (B9.out.trans (h.mono B9.out.size))
            obtain rfl : fev = .nilIface := by
              rcases hfe with h | ⟨h, _⟩
              · exact h.2.2
              · exact absurd rfl h
            clear he hb9 htv hfe hti B8 HKI HOI8 HTA
            obtain ⟨S1, hS1⟩ : ∃ S1, S1 = strOf mm := ⟨_, rfl⟩
            rw [<- hS1] at CVS
            clear hS1
            dsimp only
            go_wp2_with fail
            refine wp_region_inv (ICH19N w9 ge gf oo tt mm.length oc mm.length tc S1 _ _ _ _ _ _ _ _ _ _ _ _ _ _ _ _ _ _ _ _ _ _ _ _ _ _ _ _ _ _ _ _ _ _ _ _ _ _ _ _ _ _ _ _ _ _ _ _ _ _ _ _ _ _ _ _ _ _ _ _ _ _ _ _ _ _ _ _ _ _ _ _ _ _ _ _ _ _ _ _ _ _ _ _ _ _ _ _ _ _ _ _ _ _ _ _ _ _ _ _ _ _ _ _ _ _ _ _ _ _) (by kernel_rfl) (by kernel_rfl) ⟨_, _, _, _, _, _, _, _, _, _, _, _, _, _, _, _, rfl, ⟨(Below.refl _ _).drew, fun k => (by cases k), fun k => (by cases k), fun k => (by cases k), fun k => (by cases k), fun k => (by cases k), fun k => (by cases k), fun k => (by cases k), fun k => (by cases k), fun k => (by cases k), fun k => (by cases k), fun k => (by cases k), fun k => (by cases k), fun k => (by cases k), fun k => (by cases k), fun k => (by cases k), fun k => (by cases k)⟩⟩ ?_ ?_
            · refine .cons ?_ (.cons ?_ (.cons ?_ (.cons ?_ (.cons ?_ (.cons ?_ (.cons ?_ (.cons ?_ (.cons ?_ (.cons ?_ (.cons ?_ (.cons ?_ (.cons ?_ (.cons ?_ (.cons ?_ (.cons ?_ .nil)))))))))))))))
              all_goals (refine CH19N.step ?_; intro x111 x112 x113 x114 x115 x116 x117 x118 x119 x120 x121 x122 x123 x124 x125 x2 L W hI hL hd K hK)
              · rw [if_pos (by rfl)]
                go_simp
                exact hK.out _ _ ⟨_, _, _, _, _, _, _, _, _, _, _, _, _, _, _, _, rfl, { hI with p0 := fun _ => rfl }⟩
              · obtain rfl := hI.p0 (hd 0 (by decide))
                rw [if_pos (by rfl)]
                go_simp
                exact hK.out _ _ ⟨_, _, _, _, _, _, _, _, _, _, _, _, _, _, _, _, rfl, { hI with p1 := fun _ => rfl }⟩
              · rw [if_pos (by rfl)]
                go_simp
                exact hK.out _ _ ⟨_, _, _, _, _, _, _, _, _, _, _, _, _, _, _, _, rfl, { hI with p2 := fun _ => rfl }⟩
              · obtain rfl := hI.p2 (hd 2 (by decide))
                rw [if_pos (by rfl)]
                go_simp
                exact hK.out _ _ ⟨_, _, _, _, _, _, _, _, _, _, _, _, _, _, _, _, rfl, { hI with p3 := fun _ => rfl }⟩
              · obtain rfl := hI.p1 (hd 1 (by decide))
                obtain rfl := hI.p3 (hd 3 (by decide))
                rw [if_pos (by rfl)]
                go_simp
                exact hK.out _ _ ⟨_, _, _, _, _, _, _, _, _, _, _, _, _, _, _, _, rfl, { hI with p4 := fun _ => rfl }⟩
              · obtain rfl := hI.p4 (hd 4 (by decide))
                rw [if_pos (by rfl)]
                go_simp
                exact hK.out _ _ ⟨_, _, _, _, _, _, _, _, _, _, _, _, _, _, _, _, rfl, { hI with p5 := fun _ => rfl }⟩
              · obtain rfl := hI.p5 (hd 5 (by decide))
                rw [if_pos (by rfl)]
                go_simp
                exact hK.out _ _ ⟨_, _, _, _, _, _, _, _, _, _, _, _, _, _, _, _, rfl, { hI with p6 := fun _ => rfl }⟩
              · obtain rfl := hI.p6 (hd 6 (by decide))
                obtain rfl := hI.p5 (hd 5 (by decide))
                rw [if_pos (by rfl)]
                have hc := (CVS.out _ hI.x).1
                go_simp
                exact hK.out _ _ ⟨_, _, _, _, _, _, _, _, _, _, _, _, _, _, _, _, rfl, { hI with p7 := fun _ => rfl }⟩
              · obtain rfl := hI.p5 (hd 5 (by decide))
                rw [if_pos (by rfl)]
                go_simp
                exact hK.out _ _ ⟨_, _, _, _, _, _, _, _, _, _, _, _, _, _, _, _, rfl, { hI with p8 := fun _ => rfl }⟩
              · obtain rfl := hI.p8 (hd 8 (by decide))
                obtain rfl := hI.p5 (hd 5 (by decide))
                rw [if_pos (by rfl)]
                have hc := (CVS.out _ hI.x).2
                go_simp
                exact hK.out _ _ ⟨_, _, _, _, _, _, _, _, _, _, _, _, _, _, _, _, rfl, { hI with p9 := fun _ => rfl }⟩
              · obtain rfl := hI.p7 (hd 7 (by decide))
                obtain rfl := hI.p9 (hd 9 (by decide))
                obtain rfl := hI.p5 (hd 5 (by decide))
                rw [if_pos (by rfl)]
                go_simp
                exact hK.out _ _ ⟨_, _, _, _, _, _, _, _, _, _, _, _, _, _, _, _, rfl, { hI with p10 := fun _ => rfl }⟩
              · obtain rfl := hI.p5 (hd 5 (by decide))
                obtain rfl := hI.p10 (hd 10 (by decide))
                rw [if_pos (by rfl)]
                go_simp
                exact hK.out _ _ ⟨_, _, _, _, _, _, _, _, _, _, _, _, _, _, _, _, rfl, { hI with p11 := fun _ => rfl }⟩
              · obtain rfl := hI.p11 (hd 11 (by decide))
                rw [if_pos (by rfl)]
                go_simp
                exact hK.out _ _ ⟨_, _, _, _, _, _, _, _, _, _, _, _, _, _, _, _, rfl, { hI with p12 := fun _ => rfl }⟩
              · obtain rfl := hI.p12 (hd 12 (by decide))
                rw [if_pos (by rfl)]
                go_simp
                refine (FX9.out _ hI.x).mono ?_
                rintro e W2 ⟨rfl, b2⟩
                go_simp
                have hX := hI.x.trans (b2.mono hI.x.size)
                exact hK.out _ _ ⟨_, _, _, _, _, _, _, _, _, _, _, _, _, _, _, _, rfl, { hI with x := hX, p13 := fun _ => rfl }⟩
              · obtain rfl := hI.p12 (hd 12 (by decide))
                obtain rfl := hI.p13 (hd 13 (by decide))
                rw [if_pos (by rfl)]
                go_simp
                exact hK.out _ _ ⟨_, _, _, _, _, _, _, _, _, _, _, _, _, _, _, _, rfl, { hI with p14 := fun _ => rfl }⟩
              · obtain rfl := hI.p14 (hd 14 (by decide))
                rw [if_pos (by rfl)]
                go_simp
                exact hK.out _ _ ⟨_, _, _, _, _, _, _, _, _, _, _, _, _, _, _, _, rfl, { hI with p15 := fun _ => rfl }⟩
            · rintro L _ W hall ⟨x111, x112, x113, x114, x115, x116, x117, x118, x119, x120, x121, x122, x123, x124, x125, x2, rfl, hI⟩
              obtain rfl := hI.p0 (hall 0 (by decide))
              obtain rfl := hI.p1 (hall 1 (by decide))
              obtain rfl := hI.p2 (hall 2 (by decide))
              obtain rfl := hI.p3 (hall 3 (by decide))
              obtain rfl := hI.p4 (hall 4 (by decide))
              obtain rfl := hI.p5 (hall 5 (by decide))
              obtain rfl := hI.p6 (hall 6 (by decide))
              obtain rfl := hI.p7 (hall 7 (by decide))
              obtain rfl := hI.p8 (hall 8 (by decide))
              obtain rfl := hI.p9 (hall 9 (by decide))
              obtain rfl := hI.p10 (hall 10 (by decide))
              obtain rfl := hI.p11 (hall 11 (by decide))
              obtain rfl := hI.p12 (hall 12 (by decide))
              obtain rfl := hI.p13 (hall 13 (by decide))
              obtain rfl := hI.p14 (hall 14 (by decide))
              obtain rfl := hI.p15 (hall 15 (by decide))
              have hXe := hI.x
              clear hI hall
              try dsimp only
              go_wp2
              go_ret
              exact ⟨rfl, B9.out.trans (hXe.mono B9.out.size)⟩
          · go_wp2_with fail
            refine (HP.out.ap (HGB.out _ B8.out) (KR.out _ B8.out).a HKI.out).mono ?_
            intro e w9 he
            obtain ⟨hb9, tv, fev, rfl, htv, hfe⟩ := cap_uni he
            rw [HTA.out] at htv hfe
            dsimp only at htv hfe
            obtain ⟨tt, tc, rfl, hti, _, _⟩ := htv.eq
            have B9 : Hid (Below w.heap.size w w9) := B8.out.trans (hb9.mono B8.out.size)
            have CVS : Hid (∀ W, Below w9.heap.size w9 W -> (convert 23 9 (.slice oo mm.length oc)).run Tryd.prog W = .ok (.string (strOf mm)) W /\ (convert 23 9 (.slice tt mm.length tc)).run Tryd.prog W = .ok (.string (strOf mm)) W) := fun W h => ⟨conv_bytes W oo mm.length oc mm rfl (HOI8.out W (hb9.trans (h.mono hb9.size))), conv_bytes W tt mm.length tc mm rfl (hti.below h (Nat.le_refl _))⟩
            have FX9 : Hid (∀ W, Below w9.heap.size w9 W -> _) := fun W h => FX.out W (B9.out.trans (h.mono B9.out.size))
            obtain ⟨gf, rfl, _⟩ : ErrV w9 k1 a1 fev := by
              rcases hfe with h | ⟨_, h⟩
              · exact absurd h.1 hk1
              · exact h
            clear he hb9 htv hfe hti B8 HKI HOI8 HTA
            obtain ⟨S1, hS1⟩ : ∃ S1, S1 = strOf mm := ⟨_, rfl⟩
            rw [<- hS1] at CVS
            clear hS1
            dsimp only
            go_wp2_with fail
            refine wp_region_inv (ICH19E w9 ge gf oo tt mm.length oc mm.length tc S1 _ _ _ _ _ _ _ _ _ _ _ _ _ _ _ _ _ _ _ _ _ _ _ _ _ _ _ _ _ _ _ _ _ _ _ _ _ _ _ _ _ _ _ _ _ _ _ _ _ _ _ _ _ _ _ _ _ _ _ _ _ _ _ _ _ _ _ _ _ _ _ _ _ _ _ _ _ _ _ _ _ _ _ _ _ _ _ _ _ _ _ _ _ _ _ _ _ _ _ _ _ _ _ _ _ _ _ _ _ _) (by kernel_rfl) (by kernel_rfl) ⟨_, _, _, _, _, _, _, _, _, _, _, _, _, _, _, _, rfl, ⟨(Below.refl _ _).drew, fun k => (by cases k), fun k => (by cases k), fun k => (by cases k), fun k => (by cases k), fun k => (by cases k), fun k => (by cases k), fun k => (by cases k), fun k => (by cases k), fun k => (by cases k), fun k => (by cases k), fun k => (by cases k), fun k => (by cases k), fun k => (by cases k), fun k => (by cases k), fun k => (by cases k), fun k => (by cases k)⟩⟩ ?_ ?_
            · refine .cons ?_ (.cons ?_ (.cons ?_ (.cons ?_ (.cons ?_ (.cons ?_ (.cons ?_ (.cons ?_ (.cons ?_ (.cons ?_ (.cons ?_ (.cons ?_ (.cons ?_ (.cons ?_ (.cons ?_ (.cons ?_ .nil)))))))))))))))
              all_goals (refine CH19E.step ?_; intro x111 x112 x113 x114 x115 x116 x117 x118 x119 x120 x121 x122 x123 x124 x125 x2 L W hI hL hd K hK)
              · rw [if_pos (by rfl)]
                go_simp
                exact hK.out _ _ ⟨_, _, _, _, _, _, _, _, _, _, _, _, _, _, _, _, rfl, { hI with p0 := fun _ => rfl }⟩
              · obtain rfl := hI.p0 (hd 0 (by decide))
                rw [if_pos (by rfl)]
                go_simp
                exact hK.out _ _ ⟨_, _, _, _, _, _, _, _, _, _, _, _, _, _, _, _, rfl, { hI with p1 := fun _ => rfl }⟩
              · rw [if_pos (by rfl)]
                go_simp
                exact hK.out _ _ ⟨_, _, _, _, _, _, _, _, _, _, _, _, _, _, _, _, rfl, { hI with p2 := fun _ => rfl }⟩
              · obtain rfl := hI.p2 (hd 2 (by decide))
                rw [if_pos (by rfl)]
                go_simp
                exact hK.out _ _ ⟨_, _, _, _, _, _, _, _, _, _, _, _, _, _, _, _, rfl, { hI with p3 := fun _ => rfl }⟩
              · obtain rfl := hI.p1 (hd 1 (by decide))
                obtain rfl := hI.p3 (hd 3 (by decide))
                rw [if_pos (by rfl)]
                go_simp
                exact hK.out _ _ ⟨_, _, _, _, _, _, _, _, _, _, _, _, _, _, _, _, rfl, { hI with p4 := fun _ => rfl }⟩
              · obtain rfl := hI.p4 (hd 4 (by decide))
                rw [if_pos (by rfl)]
                go_simp
                exact hK.out _ _ ⟨_, _, _, _, _, _, _, _, _, _, _, _, _, _, _, _, rfl, { hI with p5 := fun _ => rfl }⟩
              · obtain rfl := hI.p5 (hd 5 (by decide))
                rw [if_pos (by rfl)]
                go_simp
                exact hK.out _ _ ⟨_, _, _, _, _, _, _, _, _, _, _, _, _, _, _, _, rfl, { hI with p6 := fun _ => rfl }⟩
              · obtain rfl := hI.p6 (hd 6 (by decide))
                obtain rfl := hI.p5 (hd 5 (by decide))
                rw [if_pos (by rfl)]
                have hc := (CVS.out _ hI.x).1
                go_simp
                exact hK.out _ _ ⟨_, _, _, _, _, _, _, _, _, _, _, _, _, _, _, _, rfl, { hI with p7 := fun _ => rfl }⟩
              · obtain rfl := hI.p5 (hd 5 (by decide))
                rw [if_pos (by rfl)]
                go_simp
                exact hK.out _ _ ⟨_, _, _, _, _, _, _, _, _, _, _, _, _, _, _, _, rfl, { hI with p8 := fun _ => rfl }⟩
              · obtain rfl := hI.p8 (hd 8 (by decide))
                obtain rfl := hI.p5 (hd 5 (by decide))
                rw [if_pos (by rfl)]
                have hc := (CVS.out _ hI.x).2
                go_simp
                exact hK.out _ _ ⟨_, _, _, _, _, _, _, _, _, _, _, _, _, _, _, _, rfl, { hI with p9 := fun _ => rfl }⟩
              · obtain rfl := hI.p7 (hd 7 (by decide))
                obtain rfl := hI.p9 (hd 9 (by decide))
                obtain rfl := hI.p5 (hd 5 (by decide))
                rw [if_pos (by rfl)]
                go_simp
                exact hK.out _ _ ⟨_, _, _, _, _, _, _, _, _, _, _, _, _, _, _, _, rfl, { hI with p10 := fun _ => rfl }⟩
              · obtain rfl := hI.p5 (hd 5 (by decide))
                obtain rfl := hI.p10 (hd 10 (by decide))
                rw [if_pos (by rfl)]
                go_simp
                exact hK.out _ _ ⟨_, _, _, _, _, _, _, _, _, _, _, _, _, _, _, _, rfl, { hI with p11 := fun _ => rfl }⟩
              · obtain rfl := hI.p11 (hd 11 (by decide))
                rw [if_pos (by rfl)]
                go_simp
                exact hK.out _ _ ⟨_, _, _, _, _, _, _, _, _, _, _, _, _, _, _, _, rfl, { hI with p12 := fun _ => rfl }⟩
              · obtain rfl := hI.p12 (hd 12 (by decide))
                rw [if_pos (by rfl)]
                go_simp
                refine (FX9.out _ hI.x).mono ?_
                rintro e W2 ⟨rfl, b2⟩
                go_simp
                have hX := hI.x.trans (b2.mono hI.x.size)
                exact hK.out _ _ ⟨_, _, _, _, _, _, _, _, _, _, _, _, _, _, _, _, rfl, { hI with x := hX, p13 := fun _ => rfl }⟩
              · obtain rfl := hI.p12 (hd 12 (by decide))
                obtain rfl := hI.p13 (hd 13 (by decide))
                rw [if_pos (by rfl)]
                go_simp
                exact hK.out _ _ ⟨_, _, _, _, _, _, _, _, _, _, _, _, _, _, _, _, rfl, { hI with p14 := fun _ => rfl }⟩
              · obtain rfl := hI.p14 (hd 14 (by decide))
                rw [if_pos (by rfl)]
                go_simp
                exact hK.out _ _ ⟨_, _, _, _, _, _, _, _, _, _, _, _, _, _, _, _, rfl, { hI with p15 := fun _ => rfl }⟩
            · rintro L _ W hall ⟨x111, x112, x113, x114, x115, x116, x117, x118, x119, x120, x121, x122, x123, x124, x125, x2, rfl, hI⟩
              obtain rfl := hI.p0 (hall 0 (by decide))
              obtain rfl := hI.p1 (hall 1 (by decide))
              obtain rfl := hI.p2 (hall 2 (by decide))
              obtain rfl := hI.p3 (hall 3 (by decide))
              obtain rfl := hI.p4 (hall 4 (by decide))
              obtain rfl := hI.p5 (hall 5 (by decide))
              obtain rfl := hI.p6 (hall 6 (by decide))
              obtain rfl := hI.p7 (hall 7 (by decide))
              obtain rfl := hI.p8 (hall 8 (by decide))
              obtain rfl := hI.p9 (hall 9 (by decide))
              obtain rfl := hI.p10 (hall 10 (by decide))
              obtain rfl := hI.p11 (hall 11 (by decide))
              obtain rfl := hI.p12 (hall 12 (by decide))
              obtain rfl := hI.p13 (hall 13 (by decide))
              obtain rfl := hI.p14 (hall 14 (by decide))
              obtain rfl := hI.p15 (hall 15 (by decide))
              have hXe := hI.x
              clear hI hall
              try dsimp only
              go_wp2
              go_ret
              exact ⟨rfl, B9.out.trans (hXe.mono B9.out.size)⟩
      · rw [if_pos ⟨la, lb⟩] at he1
        rw [if_neg (fun h => lc h.2)] at he2
        subst he1 he2
        have y1 : decide (524288 < a.length) = false := by rw [decide_eq_false_iff_not]; omega
        have y2 : decide (524288 < b.length) = false := by rw [decide_eq_false_iff_not]; omega
        have y3 : decide (524288 < c.length) = true := by rw [decide_eq_true_iff]; omega
        have z1 : ¬ (524288 : Int) < (a.length : Int) := by omega
        have z2 : ¬ (524288 : Int) < (b.length : Int) := by omega
        have z3 : (524288 : Int) < (c.length : Int) := by omega
        clear HPV4 HRV4 la lb lc
        go_wp2_with (have hz := B4; clear hz; go_at_call 9; refine (FX.out _ B4.out).mono ?_; rintro e wC ⟨rfl, hbC⟩; have BC : Hid (Below w.heap.size w wC) := B4.out.trans (hbC.mono B4.out.size); clear hbC B4)
        go_ret
        exact ⟨rfl, BC.out⟩
    · rw [if_neg (fun h => lb h.2)] at he1
      rw [if_neg (fun h => lb h.1)] at he2
      subst he1 he2
      have y1 : decide (524288 < a.length) = false := by rw [decide_eq_false_iff_not]; omega
      have y2 : decide (524288 < b.length) = true := by rw [decide_eq_true_iff]; omega
      have z1 : ¬ (524288 : Int) < (a.length : Int) := by omega
      have z2 : (524288 : Int) < (b.length : Int) := by omega
      clear HPV4 HRV4 la lb
      go_wp2_with (have hz := B4; clear hz; go_at_call 9; refine (FX.out _ B4.out).mono ?_; rintro e wC ⟨rfl, hbC⟩; have BC : Hid (Below w.heap.size w wC) := B4.out.trans (hbC.mono B4.out.size); clear hbC B4)
      go_ret
      exact ⟨rfl, BC.out⟩
  · rw [if_neg (fun h => la h.1)] at he1
    subst he1
    have y1 : decide (524288 < a.length) = true := by rw [decide_eq_true_iff]; omega
    have z1 : (524288 : Int) < (a.length : Int) := by omega
    clear HPV4 HRV4 la he2
    go_wp2_with (have hz := B4; clear hz; go_at_call 9; refine (FX.out _ B4.out).mono ?_; rintro e wC ⟨rfl, hbC⟩; have BC : Hid (Below w.heap.size w wC) := B4.out.trans (hbC.mono B4.out.size); clear hbC B4)
    go_ret
    exact ⟨rfl, BC.out⟩
end Go.Proofs.YtplpoehfdhkhmaaDoor
