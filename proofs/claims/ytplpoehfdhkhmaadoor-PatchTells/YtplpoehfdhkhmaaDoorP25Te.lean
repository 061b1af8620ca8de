
import Derived.Test.YtplpoehfdhkhmaaDoorP25Ch
import Derived.Test.YtplpoehfdhkhmaaDoorP25Pc
import Derived.Test.YtplpoehfdhkhmaaDoorP25Pa
/-! The law of layer 25: PatchTells. (Printed by tools/genlw25.py.) -/
namespace Go.Proofs.YtplpoehfdhkhmaaDoor
open Go.RowKit
set_option linter.unusedVariables false

theorem fold_push25 : ∀ (l : List Int) (acc : ByteArray), (l.foldl (fun r n => r.push (UInt8.ofNat n.toNat)) acc).data = acc.data ++ (l.map fun n => UInt8.ofNat n.toNat).toArray
  | [], acc => by simp
  | n :: l, acc => by
    rw [List.foldl_cons, fold_push25 l]
    simp [ByteArray.push]
theorem strOf_data25 (bs : List By) : (strOf bs).data.toList = bs.map fun b => UInt8.ofNat b.toNat := by
  unfold strOf
  rw [fold_push25]
  simp
theorem strOf_inj25 {a b : List By} (h : strOf a = strOf b) : a = b := by
  have h1 : (strOf a).data.toList = (strOf b).data.toList := by rw [h]
  rw [strOf_data25, strOf_data25] at h1
  have key : ∀ (a b : List By), (a.map fun x => UInt8.ofNat x.toNat) = (b.map fun x => UInt8.ofNat x.toNat) -> a = b := by
    intro a
    induction a with
    | nil => intro b h; cases b with | nil => rfl | cons y b => cases h
    | cons x a ih =>
      intro b h
      cases b with
      | nil => cases h
      | cons y b =>
        rw [List.map_cons, List.map_cons] at h
        injection h with h1 h2
        have h3 : x.toNat = y.toNat := by
          have := congrArg UInt8.toNat h1
          have hx := x.isLt
          have hy := y.isLt
          simpa [UInt8.toNat_ofNat, Nat.mod_eq_of_lt hx, Nat.mod_eq_of_lt hy] using this
        rw [BitVec.eq_of_toNat_eq h3, ih b h2]
  exact key a b h1
theorem strOf_ne25 {a b : List By} (h : a ≠ b) : ((strOf a).toList == (strOf b).toList) = false := by
  rw [beq_eq_false_iff_ne]
  intro e
  rw [ByteArray.toList_eq, ByteArray.toList_eq] at e
  exact h (strOf_inj25 (ByteArray.ext (Array.toList_inj.1 e)))

structure TE4E (W1 : World) (ge g9 : Nat) (bo tt : Option Addr) (bn bc tn tc : Nat) (SN SO : List Value) (af : Nat) (L : Nat -> Bool) (x33 x34 x35 x36 x37 x38 x39 x40 x41 x42 x43 x44 x45 x46 x47 x48 x49 x50 x51 x52 x53 x54 x55 x56 x57 x58 x59 : Value) (W : World) : Prop where
  x : Below W1.heap.size W1 W
  p0 : L 0 = true -> x33 = .iface 61 (.pointer (some ⟨ge, 0, none⟩))
  p1 : L 1 = true -> x34 = .bool false
  p2 : L 2 = true -> x35 = .bool false
  p5 : L 5 = true -> x38 = undef
  p12 : L 12 = true -> x45 = undef
  p19 : L 19 = true -> x52 = undef
  p26 : L 26 = true -> x59 = .bool false
section
variable {W1 : World} {ge g9 : Nat} {bo tt : Option Addr} {bn bc tn tc : Nat} {SN SO : List Value} {af : Nat} {L : Nat -> Bool} {x33 x34 x35 x36 x37 x38 x39 x40 x41 x42 x43 x44 x45 x46 x47 x48 x49 x50 x51 x52 x53 x54 x55 x56 x57 x58 x59 : Value} {W W2 : World}
end
@[reducible] def ITE4E (W1 : World) (ge g9 : Nat) (bo tt : Option Addr) (bn bc tn tc : Nat) (SN SO : List Value) (af : Nat) (y0 y1 y2 y3 y4 y5 y6 y7 y8 y9 y10 y11 y12 y13 y14 y15 y16 y17 y18 y19 y20 y21 y22 y23 y24 y25 y26 y27 y28 y29 y30 y31 y32 y60 y61 y62 y63 y64 y65 y66 y67 y68 y69 y70 y71 y72 y73 y74 y75 y76 y77 y78 y79 y80 y81 y82 y83 y84 y85 y86 y87 y88 y89 y90 y91 y92 y93 y94 y95 y96 y97 y98 y99 y100 y101 y102 y103 y104 y105 y106 y107 y108 y109 y110 y111 y112 y113 y114 y115 y116 y117 y118 y119 y120 y121 y122 y123 y124 y125 y126 y127 y128 y129 y130 y131 y132 y133 y134 y135 y136 y137 y138 y139 y140 y141 y142 y143 y144 y145 y146 y147 y148 y149 y150 : Value) : (Nat -> Bool) -> Act -> World -> Prop := fun L a W => ∃ x33 x34 x35 x36 x37 x38 x39 x40 x41 x42 x43 x44 x45 x46 x47 x48 x49 x50 x51 x52 x53 x54 x55 x56 x57 x58 x59, a = ⟨#[y0, y1, y2, y3, y4, y5, y6, y7, y8, y9, y10, y11, y12, y13, y14, y15, y16, y17, y18, y19, y20, y21, y22, y23, y24, y25, y26, y27, y28, y29, y30, y31, y32, x33, x34, x35, x36, x37, x38, x39, x40, x41, x42, x43, x44, x45, x46, x47, x48, x49, x50, x51, x52, x53, x54, x55, x56, x57, x58, x59, y60, y61, y62, y63, y64, y65, y66, y67, y68, y69, y70, y71, y72, y73, y74, y75, y76, y77, y78, y79, y80, y81, y82, y83, y84, y85, y86, y87, y88, y89, y90, y91, y92, y93, y94, y95, y96, y97, y98, y99, y100, y101, y102, y103, y104, y105, y106, y107, y108, y109, y110, y111, y112, y113, y114, y115, y116, y117, y118, y119, y120, y121, y122, y123, y124, y125, y126, y127, y128, y129, y130, y131, y132, y133, y134, y135, y136, y137, y138, y139, y140, y141, y142, y143, y144, y145, y146, y147, y148, y149, y150], []⟩ /\ TE4E W1 ge g9 bo tt bn bc tn tc SN SO af L x33 x34 x35 x36 x37 x38 x39 x40 x41 x42 x43 x44 x45 x46 x47 x48 x49 x50 x51 x52 x53 x54 x55 x56 x57 x58 x59 W
theorem TE4E.step {W1 : World} {ge g9 : Nat} {bo tt : Option Addr} {bn bc tn tc : Nat} {SN SO : List Value} {af : Nat} {y0 y1 y2 y3 y4 y5 y6 y7 y8 y9 y10 y11 y12 y13 y14 y15 y16 y17 y18 y19 y20 y21 y22 y23 y24 y25 y26 y27 y28 y29 y30 y31 y32 y60 y61 y62 y63 y64 y65 y66 y67 y68 y69 y70 y71 y72 y73 y74 y75 y76 y77 y78 y79 y80 y81 y82 y83 y84 y85 y86 y87 y88 y89 y90 y91 y92 y93 y94 y95 y96 y97 y98 y99 y100 y101 y102 y103 y104 y105 y106 y107 y108 y109 y110 y111 y112 y113 y114 y115 y116 y117 y118 y119 y120 y121 y122 y123 y124 y125 y126 y127 y128 y129 y130 y131 y132 y133 y134 y135 y136 y137 y138 y139 y140 y141 y142 y143 y144 y145 y146 y147 y148 y149 y150 : Value} {P : Program} {ops : Array Oper} {Q : Exit -> Act -> World -> Prop} {i : Nat} {o : Oper} (hq : ∀ x33 x34 x35 x36 x37 x38 x39 x40 x41 x42 x43 x44 x45 x46 x47 x48 x49 x50 x51 x52 x53 x54 x55 x56 x57 x58 x59 (L : Nat -> Bool) (W : World), TE4E W1 ge g9 bo tt bn bc tn tc SN SO af L x33 x34 x35 x36 x37 x38 x39 x40 x41 x42 x43 x44 x45 x46 x47 x48 x49 x50 x51 x52 x53 x54 x55 x56 x57 x58 x59 W -> L i = false -> (∀ j ∈ onesOf o, L j = true) -> ∀ K : Act -> World -> Prop, Shut (∀ a' w', ITE4E W1 ge g9 bo tt bn bc tn tc SN SO af y0 y1 y2 y3 y4 y5 y6 y7 y8 y9 y10 y11 y12 y13 y14 y15 y16 y17 y18 y19 y20 y21 y22 y23 y24 y25 y26 y27 y28 y29 y30 y31 y32 y60 y61 y62 y63 y64 y65 y66 y67 y68 y69 y70 y71 y72 y73 y74 y75 y76 y77 y78 y79 y80 y81 y82 y83 y84 y85 y86 y87 y88 y89 y90 y91 y92 y93 y94 y95 y96 y97 y98 y99 y100 y101 y102 y103 y104 y105 y106 y107 y108 y109 y110 y111 y112 y113 y114 y115 y116 y117 y118 y119 y120 y121 y122 y123 y124 y125 y126 y127 y128 y129 y130 y131 y132 y133 y134 y135 y136 y137 y138 y139 y140 y141 y142 y143 y144 y145 y146 y147 y148 y149 y150 (upd L i) a' w' -> K a' w') -> if Region.wanted o (yielded ops (⟨#[y0, y1, y2, y3, y4, y5, y6, y7, y8, y9, y10, y11, y12, y13, y14, y15, y16, y17, y18, y19, y20, y21, y22, y23, y24, y25, y26, y27, y28, y29, y30, y31, y32, x33, x34, x35, x36, x37, x38, x39, x40, x41, x42, x43, x44, x45, x46, x47, x48, x49, x50, x51, x52, x53, x54, x55, x56, x57, x58, x59, y60, y61, y62, y63, y64, y65, y66, y67, y68, y69, y70, y71, y72, y73, y74, y75, y76, y77, y78, y79, y80, y81, y82, y83, y84, y85, y86, y87, y88, y89, y90, y91, y92, y93, y94, y95, y96, y97, y98, y99, y100, y101, y102, y103, y104, y105, y106, y107, y108, y109, y110, y111, y112, y113, y114, y115, y116, y117, y118, y119, y120, y121, y122, y123, y124, y125, y126, y127, y128, y129, y130, y131, y132, y133, y134, y135, y136, y137, y138, y139, y140, y141, y142, y143, y144, y145, y146, y147, y148, y149, y150], []⟩ : Act).tmps) = true then Oper.wp P o ⟨#[y0, y1, y2, y3, y4, y5, y6, y7, y8, y9, y10, y11, y12, y13, y14, y15, y16, y17, y18, y19, y20, y21, y22, y23, y24, y25, y26, y27, y28, y29, y30, y31, y32, x33, x34, x35, x36, x37, x38, x39, x40, x41, x42, x43, x44, x45, x46, x47, x48, x49, x50, x51, x52, x53, x54, x55, x56, x57, x58, x59, y60, y61, y62, y63, y64, y65, y66, y67, y68, y69, y70, y71, y72, y73, y74, y75, y76, y77, y78, y79, y80, y81, y82, y83, y84, y85, y86, y87, y88, y89, y90, y91, y92, y93, y94, y95, y96, y97, y98, y99, y100, y101, y102, y103, y104, y105, y106, y107, y108, y109, y110, y111, y112, y113, y114, y115, y116, y117, y118, y119, y120, y121, y122, y123, y124, y125, y126, y127, y128, y129, y130, y131, y132, y133, y134, y135, y136, y137, y138, y139, y140, y141, y142, y143, y144, y145, y146, y147, y148, y149, y150], []⟩ W K Q else K ((⟨#[y0, y1, y2, y3, y4, y5, y6, y7, y8, y9, y10, y11, y12, y13, y14, y15, y16, y17, y18, y19, y20, y21, y22, y23, y24, y25, y26, y27, y28, y29, y30, y31, y32, x33, x34, x35, x36, x37, x38, x39, x40, x41, x42, x43, x44, x45, x46, x47, x48, x49, x50, x51, x52, x53, x54, x55, x56, x57, x58, x59, y60, y61, y62, y63, y64, y65, y66, y67, y68, y69, y70, y71, y72, y73, y74, y75, y76, y77, y78, y79, y80, y81, y82, y83, y84, y85, y86, y87, y88, y89, y90, y91, y92, y93, y94, y95, y96, y97, y98, y99, y100, y101, y102, y103, y104, y105, y106, y107, y108, y109, y110, y111, y112, y113, y114, y115, y116, y117, y118, y119, y120, y121, y122, y123, y124, y125, y126, y127, y128, y129, y130, y131, y132, y133, y134, y135, y136, y137, y138, y139, y140, y141, y142, y143, y144, y145, y146, y147, y148, y149, y150], []⟩ : Act).put o.dst undef) W) : StepI P ops (ITE4E W1 ge g9 bo tt bn bc tn tc SN SO af y0 y1 y2 y3 y4 y5 y6 y7 y8 y9 y10 y11 y12 y13 y14 y15 y16 y17 y18 y19 y20 y21 y22 y23 y24 y25 y26 y27 y28 y29 y30 y31 y32 y60 y61 y62 y63 y64 y65 y66 y67 y68 y69 y70 y71 y72 y73 y74 y75 y76 y77 y78 y79 y80 y81 y82 y83 y84 y85 y86 y87 y88 y89 y90 y91 y92 y93 y94 y95 y96 y97 y98 y99 y100 y101 y102 y103 y104 y105 y106 y107 y108 y109 y110 y111 y112 y113 y114 y115 y116 y117 y118 y119 y120 y121 y122 y123 y124 y125 y126 y127 y128 y129 y130 y131 y132 y133 y134 y135 y136 y137 y138 y139 y140 y141 y142 y143 y144 y145 y146 y147 y148 y149 y150) Q i o := by
  rintro L a W ⟨x33, x34, x35, x36, x37, x38, x39, x40, x41, x42, x43, x44, x45, x46, x47, x48, x49, x50, x51, x52, x53, x54, x55, x56, x57, x58, x59, rfl, h⟩
  exact hq _ _ _ _ _ _ _ _ _ _ _ _ _ _ _ _ _ _ _ _ _ _ _ _ _ _ _ _ _ h
structure TE4N (W1 : World) (ge g9 : Nat) (bo tt : Option Addr) (bn bc tn tc : Nat) (SN SO : List Value) (af : Nat) (L : Nat -> Bool) (x33 x34 x35 x36 x37 x38 x39 x40 x41 x42 x43 x44 x45 x46 x47 x48 x49 x50 x51 x52 x53 x54 x55 x56 x57 x58 x59 : Value) (W : World) : Prop where
  x : Below W1.heap.size W1 W
  p0 : L 0 = true -> x33 = .nilIface
  p1 : L 1 = true -> x34 = .bool true
  p2 : L 2 = true -> x35 = .bool true
  p3 : L 3 = true -> x36 = .nilIface
  p4 : L 4 = true -> x37 = .bool false
  p5 : L 5 = true -> x38 = .bool false
  p6 : L 6 = true -> x39 = .slice bo bn bc
  p7 : L 7 = true -> x40 = .agg SN.toArray
  p8 : L 8 = true -> x41 = .pointer (some ⟨g9, 32, none⟩)
  p9 : L 9 = true -> x42 = .agg SN.toArray
  p10 : L 10 = true -> x43 = .bool false
  p11 : L 11 = true -> x44 = .bool false
  p12 : L 12 = true -> x45 = .bool false
  p13 : L 13 = true -> x46 = .slice tt tn tc
  p14 : L 14 = true -> x47 = .agg SO.toArray
  p15 : L 15 = true -> x48 = .pointer (some ⟨g9, 0, none⟩)
  p16 : L 16 = true -> x49 = .agg SO.toArray
  p17 : L 17 = true -> x50 = .bool false
  p18 : L 18 = true -> x51 = .bool false
  p19 : L 19 = true -> x52 = .bool false
  p20 : L 20 = true -> x53 = .slice bo bn bc
  p21 : L 21 = true -> x54 = .int .i64 (bn : Int)
  p22 : L 22 = true -> x55 = .pointer (some ⟨g9, 65, none⟩)
  p23 : L 23 = true -> x56 = .int .i64 (bn : Int)
  p24 : L 24 = true -> x57 = .bool false
  p25 : L 25 = true -> x58 = .bool false
  p26 : L 26 = true -> x59 = .bool false
section
variable {W1 : World} {ge g9 : Nat} {bo tt : Option Addr} {bn bc tn tc : Nat} {SN SO : List Value} {af : Nat} {L : Nat -> Bool} {x33 x34 x35 x36 x37 x38 x39 x40 x41 x42 x43 x44 x45 x46 x47 x48 x49 x50 x51 x52 x53 x54 x55 x56 x57 x58 x59 : Value} {W W2 : World}
end
@[reducible] def ITE4N (W1 : World) (ge g9 : Nat) (bo tt : Option Addr) (bn bc tn tc : Nat) (SN SO : List Value) (af : Nat) (y0 y1 y2 y3 y4 y5 y6 y7 y8 y9 y10 y11 y12 y13 y14 y15 y16 y17 y18 y19 y20 y21 y22 y23 y24 y25 y26 y27 y28 y29 y30 y31 y32 y60 y61 y62 y63 y64 y65 y66 y67 y68 y69 y70 y71 y72 y73 y74 y75 y76 y77 y78 y79 y80 y81 y82 y83 y84 y85 y86 y87 y88 y89 y90 y91 y92 y93 y94 y95 y96 y97 y98 y99 y100 y101 y102 y103 y104 y105 y106 y107 y108 y109 y110 y111 y112 y113 y114 y115 y116 y117 y118 y119 y120 y121 y122 y123 y124 y125 y126 y127 y128 y129 y130 y131 y132 y133 y134 y135 y136 y137 y138 y139 y140 y141 y142 y143 y144 y145 y146 y147 y148 y149 y150 : Value) : (Nat -> Bool) -> Act -> World -> Prop := fun L a W => ∃ x33 x34 x35 x36 x37 x38 x39 x40 x41 x42 x43 x44 x45 x46 x47 x48 x49 x50 x51 x52 x53 x54 x55 x56 x57 x58 x59, a = ⟨#[y0, y1, y2, y3, y4, y5, y6, y7, y8, y9, y10, y11, y12, y13, y14, y15, y16, y17, y18, y19, y20, y21, y22, y23, y24, y25, y26, y27, y28, y29, y30, y31, y32, x33, x34, x35, x36, x37, x38, x39, x40, x41, x42, x43, x44, x45, x46, x47, x48, x49, x50, x51, x52, x53, x54, x55, x56, x57, x58, x59, y60, y61, y62, y63, y64, y65, y66, y67, y68, y69, y70, y71, y72, y73, y74, y75, y76, y77, y78, y79, y80, y81, y82, y83, y84, y85, y86, y87, y88, y89, y90, y91, y92, y93, y94, y95, y96, y97, y98, y99, y100, y101, y102, y103, y104, y105, y106, y107, y108, y109, y110, y111, y112, y113, y114, y115, y116, y117, y118, y119, y120, y121, y122, y123, y124, y125, y126, y127, y128, y129, y130, y131, y132, y133, y134, y135, y136, y137, y138, y139, y140, y141, y142, y143, y144, y145, y146, y147, y148, y149, y150], []⟩ /\ TE4N W1 ge g9 bo tt bn bc tn tc SN SO af L x33 x34 x35 x36 x37 x38 x39 x40 x41 x42 x43 x44 x45 x46 x47 x48 x49 x50 x51 x52 x53 x54 x55 x56 x57 x58 x59 W
theorem TE4N.step {W1 : World} {ge g9 : Nat} {bo tt : Option Addr} {bn bc tn tc : Nat} {SN SO : List Value} {af : Nat} {y0 y1 y2 y3 y4 y5 y6 y7 y8 y9 y10 y11 y12 y13 y14 y15 y16 y17 y18 y19 y20 y21 y22 y23 y24 y25 y26 y27 y28 y29 y30 y31 y32 y60 y61 y62 y63 y64 y65 y66 y67 y68 y69 y70 y71 y72 y73 y74 y75 y76 y77 y78 y79 y80 y81 y82 y83 y84 y85 y86 y87 y88 y89 y90 y91 y92 y93 y94 y95 y96 y97 y98 y99 y100 y101 y102 y103 y104 y105 y106 y107 y108 y109 y110 y111 y112 y113 y114 y115 y116 y117 y118 y119 y120 y121 y122 y123 y124 y125 y126 y127 y128 y129 y130 y131 y132 y133 y134 y135 y136 y137 y138 y139 y140 y141 y142 y143 y144 y145 y146 y147 y148 y149 y150 : Value} {P : Program} {ops : Array Oper} {Q : Exit -> Act -> World -> Prop} {i : Nat} {o : Oper} (hq : ∀ x33 x34 x35 x36 x37 x38 x39 x40 x41 x42 x43 x44 x45 x46 x47 x48 x49 x50 x51 x52 x53 x54 x55 x56 x57 x58 x59 (L : Nat -> Bool) (W : World), TE4N W1 ge g9 bo tt bn bc tn tc SN SO af L x33 x34 x35 x36 x37 x38 x39 x40 x41 x42 x43 x44 x45 x46 x47 x48 x49 x50 x51 x52 x53 x54 x55 x56 x57 x58 x59 W -> L i = false -> (∀ j ∈ onesOf o, L j = true) -> ∀ K : Act -> World -> Prop, Shut (∀ a' w', ITE4N W1 ge g9 bo tt bn bc tn tc SN SO af y0 y1 y2 y3 y4 y5 y6 y7 y8 y9 y10 y11 y12 y13 y14 y15 y16 y17 y18 y19 y20 y21 y22 y23 y24 y25 y26 y27 y28 y29 y30 y31 y32 y60 y61 y62 y63 y64 y65 y66 y67 y68 y69 y70 y71 y72 y73 y74 y75 y76 y77 y78 y79 y80 y81 y82 y83 y84 y85 y86 y87 y88 y89 y90 y91 y92 y93 y94 y95 y96 y97 y98 y99 y100 y101 y102 y103 y104 y105 y106 y107 y108 y109 y110 y111 y112 y113 y114 y115 y116 y117 y118 y119 y120 y121 y122 y123 y124 y125 y126 y127 y128 y129 y130 y131 y132 y133 y134 y135 y136 y137 y138 y139 y140 y141 y142 y143 y144 y145 y146 y147 y148 y149 y150 (upd L i) a' w' -> K a' w') -> if Region.wanted o (yielded ops (⟨#[y0, y1, y2, y3, y4, y5, y6, y7, y8, y9, y10, y11, y12, y13, y14, y15, y16, y17, y18, y19, y20, y21, y22, y23, y24, y25, y26, y27, y28, y29, y30, y31, y32, x33, x34, x35, x36, x37, x38, x39, x40, x41, x42, x43, x44, x45, x46, x47, x48, x49, x50, x51, x52, x53, x54, x55, x56, x57, x58, x59, y60, y61, y62, y63, y64, y65, y66, y67, y68, y69, y70, y71, y72, y73, y74, y75, y76, y77, y78, y79, y80, y81, y82, y83, y84, y85, y86, y87, y88, y89, y90, y91, y92, y93, y94, y95, y96, y97, y98, y99, y100, y101, y102, y103, y104, y105, y106, y107, y108, y109, y110, y111, y112, y113, y114, y115, y116, y117, y118, y119, y120, y121, y122, y123, y124, y125, y126, y127, y128, y129, y130, y131, y132, y133, y134, y135, y136, y137, y138, y139, y140, y141, y142, y143, y144, y145, y146, y147, y148, y149, y150], []⟩ : Act).tmps) = true then Oper.wp P o ⟨#[y0, y1, y2, y3, y4, y5, y6, y7, y8, y9, y10, y11, y12, y13, y14, y15, y16, y17, y18, y19, y20, y21, y22, y23, y24, y25, y26, y27, y28, y29, y30, y31, y32, x33, x34, x35, x36, x37, x38, x39, x40, x41, x42, x43, x44, x45, x46, x47, x48, x49, x50, x51, x52, x53, x54, x55, x56, x57, x58, x59, y60, y61, y62, y63, y64, y65, y66, y67, y68, y69, y70, y71, y72, y73, y74, y75, y76, y77, y78, y79, y80, y81, y82, y83, y84, y85, y86, y87, y88, y89, y90, y91, y92, y93, y94, y95, y96, y97, y98, y99, y100, y101, y102, y103, y104, y105, y106, y107, y108, y109, y110, y111, y112, y113, y114, y115, y116, y117, y118, y119, y120, y121, y122, y123, y124, y125, y126, y127, y128, y129, y130, y131, y132, y133, y134, y135, y136, y137, y138, y139, y140, y141, y142, y143, y144, y145, y146, y147, y148, y149, y150], []⟩ W K Q else K ((⟨#[y0, y1, y2, y3, y4, y5, y6, y7, y8, y9, y10, y11, y12, y13, y14, y15, y16, y17, y18, y19, y20, y21, y22, y23, y24, y25, y26, y27, y28, y29, y30, y31, y32, x33, x34, x35, x36, x37, x38, x39, x40, x41, x42, x43, x44, x45, x46, x47, x48, x49, x50, x51, x52, x53, x54, x55, x56, x57, x58, x59, y60, y61, y62, y63, y64, y65, y66, y67, y68, y69, y70, y71, y72, y73, y74, y75, y76, y77, y78, y79, y80, y81, y82, y83, y84, y85, y86, y87, y88, y89, y90, y91, y92, y93, y94, y95, y96, y97, y98, y99, y100, y101, y102, y103, y104, y105, y106, y107, y108, y109, y110, y111, y112, y113, y114, y115, y116, y117, y118, y119, y120, y121, y122, y123, y124, y125, y126, y127, y128, y129, y130, y131, y132, y133, y134, y135, y136, y137, y138, y139, y140, y141, y142, y143, y144, y145, y146, y147, y148, y149, y150], []⟩ : Act).put o.dst undef) W) : StepI P ops (ITE4N W1 ge g9 bo tt bn bc tn tc SN SO af y0 y1 y2 y3 y4 y5 y6 y7 y8 y9 y10 y11 y12 y13 y14 y15 y16 y17 y18 y19 y20 y21 y22 y23 y24 y25 y26 y27 y28 y29 y30 y31 y32 y60 y61 y62 y63 y64 y65 y66 y67 y68 y69 y70 y71 y72 y73 y74 y75 y76 y77 y78 y79 y80 y81 y82 y83 y84 y85 y86 y87 y88 y89 y90 y91 y92 y93 y94 y95 y96 y97 y98 y99 y100 y101 y102 y103 y104 y105 y106 y107 y108 y109 y110 y111 y112 y113 y114 y115 y116 y117 y118 y119 y120 y121 y122 y123 y124 y125 y126 y127 y128 y129 y130 y131 y132 y133 y134 y135 y136 y137 y138 y139 y140 y141 y142 y143 y144 y145 y146 y147 y148 y149 y150) Q i o := by
  rintro L a W ⟨x33, x34, x35, x36, x37, x38, x39, x40, x41, x42, x43, x44, x45, x46, x47, x48, x49, x50, x51, x52, x53, x54, x55, x56, x57, x58, x59, rfl, h⟩
  exact hq _ _ _ _ _ _ _ _ _ _ _ _ _ _ _ _ _ _ _ _ _ _ _ _ _ _ _ _ _ h
structure TE17N (W1 : World) (ge : Nat) (tt oo : Option Addr) (tn tc on oc : Nat) (S1 S2 : ByteArray) (L : Nat -> Bool) (x131 x132 x133 x134 x135 x136 x137 x138 x139 x140 x141 x142 x143 x144 x145 x146 x147 x148 x149 x150 x2 : Value) (W : World) : Prop where
  x : Below W1.heap.size W1 W
  p0 : L 0 = true -> x131 = .nilIface
  p1 : L 1 = true -> x132 = .bool true
  p2 : L 2 = true -> x133 = .slice tt tn tc
  p3 : L 3 = true -> x134 = .string S1
  p4 : L 4 = true -> x135 = .slice oo on oc
  p5 : L 5 = true -> x136 = .string S2
  p6 : L 6 = true -> x137 = .bool true
  p7 : L 7 = true -> x138 = .bool true
  p8 : L 8 = true -> x139 = .bool true
  p9 : L 9 = true -> x140 = .nilIface
  p10 : L 10 = true -> x141 = .bool true
  p11 : L 11 = true -> x142 = .bool true
  p15 : L 15 = true -> x146 = .bool true
  p16 : L 16 = true -> x147 = .bool true
  p17 : L 17 = true -> x148 = .bool true
  p18 : L 18 = true -> x149 = .bool true
  p19 : L 19 = true -> x150 = .bool true
  p20 : L 20 = true -> x2 = .bool true
section
variable {W1 : World} {ge : Nat} {tt oo : Option Addr} {tn tc on oc : Nat} {S1 S2 : ByteArray} {L : Nat -> Bool} {x131 x132 x133 x134 x135 x136 x137 x138 x139 x140 x141 x142 x143 x144 x145 x146 x147 x148 x149 x150 x2 : Value} {W W2 : World}
end
@[reducible] def ITE17N (W1 : World) (ge : Nat) (tt oo : Option Addr) (tn tc on oc : Nat) (S1 S2 : ByteArray) (y0 y1 y3 y4 y5 y6 y7 y8 y9 y10 y11 y12 y13 y14 y15 y16 y17 y18 y19 y20 y21 y22 y23 y24 y25 y26 y27 y28 y29 y30 y31 y32 y33 y34 y35 y36 y37 y38 y39 y40 y41 y42 y43 y44 y45 y46 y47 y48 y49 y50 y51 y52 y53 y54 y55 y56 y57 y58 y59 y60 y61 y62 y63 y64 y65 y66 y67 y68 y69 y70 y71 y72 y73 y74 y75 y76 y77 y78 y79 y80 y81 y82 y83 y84 y85 y86 y87 y88 y89 y90 y91 y92 y93 y94 y95 y96 y97 y98 y99 y100 y101 y102 y103 y104 y105 y106 y107 y108 y109 y110 y111 y112 y113 y114 y115 y116 y117 y118 y119 y120 y121 y122 y123 y124 y125 y126 y127 y128 y129 y130 : Value) : (Nat -> Bool) -> Act -> World -> Prop := fun L a W => ∃ x131 x132 x133 x134 x135 x136 x137 x138 x139 x140 x141 x142 x143 x144 x145 x146 x147 x148 x149 x150 x2, a = ⟨#[y0, y1, x2, y3, y4, y5, y6, y7, y8, y9, y10, y11, y12, y13, y14, y15, y16, y17, y18, y19, y20, y21, y22, y23, y24, y25, y26, y27, y28, y29, y30, y31, y32, y33, y34, y35, y36, y37, y38, y39, y40, y41, y42, y43, y44, y45, y46, y47, y48, y49, y50, y51, y52, y53, y54, y55, y56, y57, y58, y59, y60, y61, y62, y63, y64, y65, y66, y67, y68, y69, y70, y71, y72, y73, y74, y75, y76, y77, y78, y79, y80, y81, y82, y83, y84, y85, y86, y87, y88, y89, y90, y91, y92, y93, y94, y95, y96, y97, y98, y99, y100, y101, y102, y103, y104, y105, y106, y107, y108, y109, y110, y111, y112, y113, y114, y115, y116, y117, y118, y119, y120, y121, y122, y123, y124, y125, y126, y127, y128, y129, y130, x131, x132, x133, x134, x135, x136, x137, x138, x139, x140, x141, x142, x143, x144, x145, x146, x147, x148, x149, x150], []⟩ /\ TE17N W1 ge tt oo tn tc on oc S1 S2 L x131 x132 x133 x134 x135 x136 x137 x138 x139 x140 x141 x142 x143 x144 x145 x146 x147 x148 x149 x150 x2 W
theorem TE17N.step {W1 : World} {ge : Nat} {tt oo : Option Addr} {tn tc on oc : Nat} {S1 S2 : ByteArray} {y0 y1 y3 y4 y5 y6 y7 y8 y9 y10 y11 y12 y13 y14 y15 y16 y17 y18 y19 y20 y21 y22 y23 y24 y25 y26 y27 y28 y29 y30 y31 y32 y33 y34 y35 y36 y37 y38 y39 y40 y41 y42 y43 y44 y45 y46 y47 y48 y49 y50 y51 y52 y53 y54 y55 y56 y57 y58 y59 y60 y61 y62 y63 y64 y65 y66 y67 y68 y69 y70 y71 y72 y73 y74 y75 y76 y77 y78 y79 y80 y81 y82 y83 y84 y85 y86 y87 y88 y89 y90 y91 y92 y93 y94 y95 y96 y97 y98 y99 y100 y101 y102 y103 y104 y105 y106 y107 y108 y109 y110 y111 y112 y113 y114 y115 y116 y117 y118 y119 y120 y121 y122 y123 y124 y125 y126 y127 y128 y129 y130 : Value} {P : Program} {ops : Array Oper} {Q : Exit -> Act -> World -> Prop} {i : Nat} {o : Oper} (hq : ∀ x131 x132 x133 x134 x135 x136 x137 x138 x139 x140 x141 x142 x143 x144 x145 x146 x147 x148 x149 x150 x2 (L : Nat -> Bool) (W : World), TE17N W1 ge tt oo tn tc on oc S1 S2 L x131 x132 x133 x134 x135 x136 x137 x138 x139 x140 x141 x142 x143 x144 x145 x146 x147 x148 x149 x150 x2 W -> L i = false -> (∀ j ∈ onesOf o, L j = true) -> ∀ K : Act -> World -> Prop, Shut (∀ a' w', ITE17N W1 ge tt oo tn tc on oc S1 S2 y0 y1 y3 y4 y5 y6 y7 y8 y9 y10 y11 y12 y13 y14 y15 y16 y17 y18 y19 y20 y21 y22 y23 y24 y25 y26 y27 y28 y29 y30 y31 y32 y33 y34 y35 y36 y37 y38 y39 y40 y41 y42 y43 y44 y45 y46 y47 y48 y49 y50 y51 y52 y53 y54 y55 y56 y57 y58 y59 y60 y61 y62 y63 y64 y65 y66 y67 y68 y69 y70 y71 y72 y73 y74 y75 y76 y77 y78 y79 y80 y81 y82 y83 y84 y85 y86 y87 y88 y89 y90 y91 y92 y93 y94 y95 y96 y97 y98 y99 y100 y101 y102 y103 y104 y105 y106 y107 y108 y109 y110 y111 y112 y113 y114 y115 y116 y117 y118 y119 y120 y121 y122 y123 y124 y125 y126 y127 y128 y129 y130 (upd L i) a' w' -> K a' w') -> if Region.wanted o (yielded ops (⟨#[y0, y1, x2, y3, y4, y5, y6, y7, y8, y9, y10, y11, y12, y13, y14, y15, y16, y17, y18, y19, y20, y21, y22, y23, y24, y25, y26, y27, y28, y29, y30, y31, y32, y33, y34, y35, y36, y37, y38, y39, y40, y41, y42, y43, y44, y45, y46, y47, y48, y49, y50, y51, y52, y53, y54, y55, y56, y57, y58, y59, y60, y61, y62, y63, y64, y65, y66, y67, y68, y69, y70, y71, y72, y73, y74, y75, y76, y77, y78, y79, y80, y81, y82, y83, y84, y85, y86, y87, y88, y89, y90, y91, y92, y93, y94, y95, y96, y97, y98, y99, y100, y101, y102, y103, y104, y105, y106, y107, y108, y109, y110, y111, y112, y113, y114, y115, y116, y117, y118, y119, y120, y121, y122, y123, y124, y125, y126, y127, y128, y129, y130, x131, x132, x133, x134, x135, x136, x137, x138, x139, x140, x141, x142, x143, x144, x145, x146, x147, x148, x149, x150], []⟩ : Act).tmps) = true then Oper.wp P o ⟨#[y0, y1, x2, y3, y4, y5, y6, y7, y8, y9, y10, y11, y12, y13, y14, y15, y16, y17, y18, y19, y20, y21, y22, y23, y24, y25, y26, y27, y28, y29, y30, y31, y32, y33, y34, y35, y36, y37, y38, y39, y40, y41, y42, y43, y44, y45, y46, y47, y48, y49, y50, y51, y52, y53, y54, y55, y56, y57, y58, y59, y60, y61, y62, y63, y64, y65, y66, y67, y68, y69, y70, y71, y72, y73, y74, y75, y76, y77, y78, y79, y80, y81, y82, y83, y84, y85, y86, y87, y88, y89, y90, y91, y92, y93, y94, y95, y96, y97, y98, y99, y100, y101, y102, y103, y104, y105, y106, y107, y108, y109, y110, y111, y112, y113, y114, y115, y116, y117, y118, y119, y120, y121, y122, y123, y124, y125, y126, y127, y128, y129, y130, x131, x132, x133, x134, x135, x136, x137, x138, x139, x140, x141, x142, x143, x144, x145, x146, x147, x148, x149, x150], []⟩ W K Q else K ((⟨#[y0, y1, x2, y3, y4, y5, y6, y7, y8, y9, y10, y11, y12, y13, y14, y15, y16, y17, y18, y19, y20, y21, y22, y23, y24, y25, y26, y27, y28, y29, y30, y31, y32, y33, y34, y35, y36, y37, y38, y39, y40, y41, y42, y43, y44, y45, y46, y47, y48, y49, y50, y51, y52, y53, y54, y55, y56, y57, y58, y59, y60, y61, y62, y63, y64, y65, y66, y67, y68, y69, y70, y71, y72, y73, y74, y75, y76, y77, y78, y79, y80, y81, y82, y83, y84, y85, y86, y87, y88, y89, y90, y91, y92, y93, y94, y95, y96, y97, y98, y99, y100, y101, y102, y103, y104, y105, y106, y107, y108, y109, y110, y111, y112, y113, y114, y115, y116, y117, y118, y119, y120, y121, y122, y123, y124, y125, y126, y127, y128, y129, y130, x131, x132, x133, x134, x135, x136, x137, x138, x139, x140, x141, x142, x143, x144, x145, x146, x147, x148, x149, x150], []⟩ : Act).put o.dst undef) W) : StepI P ops (ITE17N W1 ge tt oo tn tc on oc S1 S2 y0 y1 y3 y4 y5 y6 y7 y8 y9 y10 y11 y12 y13 y14 y15 y16 y17 y18 y19 y20 y21 y22 y23 y24 y25 y26 y27 y28 y29 y30 y31 y32 y33 y34 y35 y36 y37 y38 y39 y40 y41 y42 y43 y44 y45 y46 y47 y48 y49 y50 y51 y52 y53 y54 y55 y56 y57 y58 y59 y60 y61 y62 y63 y64 y65 y66 y67 y68 y69 y70 y71 y72 y73 y74 y75 y76 y77 y78 y79 y80 y81 y82 y83 y84 y85 y86 y87 y88 y89 y90 y91 y92 y93 y94 y95 y96 y97 y98 y99 y100 y101 y102 y103 y104 y105 y106 y107 y108 y109 y110 y111 y112 y113 y114 y115 y116 y117 y118 y119 y120 y121 y122 y123 y124 y125 y126 y127 y128 y129 y130) Q i o := by
  rintro L a W ⟨x131, x132, x133, x134, x135, x136, x137, x138, x139, x140, x141, x142, x143, x144, x145, x146, x147, x148, x149, x150, x2, rfl, h⟩
  exact hq _ _ _ _ _ _ _ _ _ _ _ _ _ _ _ _ _ _ _ _ _ _ _ h
structure TE17E (W1 : World) (ge : Nat) (tt oo : Option Addr) (tn tc on oc : Nat) (S1 S2 : ByteArray) (L : Nat -> Bool) (x131 x132 x133 x134 x135 x136 x137 x138 x139 x140 x141 x142 x143 x144 x145 x146 x147 x148 x149 x150 x2 : Value) (W : World) : Prop where
  x : Below W1.heap.size W1 W
  p0 : L 0 = true -> x131 = .iface 61 (.pointer (some ⟨ge, 0, none⟩))
  p1 : L 1 = true -> x132 = .bool false
  p2 : L 2 = true -> x133 = .slice tt tn tc
  p3 : L 3 = true -> x134 = .string S1
  p4 : L 4 = true -> x135 = .slice oo on oc
  p5 : L 5 = true -> x136 = .string S2
  p6 : L 6 = true -> x137 = .bool false
  p7 : L 7 = true -> x138 = .bool true
  p8 : L 8 = true -> x139 = .bool true
  p9 : L 9 = true -> x140 = .iface 61 (.pointer (some ⟨ge, 0, none⟩))
  p10 : L 10 = true -> x141 = .bool false
  p11 : L 11 = true -> x142 = .bool false
  p12 : L 12 = true -> x143 = .iface 61 (.pointer (some ⟨ge, 0, none⟩))
  p13 : L 13 = true -> x144 = .agg #[.int .i64 11, .int .i64 5]
  p14 : L 14 = true -> x145 = .bool true
  p15 : L 15 = true -> x146 = .bool true
  p16 : L 16 = true -> x147 = .bool true
  p17 : L 17 = true -> x148 = .bool true
  p18 : L 18 = true -> x149 = .bool true
  p19 : L 19 = true -> x150 = .bool true
  p20 : L 20 = true -> x2 = .bool true
section
variable {W1 : World} {ge : Nat} {tt oo : Option Addr} {tn tc on oc : Nat} {S1 S2 : ByteArray} {L : Nat -> Bool} {x131 x132 x133 x134 x135 x136 x137 x138 x139 x140 x141 x142 x143 x144 x145 x146 x147 x148 x149 x150 x2 : Value} {W W2 : World}
end
@[reducible] def ITE17E (W1 : World) (ge : Nat) (tt oo : Option Addr) (tn tc on oc : Nat) (S1 S2 : ByteArray) (y0 y1 y3 y4 y5 y6 y7 y8 y9 y10 y11 y12 y13 y14 y15 y16 y17 y18 y19 y20 y21 y22 y23 y24 y25 y26 y27 y28 y29 y30 y31 y32 y33 y34 y35 y36 y37 y38 y39 y40 y41 y42 y43 y44 y45 y46 y47 y48 y49 y50 y51 y52 y53 y54 y55 y56 y57 y58 y59 y60 y61 y62 y63 y64 y65 y66 y67 y68 y69 y70 y71 y72 y73 y74 y75 y76 y77 y78 y79 y80 y81 y82 y83 y84 y85 y86 y87 y88 y89 y90 y91 y92 y93 y94 y95 y96 y97 y98 y99 y100 y101 y102 y103 y104 y105 y106 y107 y108 y109 y110 y111 y112 y113 y114 y115 y116 y117 y118 y119 y120 y121 y122 y123 y124 y125 y126 y127 y128 y129 y130 : Value) : (Nat -> Bool) -> Act -> World -> Prop := fun L a W => ∃ x131 x132 x133 x134 x135 x136 x137 x138 x139 x140 x141 x142 x143 x144 x145 x146 x147 x148 x149 x150 x2, a = ⟨#[y0, y1, x2, y3, y4, y5, y6, y7, y8, y9, y10, y11, y12, y13, y14, y15, y16, y17, y18, y19, y20, y21, y22, y23, y24, y25, y26, y27, y28, y29, y30, y31, y32, y33, y34, y35, y36, y37, y38, y39, y40, y41, y42, y43, y44, y45, y46, y47, y48, y49, y50, y51, y52, y53, y54, y55, y56, y57, y58, y59, y60, y61, y62, y63, y64, y65, y66, y67, y68, y69, y70, y71, y72, y73, y74, y75, y76, y77, y78, y79, y80, y81, y82, y83, y84, y85, y86, y87, y88, y89, y90, y91, y92, y93, y94, y95, y96, y97, y98, y99, y100, y101, y102, y103, y104, y105, y106, y107, y108, y109, y110, y111, y112, y113, y114, y115, y116, y117, y118, y119, y120, y121, y122, y123, y124, y125, y126, y127, y128, y129, y130, x131, x132, x133, x134, x135, x136, x137, x138, x139, x140, x141, x142, x143, x144, x145, x146, x147, x148, x149, x150], []⟩ /\ TE17E W1 ge tt oo tn tc on oc S1 S2 L x131 x132 x133 x134 x135 x136 x137 x138 x139 x140 x141 x142 x143 x144 x145 x146 x147 x148 x149 x150 x2 W
theorem TE17E.step {W1 : World} {ge : Nat} {tt oo : Option Addr} {tn tc on oc : Nat} {S1 S2 : ByteArray} {y0 y1 y3 y4 y5 y6 y7 y8 y9 y10 y11 y12 y13 y14 y15 y16 y17 y18 y19 y20 y21 y22 y23 y24 y25 y26 y27 y28 y29 y30 y31 y32 y33 y34 y35 y36 y37 y38 y39 y40 y41 y42 y43 y44 y45 y46 y47 y48 y49 y50 y51 y52 y53 y54 y55 y56 y57 y58 y59 y60 y61 y62 y63 y64 y65 y66 y67 y68 y69 y70 y71 y72 y73 y74 y75 y76 y77 y78 y79 y80 y81 y82 y83 y84 y85 y86 y87 y88 y89 y90 y91 y92 y93 y94 y95 y96 y97 y98 y99 y100 y101 y102 y103 y104 y105 y106 y107 y108 y109 y110 y111 y112 y113 y114 y115 y116 y117 y118 y119 y120 y121 y122 y123 y124 y125 y126 y127 y128 y129 y130 : Value} {P : Program} {ops : Array Oper} {Q : Exit -> Act -> World -> Prop} {i : Nat} {o : Oper} (hq : ∀ x131 x132 x133 x134 x135 x136 x137 x138 x139 x140 x141 x142 x143 x144 x145 x146 x147 x148 x149 x150 x2 (L : Nat -> Bool) (W : World), TE17E W1 ge tt oo tn tc on oc S1 S2 L x131 x132 x133 x134 x135 x136 x137 x138 x139 x140 x141 x142 x143 x144 x145 x146 x147 x148 x149 x150 x2 W -> L i = false -> (∀ j ∈ onesOf o, L j = true) -> ∀ K : Act -> World -> Prop, Shut (∀ a' w', ITE17E W1 ge tt oo tn tc on oc S1 S2 y0 y1 y3 y4 y5 y6 y7 y8 y9 y10 y11 y12 y13 y14 y15 y16 y17 y18 y19 y20 y21 y22 y23 y24 y25 y26 y27 y28 y29 y30 y31 y32 y33 y34 y35 y36 y37 y38 y39 y40 y41 y42 y43 y44 y45 y46 y47 y48 y49 y50 y51 y52 y53 y54 y55 y56 y57 y58 y59 y60 y61 y62 y63 y64 y65 y66 y67 y68 y69 y70 y71 y72 y73 y74 y75 y76 y77 y78 y79 y80 y81 y82 y83 y84 y85 y86 y87 y88 y89 y90 y91 y92 y93 y94 y95 y96 y97 y98 y99 y100 y101 y102 y103 y104 y105 y106 y107 y108 y109 y110 y111 y112 y113 y114 y115 y116 y117 y118 y119 y120 y121 y122 y123 y124 y125 y126 y127 y128 y129 y130 (upd L i) a' w' -> K a' w') -> if Region.wanted o (yielded ops (⟨#[y0, y1, x2, y3, y4, y5, y6, y7, y8, y9, y10, y11, y12, y13, y14, y15, y16, y17, y18, y19, y20, y21, y22, y23, y24, y25, y26, y27, y28, y29, y30, y31, y32, y33, y34, y35, y36, y37, y38, y39, y40, y41, y42, y43, y44, y45, y46, y47, y48, y49, y50, y51, y52, y53, y54, y55, y56, y57, y58, y59, y60, y61, y62, y63, y64, y65, y66, y67, y68, y69, y70, y71, y72, y73, y74, y75, y76, y77, y78, y79, y80, y81, y82, y83, y84, y85, y86, y87, y88, y89, y90, y91, y92, y93, y94, y95, y96, y97, y98, y99, y100, y101, y102, y103, y104, y105, y106, y107, y108, y109, y110, y111, y112, y113, y114, y115, y116, y117, y118, y119, y120, y121, y122, y123, y124, y125, y126, y127, y128, y129, y130, x131, x132, x133, x134, x135, x136, x137, x138, x139, x140, x141, x142, x143, x144, x145, x146, x147, x148, x149, x150], []⟩ : Act).tmps) = true then Oper.wp P o ⟨#[y0, y1, x2, y3, y4, y5, y6, y7, y8, y9, y10, y11, y12, y13, y14, y15, y16, y17, y18, y19, y20, y21, y22, y23, y24, y25, y26, y27, y28, y29, y30, y31, y32, y33, y34, y35, y36, y37, y38, y39, y40, y41, y42, y43, y44, y45, y46, y47, y48, y49, y50, y51, y52, y53, y54, y55, y56, y57, y58, y59, y60, y61, y62, y63, y64, y65, y66, y67, y68, y69, y70, y71, y72, y73, y74, y75, y76, y77, y78, y79, y80, y81, y82, y83, y84, y85, y86, y87, y88, y89, y90, y91, y92, y93, y94, y95, y96, y97, y98, y99, y100, y101, y102, y103, y104, y105, y106, y107, y108, y109, y110, y111, y112, y113, y114, y115, y116, y117, y118, y119, y120, y121, y122, y123, y124, y125, y126, y127, y128, y129, y130, x131, x132, x133, x134, x135, x136, x137, x138, x139, x140, x141, x142, x143, x144, x145, x146, x147, x148, x149, x150], []⟩ W K Q else K ((⟨#[y0, y1, x2, y3, y4, y5, y6, y7, y8, y9, y10, y11, y12, y13, y14, y15, y16, y17, y18, y19, y20, y21, y22, y23, y24, y25, y26, y27, y28, y29, y30, y31, y32, y33, y34, y35, y36, y37, y38, y39, y40, y41, y42, y43, y44, y45, y46, y47, y48, y49, y50, y51, y52, y53, y54, y55, y56, y57, y58, y59, y60, y61, y62, y63, y64, y65, y66, y67, y68, y69, y70, y71, y72, y73, y74, y75, y76, y77, y78, y79, y80, y81, y82, y83, y84, y85, y86, y87, y88, y89, y90, y91, y92, y93, y94, y95, y96, y97, y98, y99, y100, y101, y102, y103, y104, y105, y106, y107, y108, y109, y110, y111, y112, y113, y114, y115, y116, y117, y118, y119, y120, y121, y122, y123, y124, y125, y126, y127, y128, y129, y130, x131, x132, x133, x134, x135, x136, x137, x138, x139, x140, x141, x142, x143, x144, x145, x146, x147, x148, x149, x150], []⟩ : Act).put o.dst undef) W) : StepI P ops (ITE17E W1 ge tt oo tn tc on oc S1 S2 y0 y1 y3 y4 y5 y6 y7 y8 y9 y10 y11 y12 y13 y14 y15 y16 y17 y18 y19 y20 y21 y22 y23 y24 y25 y26 y27 y28 y29 y30 y31 y32 y33 y34 y35 y36 y37 y38 y39 y40 y41 y42 y43 y44 y45 y46 y47 y48 y49 y50 y51 y52 y53 y54 y55 y56 y57 y58 y59 y60 y61 y62 y63 y64 y65 y66 y67 y68 y69 y70 y71 y72 y73 y74 y75 y76 y77 y78 y79 y80 y81 y82 y83 y84 y85 y86 y87 y88 y89 y90 y91 y92 y93 y94 y95 y96 y97 y98 y99 y100 y101 y102 y103 y104 y105 y106 y107 y108 y109 y110 y111 y112 y113 y114 y115 y116 y117 y118 y119 y120 y121 y122 y123 y124 y125 y126 y127 y128 y129 y130) Q i o := by
  rintro L a W ⟨x131, x132, x133, x134, x135, x136, x137, x138, x139, x140, x141, x142, x143, x144, x145, x146, x147, x148, x149, x150, x2, rfl, h⟩
  exact hq _ _ _ _ _ _ _ _ _ _ _ _ _ _ _ _ _ _ _ _ _ _ _ h
/-- A patch that applies was read. -/
theorem apply_read {old p m : List By} (h : applyR old p = .ok m) : ∃ x, readR p = .ok x /\ sha m = x.new /\ sha old = x.old /\ m.length = x.after := by
  unfold applyR at h
  cases hq : readR p with
  | error ka => rw [hq] at h; cases h
  | ok x =>
    rw [hq] at h
    dsimp only at h
    have ok := readR_ok hq
    split at h
    · cases h
    · rename_i hne
      have h1 : old.length = x.before := Classical.byContradiction fun h => hne (.inl h)
      have h2 : sha old = x.old := Classical.byContradiction fun h => hne (.inr h)
      split at h
      · cases h
      · rename_i hn
        injection h with h
        refine ⟨x, rfl, ?_, h2, ?_⟩
        · rw [<- h]; exact Classical.byContradiction fun h => hn h
        · rw [<- h, tells_len ok h1 (fun y hy => hy), ok.sum]

set_option maxHeartbeats 4000000 in
set_option maxRecDepth 100000 in
theorem tells25_any {M : List By -> List By -> List By} (P : PchT M) (w : World) (hg : HG w) (a b c q : List By) (ao bo co qo : Option Addr) (ac bc cc qc : Nat) (hr : R4In w a b c q ao bo co qo ac bc cc qc) :
    Calls Tryd.prog 6 #[.agg #[.slice ao a.length ac, .slice bo b.length bc, .slice co c.length cc, .slice qo q.length qc]] w fun e w' => e = .returned (.bool true) /\ Below w.heap.size w w' := by
  obtain ⟨w1, hw1⟩ : ∃ w1, w1 = w.alloc (.cells #[.slice ao a.length ac, .slice bo b.length bc, .slice co c.length cc, .slice qo q.length qc] 51) := ⟨_, rfl⟩
  have r1 : Row w1 w.heap.size 51 [.slice ao a.length ac, .slice bo b.length bc, .slice co c.length cc, .slice qo q.length qc] := by rw [hw1]; exact Row.at w _ _ _ _ rfl rfl
  have b1 : Below w.heap.size w w1 := by rw [hw1]; exact (Below.refl _ _).alloc (Nat.le_refl _) _
  have B1 : Hid (∀ n, Below w.heap.size w (w1.drewN n)) := fun n => Below_dr b1 ⟨n, rfl⟩
  have c0 := r1.cell 0 _ rfl
  have c1 := r1.cell 1 _ rfl
  have c2 := r1.cell 2 _ rfl
  have c3 := r1.cell 3 _ rfl
  have HGB : Hid (∀ W, Below w.heap.size w W -> HG W) := fun W h => hg.below h hg.lt
  have KR : Hid (∀ W, Below w.heap.size w W -> R4In W a b c q ao bo co qo ac bc cc qc) := fun W h => hr.keep h
  have FX : Hid (∀ W, Below w.heap.size w W -> Calls Tryd.prog 9 #[] W fun e w' => e = .returned (.bool true) /\ Below W.heap.size W w') := fun W h => fixed25T_any P W (HGB.out W h)
  have HP : Hid (PchT M) := P
  clear r1 b1 hg hr P
  go_enter Tryd.func6, Tryd.ntmps6
  go_wp2_with (first | (rw [<- hw1]; clear hw1))
  go_quiet (fail)
  generalize hw2 : w1.drewN _ = w2
  have B2 : Hid (Below w.heap.size w w2) := by rw [<- hw2]; exact B1.out _
  clear hw2 B1 c0 c1 c2 c3
  go_wp2_with fail
  refine (HP.out.ap (HGB.out _ B2.out) (KR.out _ B2.out).c (KR.out _ B2.out).q).mono ?_
  intro e w3 he
  obtain ⟨hb3, bv, ev, rfl, hbv, her⟩ := cap_uni he
  obtain ⟨T, hT⟩ : ∃ T, T = aT c q := ⟨_, rfl⟩
  rw [<- hT] at hbv her
  obtain ⟨m, k, a1⟩ := T
  dsimp only at hbv her
  have HAO : Hid (k = 0 -> applyR c q = .ok m) := fun h0 => by
    unfold aT at hT
    cases hap : applyR c q with
    | error kb =>
      rw [hap] at hT
      have h1 := applyR_wrong (k := kb.1) (a := kb.2) hap
      injection hT with _ hT
      injection hT with h2 _
      exact absurd (by rw [<- h2, h0]) h1
    | ok m' => rw [hap] at hT; injection hT with h2 _; rw [h2]
  have HM0 : Hid (k ≠ 0 -> m.length = 0) := fun h0 => by
    unfold aT at hT
    cases hap : applyR c q with
    | error kb => rw [hap] at hT; injection hT with h2 _; rw [h2]; rfl
    | ok m' => rw [hap] at hT; injection hT with _ hT; injection hT with h2 _; exact absurd h2 h0
  have hml : m.length <= 524288 := by have := aT_len c q; rw [<- hT] at this; exact this
  obtain ⟨tq, tc, rfl, hti, _, htc⟩ := hbv.eq
  have B3 : Hid (Below w.heap.size w w3) := B2.out.trans (hb3.mono B2.out.size)
  have HTI : Hid (∀ W, Below w3.heap.size w3 W -> IsB W tq m) := fun W h => hti.below h (Nat.le_refl _)
  have HER : Hid (ErO w3 k a1 ev) := her
  clear he hb3 hbv her hti hT B2
  dsimp only
  go_wp2_with fail
  refine (HP.out.rd (HGB.out _ B3.out) (KR.out _ B3.out).q).mono ?_
  intro e w4' he
  obtain ⟨hb4, fv, rfl, hfe⟩ := crd_uni he
  have okX := rT_ok q
  obtain ⟨T, hT⟩ : ∃ T, T = rT q := ⟨_, rfl⟩
  rw [<- hT] at hfe okX ⊢
  obtain ⟨X, k2, a2⟩ := T
  dsimp only at hfe okX ⊢
  have HRT : Hid ((X, k2, a2) = rT q) := hT
  obtain ⟨IC, hIC⟩ : ∃ IC, IC = infoC X := ⟨_, rfl⟩
  rw [<- hIC]
  have lI : IC.length = 68 := by rw [hIC]; exact infoC_len okX.lo okX.ln
  have oI : Hid (∀ v ∈ IC, v.oneCell' = true) := by rw [hIC]; exact infoC_one X
  have HIC : Hid (IC = infoC X) := hIC
  have HOK : Hid (PXok X) := okX
  have B4' : Hid (Below w.heap.size w w4') := B3.out.trans (hb4.mono B3.out.size)
  have HTI4 : Hid (∀ W, Below w4'.heap.size w4' W -> IsB W tq m) := fun W h => HTI.out W (hb4.trans (h.mono hb4.size))
  have HER4 : Hid (ErO w4' k a1 ev) := HER.out.keep hb4
  have HFE : Hid (ErO w4' k2 a2 fv) := hfe
  clear he hb4 hfe okX hT hIC B3 HTI HER
  go_upto_region 4 with (first
    | (have hz := HTI4; clear hz; refine wpList_store_Row rfl 27 (.tmp 9) (.tmp 31) rfl w4'.heap.size 27 0 zInf IC (Row.at w4' _ _ _ _ rfl rfl) (by rw [lI]; exact Nat.le_refl _) rfl rfl (by rw [lI]; kernel_rfl) oI.out ?_; intro w4 hr4 hs4; have b4 : Below w4'.heap.size w4' w4 := hs4.below ((Below.refl _ _).alloc (Nat.le_refl _) _) (Nat.le_refl _); have B4 : Hid (Below w.heap.size w w4) := B4'.out.trans (b4.mono B4'.out.size); have R9 : Hid (Row w4 w4'.heap.size 27 IC) := row_whole hr4 (by rw [lI]; exact Nat.le_refl _); have T4 : Hid (∀ W, Below w4.heap.size w4 W -> IsB W tq m) := (fun W h => HTI4.out W (b4.trans (h.mono b4.size))); clear hr4 hs4 b4 B4' HTI4))
  generalize w4'.heap.size = g9 at *
  have her := HER4.out
  have hfe := HFE.out
  clear HER4 HFE
  go_cut [59] (fun s59 wx => ∃ wz, wz = wx /\ s59 = .bool false /\ Hid (Below w.heap.size w wz))
  case first =>
    rcases her with ⟨hk, _, rfl⟩ | ⟨hk, ge, rfl, _⟩
    · obtain ⟨x, hx, sn, so, la⟩ := apply_read (HAO.out hk)
      have hrt := HRT.out
      unfold rT at hrt
      rw [hx] at hrt
      dsimp only at hrt
      injection hrt with eX hrt
      injection hrt with ek2 ea2
      subst eX ek2 ea2
      obtain rfl : fv = .nilIface := by
        rcases hfe with h | ⟨h, _⟩
        · exact h.2.2
        · exact absurd rfl h
      obtain ⟨SN, hSN⟩ : ∃ SN, SN = (sha m).map B8 := ⟨_, rfl⟩
      obtain ⟨SO, hSO⟩ : ∃ SO, SO = (sha c).map B8 := ⟨_, rfl⟩
      have lSN : SN.length = 32 := by rw [hSN, List.length_map]; exact sha_len m
      have lSO : SO.length = 32 := by rw [hSO, List.length_map]; exact sha_len c
      have qn : ∀ w, (Op.equalIn 10000 25 (.agg SN.toArray) (.agg SN.toArray)).run Tryd.prog w = .ok true w := by rw [hSN]; exact eq_any (sha m) (sha m) (sha_len m) (sha_len m) true (by simp)
      have qo2 : ∀ w, (Op.equalIn 10000 25 (.agg SO.toArray) (.agg SO.toArray)).run Tryd.prog w = .ok true w := by rw [hSO]; exact eq_any (sha c) (sha c) (sha_len c) (sha_len c) true (by simp)
      have RI : ∀ W, Below w4.heap.size w4 W -> Row W g9 27 (infoC X) := fun W h => by have := R9.out.below h R9.out.lt; rw [HIC.out] at this; exact this
      have IN : Hid (∀ W, Below w4.heap.size w4 W -> W.rangeAt g9 32 SN) := fun W h => by rw [hSN, sn]; exact infoC_rngN (RI W h) HOK.out.lo
      have IOh : Hid (∀ W, Below w4.heap.size w4 W -> W.rangeAt g9 0 SO) := fun W h => by rw [hSO, so]; exact infoC_rngO (RI W h)
      have I65 : Hid (∀ W, Below w4.heap.size w4 W -> W.cell? ⟨g9, 65, none⟩ = some (.int .i64 (m.length : Int))) := fun W h => by rw [la]; exact (RI W h).cell 65 _ (infoC_at HOK.out.lo HOK.out.ln 1)
      have SB : Hid (∀ W, Below w4.heap.size w4 W -> Calls Tryd.prog 18 #[.slice tq m.length tc] W fun e w' => e = .returned (.agg SN.toArray) /\ Below W.heap.size W w') := fun W h => by rw [hSN]; exact of_any tq tc m W (T4.out W h) htc (by omega)
      have ST : Hid (∀ W, Below w4.heap.size w4 W -> Calls Tryd.prog 18 #[.slice co c.length cc] W fun e w' => e = .returned (.agg SO.toArray) /\ Below W.heap.size W w') := fun W h => by
        have hc := (KR.out W (B4.out.trans (h.mono B4.out.size))).c
        rw [hSO]; exact of_any co cc c W hc.isb hc.cap (by have := hc.len; omega)
      clear hSN hSO sn so la hx hfe RI HRT HAO HM0 HIC HOK R9 T4
      refine wp_region_inv (ITE4N w4 0 g9 tq co m.length tc c.length cc SN SO 0 _ _ _ _ _ _ _ _ _ _ _ _ _ _ _ _ _ _ _ _ _ _ _ _ _ _ _ _ _ _ _ _ _ _ _ _ _ _ _ _ _ _ _ _ _ _ _ _ _ _ _ _ _ _ _ _ _ _ _ _ _ _ _ _ _ _ _ _ _ _ _ _ _ _ _ _ _ _ _ _ _ _ _ _ _ _ _ _ _ _ _ _ _ _ _ _ _ _ _ _ _ _ _ _ _ _ _ _ _ _ _ _ _ _ _ _ _ _ _ _ _ _ _ _) (by kernel_rfl) (by kernel_rfl) ⟨_, _, _, _, _, _, _, _, _, _, _, _, _, _, _, _, _, _, _, _, _, _, _, _, _, _, _, rfl, ⟨(Below.refl _ _).drew, fun k => (by cases k), fun k => (by cases k), fun k => (by cases k), fun k => (by cases k), fun k => (by cases k), fun k => (by cases k), fun k => (by cases k), fun k => (by cases k), fun k => (by cases k), fun k => (by cases k), fun k => (by cases k), fun k => (by cases k), fun k => (by cases k), fun k => (by cases k), fun k => (by cases k), fun k => (by cases k), fun k => (by cases k), fun k => (by cases k), fun k => (by cases k), fun k => (by cases k), fun k => (by cases k), fun k => (by cases k), fun k => (by cases k), fun k => (by cases k), fun k => (by cases k), fun k => (by cases k), fun k => (by cases k)⟩⟩ ?_ ?_
      · refine .cons ?_ (.cons ?_ (.cons ?_ (.cons ?_ (.cons ?_ (.cons ?_ (.cons ?_ (.cons ?_ (.cons ?_ (.cons ?_ (.cons ?_ (.cons ?_ (.cons ?_ (.cons ?_ (.cons ?_ (.cons ?_ (.cons ?_ (.cons ?_ (.cons ?_ (.cons ?_ (.cons ?_ (.cons ?_ (.cons ?_ (.cons ?_ (.cons ?_ (.cons ?_ (.cons ?_ .nil))))))))))))))))))))))))))
        all_goals (refine TE4N.step ?_; intro x33 x34 x35 x36 x37 x38 x39 x40 x41 x42 x43 x44 x45 x46 x47 x48 x49 x50 x51 x52 x53 x54 x55 x56 x57 x58 x59 L W hI hL hd K hK)
        · rw [if_pos (by rfl)]
          go_simp
          exact hK.out _ _ ⟨_, _, _, _, _, _, _, _, _, _, _, _, _, _, _, _, _, _, _, _, _, _, _, _, _, _, _, rfl, { hI with p0 := fun _ => rfl }⟩
        · obtain rfl := hI.p0 (hd 0 (by decide))
          rw [if_pos (by rfl)]
          go_simp
          exact hK.out _ _ ⟨_, _, _, _, _, _, _, _, _, _, _, _, _, _, _, _, _, _, _, _, _, _, _, _, _, _, _, rfl, { hI with p1 := fun _ => rfl }⟩
        · obtain rfl := hI.p1 (hd 1 (by decide))
          rw [if_pos (by rfl)]
          go_simp
          exact hK.out _ _ ⟨_, _, _, _, _, _, _, _, _, _, _, _, _, _, _, _, _, _, _, _, _, _, _, _, _, _, _, rfl, { hI with p2 := fun _ => rfl }⟩
        · obtain rfl := hI.p2 (hd 2 (by decide))
          rw [if_pos (by rfl)]
          go_simp
          exact hK.out _ _ ⟨_, _, _, _, _, _, _, _, _, _, _, _, _, _, _, _, _, _, _, _, _, _, _, _, _, _, _, rfl, { hI with p3 := fun _ => rfl }⟩
        · obtain rfl := hI.p3 (hd 3 (by decide))
          obtain rfl := hI.p2 (hd 2 (by decide))
          rw [if_pos (by rfl)]
          go_simp
          exact hK.out _ _ ⟨_, _, _, _, _, _, _, _, _, _, _, _, _, _, _, _, _, _, _, _, _, _, _, _, _, _, _, rfl, { hI with p4 := fun _ => rfl }⟩
        · obtain rfl := hI.p4 (hd 4 (by decide))
          obtain rfl := hI.p2 (hd 2 (by decide))
          rw [if_pos (by rfl)]
          go_simp
          exact hK.out _ _ ⟨_, _, _, _, _, _, _, _, _, _, _, _, _, _, _, _, _, _, _, _, _, _, _, _, _, _, _, rfl, { hI with p5 := fun _ => rfl }⟩
        · obtain rfl := hI.p5 (hd 5 (by decide))
          rw [if_pos (by rfl)]
          go_simp
          exact hK.out _ _ ⟨_, _, _, _, _, _, _, _, _, _, _, _, _, _, _, _, _, _, _, _, _, _, _, _, _, _, _, rfl, { hI with p6 := fun _ => rfl }⟩
        · obtain rfl := hI.p6 (hd 6 (by decide))
          obtain rfl := hI.p5 (hd 5 (by decide))
          rw [if_pos (by rfl)]
          go_simp
          refine (SB.out _ hI.x).mono ?_
          rintro e W2 ⟨rfl, b2⟩
          go_simp
          have hX := hI.x.trans (b2.mono hI.x.size)
          exact hK.out _ _ ⟨_, _, _, _, _, _, _, _, _, _, _, _, _, _, _, _, _, _, _, _, _, _, _, _, _, _, _, rfl, { hI with x := hX, p7 := fun _ => rfl }⟩
        · obtain rfl := hI.p5 (hd 5 (by decide))
          rw [if_pos (by rfl)]
          go_simp
          exact hK.out _ _ ⟨_, _, _, _, _, _, _, _, _, _, _, _, _, _, _, _, _, _, _, _, _, _, _, _, _, _, _, rfl, { hI with p8 := fun _ => rfl }⟩
        · obtain rfl := hI.p8 (hd 8 (by decide))
          obtain rfl := hI.p5 (hd 5 (by decide))
          refine step_load_rng25 (by rfl) 25 _ rfl g9 32 SN (IN.out _ hI.x) rfl _ Tryd.underlying25 rfl (by rw [lSN]; kernel_rfl) ?_
          exact hK.out _ _ ⟨_, _, _, _, _, _, _, _, _, _, _, _, _, _, _, _, _, _, _, _, _, _, _, _, _, _, _, rfl, { hI with p9 := fun _ => rfl }⟩
        · obtain rfl := hI.p7 (hd 7 (by decide))
          obtain rfl := hI.p9 (hd 9 (by decide))
          obtain rfl := hI.p5 (hd 5 (by decide))
          rw [if_pos (by rfl)]
          go_simp
          exact hK.out _ _ ⟨_, _, _, _, _, _, _, _, _, _, _, _, _, _, _, _, _, _, _, _, _, _, _, _, _, _, _, rfl, { hI with p10 := fun _ => rfl }⟩
        · obtain rfl := hI.p5 (hd 5 (by decide))
          obtain rfl := hI.p10 (hd 10 (by decide))
          obtain rfl := hI.p2 (hd 2 (by decide))
          rw [if_pos (by rfl)]
          go_simp
          exact hK.out _ _ ⟨_, _, _, _, _, _, _, _, _, _, _, _, _, _, _, _, _, _, _, _, _, _, _, _, _, _, _, rfl, { hI with p11 := fun _ => rfl }⟩
        · obtain rfl := hI.p11 (hd 11 (by decide))
          obtain rfl := hI.p2 (hd 2 (by decide))
          rw [if_pos (by rfl)]
          go_simp
          exact hK.out _ _ ⟨_, _, _, _, _, _, _, _, _, _, _, _, _, _, _, _, _, _, _, _, _, _, _, _, _, _, _, rfl, { hI with p12 := fun _ => rfl }⟩
        · obtain rfl := hI.p12 (hd 12 (by decide))
          rw [if_pos (by rfl)]
          go_simp
          exact hK.out _ _ ⟨_, _, _, _, _, _, _, _, _, _, _, _, _, _, _, _, _, _, _, _, _, _, _, _, _, _, _, rfl, { hI with p13 := fun _ => rfl }⟩
        · obtain rfl := hI.p13 (hd 13 (by decide))
          obtain rfl := hI.p12 (hd 12 (by decide))
          rw [if_pos (by rfl)]
          go_simp
          refine (ST.out _ hI.x).mono ?_
          rintro e W2 ⟨rfl, b2⟩
          go_simp
          have hX := hI.x.trans (b2.mono hI.x.size)
          exact hK.out _ _ ⟨_, _, _, _, _, _, _, _, _, _, _, _, _, _, _, _, _, _, _, _, _, _, _, _, _, _, _, rfl, { hI with x := hX, p14 := fun _ => rfl }⟩
        · obtain rfl := hI.p12 (hd 12 (by decide))
          rw [if_pos (by rfl)]
          go_simp
          exact hK.out _ _ ⟨_, _, _, _, _, _, _, _, _, _, _, _, _, _, _, _, _, _, _, _, _, _, _, _, _, _, _, rfl, { hI with p15 := fun _ => rfl }⟩
        · obtain rfl := hI.p15 (hd 15 (by decide))
          obtain rfl := hI.p12 (hd 12 (by decide))
          refine step_load_rng25 (by rfl) 25 _ rfl g9 0 SO (IOh.out _ hI.x) rfl _ Tryd.underlying25 rfl (by rw [lSO]; kernel_rfl) ?_
          exact hK.out _ _ ⟨_, _, _, _, _, _, _, _, _, _, _, _, _, _, _, _, _, _, _, _, _, _, _, _, _, _, _, rfl, { hI with p16 := fun _ => rfl }⟩
        · obtain rfl := hI.p14 (hd 14 (by decide))
          obtain rfl := hI.p16 (hd 16 (by decide))
          obtain rfl := hI.p12 (hd 12 (by decide))
          rw [if_pos (by rfl)]
          go_simp
          exact hK.out _ _ ⟨_, _, _, _, _, _, _, _, _, _, _, _, _, _, _, _, _, _, _, _, _, _, _, _, _, _, _, rfl, { hI with p17 := fun _ => rfl }⟩
        · obtain rfl := hI.p12 (hd 12 (by decide))
          obtain rfl := hI.p17 (hd 17 (by decide))
          obtain rfl := hI.p2 (hd 2 (by decide))
          rw [if_pos (by rfl)]
          go_simp
          exact hK.out _ _ ⟨_, _, _, _, _, _, _, _, _, _, _, _, _, _, _, _, _, _, _, _, _, _, _, _, _, _, _, rfl, { hI with p18 := fun _ => rfl }⟩
        · obtain rfl := hI.p18 (hd 18 (by decide))
          obtain rfl := hI.p2 (hd 2 (by decide))
          rw [if_pos (by rfl)]
          go_simp
          exact hK.out _ _ ⟨_, _, _, _, _, _, _, _, _, _, _, _, _, _, _, _, _, _, _, _, _, _, _, _, _, _, _, rfl, { hI with p19 := fun _ => rfl }⟩
        · obtain rfl := hI.p19 (hd 19 (by decide))
          rw [if_pos (by rfl)]
          go_simp
          exact hK.out _ _ ⟨_, _, _, _, _, _, _, _, _, _, _, _, _, _, _, _, _, _, _, _, _, _, _, _, _, _, _, rfl, { hI with p20 := fun _ => rfl }⟩
        · obtain rfl := hI.p20 (hd 20 (by decide))
          obtain rfl := hI.p19 (hd 19 (by decide))
          rw [if_pos (by rfl)]
          go_simp
          exact hK.out _ _ ⟨_, _, _, _, _, _, _, _, _, _, _, _, _, _, _, _, _, _, _, _, _, _, _, _, _, _, _, rfl, { hI with p21 := fun _ => rfl }⟩
        · obtain rfl := hI.p19 (hd 19 (by decide))
          rw [if_pos (by rfl)]
          go_simp
          exact hK.out _ _ ⟨_, _, _, _, _, _, _, _, _, _, _, _, _, _, _, _, _, _, _, _, _, _, _, _, _, _, _, rfl, { hI with p22 := fun _ => rfl }⟩
        · obtain rfl := hI.p22 (hd 22 (by decide))
          obtain rfl := hI.p19 (hd 19 (by decide))
          rw [if_pos (by rfl)]
          have hc := I65.out _ hI.x
          go_simp
          exact hK.out _ _ ⟨_, _, _, _, _, _, _, _, _, _, _, _, _, _, _, _, _, _, _, _, _, _, _, _, _, _, _, rfl, { hI with p23 := fun _ => rfl }⟩
        · obtain rfl := hI.p21 (hd 21 (by decide))
          obtain rfl := hI.p23 (hd 23 (by decide))
          obtain rfl := hI.p19 (hd 19 (by decide))
          rw [if_pos (by rfl)]
          go_simp
          exact hK.out _ _ ⟨_, _, _, _, _, _, _, _, _, _, _, _, _, _, _, _, _, _, _, _, _, _, _, _, _, _, _, rfl, { hI with p24 := fun _ => rfl }⟩
        · obtain rfl := hI.p19 (hd 19 (by decide))
          obtain rfl := hI.p24 (hd 24 (by decide))
          obtain rfl := hI.p2 (hd 2 (by decide))
          rw [if_pos (by rfl)]
          go_simp
          exact hK.out _ _ ⟨_, _, _, _, _, _, _, _, _, _, _, _, _, _, _, _, _, _, _, _, _, _, _, _, _, _, _, rfl, { hI with p25 := fun _ => rfl }⟩
        · obtain rfl := hI.p2 (hd 2 (by decide))
          obtain rfl := hI.p25 (hd 25 (by decide))
          rw [if_pos (by rfl)]
          go_simp
          exact hK.out _ _ ⟨_, _, _, _, _, _, _, _, _, _, _, _, _, _, _, _, _, _, _, _, _, _, _, _, _, _, _, rfl, { hI with p26 := fun _ => rfl }⟩
      · rintro L _ W hall ⟨x33, x34, x35, x36, x37, x38, x39, x40, x41, x42, x43, x44, x45, x46, x47, x48, x49, x50, x51, x52, x53, x54, x55, x56, x57, x58, x59, rfl, hI⟩
        obtain rfl := hI.p0 (hall 0 (by decide))
        obtain rfl := hI.p1 (hall 1 (by decide))
        obtain rfl := hI.p2 (hall 2 (by decide))
        obtain rfl := hI.p3 (hall 3 (by decide))
        obtain rfl := hI.p4 (hall 4 (by decide))
        obtain rfl := hI.p5 (hall 5 (by decide))
        obtain rfl := hI.p6 (hall 6 (by decide))
        obtain rfl := hI.p7 (hall 7 (by decide))
        obtain rfl := hI.p8 (hall 8 (by decide))
        obtain rfl := hI.p9 (hall 9 (by decide))
        obtain rfl := hI.p10 (hall 10 (by decide))
        obtain rfl := hI.p11 (hall 11 (by decide))
        obtain rfl := hI.p12 (hall 12 (by decide))
        obtain rfl := hI.p13 (hall 13 (by decide))
        obtain rfl := hI.p14 (hall 14 (by decide))
        obtain rfl := hI.p15 (hall 15 (by decide))
        obtain rfl := hI.p16 (hall 16 (by decide))
        obtain rfl := hI.p17 (hall 17 (by decide))
        obtain rfl := hI.p18 (hall 18 (by decide))
        obtain rfl := hI.p19 (hall 19 (by decide))
        obtain rfl := hI.p20 (hall 20 (by decide))
        obtain rfl := hI.p21 (hall 21 (by decide))
        obtain rfl := hI.p22 (hall 22 (by decide))
        obtain rfl := hI.p23 (hall 23 (by decide))
        obtain rfl := hI.p24 (hall 24 (by decide))
        obtain rfl := hI.p25 (hall 25 (by decide))
        obtain rfl := hI.p26 (hall 26 (by decide))
        have hXe := hI.x
        clear hI hall
        try dsimp only
        go_wp2
        go_meet
        case rel => exact ⟨_, rfl, rfl, B4.out.trans (hXe.mono B4.out.size)⟩
    · have oo2 : Option Addr := none
      clear hfe HRT HAO HM0 HIC HOK R9 T4
      refine wp_region_inv (ITE4E w4 ge g9 tq oo2 0 tc 0 0 [] [] 0 _ _ _ _ _ _ _ _ _ _ _ _ _ _ _ _ _ _ _ _ _ _ _ _ _ _ _ _ _ _ _ _ _ _ _ _ _ _ _ _ _ _ _ _ _ _ _ _ _ _ _ _ _ _ _ _ _ _ _ _ _ _ _ _ _ _ _ _ _ _ _ _ _ _ _ _ _ _ _ _ _ _ _ _ _ _ _ _ _ _ _ _ _ _ _ _ _ _ _ _ _ _ _ _ _ _ _ _ _ _ _ _ _ _ _ _ _ _ _ _ _ _ _ _) (by kernel_rfl) (by kernel_rfl) ⟨_, _, _, _, _, _, _, _, _, _, _, _, _, _, _, _, _, _, _, _, _, _, _, _, _, _, _, rfl, ⟨(Below.refl _ _).drew, fun k => (by cases k), fun k => (by cases k), fun k => (by cases k), fun k => (by cases k), fun k => (by cases k), fun k => (by cases k), fun k => (by cases k)⟩⟩ ?_ ?_
      · refine .cons ?_ (.cons ?_ (.cons ?_ (.cons ?_ (.cons ?_ (.cons ?_ (.cons ?_ (.cons ?_ (.cons ?_ (.cons ?_ (.cons ?_ (.cons ?_ (.cons ?_ (.cons ?_ (.cons ?_ (.cons ?_ (.cons ?_ (.cons ?_ (.cons ?_ (.cons ?_ (.cons ?_ (.cons ?_ (.cons ?_ (.cons ?_ (.cons ?_ (.cons ?_ (.cons ?_ .nil))))))))))))))))))))))))))
        all_goals (refine TE4E.step ?_; intro x33 x34 x35 x36 x37 x38 x39 x40 x41 x42 x43 x44 x45 x46 x47 x48 x49 x50 x51 x52 x53 x54 x55 x56 x57 x58 x59 L W hI hL hd K hK)
        · rw [if_pos (by rfl)]
          go_simp
          exact hK.out _ _ ⟨_, _, _, _, _, _, _, _, _, _, _, _, _, _, _, _, _, _, _, _, _, _, _, _, _, _, _, rfl, { hI with p0 := fun _ => rfl }⟩
        · obtain rfl := hI.p0 (hd 0 (by decide))
          rw [if_pos (by rfl)]
          go_simp
          exact hK.out _ _ ⟨_, _, _, _, _, _, _, _, _, _, _, _, _, _, _, _, _, _, _, _, _, _, _, _, _, _, _, rfl, { hI with p1 := fun _ => rfl }⟩
        · obtain rfl := hI.p1 (hd 1 (by decide))
          rw [if_pos (by rfl)]
          go_simp
          exact hK.out _ _ ⟨_, _, _, _, _, _, _, _, _, _, _, _, _, _, _, _, _, _, _, _, _, _, _, _, _, _, _, rfl, { hI with p2 := fun _ => rfl }⟩
        · obtain rfl := hI.p2 (hd 2 (by decide))
          rw [if_neg (by first | decide | exact Bool.false_ne_true)]
          exact hK.out _ _ ⟨_, _, _, _, _, _, _, _, _, _, _, _, _, _, _, _, _, _, _, _, _, _, _, _, _, _, _, rfl, { hI with }⟩
        · obtain rfl := hI.p2 (hd 2 (by decide))
          rw [if_neg (by first | decide | exact Bool.false_ne_true)]
          exact hK.out _ _ ⟨_, _, _, _, _, _, _, _, _, _, _, _, _, _, _, _, _, _, _, _, _, _, _, _, _, _, _, rfl, { hI with }⟩
        · obtain rfl := hI.p2 (hd 2 (by decide))
          rw [if_neg (by first | decide | exact Bool.false_ne_true)]
          exact hK.out _ _ ⟨_, _, _, _, _, _, _, _, _, _, _, _, _, _, _, _, _, _, _, _, _, _, _, _, _, _, _, rfl, { hI with p5 := fun _ => rfl }⟩
        · obtain rfl := hI.p5 (hd 5 (by decide))
          rw [if_neg (by first | decide | exact Bool.false_ne_true)]
          exact hK.out _ _ ⟨_, _, _, _, _, _, _, _, _, _, _, _, _, _, _, _, _, _, _, _, _, _, _, _, _, _, _, rfl, { hI with }⟩
        · obtain rfl := hI.p5 (hd 5 (by decide))
          rw [if_neg (by first | decide | exact Bool.false_ne_true)]
          exact hK.out _ _ ⟨_, _, _, _, _, _, _, _, _, _, _, _, _, _, _, _, _, _, _, _, _, _, _, _, _, _, _, rfl, { hI with }⟩
        · obtain rfl := hI.p5 (hd 5 (by decide))
          rw [if_neg (by first | decide | exact Bool.false_ne_true)]
          exact hK.out _ _ ⟨_, _, _, _, _, _, _, _, _, _, _, _, _, _, _, _, _, _, _, _, _, _, _, _, _, _, _, rfl, { hI with }⟩
        · obtain rfl := hI.p5 (hd 5 (by decide))
          rw [if_neg (by first | decide | exact Bool.false_ne_true)]
          exact hK.out _ _ ⟨_, _, _, _, _, _, _, _, _, _, _, _, _, _, _, _, _, _, _, _, _, _, _, _, _, _, _, rfl, { hI with }⟩
        · obtain rfl := hI.p5 (hd 5 (by decide))
          rw [if_neg (by first | decide | exact Bool.false_ne_true)]
          exact hK.out _ _ ⟨_, _, _, _, _, _, _, _, _, _, _, _, _, _, _, _, _, _, _, _, _, _, _, _, _, _, _, rfl, { hI with }⟩
        · obtain rfl := hI.p5 (hd 5 (by decide))
          obtain rfl := hI.p2 (hd 2 (by decide))
          rw [if_neg (by first | decide | exact Bool.false_ne_true)]
          exact hK.out _ _ ⟨_, _, _, _, _, _, _, _, _, _, _, _, _, _, _, _, _, _, _, _, _, _, _, _, _, _, _, rfl, { hI with }⟩
        · obtain rfl := hI.p2 (hd 2 (by decide))
          rw [if_neg (by first | decide | exact Bool.false_ne_true)]
          exact hK.out _ _ ⟨_, _, _, _, _, _, _, _, _, _, _, _, _, _, _, _, _, _, _, _, _, _, _, _, _, _, _, rfl, { hI with p12 := fun _ => rfl }⟩
        · obtain rfl := hI.p12 (hd 12 (by decide))
          rw [if_neg (by first | decide | exact Bool.false_ne_true)]
          exact hK.out _ _ ⟨_, _, _, _, _, _, _, _, _, _, _, _, _, _, _, _, _, _, _, _, _, _, _, _, _, _, _, rfl, { hI with }⟩
        · obtain rfl := hI.p12 (hd 12 (by decide))
          rw [if_neg (by first | decide | exact Bool.false_ne_true)]
          exact hK.out _ _ ⟨_, _, _, _, _, _, _, _, _, _, _, _, _, _, _, _, _, _, _, _, _, _, _, _, _, _, _, rfl, { hI with }⟩
        · obtain rfl := hI.p12 (hd 12 (by decide))
          rw [if_neg (by first | decide | exact Bool.false_ne_true)]
          exact hK.out _ _ ⟨_, _, _, _, _, _, _, _, _, _, _, _, _, _, _, _, _, _, _, _, _, _, _, _, _, _, _, rfl, { hI with }⟩
        · obtain rfl := hI.p12 (hd 12 (by decide))
          rw [if_neg (by first | decide | exact Bool.false_ne_true)]
          exact hK.out _ _ ⟨_, _, _, _, _, _, _, _, _, _, _, _, _, _, _, _, _, _, _, _, _, _, _, _, _, _, _, rfl, { hI with }⟩
        · obtain rfl := hI.p12 (hd 12 (by decide))
          rw [if_neg (by first | decide | exact Bool.false_ne_true)]
          exact hK.out _ _ ⟨_, _, _, _, _, _, _, _, _, _, _, _, _, _, _, _, _, _, _, _, _, _, _, _, _, _, _, rfl, { hI with }⟩
        · obtain rfl := hI.p12 (hd 12 (by decide))
          obtain rfl := hI.p2 (hd 2 (by decide))
          rw [if_neg (by first | decide | exact Bool.false_ne_true)]
          exact hK.out _ _ ⟨_, _, _, _, _, _, _, _, _, _, _, _, _, _, _, _, _, _, _, _, _, _, _, _, _, _, _, rfl, { hI with }⟩
        · obtain rfl := hI.p2 (hd 2 (by decide))
          rw [if_neg (by first | decide | exact Bool.false_ne_true)]
          exact hK.out _ _ ⟨_, _, _, _, _, _, _, _, _, _, _, _, _, _, _, _, _, _, _, _, _, _, _, _, _, _, _, rfl, { hI with p19 := fun _ => rfl }⟩
        · obtain rfl := hI.p19 (hd 19 (by decide))
          rw [if_neg (by first | decide | exact Bool.false_ne_true)]
          exact hK.out _ _ ⟨_, _, _, _, _, _, _, _, _, _, _, _, _, _, _, _, _, _, _, _, _, _, _, _, _, _, _, rfl, { hI with }⟩
        · obtain rfl := hI.p19 (hd 19 (by decide))
          rw [if_neg (by first | decide | exact Bool.false_ne_true)]
          exact hK.out _ _ ⟨_, _, _, _, _, _, _, _, _, _, _, _, _, _, _, _, _, _, _, _, _, _, _, _, _, _, _, rfl, { hI with }⟩
        · obtain rfl := hI.p19 (hd 19 (by decide))
          rw [if_neg (by first | decide | exact Bool.false_ne_true)]
          exact hK.out _ _ ⟨_, _, _, _, _, _, _, _, _, _, _, _, _, _, _, _, _, _, _, _, _, _, _, _, _, _, _, rfl, { hI with }⟩
        · obtain rfl := hI.p19 (hd 19 (by decide))
          rw [if_neg (by first | decide | exact Bool.false_ne_true)]
          exact hK.out _ _ ⟨_, _, _, _, _, _, _, _, _, _, _, _, _, _, _, _, _, _, _, _, _, _, _, _, _, _, _, rfl, { hI with }⟩
        · obtain rfl := hI.p19 (hd 19 (by decide))
          rw [if_neg (by first | decide | exact Bool.false_ne_true)]
          exact hK.out _ _ ⟨_, _, _, _, _, _, _, _, _, _, _, _, _, _, _, _, _, _, _, _, _, _, _, _, _, _, _, rfl, { hI with }⟩
        · obtain rfl := hI.p19 (hd 19 (by decide))
          obtain rfl := hI.p2 (hd 2 (by decide))
          rw [if_neg (by first | decide | exact Bool.false_ne_true)]
          exact hK.out _ _ ⟨_, _, _, _, _, _, _, _, _, _, _, _, _, _, _, _, _, _, _, _, _, _, _, _, _, _, _, rfl, { hI with }⟩
        · obtain rfl := hI.p2 (hd 2 (by decide))
          rw [if_pos (by rfl)]
          go_simp
          exact hK.out _ _ ⟨_, _, _, _, _, _, _, _, _, _, _, _, _, _, _, _, _, _, _, _, _, _, _, _, _, _, _, rfl, { hI with p26 := fun _ => rfl }⟩
      · rintro L _ W hall ⟨x33, x34, x35, x36, x37, x38, x39, x40, x41, x42, x43, x44, x45, x46, x47, x48, x49, x50, x51, x52, x53, x54, x55, x56, x57, x58, x59, rfl, hI⟩
        obtain rfl := hI.p0 (hall 0 (by decide))
        obtain rfl := hI.p1 (hall 1 (by decide))
        obtain rfl := hI.p2 (hall 2 (by decide))
        obtain rfl := hI.p5 (hall 5 (by decide))
        obtain rfl := hI.p12 (hall 12 (by decide))
        obtain rfl := hI.p19 (hall 19 (by decide))
        obtain rfl := hI.p26 (hall 26 (by decide))
        have hXe := hI.x
        clear hI hall
        try dsimp only
        go_wp2
        go_meet
        case rel => exact ⟨_, rfl, rfl, B4.out.trans (hXe.mono B4.out.size)⟩
  case rest =>
    obtain ⟨w5, hw5, rfl, B5⟩ := hcut
    subst hw5
    clear hfe HRT HIC HOK R9 T4 HAO B4
    go_upto_region 6 with fail
    go_cut [66] (fun s66 wx => ∃ wz, wz = wx /\ s66 = .bool false /\ Hid (Below w.heap.size w wz))
    case first =>
      rcases her with ⟨hk, _, rfl⟩ | ⟨hk, ge, rfl, _⟩
      · go_wp2
        go_meet
        case rel => exact ⟨_, rfl, rfl, B5⟩
      · have hm0 := HM0.out hk
        have ym : ¬ (0 : Int) < (m.length : Int) := by omega
        have ym' : decide (0 < m.length) = false := by rw [decide_eq_false_iff_not]; omega
        clear hm0 HM0
        go_wp2
        go_meet
        case rel => exact ⟨_, rfl, rfl, B5⟩
    case rest =>
      obtain ⟨w6, hw6, rfl, B6⟩ := hcut
      subst hw6
      clear her HM0 B5
      go_wp2_with fail
      refine (HP.out.mk' (HGB.out _ B6.out) (KR.out _ B6.out).a (KR.out _ B6.out).b).mono ?_
      rintro e w7 ⟨hb7, pv, hpv, rfl⟩
      have B7 : Hid (Below w.heap.size w w7) := B6.out.trans (hb7.mono B6.out.size)
      clear hb7 B6
      dsimp only
      by_cases la : a.length <= 524288
      · by_cases lb : b.length <= 524288
        · rw [if_pos ⟨la, lb⟩] at hpv
          rw [if_pos ⟨la, lb⟩]
          obtain ⟨po, pc, rfl, hpi⟩ := hpv.rowIn (HP.out.mlen la lb)
          have HA1 : Hid (aT a (M a b) = (b, 0, 0)) := by show _ = _; unfold aT; rw [apply_madeT HP.out la lb]
          have HA2 : Hid (c.length ≠ a.length ∨ sha c ≠ sha a -> aT c (M a b) = ([], 11, 5)) := fun h => by unfold aT; rw [apply_otherT HP.out la lb h]
          obtain ⟨pp, hpp⟩ : ∃ pp, pp = M a b := ⟨_, rfl⟩
          rw [<- hpp] at hpi HA1 HA2 ⊢
          have KP : Hid (∀ W, Below w7.heap.size w7 W -> RowIn W po pc pp) := fun W h => hpi.keep h
          clear hpv hpi hpp la lb
          go_wp2_with fail
          refine (HP.out.ap (HGB.out _ B7.out) (KR.out _ B7.out).a (KP.out _ (Below.refl _ _))).mono ?_
          intro e w8 he
          obtain ⟨hb8, gv, ev, rfl, hgv, her⟩ := cap_uni he
          rw [HA1.out] at hgv her
          dsimp only at hgv her
          obtain ⟨_, _, rfl⟩ : (0 : Nat) = 0 /\ (0 : Nat) = 0 /\ ev = .nilIface := by
            rcases her with h | ⟨h, _⟩
            · exact h
            · exact absurd rfl h
          obtain ⟨go, gc, rfl, hgi, _, _⟩ := hgv.eq
          have B8 : Hid (Below w.heap.size w w8) := B7.out.trans (hb8.mono B7.out.size)
          have KP8 : Hid (∀ W, Below w8.heap.size w8 W -> RowIn W po pc pp) := fun W h => KP.out W (hb8.trans (h.mono hb8.size))
          have cv1 := conv_bytes w8 go b.length gc b rfl hgi
          have cv2 := conv_bytes w8 bo b.length bc b rfl (KR.out _ B8.out).b.isb
          generalize strOf b = Sb at *
          clear he hb8 hgv her hgi B7 KP
          dsimp only
          go_wp2_with fail
          refine (HP.out.ap (HGB.out _ B8.out) (KR.out _ B8.out).c (KP8.out _ (Below.refl _ _))).mono ?_
          intro e w9 he
          obtain ⟨hb9, tv, ev, rfl, htv, her⟩ := cap_uni he
          have B9 : Hid (Below w.heap.size w w9) := B8.out.trans (hb9.mono B8.out.size)
          clear he hb9 cv1 cv2 B8 KP8
          dsimp only
          have CV0 : Hid (∀ W, Below w.heap.size w W -> (convert 23 9 (.slice co c.length cc)).run Tryd.prog W = .ok (.string (strOf c)) W /\ (convert 23 9 (.slice ao a.length ac)).run Tryd.prog W = .ok (.string (strOf a)) W) := fun W h => ⟨conv_bytes W co c.length cc c rfl (KR.out W h).c.isb, conv_bytes W ao a.length ac a rfl (KR.out W h).a.isb⟩
          by_cases hca : c = a
          · have hcl : c.length = a.length := by rw [hca]
            have h1 : aT c pp = (b, 0, 0) := by rw [hca]; exact HA1.out
            have hst : strOf a = strOf c := by rw [hca]
            rw [h1] at her
            obtain rfl : ev = .nilIface := by
              rcases her with h | ⟨h, _⟩
              · exact h.2.2
              · exact absurd rfl h
            rw [hst] at CV0
            obtain ⟨S1, hS1⟩ : ∃ S1, S1 = strOf c := ⟨_, rfl⟩
            rw [<- hS1] at CV0
            rw [<- hcl] at CV0 ⊢
            have CVS : Hid (∀ W, Below w9.heap.size w9 W -> (convert 23 9 (.slice co c.length cc)).run Tryd.prog W = .ok (.string S1) W /\ (convert 23 9 (.slice ao c.length ac)).run Tryd.prog W = .ok (.string S1) W) := fun W h => CV0.out W (B9.out.trans (h.mono B9.out.size))
            have FX9 : Hid (∀ W, Below w9.heap.size w9 W -> _) := fun W h => FX.out W (B9.out.trans (h.mono B9.out.size))
            have cv1 := (CV0.out _ B9.out).1
            have cv2 := (CV0.out _ B9.out).2
            clear hst hS1 her htv h1 HA1 HA2 CV0 KR hca hcl
            go_upto_region 17 with fail
            clear cv1 cv2
            refine wp_region_inv (ITE17N w9 0 co ao c.length cc c.length ac S1 S1 _ _ _ _ _ _ _ _ _ _ _ _ _ _ _ _ _ _ _ _ _ _ _ _ _ _ _ _ _ _ _ _ _ _ _ _ _ _ _ _ _ _ _ _ _ _ _ _ _ _ _ _ _ _ _ _ _ _ _ _ _ _ _ _ _ _ _ _ _ _ _ _ _ _ _ _ _ _ _ _ _ _ _ _ _ _ _ _ _ _ _ _ _ _ _ _ _ _ _ _ _ _ _ _ _ _ _ _ _ _ _ _ _ _ _ _ _ _ _ _ _ _ _ _ _ _ _ _ _ _) (by kernel_rfl) (by kernel_rfl) ⟨_, _, _, _, _, _, _, _, _, _, _, _, _, _, _, _, _, _, _, _, _, rfl, ⟨(Below.refl _ _).drew, fun k => (by cases k), fun k => (by cases k), fun k => (by cases k), fun k => (by cases k), fun k => (by cases k), fun k => (by cases k), fun k => (by cases k), fun k => (by cases k), fun k => (by cases k), fun k => (by cases k), fun k => (by cases k), fun k => (by cases k), fun k => (by cases k), fun k => (by cases k), fun k => (by cases k), fun k => (by cases k), fun k => (by cases k), fun k => (by cases k)⟩⟩ ?_ ?_
            · refine .cons ?_ (.cons ?_ (.cons ?_ (.cons ?_ (.cons ?_ (.cons ?_ (.cons ?_ (.cons ?_ (.cons ?_ (.cons ?_ (.cons ?_ (.cons ?_ (.cons ?_ (.cons ?_ (.cons ?_ (.cons ?_ (.cons ?_ (.cons ?_ (.cons ?_ (.cons ?_ (.cons ?_ .nil))))))))))))))))))))
              all_goals (refine TE17N.step ?_; intro x131 x132 x133 x134 x135 x136 x137 x138 x139 x140 x141 x142 x143 x144 x145 x146 x147 x148 x149 x150 x2 L W hI hL hd K hK)
              · rw [if_pos (by rfl)]
                go_simp
                exact hK.out _ _ ⟨_, _, _, _, _, _, _, _, _, _, _, _, _, _, _, _, _, _, _, _, _, rfl, { hI with p0 := fun _ => rfl }⟩
              · obtain rfl := hI.p0 (hd 0 (by decide))
                rw [if_pos (by rfl)]
                go_simp
                exact hK.out _ _ ⟨_, _, _, _, _, _, _, _, _, _, _, _, _, _, _, _, _, _, _, _, _, rfl, { hI with p1 := fun _ => rfl }⟩
              · rw [if_pos (by rfl)]
                go_simp
                exact hK.out _ _ ⟨_, _, _, _, _, _, _, _, _, _, _, _, _, _, _, _, _, _, _, _, _, rfl, { hI with p2 := fun _ => rfl }⟩
              · obtain rfl := hI.p2 (hd 2 (by decide))
                rw [if_pos (by rfl)]
                have hc := (CVS.out _ hI.x).1
                go_simp
                exact hK.out _ _ ⟨_, _, _, _, _, _, _, _, _, _, _, _, _, _, _, _, _, _, _, _, _, rfl, { hI with p3 := fun _ => rfl }⟩
              · rw [if_pos (by rfl)]
                go_simp
                exact hK.out _ _ ⟨_, _, _, _, _, _, _, _, _, _, _, _, _, _, _, _, _, _, _, _, _, rfl, { hI with p4 := fun _ => rfl }⟩
              · obtain rfl := hI.p4 (hd 4 (by decide))
                rw [if_pos (by rfl)]
                have hc := (CVS.out _ hI.x).2
                go_simp
                exact hK.out _ _ ⟨_, _, _, _, _, _, _, _, _, _, _, _, _, _, _, _, _, _, _, _, _, rfl, { hI with p5 := fun _ => rfl }⟩
              · obtain rfl := hI.p3 (hd 3 (by decide))
                obtain rfl := hI.p5 (hd 5 (by decide))
                rw [if_pos (by rfl)]
                go_simp
                exact hK.out _ _ ⟨_, _, _, _, _, _, _, _, _, _, _, _, _, _, _, _, _, _, _, _, _, rfl, { hI with p6 := fun _ => rfl }⟩
              · obtain rfl := hI.p1 (hd 1 (by decide))
                obtain rfl := hI.p6 (hd 6 (by decide))
                rw [if_pos (by rfl)]
                go_simp
                exact hK.out _ _ ⟨_, _, _, _, _, _, _, _, _, _, _, _, _, _, _, _, _, _, _, _, _, rfl, { hI with p7 := fun _ => rfl }⟩
              · obtain rfl := hI.p7 (hd 7 (by decide))
                rw [if_pos (by rfl)]
                go_simp
                exact hK.out _ _ ⟨_, _, _, _, _, _, _, _, _, _, _, _, _, _, _, _, _, _, _, _, _, rfl, { hI with p8 := fun _ => rfl }⟩
              · obtain rfl := hI.p8 (hd 8 (by decide))
                rw [if_pos (by rfl)]
                go_simp
                exact hK.out _ _ ⟨_, _, _, _, _, _, _, _, _, _, _, _, _, _, _, _, _, _, _, _, _, rfl, { hI with p9 := fun _ => rfl }⟩
              · obtain rfl := hI.p9 (hd 9 (by decide))
                obtain rfl := hI.p8 (hd 8 (by decide))
                rw [if_pos (by rfl)]
                go_simp
                exact hK.out _ _ ⟨_, _, _, _, _, _, _, _, _, _, _, _, _, _, _, _, _, _, _, _, _, rfl, { hI with p10 := fun _ => rfl }⟩
              · obtain rfl := hI.p10 (hd 10 (by decide))
                obtain rfl := hI.p8 (hd 8 (by decide))
                rw [if_pos (by rfl)]
                go_simp
                exact hK.out _ _ ⟨_, _, _, _, _, _, _, _, _, _, _, _, _, _, _, _, _, _, _, _, _, rfl, { hI with p11 := fun _ => rfl }⟩
              · obtain rfl := hI.p11 (hd 11 (by decide))
                rw [if_neg (by first | decide | exact Bool.false_ne_true)]
                exact hK.out _ _ ⟨_, _, _, _, _, _, _, _, _, _, _, _, _, _, _, _, _, _, _, _, _, rfl, { hI with }⟩
              · obtain rfl := hI.p11 (hd 11 (by decide))
                rw [if_neg (by first | decide | exact Bool.false_ne_true)]
                exact hK.out _ _ ⟨_, _, _, _, _, _, _, _, _, _, _, _, _, _, _, _, _, _, _, _, _, rfl, { hI with }⟩
              · obtain rfl := hI.p11 (hd 11 (by decide))
                rw [if_neg (by first | decide | exact Bool.false_ne_true)]
                exact hK.out _ _ ⟨_, _, _, _, _, _, _, _, _, _, _, _, _, _, _, _, _, _, _, _, _, rfl, { hI with }⟩
              · obtain rfl := hI.p11 (hd 11 (by decide))
                obtain rfl := hI.p8 (hd 8 (by decide))
                rw [if_pos (by rfl)]
                go_simp
                exact hK.out _ _ ⟨_, _, _, _, _, _, _, _, _, _, _, _, _, _, _, _, _, _, _, _, _, rfl, { hI with p15 := fun _ => rfl }⟩
              · obtain rfl := hI.p8 (hd 8 (by decide))
                obtain rfl := hI.p15 (hd 15 (by decide))
                rw [if_pos (by rfl)]
                go_simp
                exact hK.out _ _ ⟨_, _, _, _, _, _, _, _, _, _, _, _, _, _, _, _, _, _, _, _, _, rfl, { hI with p16 := fun _ => rfl }⟩
              · obtain rfl := hI.p16 (hd 16 (by decide))
                rw [if_pos (by rfl)]
                go_simp
                exact hK.out _ _ ⟨_, _, _, _, _, _, _, _, _, _, _, _, _, _, _, _, _, _, _, _, _, rfl, { hI with p17 := fun _ => rfl }⟩
              · obtain rfl := hI.p17 (hd 17 (by decide))
                rw [if_pos (by rfl)]
                go_simp
                refine (FX9.out _ hI.x).mono ?_
                rintro e W2 ⟨rfl, b2⟩
                go_simp
                have hX := hI.x.trans (b2.mono hI.x.size)
                exact hK.out _ _ ⟨_, _, _, _, _, _, _, _, _, _, _, _, _, _, _, _, _, _, _, _, _, rfl, { hI with x := hX, p18 := fun _ => rfl }⟩
              · obtain rfl := hI.p17 (hd 17 (by decide))
                obtain rfl := hI.p18 (hd 18 (by decide))
                rw [if_pos (by rfl)]
                go_simp
                exact hK.out _ _ ⟨_, _, _, _, _, _, _, _, _, _, _, _, _, _, _, _, _, _, _, _, _, rfl, { hI with p19 := fun _ => rfl }⟩
              · obtain rfl := hI.p19 (hd 19 (by decide))
                rw [if_pos (by rfl)]
                go_simp
                exact hK.out _ _ ⟨_, _, _, _, _, _, _, _, _, _, _, _, _, _, _, _, _, _, _, _, _, rfl, { hI with p20 := fun _ => rfl }⟩
            · rintro L _ W hall ⟨x131, x132, x133, x134, x135, x136, x137, x138, x139, x140, x141, x142, x143, x144, x145, x146, x147, x148, x149, x150, x2, rfl, hI⟩
              obtain rfl := hI.p0 (hall 0 (by decide))
              obtain rfl := hI.p1 (hall 1 (by decide))
              obtain rfl := hI.p2 (hall 2 (by decide))
              obtain rfl := hI.p3 (hall 3 (by decide))
              obtain rfl := hI.p4 (hall 4 (by decide))
              obtain rfl := hI.p5 (hall 5 (by decide))
              obtain rfl := hI.p6 (hall 6 (by decide))
              obtain rfl := hI.p7 (hall 7 (by decide))
              obtain rfl := hI.p8 (hall 8 (by decide))
              obtain rfl := hI.p9 (hall 9 (by decide))
              obtain rfl := hI.p10 (hall 10 (by decide))
              obtain rfl := hI.p11 (hall 11 (by decide))
              obtain rfl := hI.p15 (hall 15 (by decide))
              obtain rfl := hI.p16 (hall 16 (by decide))
              obtain rfl := hI.p17 (hall 17 (by decide))
              obtain rfl := hI.p18 (hall 18 (by decide))
              obtain rfl := hI.p19 (hall 19 (by decide))
              obtain rfl := hI.p20 (hall 20 (by decide))
              have hXe := hI.x
              clear hI hall
              try dsimp only
              go_wp2
              go_ret
              exact ⟨rfl, B9.out.trans (hXe.mono B9.out.size)⟩
          · have hne := strOf_ne25 hca
            obtain ⟨S1, hS1⟩ : ∃ S1, S1 = strOf c := ⟨_, rfl⟩
            obtain ⟨S2, hS2⟩ : ∃ S2, S2 = strOf a := ⟨_, rfl⟩
            rw [<- hS1, <- hS2] at CV0 hne
            clear hS1 hS2 hca
            by_cases hcl : c.length = a.length
            · by_cases hsh : sha c = sha a
              · obtain ⟨SO, hSO⟩ : ∃ SO, SO = (sha c).map B8 := ⟨_, rfl⟩
                have qo2 : ∀ w, (Op.equalIn 10000 25 (.agg SO.toArray) (.agg SO.toArray)).run Tryd.prog w = .ok true w := by rw [hSO]; exact eq_any (sha c) (sha c) (sha_len c) (sha_len c) true (by simp)
                have SA : Hid (∀ W, Below w.heap.size w W -> Calls Tryd.prog 18 #[.slice co c.length cc] W fun e w' => e = .returned (.agg SO.toArray) /\ Below W.heap.size W w') := fun W h => by
                  have hc := (KR.out W h).c
                  rw [hSO]; exact of_any co cc c W hc.isb hc.cap (by have := hc.len; omega)
                have SB : Hid (∀ W, Below w.heap.size w W -> Calls Tryd.prog 18 #[.slice ao c.length ac] W fun e w' => e = .returned (.agg SO.toArray) /\ Below W.heap.size W w') := fun W h => by
                  have hc := (KR.out W h).a
                  rw [hSO, hsh, hcl]; exact of_any ao ac a W hc.isb hc.cap (by have := hc.len; omega)
                have cv1 := (CV0.out _ B9.out).1
                have cv2 := (CV0.out _ B9.out).2
                rw [<- hcl] at cv2 ⊢
                clear her htv HA1 HA2 CV0 KR hcl hsh hSO
                go_wp2_with (first
                  | (have hz := SA; clear hz; go_at_call 18; refine (SA.out _ B9.out).mono ?_; rintro e wA ⟨rfl, hbA⟩; have BA : Hid (Below w.heap.size w wA) := B9.out.trans (hbA.mono B9.out.size); clear hbA B9 SA)
                  | (have hz := SB; clear hz; go_at_call 18; refine (SB.out _ BA.out).mono ?_; rintro e wB ⟨rfl, hbB⟩; have BB : Hid (Below w.heap.size w wB) := BA.out.trans (hbB.mono BA.out.size); clear hbB BA SB)
                  | (have hz := BB; clear hz; go_at_call 9; refine (FX.out _ BB.out).mono ?_; rintro e wC ⟨rfl, hbC⟩; have BC : Hid (Below w.heap.size w wC) := BB.out.trans (hbC.mono BB.out.size); clear hbC BB))
                go_ret
                exact ⟨rfl, BC.out⟩
              · have h1 := HA2.out (.inr hsh)
                rw [h1] at her
                dsimp only at her
                have hev : ErrV w9 11 5 ev := by
                  rcases her with h | ⟨_, h⟩
                  · exact absurd h.1 (by omega)
                  · exact h
                obtain ⟨SO, hSO⟩ : ∃ SO, SO = (sha c).map B8 := ⟨_, rfl⟩
                obtain ⟨SN, hSN⟩ : ∃ SN, SN = (sha a).map B8 := ⟨_, rfl⟩
                have qo2 : ∀ w, (Op.equalIn 10000 25 (.agg SO.toArray) (.agg SN.toArray)).run Tryd.prog w = .ok false w := by rw [hSO, hSN]; exact eq_any (sha c) (sha a) (sha_len c) (sha_len a) false (by simp [hsh])
                have SA : Hid (∀ W, Below w.heap.size w W -> Calls Tryd.prog 18 #[.slice co c.length cc] W fun e w' => e = .returned (.agg SO.toArray) /\ Below W.heap.size W w') := fun W h => by
                  have hc := (KR.out W h).c
                  rw [hSO]; exact of_any co cc c W hc.isb hc.cap (by have := hc.len; omega)
                have SB : Hid (∀ W, Below w.heap.size w W -> Calls Tryd.prog 18 #[.slice ao c.length ac] W fun e w' => e = .returned (.agg SN.toArray) /\ Below W.heap.size W w') := fun W h => by
                  have hc := (KR.out W h).a
                  rw [hSN, hcl]; exact of_any ao ac a W hc.isb hc.cap (by have := hc.len; omega)
                have cv1 := (CV0.out _ B9.out).1
                have cv2 := (CV0.out _ B9.out).2
                rw [<- hcl] at cv2 ⊢
                rw [<- hcl] at CV0
                have HEV : Hid (ErrV w9 11 5 ev) := hev
                obtain ⟨ge, rfl, _⟩ := hev
                clear her htv h1 HA1 HA2 KR hcl hsh hSO hSN
                generalize w9 = w9' at *
                go_upto_region 17 with (first
                  | (have hz := SA; clear hz; go_at_call 18; refine (SA.out _ B9.out).mono ?_; rintro e wA ⟨rfl, hbA⟩; have BA : Hid (Below w.heap.size w wA) := B9.out.trans (hbA.mono B9.out.size); have HEA : Hid (ErrV wA 11 5 _) := HEV.out.keep hbA; clear hbA B9 SA HEV)
                  | (have hz := SB; clear hz; go_at_call 18; refine (SB.out _ BA.out).mono ?_; rintro e w9 ⟨rfl, hbB⟩; have BB : Hid (Below w.heap.size w w9) := BA.out.trans (hbB.mono BA.out.size); have HEB : Hid (ErrV w9 11 5 _) := HEA.out.keep hbB; clear hbB BA SB HEA))
                have CVS : Hid (∀ W, Below w9.heap.size w9 W -> (convert 23 9 (.slice co c.length cc)).run Tryd.prog W = .ok (.string S1) W /\ (convert 23 9 (.slice ao c.length ac)).run Tryd.prog W = .ok (.string S2) W) := fun W h => CV0.out W (BB.out.trans (h.mono BB.out.size))
                have FX9 : Hid (∀ W, Below w9.heap.size w9 W -> _) := fun W h => FX.out W (BB.out.trans (h.mono BB.out.size))
                have ISE : Hid (∀ W, Below w9.heap.size w9 W -> _) := fun W h => is_wrong W (HGB.out W (BB.out.trans (h.mono BB.out.size))) 11 5 (by omega) _ (HEB.out.keep h)
                clear cv1 cv2 qo2 HEB CV0
                refine wp_region_inv (ITE17E w9 ge co ao c.length cc c.length ac S1 S2 _ _ _ _ _ _ _ _ _ _ _ _ _ _ _ _ _ _ _ _ _ _ _ _ _ _ _ _ _ _ _ _ _ _ _ _ _ _ _ _ _ _ _ _ _ _ _ _ _ _ _ _ _ _ _ _ _ _ _ _ _ _ _ _ _ _ _ _ _ _ _ _ _ _ _ _ _ _ _ _ _ _ _ _ _ _ _ _ _ _ _ _ _ _ _ _ _ _ _ _ _ _ _ _ _ _ _ _ _ _ _ _ _ _ _ _ _ _ _ _ _ _ _ _ _ _ _ _ _ _) (by kernel_rfl) (by kernel_rfl) ⟨_, _, _, _, _, _, _, _, _, _, _, _, _, _, _, _, _, _, _, _, _, rfl, ⟨(Below.refl _ _).drew, fun k => (by cases k), fun k => (by cases k), fun k => (by cases k), fun k => (by cases k), fun k => (by cases k), fun k => (by cases k), fun k => (by cases k), fun k => (by cases k), fun k => (by cases k), fun k => (by cases k), fun k => (by cases k), fun k => (by cases k), fun k => (by cases k), fun k => (by cases k), fun k => (by cases k), fun k => (by cases k), fun k => (by cases k), fun k => (by cases k), fun k => (by cases k), fun k => (by cases k), fun k => (by cases k)⟩⟩ ?_ ?_
                · refine .cons ?_ (.cons ?_ (.cons ?_ (.cons ?_ (.cons ?_ (.cons ?_ (.cons ?_ (.cons ?_ (.cons ?_ (.cons ?_ (.cons ?_ (.cons ?_ (.cons ?_ (.cons ?_ (.cons ?_ (.cons ?_ (.cons ?_ (.cons ?_ (.cons ?_ (.cons ?_ (.cons ?_ .nil))))))))))))))))))))
                  all_goals (refine TE17E.step ?_; intro x131 x132 x133 x134 x135 x136 x137 x138 x139 x140 x141 x142 x143 x144 x145 x146 x147 x148 x149 x150 x2 L W hI hL hd K hK)
                  · rw [if_pos (by rfl)]
                    go_simp
                    exact hK.out _ _ ⟨_, _, _, _, _, _, _, _, _, _, _, _, _, _, _, _, _, _, _, _, _, rfl, { hI with p0 := fun _ => rfl }⟩
                  · obtain rfl := hI.p0 (hd 0 (by decide))
                    rw [if_pos (by rfl)]
                    go_simp
                    exact hK.out _ _ ⟨_, _, _, _, _, _, _, _, _, _, _, _, _, _, _, _, _, _, _, _, _, rfl, { hI with p1 := fun _ => rfl }⟩
                  · rw [if_pos (by rfl)]
                    go_simp
                    exact hK.out _ _ ⟨_, _, _, _, _, _, _, _, _, _, _, _, _, _, _, _, _, _, _, _, _, rfl, { hI with p2 := fun _ => rfl }⟩
                  · obtain rfl := hI.p2 (hd 2 (by decide))
                    rw [if_pos (by rfl)]
                    have hc := (CVS.out _ hI.x).1
                    go_simp
                    exact hK.out _ _ ⟨_, _, _, _, _, _, _, _, _, _, _, _, _, _, _, _, _, _, _, _, _, rfl, { hI with p3 := fun _ => rfl }⟩
                  · rw [if_pos (by rfl)]
                    go_simp
                    exact hK.out _ _ ⟨_, _, _, _, _, _, _, _, _, _, _, _, _, _, _, _, _, _, _, _, _, rfl, { hI with p4 := fun _ => rfl }⟩
                  · obtain rfl := hI.p4 (hd 4 (by decide))
                    rw [if_pos (by rfl)]
                    have hc := (CVS.out _ hI.x).2
                    go_simp
                    exact hK.out _ _ ⟨_, _, _, _, _, _, _, _, _, _, _, _, _, _, _, _, _, _, _, _, _, rfl, { hI with p5 := fun _ => rfl }⟩
                  · obtain rfl := hI.p3 (hd 3 (by decide))
                    obtain rfl := hI.p5 (hd 5 (by decide))
                    rw [if_pos (by rfl)]
                    go_simp
                    exact hK.out _ _ ⟨_, _, _, _, _, _, _, _, _, _, _, _, _, _, _, _, _, _, _, _, _, rfl, { hI with p6 := fun _ => rfl }⟩
                  · obtain rfl := hI.p1 (hd 1 (by decide))
                    obtain rfl := hI.p6 (hd 6 (by decide))
                    rw [if_pos (by rfl)]
                    go_simp
                    exact hK.out _ _ ⟨_, _, _, _, _, _, _, _, _, _, _, _, _, _, _, _, _, _, _, _, _, rfl, { hI with p7 := fun _ => rfl }⟩
                  · obtain rfl := hI.p7 (hd 7 (by decide))
                    rw [if_pos (by rfl)]
                    go_simp
                    exact hK.out _ _ ⟨_, _, _, _, _, _, _, _, _, _, _, _, _, _, _, _, _, _, _, _, _, rfl, { hI with p8 := fun _ => rfl }⟩
                  · obtain rfl := hI.p8 (hd 8 (by decide))
                    rw [if_pos (by rfl)]
                    go_simp
                    exact hK.out _ _ ⟨_, _, _, _, _, _, _, _, _, _, _, _, _, _, _, _, _, _, _, _, _, rfl, { hI with p9 := fun _ => rfl }⟩
                  · obtain rfl := hI.p9 (hd 9 (by decide))
                    obtain rfl := hI.p8 (hd 8 (by decide))
                    rw [if_pos (by rfl)]
                    go_simp
                    exact hK.out _ _ ⟨_, _, _, _, _, _, _, _, _, _, _, _, _, _, _, _, _, _, _, _, _, rfl, { hI with p10 := fun _ => rfl }⟩
                  · obtain rfl := hI.p10 (hd 10 (by decide))
                    obtain rfl := hI.p8 (hd 8 (by decide))
                    rw [if_pos (by rfl)]
                    go_simp
                    exact hK.out _ _ ⟨_, _, _, _, _, _, _, _, _, _, _, _, _, _, _, _, _, _, _, _, _, rfl, { hI with p11 := fun _ => rfl }⟩
                  · obtain rfl := hI.p11 (hd 11 (by decide))
                    rw [if_pos (by rfl)]
                    go_simp
                    exact hK.out _ _ ⟨_, _, _, _, _, _, _, _, _, _, _, _, _, _, _, _, _, _, _, _, _, rfl, { hI with p12 := fun _ => rfl }⟩
                  · obtain rfl := hI.p11 (hd 11 (by decide))
                    rw [if_pos (by rfl)]
                    go_simp
                    exact hK.out _ _ ⟨_, _, _, _, _, _, _, _, _, _, _, _, _, _, _, _, _, _, _, _, _, rfl, { hI with p13 := fun _ => rfl }⟩
                  · obtain rfl := hI.p12 (hd 12 (by decide))
                    obtain rfl := hI.p13 (hd 13 (by decide))
                    obtain rfl := hI.p11 (hd 11 (by decide))
                    rw [if_pos (by rfl)]
                    go_simp
                    refine (ISE.out _ hI.x).mono ?_
                    rintro e W2 ⟨rfl, b2⟩
                    go_simp
                    have hX := hI.x.trans (b2.mono hI.x.size)
                    exact hK.out _ _ ⟨_, _, _, _, _, _, _, _, _, _, _, _, _, _, _, _, _, _, _, _, _, rfl, { hI with x := hX, p14 := fun _ => rfl }⟩
                  · obtain rfl := hI.p11 (hd 11 (by decide))
                    obtain rfl := hI.p14 (hd 14 (by decide))
                    obtain rfl := hI.p8 (hd 8 (by decide))
                    rw [if_pos (by rfl)]
                    go_simp
                    exact hK.out _ _ ⟨_, _, _, _, _, _, _, _, _, _, _, _, _, _, _, _, _, _, _, _, _, rfl, { hI with p15 := fun _ => rfl }⟩
                  · obtain rfl := hI.p8 (hd 8 (by decide))
                    obtain rfl := hI.p15 (hd 15 (by decide))
                    rw [if_pos (by rfl)]
                    go_simp
                    exact hK.out _ _ ⟨_, _, _, _, _, _, _, _, _, _, _, _, _, _, _, _, _, _, _, _, _, rfl, { hI with p16 := fun _ => rfl }⟩
                  · obtain rfl := hI.p16 (hd 16 (by decide))
                    rw [if_pos (by rfl)]
                    go_simp
                    exact hK.out _ _ ⟨_, _, _, _, _, _, _, _, _, _, _, _, _, _, _, _, _, _, _, _, _, rfl, { hI with p17 := fun _ => rfl }⟩
                  · obtain rfl := hI.p17 (hd 17 (by decide))
                    rw [if_pos (by rfl)]
                    go_simp
                    refine (FX9.out _ hI.x).mono ?_
                    rintro e W2 ⟨rfl, b2⟩
                    go_simp
                    have hX := hI.x.trans (b2.mono hI.x.size)
                    exact hK.out _ _ ⟨_, _, _, _, _, _, _, _, _, _, _, _, _, _, _, _, _, _, _, _, _, rfl, { hI with x := hX, p18 := fun _ => rfl }⟩
                  · obtain rfl := hI.p17 (hd 17 (by decide))
                    obtain rfl := hI.p18 (hd 18 (by decide))
                    rw [if_pos (by rfl)]
                    go_simp
                    exact hK.out _ _ ⟨_, _, _, _, _, _, _, _, _, _, _, _, _, _, _, _, _, _, _, _, _, rfl, { hI with p19 := fun _ => rfl }⟩
                  · obtain rfl := hI.p19 (hd 19 (by decide))
                    rw [if_pos (by rfl)]
                    go_simp
                    exact hK.out _ _ ⟨_, _, _, _, _, _, _, _, _, _, _, _, _, _, _, _, _, _, _, _, _, rfl, { hI with p20 := fun _ => rfl }⟩
                · rintro L _ W hall ⟨x131, x132, x133, x134, x135, x136, x137, x138, x139, x140, x141, x142, x143, x144, x145, x146, x147, x148, x149, x150, x2, rfl, hI⟩
                  obtain rfl := hI.p0 (hall 0 (by decide))
                  obtain rfl := hI.p1 (hall 1 (by decide))
                  obtain rfl := hI.p2 (hall 2 (by decide))
                  obtain rfl := hI.p3 (hall 3 (by decide))
                  obtain rfl := hI.p4 (hall 4 (by decide))
                  obtain rfl := hI.p5 (hall 5 (by decide))
                  obtain rfl := hI.p6 (hall 6 (by decide))
                  obtain rfl := hI.p7 (hall 7 (by decide))
                  obtain rfl := hI.p8 (hall 8 (by decide))
                  obtain rfl := hI.p9 (hall 9 (by decide))
                  obtain rfl := hI.p10 (hall 10 (by decide))
                  obtain rfl := hI.p11 (hall 11 (by decide))
                  obtain rfl := hI.p12 (hall 12 (by decide))
                  obtain rfl := hI.p13 (hall 13 (by decide))
                  obtain rfl := hI.p14 (hall 14 (by decide))
                  obtain rfl := hI.p15 (hall 15 (by decide))
                  obtain rfl := hI.p16 (hall 16 (by decide))
                  obtain rfl := hI.p17 (hall 17 (by decide))
                  obtain rfl := hI.p18 (hall 18 (by decide))
                  obtain rfl := hI.p19 (hall 19 (by decide))
                  obtain rfl := hI.p20 (hall 20 (by decide))
                  have hXe := hI.x
                  clear hI hall
                  try dsimp only
                  go_wp2
                  go_ret
                  exact ⟨rfl, BB.out.trans (hXe.mono BB.out.size)⟩
            · have h1 := HA2.out (.inl hcl)
              rw [h1] at her
              dsimp only at her
              have hev : ErrV w9 11 5 ev := by
                rcases her with h | ⟨_, h⟩
                · exact absurd h.1 (by omega)
                · exact h
              have HEB : Hid (ErrV w9 11 5 ev) := hev
              obtain ⟨ge, rfl, _⟩ := hev
              have CVS : Hid (∀ W, Below w9.heap.size w9 W -> (convert 23 9 (.slice co c.length cc)).run Tryd.prog W = .ok (.string S1) W /\ (convert 23 9 (.slice ao a.length ac)).run Tryd.prog W = .ok (.string S2) W) := fun W h => CV0.out W (B9.out.trans (h.mono B9.out.size))
              have FX9 : Hid (∀ W, Below w9.heap.size w9 W -> _) := fun W h => FX.out W (B9.out.trans (h.mono B9.out.size))
              have ISE : Hid (∀ W, Below w9.heap.size w9 W -> _) := fun W h => is_wrong W (HGB.out W (B9.out.trans (h.mono B9.out.size))) 11 5 (by omega) _ (HEB.out.keep h)
              have cv1 := (CV0.out _ B9.out).1
              have cv2 := (CV0.out _ B9.out).2
              have y1 : (c.length == a.length) = false := by rw [beq_eq_false_iff_ne]; exact hcl
              have y2 : decide (c.length = a.length) = false := by rw [decide_eq_false_iff_not]; exact hcl
              have y3 : ((c.length : Int) == (a.length : Int)) = false := by rw [beq_eq_false_iff_ne]; omega
              clear her htv h1 HA1 HA2 KR HEB CV0
              go_upto_region 17 with fail
              clear cv1 cv2 y1 y2 y3 hcl
              refine wp_region_inv (ITE17E w9 ge co ao c.length cc a.length ac S1 S2 _ _ _ _ _ _ _ _ _ _ _ _ _ _ _ _ _ _ _ _ _ _ _ _ _ _ _ _ _ _ _ _ _ _ _ _ _ _ _ _ _ _ _ _ _ _ _ _ _ _ _ _ _ _ _ _ _ _ _ _ _ _ _ _ _ _ _ _ _ _ _ _ _ _ _ _ _ _ _ _ _ _ _ _ _ _ _ _ _ _ _ _ _ _ _ _ _ _ _ _ _ _ _ _ _ _ _ _ _ _ _ _ _ _ _ _ _ _ _ _ _ _ _ _ _ _ _ _ _ _) (by kernel_rfl) (by kernel_rfl) ⟨_, _, _, _, _, _, _, _, _, _, _, _, _, _, _, _, _, _, _, _, _, rfl, ⟨(Below.refl _ _).drew, fun k => (by cases k), fun k => (by cases k), fun k => (by cases k), fun k => (by cases k), fun k => (by cases k), fun k => (by cases k), fun k => (by cases k), fun k => (by cases k), fun k => (by cases k), fun k => (by cases k), fun k => (by cases k), fun k => (by cases k), fun k => (by cases k), fun k => (by cases k), fun k => (by cases k), fun k => (by cases k), fun k => (by cases k), fun k => (by cases k), fun k => (by cases k), fun k => (by cases k), fun k => (by cases k)⟩⟩ ?_ ?_
              · refine .cons ?_ (.cons ?_ (.cons ?_ (.cons ?_ (.cons ?_ (.cons ?_ (.cons ?_ (.cons ?_ (.cons ?_ (.cons ?_ (.cons ?_ (.cons ?_ (.cons ?_ (.cons ?_ (.cons ?_ (.cons ?_ (.cons ?_ (.cons ?_ (.cons ?_ (.cons ?_ (.cons ?_ .nil))))))))))))))))))))
                all_goals (refine TE17E.step ?_; intro x131 x132 x133 x134 x135 x136 x137 x138 x139 x140 x141 x142 x143 x144 x145 x146 x147 x148 x149 x150 x2 L W hI hL hd K hK)
                · rw [if_pos (by rfl)]
                  go_simp
                  exact hK.out _ _ ⟨_, _, _, _, _, _, _, _, _, _, _, _, _, _, _, _, _, _, _, _, _, rfl, { hI with p0 := fun _ => rfl }⟩
                · obtain rfl := hI.p0 (hd 0 (by decide))
                  rw [if_pos (by rfl)]
                  go_simp
                  exact hK.out _ _ ⟨_, _, _, _, _, _, _, _, _, _, _, _, _, _, _, _, _, _, _, _, _, rfl, { hI with p1 := fun _ => rfl }⟩
                · rw [if_pos (by rfl)]
                  go_simp
                  exact hK.out _ _ ⟨_, _, _, _, _, _, _, _, _, _, _, _, _, _, _, _, _, _, _, _, _, rfl, { hI with p2 := fun _ => rfl }⟩
                · obtain rfl := hI.p2 (hd 2 (by decide))
                  rw [if_pos (by rfl)]
                  have hc := (CVS.out _ hI.x).1
                  go_simp
                  exact hK.out _ _ ⟨_, _, _, _, _, _, _, _, _, _, _, _, _, _, _, _, _, _, _, _, _, rfl, { hI with p3 := fun _ => rfl }⟩
                · rw [if_pos (by rfl)]
                  go_simp
                  exact hK.out _ _ ⟨_, _, _, _, _, _, _, _, _, _, _, _, _, _, _, _, _, _, _, _, _, rfl, { hI with p4 := fun _ => rfl }⟩
                · obtain rfl := hI.p4 (hd 4 (by decide))
                  rw [if_pos (by rfl)]
                  have hc := (CVS.out _ hI.x).2
                  go_simp
                  exact hK.out _ _ ⟨_, _, _, _, _, _, _, _, _, _, _, _, _, _, _, _, _, _, _, _, _, rfl, { hI with p5 := fun _ => rfl }⟩
                · obtain rfl := hI.p3 (hd 3 (by decide))
                  obtain rfl := hI.p5 (hd 5 (by decide))
                  rw [if_pos (by rfl)]
                  go_simp
                  exact hK.out _ _ ⟨_, _, _, _, _, _, _, _, _, _, _, _, _, _, _, _, _, _, _, _, _, rfl, { hI with p6 := fun _ => rfl }⟩
                · obtain rfl := hI.p1 (hd 1 (by decide))
                  obtain rfl := hI.p6 (hd 6 (by decide))
                  rw [if_pos (by rfl)]
                  go_simp
                  exact hK.out _ _ ⟨_, _, _, _, _, _, _, _, _, _, _, _, _, _, _, _, _, _, _, _, _, rfl, { hI with p7 := fun _ => rfl }⟩
                · obtain rfl := hI.p7 (hd 7 (by decide))
                  rw [if_pos (by rfl)]
                  go_simp
                  exact hK.out _ _ ⟨_, _, _, _, _, _, _, _, _, _, _, _, _, _, _, _, _, _, _, _, _, rfl, { hI with p8 := fun _ => rfl }⟩
                · obtain rfl := hI.p8 (hd 8 (by decide))
                  rw [if_pos (by rfl)]
                  go_simp
                  exact hK.out _ _ ⟨_, _, _, _, _, _, _, _, _, _, _, _, _, _, _, _, _, _, _, _, _, rfl, { hI with p9 := fun _ => rfl }⟩
                · obtain rfl := hI.p9 (hd 9 (by decide))
                  obtain rfl := hI.p8 (hd 8 (by decide))
                  rw [if_pos (by rfl)]
                  go_simp
                  exact hK.out _ _ ⟨_, _, _, _, _, _, _, _, _, _, _, _, _, _, _, _, _, _, _, _, _, rfl, { hI with p10 := fun _ => rfl }⟩
                · obtain rfl := hI.p10 (hd 10 (by decide))
                  obtain rfl := hI.p8 (hd 8 (by decide))
                  rw [if_pos (by rfl)]
                  go_simp
                  exact hK.out _ _ ⟨_, _, _, _, _, _, _, _, _, _, _, _, _, _, _, _, _, _, _, _, _, rfl, { hI with p11 := fun _ => rfl }⟩
                · obtain rfl := hI.p11 (hd 11 (by decide))
                  rw [if_pos (by rfl)]
                  go_simp
                  exact hK.out _ _ ⟨_, _, _, _, _, _, _, _, _, _, _, _, _, _, _, _, _, _, _, _, _, rfl, { hI with p12 := fun _ => rfl }⟩
                · obtain rfl := hI.p11 (hd 11 (by decide))
                  rw [if_pos (by rfl)]
                  go_simp
                  exact hK.out _ _ ⟨_, _, _, _, _, _, _, _, _, _, _, _, _, _, _, _, _, _, _, _, _, rfl, { hI with p13 := fun _ => rfl }⟩
                · obtain rfl := hI.p12 (hd 12 (by decide))
                  obtain rfl := hI.p13 (hd 13 (by decide))
                  obtain rfl := hI.p11 (hd 11 (by decide))
                  rw [if_pos (by rfl)]
                  go_simp
                  refine (ISE.out _ hI.x).mono ?_
                  rintro e W2 ⟨rfl, b2⟩
                  go_simp
                  have hX := hI.x.trans (b2.mono hI.x.size)
                  exact hK.out _ _ ⟨_, _, _, _, _, _, _, _, _, _, _, _, _, _, _, _, _, _, _, _, _, rfl, { hI with x := hX, p14 := fun _ => rfl }⟩
                · obtain rfl := hI.p11 (hd 11 (by decide))
                  obtain rfl := hI.p14 (hd 14 (by decide))
                  obtain rfl := hI.p8 (hd 8 (by decide))
                  rw [if_pos (by rfl)]
                  go_simp
                  exact hK.out _ _ ⟨_, _, _, _, _, _, _, _, _, _, _, _, _, _, _, _, _, _, _, _, _, rfl, { hI with p15 := fun _ => rfl }⟩
                · obtain rfl := hI.p8 (hd 8 (by decide))
                  obtain rfl := hI.p15 (hd 15 (by decide))
                  rw [if_pos (by rfl)]
                  go_simp
                  exact hK.out _ _ ⟨_, _, _, _, _, _, _, _, _, _, _, _, _, _, _, _, _, _, _, _, _, rfl, { hI with p16 := fun _ => rfl }⟩
                · obtain rfl := hI.p16 (hd 16 (by decide))
                  rw [if_pos (by rfl)]
                  go_simp
                  exact hK.out _ _ ⟨_, _, _, _, _, _, _, _, _, _, _, _, _, _, _, _, _, _, _, _, _, rfl, { hI with p17 := fun _ => rfl }⟩
                · obtain rfl := hI.p17 (hd 17 (by decide))
                  rw [if_pos (by rfl)]
                  go_simp
                  refine (FX9.out _ hI.x).mono ?_
                  rintro e W2 ⟨rfl, b2⟩
                  go_simp
                  have hX := hI.x.trans (b2.mono hI.x.size)
                  exact hK.out _ _ ⟨_, _, _, _, _, _, _, _, _, _, _, _, _, _, _, _, _, _, _, _, _, rfl, { hI with x := hX, p18 := fun _ => rfl }⟩
                · obtain rfl := hI.p17 (hd 17 (by decide))
                  obtain rfl := hI.p18 (hd 18 (by decide))
                  rw [if_pos (by rfl)]
                  go_simp
                  exact hK.out _ _ ⟨_, _, _, _, _, _, _, _, _, _, _, _, _, _, _, _, _, _, _, _, _, rfl, { hI with p19 := fun _ => rfl }⟩
                · obtain rfl := hI.p19 (hd 19 (by decide))
                  rw [if_pos (by rfl)]
                  go_simp
                  exact hK.out _ _ ⟨_, _, _, _, _, _, _, _, _, _, _, _, _, _, _, _, _, _, _, _, _, rfl, { hI with p20 := fun _ => rfl }⟩
              · rintro L _ W hall ⟨x131, x132, x133, x134, x135, x136, x137, x138, x139, x140, x141, x142, x143, x144, x145, x146, x147, x148, x149, x150, x2, rfl, hI⟩
                obtain rfl := hI.p0 (hall 0 (by decide))
                obtain rfl := hI.p1 (hall 1 (by decide))
                obtain rfl := hI.p2 (hall 2 (by decide))
                obtain rfl := hI.p3 (hall 3 (by decide))
                obtain rfl := hI.p4 (hall 4 (by decide))
                obtain rfl := hI.p5 (hall 5 (by decide))
                obtain rfl := hI.p6 (hall 6 (by decide))
                obtain rfl := hI.p7 (hall 7 (by decide))
                obtain rfl := hI.p8 (hall 8 (by decide))
                obtain rfl := hI.p9 (hall 9 (by decide))
                obtain rfl := hI.p10 (hall 10 (by decide))
                obtain rfl := hI.p11 (hall 11 (by decide))
                obtain rfl := hI.p12 (hall 12 (by decide))
                obtain rfl := hI.p13 (hall 13 (by decide))
                obtain rfl := hI.p14 (hall 14 (by decide))
                obtain rfl := hI.p15 (hall 15 (by decide))
                obtain rfl := hI.p16 (hall 16 (by decide))
                obtain rfl := hI.p17 (hall 17 (by decide))
                obtain rfl := hI.p18 (hall 18 (by decide))
                obtain rfl := hI.p19 (hall 19 (by decide))
                obtain rfl := hI.p20 (hall 20 (by decide))
                have hXe := hI.x
                clear hI hall
                try dsimp only
                go_wp2
                go_ret
                exact ⟨rfl, B9.out.trans (hXe.mono B9.out.size)⟩
        · rw [if_neg (fun h => lb h.2)]
          have y1 : decide (524288 < a.length) = false := by rw [decide_eq_false_iff_not]; omega
          have y2 : decide (524288 < b.length) = true := by rw [decide_eq_true_iff]; omega
          have z1 : ¬ (524288 : Int) < (a.length : Int) := by omega
          have z2 : (524288 : Int) < (b.length : Int) := by omega
          clear hpv la lb
          go_wp2_with (have hz := B7; clear hz; go_at_call 9; refine (FX.out _ B7.out).mono ?_; rintro e wC ⟨rfl, hbC⟩; have BC : Hid (Below w.heap.size w wC) := B7.out.trans (hbC.mono B7.out.size); clear hbC B7)
          go_ret
          exact ⟨rfl, BC.out⟩
      · rw [if_neg (fun h => la h.1)]
        have y1 : decide (524288 < a.length) = true := by rw [decide_eq_true_iff]; omega
        have z1 : (524288 : Int) < (a.length : Int) := by omega
        clear hpv la
        go_wp2_with (have hz := B7; clear hz; go_at_call 9; refine (FX.out _ B7.out).mono ?_; rintro e wC ⟨rfl, hbC⟩; have BC : Hid (Below w.heap.size w wC) := B7.out.trans (hbC.mono B7.out.size); clear hbC B7)
        go_ret
        exact ⟨rfl, BC.out⟩
end Go.Proofs.YtplpoehfdhkhmaaDoor
