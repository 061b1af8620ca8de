import Derived.Test.YtjooabgjkjnhhaaGreatDoorA11
import Derived.Test.YtjooabgjkjnhhaaGreatDoorT24S
import Derived.Test.YtjooabgjkjnhhaaGreatDoorI11Inv
import Derived.Test.YtjooabgjkjnhhaaGreatDoorK12Ref2
import Derived.MapKept

namespace Go.Proofs.YtjooabgjkjnhhaaGreatDoor
open Go.RowKit Go.Extern.Stop Go.Stop Go.Extern

theorem mKind (h : Value) (w : World) : (Go.method 343 160 (.agg #[h]) "Kind").run Tryz.prog w = .ok (104, h) w := by kernel_rfl
theorem mElem (h : Value) (w : World) : (Go.method 343 160 (.agg #[h]) "Elem").run Tryz.prog w = .ok (129, .agg #[h]) w := by kernel_rfl
theorem mImplements (h : Value) (w : World) : (Go.method 343 160 (.agg #[h]) "Implements").run Tryz.prog w = .ok (130, .agg #[h]) w := by kernel_rfl
theorem mAssignableTo (h : Value) (w : World) : (Go.method 343 160 (.agg #[h]) "AssignableTo").run Tryz.prog w = .ok (127, .agg #[h]) w := by kernel_rfl
set_option maxHeartbeats 4000000 in
set_option maxRecDepth 100000 in
theorem as_wrong (e t : Addr) (old : Value) (w : World) (hg : HG w) (ht0 : w.cell? t = some old) (hf0 : w.frozen? t = false) :
    Calls Tryz.prog 47 #[.iface 108 (.pointer (some e)), .iface 112 (.pointer (some t))] w fun ev w' => ev = .returned (.bool true) ∧ w' = ((((w.alloc (.cells #[.pointer (some t)] 112)).alloc (.cells #[.pointer (some ⟨1, 112, none⟩), .pointer (some ⟨w.heap.size, 0, none⟩), .int .u64 150] 134)).alloc (.cells #[.pointer (some ⟨1, 112, none⟩), .pointer (some ⟨w.heap.size, 0, none⟩), .int .u64 150] 134)).alloc (.cells #[.pointer (some e)] 108)).setCell t (.pointer (some e)) := by
  have h6 := @run_callFunc_extern Tryz.prog 58 _ (fun args => ReflectliteValue.unpack (args.getD 0 (.tuple #[]))) Tryz.func58 (by kernel_rfl) (by kernel_rfl) (by kernel_rfl) (by kernel_rfl)
  have h7 := @run_callFunc_extern Tryz.prog 59 _ (ReflectliteValue.methodAny (ReflectliteValue.valueError "reflectlite.Value.Type" 0) (fun t _ _ _ => ReflectliteType.toType t)) Tryz.func59 (by kernel_rfl) (by kernel_rfl) (by kernel_rfl) (by kernel_rfl)
  have h8 := @run_callFunc_extern Tryz.prog 60 _ (ReflectliteValue.method (ReflectliteValue.valueError "reflectlite.Value.IsNil" 0) ReflectliteValue.isNil) Tryz.func60 (by kernel_rfl) (by kernel_rfl) (by kernel_rfl) (by kernel_rfl)
  have h27 := @run_callFunc_extern Tryz.prog 104 _ (ReflectliteType.abiMethod fun t => do pure (.int .u8 (← Rtype.kind t))) Tryz.func104 (by kernel_rfl) (by kernel_rfl) (by kernel_rfl) (by kernel_rfl)
  have h37 := @run_callFunc_extern Tryz.prog 129 _ (ReflectliteType.method ReflectliteType.elem) Tryz.func129 (by kernel_rfl) (by kernel_rfl) (by kernel_rfl) (by kernel_rfl)
  have h38 := @run_callFunc_extern Tryz.prog 130 _ (ReflectliteType.relation "Implements" ReflectliteType.implements_) Tryz.func130 (by kernel_rfl) (by kernel_rfl) (by kernel_rfl) (by kernel_rfl)
  have h10 := @run_callFunc_extern Tryz.prog 70 _ ReflectliteType.typeOf Tryz.func70 (by kernel_rfl) (by kernel_rfl) (by kernel_rfl) (by kernel_rfl)
  have h35 := @run_callFunc_extern Tryz.prog 127 _ (ReflectliteType.relation "AssignableTo" ReflectliteType.assignableTo) Tryz.func127 (by kernel_rfl) (by kernel_rfl) (by kernel_rfl) (by kernel_rfl)
  have h11 := @run_callFunc_extern Tryz.prog 71 _ (ReflectliteValue.method (ReflectliteValue.valueError "reflectlite.Value.Elem" 0) ReflectliteValue.elem) Tryz.func71 (by kernel_rfl) (by kernel_rfl) (by kernel_rfl) (by kernel_rfl)
  have h12 := @run_callFunc_extern Tryz.prog 72 _ ReflectliteValue.set Tryz.func72 (by kernel_rfl) (by kernel_rfl) (by kernel_rfl) (by kernel_rfl)
  have mK := mKind
  have mE := mElem
  have mI := mImplements
  have mA := mAssignableTo
  have tO := to53
  have v1 := vo59
  have y1 := ty59
  have k1 := kd59
  have k2 := kd53
  have e1 := el59
  have i1 := im53
  have v2 := vo53
  have a1 := as53
  have hlt := hg.lt
  have htl : t.block < w.heap.size := by
    rcases Nat.lt_or_ge t.block w.heap.size with h | h
    · exact h
    · simp [World.cell?, Array.getElem?_eq_none h] at ht0
  have n8 := isNil59 ⟨w.heap.size, 0, none⟩ t ((w.alloc (.cells #[.pointer (some t)] 112)).alloc (.cells #[.pointer (some ⟨1, 112, none⟩), .pointer (some ⟨w.heap.size, 0, none⟩), .int .u64 150] 134)) (by simp)
  have hg2 : ((w.alloc (.cells #[.pointer (some t)] 112)).alloc (.cells #[.pointer (some ⟨1, 112, none⟩), .pointer (some ⟨w.heap.size, 0, none⟩), .int .u64 150] 134)).cell? ⟨0, 0, none⟩ = some (.iface 160 (.agg #[.pointer (some ⟨1, 69, none⟩)])) := (hg.alloc _).alloc _
  have el := elemV59 ⟨w.heap.size, 0, none⟩ t (((w.alloc (.cells #[.pointer (some t)] 112)).alloc (.cells #[.pointer (some ⟨1, 112, none⟩), .pointer (some ⟨w.heap.size, 0, none⟩), .int .u64 150] 134)).alloc (.cells #[.pointer (some ⟨1, 112, none⟩), .pointer (some ⟨w.heap.size, 0, none⟩), .int .u64 150] 134)) (by rw [World.cell?_alloc_lt _ _ ⟨w.heap.size, 0, none⟩ (by simp; omega)]; simp)
  have st := set53 t ⟨w.heap.size + 1 + 1 + 1, 0, none⟩ e old ((((w.alloc (.cells #[.pointer (some t)] 112)).alloc (.cells #[.pointer (some ⟨1, 112, none⟩), .pointer (some ⟨w.heap.size, 0, none⟩), .int .u64 150] 134)).alloc (.cells #[.pointer (some ⟨1, 112, none⟩), .pointer (some ⟨w.heap.size, 0, none⟩), .int .u64 150] 134)).alloc (.cells #[.pointer (some e)] 108))
    (by rw [World.cell?_alloc_at _ _ _ _ (by simp)]; rfl)
    (by rw [World.cell?_alloc_lt _ _ t (by simp; omega), World.cell?_alloc_lt _ _ t (by simp; omega), World.cell?_alloc_lt _ _ t (by simp; omega), World.cell?_alloc_lt _ _ t htl]; exact ht0)
    (by rw [World.frozen?_alloc_old _ _ t (by simp; omega), World.frozen?_alloc_old _ _ t (by simp; omega), World.frozen?_alloc_old _ _ t (by simp; omega), World.frozen?_alloc_old _ _ t (Nat.ne_of_lt htl)]; exact hf0)
  clear hg ht0 hf0
  go_enter Tryz.func47, Tryz.ntmps47
  go_wp2
  refine wp_loop_rounds 1 ?_
  rw [rounds_succ]
  go_wp2
  go_ret
  exact ⟨rfl, rfl⟩

end Go.Proofs.YtjooabgjkjnhhaaGreatDoor


/-! The law's token: told. (Printed by tools/gent24b.py.) -/
namespace Go.Proofs.YtjooabgjkjnhhaaGreatDoor
open Go.RowKit
set_option linter.unusedVariables false
set_option linter.unusedSimpArgs false
set_option maxRecDepth 100000

structure To6 (w : World) (ge : Nat) (E At : Int) (q : Bool) (W : World) : Prop where
  bel : Below w.heap.size w W
  p : Row W (w.heap.size + 1) 108 [.pointer (some ⟨ge, 0, none⟩)]
  e : Row W ge 109 [.int .i64 E, .int .i64 At]
  r : Row W w.heap.size 73 (if q then [.int .i64 E, .int .i64 At] else [.int .i64 0, .int .i64 0])
theorem To6.drew {w W : World} {ge : Nat} {E At : Int} {q : Bool} (h : To6 w ge E At q W) : To6 w ge E At q W.drew := ⟨h.bel.drew, h.p.drew, h.e.drew, h.r.drew⟩
structure TO6 (W1 : World) (w : World) (ge : Nat) (E At : Int) (L : Nat → Bool) (x24 x25 x26 x27 x28 x29 x30 x31 x32 x3 : Value) (W : World) : Prop where
  x : To6 w ge E At (L 9) W
  p0 : L 0 = true → x24 = .pointer (some ⟨ge, 0, none⟩)
  p1 : L 1 = true → x25 = .pointer (some ⟨ge, 0, none⟩)
  p2 : L 2 = true → x26 = .pointer (some ⟨ge, 0, none⟩)
  p3 : L 3 = true → x27 = .int .i64 E
  p4 : L 4 = true → x28 = .pointer (some ⟨ge, 0, none⟩)
  p5 : L 5 = true → x29 = .pointer (some ⟨ge, 0, none⟩)
  p6 : L 6 = true → x30 = .pointer (some ⟨ge, 1, none⟩)
  p7 : L 7 = true → x31 = .int .i64 At
  p8 : L 8 = true → x32 = .agg #[.int .i64 E, .int .i64 At]
  p10 : L 10 = true → x3 = .bool true
section
variable {W1 : World} {w : World} {ge : Nat} {E At : Int} {L : Nat → Bool} {x24 x25 x26 x27 x28 x29 x30 x31 x32 x3 : Value} {W W2 : World}
theorem TO6.s0 (h : TO6 W1 w ge E At L x24 x25 x26 x27 x28 x29 x30 x31 x32 x3 W) : TO6 W1 w ge E At (upd L 0) (.pointer (some ⟨ge, 0, none⟩)) x25 x26 x27 x28 x29 x30 x31 x32 x3 W :=
  ⟨h.x, fun _ => rfl, h.p1, h.p2, h.p3, h.p4, h.p5, h.p6, h.p7, h.p8, h.p10⟩
theorem TO6.s1 (h : TO6 W1 w ge E At L x24 x25 x26 x27 x28 x29 x30 x31 x32 x3 W) : TO6 W1 w ge E At (upd L 1) x24 (.pointer (some ⟨ge, 0, none⟩)) x26 x27 x28 x29 x30 x31 x32 x3 W :=
  ⟨h.x, h.p0, fun _ => rfl, h.p2, h.p3, h.p4, h.p5, h.p6, h.p7, h.p8, h.p10⟩
end
@[reducible] def ITO6 (W1 : World) (w : World) (ge : Nat) (E At : Int) (y0 y1 y2 y4 y5 y6 y7 y8 y9 y10 y11 y12 y13 y14 y15 y16 y17 y18 y19 y20 y21 y22 y23 : Value) : (Nat → Bool) → Act → World → Prop := fun L a W => ∃ x24 x25 x26 x27 x28 x29 x30 x31 x32 x3, a = ⟨#[y0, y1, y2, x3, y4, y5, y6, y7, y8, y9, y10, y11, y12, y13, y14, y15, y16, y17, y18, y19, y20, y21, y22, y23, x24, x25, x26, x27, x28, x29, x30, x31, x32], []⟩ ∧ TO6 W1 w ge E At L x24 x25 x26 x27 x28 x29 x30 x31 x32 x3 W
set_option maxHeartbeats 2000000 in
theorem told24_wrong (w : World) (ge : Nat) (E At : Int) (hE : E ≠ 0) (hg : HG w) (hr : Row w ge 109 [.int .i64 E, .int .i64 At]) : Calls Tryz.prog 25 #[.iface 108 (.pointer (some ⟨ge, 0, none⟩))] w fun e w' => e = .returned (.tuple #[.agg #[.int .i64 E, .int .i64 At], .bool true]) ∧ Below w.heap.size w w' := by
  obtain ⟨W1, hW1⟩ : ∃ W1, W1 = (w.alloc (.cells #[.int .i64 0, .int .i64 0] 73)).alloc (.cells #[.pointer none] 108) := ⟨_, rfl⟩
  have r0 : Row W1 w.heap.size 73 [.int .i64 0, .int .i64 0] := by rw [hW1]; exact (Row.at w _ _ _ _ rfl rfl).alloc _
  have r1 : Row W1 (w.heap.size + 1) 108 [.pointer none] := by rw [hW1]; exact Row.at _ _ _ _ _ (by simp) rfl
  have b1 : Below w.heap.size w W1 := by rw [hW1]; exact ((Below.refl _ _).alloc (Nat.le_refl _) _).alloc (by simp) _
  have s1 : W1.heap.size = w.heap.size + 2 := by rw [hW1]; simp
  have FA := as_wrong ⟨ge, 0, none⟩ ⟨w.heap.size + 1, 0, none⟩ (.pointer none) W1 (hg.below b1 hg.lt) (r1.cell 0 _ rfl) (r1.frozen 0)
  have FB : Calls Tryz.prog 47 #[.iface 108 (.pointer (some ⟨ge, 0, none⟩)), .iface 112 (.pointer (some ⟨w.heap.size + 1, 0, none⟩))] W1 fun ev w' => ev = .returned (.bool true) ∧ To6 w ge E At false w' := by
    refine FA.mono ?_
    rintro e w' ⟨rfl, rfl⟩
    refine ⟨rfl, ?_⟩
    have hz : ∀ o1 o2 o3 o4 : Obj, Below W1.heap.size W1 ((((W1.alloc o1).alloc o2).alloc o3).alloc o4) := fun o1 o2 o3 o4 => ((((Below.refl _ _).alloc (Nat.le_refl _) o1).alloc (by simp) o2).alloc (by simp; omega) o3).alloc (by simp; omega) o4
    have hb := hz (.cells #[.pointer (some ⟨w.heap.size + 1, 0, none⟩)] 112) (.cells #[.pointer (some ⟨1, 112, none⟩), .pointer (some ⟨W1.heap.size, 0, none⟩), .int .u64 150] 134) (.cells #[.pointer (some ⟨1, 112, none⟩), .pointer (some ⟨W1.heap.size, 0, none⟩), .int .u64 150] 134) (.cells #[.pointer (some ⟨ge, 0, none⟩)] 108)
    have sb := SameBut.setCell (w.heap.size + 1) 0 (.pointer (some ⟨ge, 0, none⟩)) ((((W1.alloc (.cells #[.pointer (some ⟨w.heap.size + 1, 0, none⟩)] 112)).alloc (.cells #[.pointer (some ⟨1, 112, none⟩), .pointer (some ⟨W1.heap.size, 0, none⟩), .int .u64 150] 134)).alloc (.cells #[.pointer (some ⟨1, 112, none⟩), .pointer (some ⟨W1.heap.size, 0, none⟩), .int .u64 150] 134)).alloc (.cells #[.pointer (some ⟨ge, 0, none⟩)] 108))
    have hlt := hr.lt
    exact ⟨sb.below (b1.trans (hb.mono b1.size)) (by omega), (r1.below hb r1.lt).set 0 _, ((hr.below b1 hr.lt).below hb (by omega)).but sb (by omega), (r0.below hb r0.lt).but sb (by omega)⟩
  have HGE : Hid (ge < w.heap.size) := hr.lt
  have hEb : (E == 0) = false := by rw [beq_eq_false_iff_ne]; exact hE
  clear FA hg hr r0 r1 b1 hE
  go_enter Tryz.func25, Tryz.ntmps25
  go_upto_region 6 with (first
    | (have hz := hW1; clear hz; rw [← hW1]; clear hW1)
    | (go_at_call 47; refine FB.mono ?_; clear FB; rintro e w3 ⟨rfl, h3⟩; have H3 : Hid (To6 w ge E At false w3) := h3; have c1 := h3.p.cell 0 _ rfl; have c2 := h3.e.cell 0 _ rfl; clear h3))
  refine wp_region_inv (ITO6 w3 w ge E At _ _ _ _ _ _ _ _ _ _ _ _ _ _ _ _ _ _ _ _ _ _ _) (by kernel_rfl) (by kernel_rfl) ⟨_, _, _, _, _, _, _, _, _, _, rfl, ⟨H3.out.drew, fun k => (by cases k), fun k => (by cases k), fun k => (by cases k), fun k => (by cases k), fun k => (by cases k), fun k => (by cases k), fun k => (by cases k), fun k => (by cases k), fun k => (by cases k), fun k => (by cases k)⟩⟩ ?_ ?_
  · refine .cons ?_ (.cons ?_ (.cons ?_ (.cons ?_ (.cons ?_ (.cons ?_ (.cons ?_ (.cons ?_ (.cons ?_ (.cons ?_ (.cons ?_ .nil))))))))))
    all_goals (rintro L _ W ⟨x24, x25, x26, x27, x28, x29, x30, x31, x32, x3, rfl, hI⟩ hL hd K hK)
    · rw [if_pos (by rfl)]
      have hc := hI.x.p.cell 0 _ rfl
      go_simp
      exact hK.out _ _ ⟨_, _, _, _, _, _, _, _, _, _, rfl, { hI with p0 := fun _ => rfl }⟩
    · obtain rfl := hI.p0 (hd 0 (by decide))
      rw [if_pos (by rfl)]
      go_simp
      exact hK.out _ _ ⟨_, _, _, _, _, _, _, _, _, _, rfl, { hI with p1 := fun _ => rfl }⟩
    · obtain rfl := hI.p1 (hd 1 (by decide))
      rw [if_pos (by rfl)]
      go_simp
      exact hK.out _ _ ⟨_, _, _, _, _, _, _, _, _, _, rfl, { hI with p2 := fun _ => rfl }⟩
    · obtain rfl := hI.p2 (hd 2 (by decide))
      rw [if_pos (by rfl)]
      have hc := hI.x.e.cell 0 _ rfl
      go_simp
      exact hK.out _ _ ⟨_, _, _, _, _, _, _, _, _, _, rfl, { hI with p3 := fun _ => rfl }⟩
    · rw [if_pos (by rfl)]
      have hc := hI.x.p.cell 0 _ rfl
      go_simp
      exact hK.out _ _ ⟨_, _, _, _, _, _, _, _, _, _, rfl, { hI with p4 := fun _ => rfl }⟩
    · obtain rfl := hI.p4 (hd 4 (by decide))
      rw [if_pos (by rfl)]
      go_simp
      exact hK.out _ _ ⟨_, _, _, _, _, _, _, _, _, _, rfl, { hI with p5 := fun _ => rfl }⟩
    · obtain rfl := hI.p5 (hd 5 (by decide))
      rw [if_pos (by rfl)]
      go_simp
      exact hK.out _ _ ⟨_, _, _, _, _, _, _, _, _, _, rfl, { hI with p6 := fun _ => rfl }⟩
    · obtain rfl := hI.p6 (hd 6 (by decide))
      rw [if_pos (by rfl)]
      have hc := hI.x.e.cell 1 _ rfl
      go_simp
      exact hK.out _ _ ⟨_, _, _, _, _, _, _, _, _, _, rfl, { hI with p7 := fun _ => rfl }⟩
    · obtain rfl := hI.p3 (hd 3 (by decide))
      obtain rfl := hI.p7 (hd 7 (by decide))
      rw [if_pos (by rfl)]
      go_simp
      exact hK.out _ _ ⟨_, _, _, _, _, _, _, _, _, _, rfl, { hI with p8 := fun _ => rfl }⟩
    · obtain rfl := hI.p8 (hd 8 (by decide))
      have hx0 := hI.x
      rw [hL] at hx0
      have hr0 : Row W w.heap.size 73 [.int .i64 0, .int .i64 0] := hx0.r
      refine step_store_Row rfl 73 _ _ rfl w.heap.size 73 _ [.int .i64 E, .int .i64 At] hr0 rfl rfl rfl (by kernel_rfl) (by simp [Value.oneCell']) ?_
      intro W2 hr2 hs2
      have hX : To6 w ge E At true W2 := ⟨hs2.below hx0.bel (Nat.le_refl _), hx0.p.but hs2 (by omega), hx0.e.but hs2 (by have := HGE.out; omega), hr2⟩
      exact hK.out _ _ ⟨_, _, _, _, _, _, _, _, _, _, rfl, { hI with x := hX }⟩
    · rw [if_pos (by rfl)]
      go_simp
      exact hK.out _ _ ⟨_, _, _, _, _, _, _, _, _, _, rfl, { hI with p10 := fun _ => rfl }⟩
  · rintro L _ W hall ⟨x24, x25, x26, x27, x28, x29, x30, x31, x32, x3, rfl, hI⟩
    obtain rfl := hI.p0 (hall 0 (by decide))
    obtain rfl := hI.p1 (hall 1 (by decide))
    obtain rfl := hI.p2 (hall 2 (by decide))
    obtain rfl := hI.p3 (hall 3 (by decide))
    obtain rfl := hI.p4 (hall 4 (by decide))
    obtain rfl := hI.p5 (hall 5 (by decide))
    obtain rfl := hI.p6 (hall 6 (by decide))
    obtain rfl := hI.p7 (hall 7 (by decide))
    obtain rfl := hI.p8 (hall 8 (by decide))
    obtain rfl := hI.p10 (hall 10 (by decide))
    have hXe := hI.x
    rw [hall 9 (by decide)] at hXe
    clear hI hall
    try dsimp only
    have q2 : Row W w.heap.size 73 [.int .i64 E, .int .i64 At] := hXe.r
    have hb2 := hXe.bel
    clear hXe
    go_wp2
    refine bodyPost_ret_by (results_rowtmp Tryz.results25 _ W w.heap.size 73 _ _ rfl q2 Tryz.underlying73 rfl (by kernel_rfl)) rfl ⟨rfl, hb2⟩
end Go.Proofs.YtjooabgjkjnhhaaGreatDoor


/-! The reference's ring in memory of its own, and one secret more. -/
namespace Go.Proofs.YtjooabgjkjnhhaaGreatDoor
open Go.RowKit
set_option linter.unusedVariables false

theorem owns_blk {N e size : Nat} {w w' : World} {v : Value} {n : Nat} {xs : List Value} (h : w.ownsRow N e size v n xs) (hb : ∀ B, v.ownBlock = some B → w'.heap[B]? = w.heap[B]?) : w'.ownsRow N e size v n xs := by
  refine ⟨h.1, ?_⟩
  rcases h.2 with h0 | ⟨g, c, cur, e1, h1, h2, h3⟩
  · exact .inl h0
  · exact .inr ⟨g, c, cur, e1, h1, (hb g (by rw [e1]; rfl)).trans h2, h3⟩
theorem owns_ty {N e size : Nat} {w : World} {v : Value} {n : Nat} {xs : List Value} (h : w.ownsRow N e size v n xs) (B : Nat) (hB : v.ownBlock = some B) : ∃ cur, w.heap[B]? = some (.cells cur e (0, 0)) := by
  rcases h.2 with ⟨e0, _⟩ | ⟨g, c, cur, e1, h1, h2, h3⟩
  · rw [e0] at hB; cases hB
  · rw [e1] at hB
    injection hB with hB
    subst hB
    exact ⟨cur, h2⟩

def secCells : Secs → List Value → List Value
  | p :: l, v :: vs => .int .i64 p.1 :: v :: secCells l vs
  | _, _ => []
theorem secCells_push (k : Int) (b : List By) (v : Value) : ∀ (l : Secs) (vs : List Value), vs.length = l.length → secCells (l ++ [(k, b)]) (vs ++ [v]) = secCells l vs ++ [.int .i64 k, v]
  | [], [], _ => rfl
  | p :: l, x :: vs, h => by
    have := secCells_push k b v l vs (by simpa using h)
    show _ :: _ :: secCells (l ++ [(k, b)]) (vs ++ [v]) = _
    rw [this]; rfl
theorem secCells_at : ∀ (l : Secs) (vs : List Value) (i : Nat), vs.length = l.length → i < l.length → (secCells l vs)[i * 2]? = some (.int .i64 (l.getD i (0, [])).1) ∧ (secCells l vs)[i * 2 + 1]? = some (vs.getD i undef)
  | p :: l, x :: vs, 0, _, _ => ⟨rfl, rfl⟩
  | p :: l, x :: vs, i + 1, h, hi => by
    have := secCells_at l vs i (by simpa using h) (by simpa using hi)
    rw [show (i + 1) * 2 = i * 2 + 1 + 1 by omega, show i * 2 + 1 + 1 + 1 = (i * 2 + 1) + 1 + 1 by omega]
    exact this

/-- The reference's ring, all of it in blocks from N on. -/
structure RgO (N : Nat) (w : World) (g : Nat) (ao : Option Addr) (cap : Nat) (vs : List Value) (l : Secs) : Prop where
  row : Row w g 84 [.slice ao l.length cap]
  ng : N ≤ g
  own : w.ownsRow N 57 2 (.slice ao l.length cap) l.length (secCells l vs)
  len : vs.length = l.length
  bytes : ∀ i, i < l.length → ∃ bo c, vs.getD i undef = .slice bo (l.getD i (0, [])).2.length c ∧ Own N w (.slice bo (l.getD i (0, [])).2.length c) (l.getD i (0, [])).2

theorem RgO.to {N : Nat} {w : World} {g : Nat} {ao : Option Addr} {cap : Nat} {vs : List Value} {l : Secs} (h : RgO N w g ao cap vs l) : RgAt w g ao cap vs l where
  row := h.row
  key i hi := by
    have hown := h.own
    rcases h.own.2 with ⟨e, e2⟩ | ⟨q, c, cur, e, _⟩
    · omega
    · injection e with e1 _ _
      subst e1
      have hc := secCells_at l vs i h.len hi
      exact ⟨q, rfl, (hown.cellAt (i * 2) (by omega)).trans hc.1, (hown.cellAt (i * 2 + 1) (by omega)).trans hc.2⟩
  bytes i hi := by
    obtain ⟨bo, c, e, ho⟩ := h.bytes i hi
    obtain ⟨_, h2, h3, _⟩ := own_isb ho
    exact ⟨bo, _, c, e, own_IsB ho, rfl, h3, h2⟩
theorem RgO.keep {N : Nat} {w w' : World} {g : Nat} {ao : Option Addr} {cap : Nat} {vs : List Value} {l : Secs} (h : RgO N w g ao cap vs l) (hb : Below w.heap.size w w') : RgO N w' g ao cap vs l where
  row := h.row.below hb h.row.lt
  ng := h.ng
  own := owns_blk h.own fun B e => hb.block B (h.own.lt B e).2
  len := h.len
  bytes i hi := by
    obtain ⟨bo, c, e, ho⟩ := h.bytes i hi
    exact ⟨bo, c, e, ho.keep hb⟩

/-- A ring without secrets, just made. -/
theorem RgO.new (N : Nat) (w : World) (hN : N ≤ w.heap.size) : RgO N (w.alloc (.cells #[.slice none 0 0] 84)) w.heap.size none 0 [] [] where
  row := Row.at w _ _ _ _ rfl rfl
  ng := hN
  own := World.ownsRow_nil _ _ _ _
  len := rfl
  bytes i hi := absurd hi (by simp)

/-- One secret more: behind the append (w1) and the store of what it answered (w2). -/
theorem RgO.push {N : Nat} {w w1 w2 : World} {g : Nat} {ao ao' : Option Addr} {cap cap' : Nat} {vs : List Value} {l : Secs} (h : RgO N w g ao cap vs l) (k : Int) (b : List By) (bo : Option Addr) (c : Nat) (hv : Own N w (.slice bo b.length c) b)
    (h1 : w1.ownsRow N 57 2 (.slice ao' (l.length + 1) cap') (l.length + 1) (secCells l vs ++ [.int .i64 k, .slice bo b.length c])) (hsz : w.heap.size ≤ w1.heap.size)
    (hk : ∀ j, j < w.heap.size → (∀ q, ao = some ⟨q, 0, none⟩ → j ≠ q) → w1.heap[j]? = w.heap[j]?) (hw2 : w2 = w1.setCell ⟨g, 0, none⟩ (.slice ao' (l.length + 1) cap')) :
    RgO N w2 g ao' cap' (vs ++ [.slice bo b.length c]) (l ++ [(k, b)]) := by
  subst hw2
  have hrow : w.heap[g]? = some (.cells #[.slice ao l.length cap] 84 (0, 0)) := h.row
  have nq : ∀ j (T : Nat) (cur : Array Value), T ≠ 57 → w.heap[j]? = some (.cells cur T (0, 0)) → ∀ q, ao = some ⟨q, 0, none⟩ → j ≠ q := by
    intro j T cur hT hj q hq e
    subst e
    obtain ⟨cur2, h2⟩ := owns_ty h.own j (by rw [hq]; rfl)
    rw [h2] at hj
    injection hj with hj
    injection hj with _ h3
    exact hT h3.symm
  have r1 : Row w1 g 84 [.slice ao l.length cap] := (hk g h.row.lt (nq g _ _ (by decide) hrow)).trans hrow
  have r2 := r1.set 0 (.slice ao' (l.length + 1) cap')
  have sb := SameBut.setCell g 0 (.slice ao' (l.length + 1) cap') w1
  have hlen : (l ++ [(k, b)]).length = l.length + 1 := by simp
  have ob : ∀ (bo : Option Addr) (n c : Nat) (m : List By), Own N w (.slice bo n c) m → Own N (w1.setCell ⟨g, 0, none⟩ (.slice ao' (l.length + 1) cap')) (.slice bo n c) m := by
    intro bo n c m ho
    refine ⟨owns_blk ho.1 ?_, ?_⟩
    · intro B hB
      obtain ⟨cur, hc⟩ := owns_ty ho.1 B hB
      have hBg : B ≠ g := by
        intro e; subst e
        rw [hc] at hrow
        injection hrow with hrow
        injection hrow with _ h3
        exact absurd h3 (by decide)
      rw [sb.block B hBg]
      exact hk B (ho.1.lt B hB).2 (nq B _ cur (by decide) hc)
    · rw [sb.size]; exact Nat.le_trans ho.2 hsz
  refine ⟨?_, h.ng, ?_, by simp [h.len], ?_⟩
  · rw [hlen]; exact r2
  · rw [hlen, secCells_push k b _ l vs h.len]
    refine owns_blk h1 fun B hB => sb.block B ?_
    obtain ⟨cur, hc⟩ := owns_ty h1 B hB
    intro e; subst e
    have r1' : w1.heap[B]? = some (.cells #[.slice ao l.length cap] 84 (0, 0)) := r1
    rw [hc] at r1'
    injection r1' with r1'
    injection r1' with _ h3
    exact absurd h3 (by decide)
  · intro i hi
    rw [hlen] at hi
    rcases Nat.lt_or_ge i l.length with h3 | h3
    · obtain ⟨bo2, c2, e2, ho2⟩ := h.bytes i h3
      have e3 : (l ++ [(k, b)]).getD i (0, []) = l.getD i (0, []) := by simp [List.getD_eq_getElem?_getD, List.getElem?_append_left h3]
      have e4 : (vs ++ [Value.slice bo b.length c]).getD i undef = vs.getD i undef := by simp [List.getD_eq_getElem?_getD, List.getElem?_append_left (show i < vs.length by rw [h.len]; exact h3)]
      rw [e3, e4]
      exact ⟨bo2, c2, e2, ob _ _ _ _ ho2⟩
    · obtain rfl : i = l.length := by omega
      have e3 : (l ++ [(k, b)]).getD l.length (0, []) = (k, b) := by simp [List.getD_eq_getElem?_getD]
      have e4 : (vs ++ [Value.slice bo b.length c]).getD l.length undef = .slice bo b.length c := by rw [← h.len]; simp [List.getD_eq_getElem?_getD]
      rw [e3, e4]
      exact ⟨bo, c, rfl, ob _ _ _ _ hv⟩

end Go.Proofs.YtjooabgjkjnhhaaGreatDoor


/-! Maps by whole numbers: made, looked up, one key more; a ring of secrets in one. -/
namespace Go.Proofs.YtjooabgjkjnhhaaGreatDoor
open Go.RowKit
set_option linter.unusedVariables false

/-- Block b is a map of these keys and values, in the order of their coming. -/
def MpAt (w : World) (b : Nat) (ks : List (Int × Value)) : Prop := ∃ es clock, w.heap[b]? = some (.map es clock) ∧ es.toList.map (fun e => (e.key, e.val)) = ks.map fun p => (Value.int .i64 p.1, p.2)
/-- A map type by int, of elements whose zero value is z. -/
structure MpT (T e : TypeId) (z : Value) : Prop where
  und : Tryz.prog.underlying T = some (.map 3 e)
  zero : ∀ w, (zeroValue e).run Tryz.prog w = .ok z w

theorem findNow_none (key : Int) : ∀ (es : List MapEntry) (ks : List (Int × Value)) (i : Nat), es.map (fun e => (e.key, e.val)) = ks.map (fun p => (Value.int .i64 p.1, p.2)) → ks.find? (fun p => p.1 == key) = none → Instr.findNow (.int .i64) (.int .i64 key) es i = some none
  | [], _, _, _, _ => rfl
  | e :: es, [], _, h, _ => by cases h
  | e :: es, p :: ks, i, h, hf => by
    simp only [List.map_cons, List.cons.injEq, Prod.mk.injEq] at h
    obtain ⟨⟨h1, h2⟩, h3⟩ := h
    rw [List.find?_cons] at hf
    by_cases hk : (p.1 == key) = true
    · rw [hk] at hf; cases hf
    · have hk' : (p.1 == key) = false := by simpa using hk
      rw [hk'] at hf
      have hk2 : (key == p.1) = false := by
        simp at hk' ⊢
        exact fun h => hk' h.symm
      unfold Instr.findNow
      rw [h1]
      show (match (if IntKind.i64 = IntKind.i64 then some (key == p.1) else none) with | some true => _ | some false => _ | none => _) = _
      rw [if_pos rfl, hk2]
      exact findNow_none key es ks (i + 1) h3 hf
theorem findNow_some (key : Int) (v : Value) : ∀ (es : List MapEntry) (ks : List (Int × Value)) (i : Nat), es.map (fun e => (e.key, e.val)) = ks.map (fun p => (Value.int .i64 p.1, p.2)) → (ks.find? fun p => p.1 == key).map (·.2) = some v → ∃ j, Instr.findNow (.int .i64) (.int .i64 key) es i = some (some (j, v))
  | [], [], _, _, hf => by cases hf
  | [], _ :: _, _, h, _ => by cases h
  | e :: es, [], _, h, _ => by cases h
  | e :: es, p :: ks, i, h, hf => by
    simp only [List.map_cons, List.cons.injEq, Prod.mk.injEq] at h
    obtain ⟨⟨h1, h2⟩, h3⟩ := h
    rw [List.find?_cons] at hf
    unfold Instr.findNow
    rw [h1]
    by_cases hk : (p.1 == key) = true
    · rw [hk] at hf
      simp only [Option.map_some, Option.some.injEq] at hf
      have hk2 : (key == p.1) = true := by
        simp at hk ⊢
        exact hk.symm
      refine ⟨i, ?_⟩
      show (match (if IntKind.i64 = IntKind.i64 then some (key == p.1) else none) with | some true => _ | some false => _ | none => _) = _
      rw [if_pos rfl, hk2]
      show some (some (i, e.val)) = _
      rw [h2, hf]
    · have hk' : (p.1 == key) = false := by simpa using hk
      rw [hk'] at hf
      have hk2 : (key == p.1) = false := by
        simp at hk' ⊢
        exact fun h => hk' h.symm
      obtain ⟨j, hj⟩ := findNow_some key v es ks (i + 1) h3 hf
      refine ⟨j, ?_⟩
      show (match (if IntKind.i64 = IntKind.i64 then some (key == p.1) else none) with | some true => _ | some false => _ | none => _) = _
      rw [if_pos rfl, hk2]
      exact hj

theorem int_key (key : Int) : MapKept.IsKey (.int .i64) (.int .i64 key) := by simp [MapKept.IsKey]
/-- 'v, ok := m[key]'. -/
theorem look_none {T e : TypeId} {z : Value} (M : MpT T e z) {w : World} {b : Nat} {ks : List (Int × Value)} (h : MpAt w b ks) (key : Int) (hf : ks.find? (fun p => p.1 == key) = none) :
    (Instr.lookup T (.map (some b)) (.int .i64 key) true).run Tryz.prog w = .ok (.tuple #[z, .bool false]) w := by
  obtain ⟨es, clock, hb, he⟩ := h
  have h1 := findNow_none key es.toList ks 0 he hf
  simp [Instr.lookup, run_underlying M.und, MapKept.run_getObj_map hb, MapKept.run_checkKey Tryz.underlying3 (int_key key), MapKept.run_findKey Tryz.underlying3 h1, M.zero, Result.andThen]
theorem look_some {T e : TypeId} {z : Value} (M : MpT T e z) {w : World} {b : Nat} {ks : List (Int × Value)} (h : MpAt w b ks) (key : Int) (v : Value) (hf : (ks.find? fun p => p.1 == key).map (·.2) = some v) :
    (Instr.lookup T (.map (some b)) (.int .i64 key) true).run Tryz.prog w = .ok (.tuple #[v, .bool true]) w := by
  obtain ⟨es, clock, hb, he⟩ := h
  obtain ⟨j, h1⟩ := findNow_some key v es.toList ks 0 he hf
  simp [Instr.lookup, run_underlying M.und, MapKept.run_getObj_map hb, MapKept.run_checkKey Tryz.underlying3 (int_key key), MapKept.run_findKey Tryz.underlying3 h1, Result.andThen]
/-- 'm[key] = v', the key being a new one: that block alone has changed. -/
theorem update_new {T e : TypeId} {z : Value} (M : MpT T e z) {w : World} {b : Nat} {ks : List (Int × Value)} (h : MpAt w b ks) (key : Int) (v : Value) (hf : ks.find? (fun p => p.1 == key) = none) :
    ∃ w', (Instr.mapUpdate T (.map (some b)) (.int .i64 key) v).run Tryz.prog w = .ok () w' ∧ MpAt w' b (ks ++ [(key, v)]) ∧ SameBut b w w' := by
  obtain ⟨es, clock, hb, he⟩ := h
  have h1 := findNow_none key es.toList ks 0 he hf
  refine ⟨{ w with heap := w.heap.setIfInBounds b (.map (es.push { key := .int .i64 key, val := v, born := clock }) (clock + 1)) }, by simp [Instr.mapUpdate, run_underlying M.und, MapKept.run_getObj_map hb, MapKept.run_checkKey Tryz.underlying3 (int_key key), MapKept.run_findKey Tryz.underlying3 h1, MapKept.run_setObj_map _ hb, Result.andThen], ⟨_, _, (MapKept.heap_set hb).1, ?_⟩, ⟨rfl, rfl, rfl, by simp, fun j hj => (MapKept.heap_set hb).2 j hj⟩⟩
  simp [he]
theorem MpAt.lt {w : World} {b : Nat} {ks : List (Int × Value)} (h : MpAt w b ks) : b < w.heap.size := by
  obtain ⟨es, clock, hb, _⟩ := h
  exact (Array.getElem?_eq_some_iff.1 hb).1
theorem MpAt.of_block {w w' : World} {b : Nat} {ks : List (Int × Value)} (h : MpAt w b ks) (hb : w'.heap[b]? = w.heap[b]?) : MpAt w' b ks := by
  obtain ⟨es, clock, h1, h2⟩ := h
  exact ⟨es, clock, hb.trans h1, h2⟩
theorem MpAt.new (w : World) : MpAt (w.alloc (.map #[] 0)) w.heap.size [] := ⟨#[], 0, heap_alloc_new w _, rfl⟩
theorem MpAt.notRow {w : World} {b g t : Nat} {cs : List Value} {ks : List (Int × Value)} (h : MpAt w b ks) (hr : Row w g t cs) : g ≠ b := by
  obtain ⟨es, clock, h1, _⟩ := h
  intro e
  subst e
  have hr' : w.heap[g]? = some (.cells cs.toArray t (0, 0)) := hr
  rw [hr'] at h1
  cases h1

def kvs (l : Secs) (vs : List Value) : List (Int × Value) := List.zipWith (fun p v => (p.1, v)) l vs
theorem kvs_push (l : Secs) (vs : List Value) (k : Int) (b : List By) (v : Value) (h : vs.length = l.length) : kvs (l ++ [(k, b)]) (vs ++ [v]) = kvs l vs ++ [(k, v)] := by
  unfold kvs
  rw [List.zipWith_append (by omega)]; rfl
theorem fnd_cons (p : Int × List By) (l : Secs) (key : Int) : fnd (p :: l) key = if p.1 == key then some 0 else (fnd l key).map (· + 1) := by
  unfold fnd
  rw [List.findIdx?_cons]
theorem kvs_find (key : Int) : ∀ (l : Secs) (vs : List Value), vs.length = l.length → ((kvs l vs).find? fun p => p.1 == key).map (·.2) = (fnd l key).map fun i => vs.getD i undef
  | [], [], _ => rfl
  | p :: l, v :: vs, h => by
    have ih := kvs_find key l vs (by simpa using h)
    rw [fnd_cons]
    show (List.find? _ ((p.1, v) :: kvs l vs)).map _ = _
    rw [List.find?_cons]
    by_cases hk : (p.1 == key) = true
    · simp [hk]
    · have hk' : (p.1 == key) = false := by simpa using hk
      rw [hk']
      simp only
      rw [ih]
      cases fnd l key <;> simp
theorem kvs_none (key : Int) (l : Secs) (vs : List Value) (h : vs.length = l.length) (hf : (fnd l key).isSome = false) : (kvs l vs).find? (fun p => p.1 == key) = none := by
  have := kvs_find key l vs h
  cases hs : fnd l key with
  | some i => rw [hs] at hf; cases hf
  | none => rw [hs] at this; simpa using this

end Go.Proofs.YtjooabgjkjnhhaaGreatDoor
