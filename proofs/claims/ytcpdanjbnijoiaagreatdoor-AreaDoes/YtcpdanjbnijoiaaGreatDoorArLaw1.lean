import Derived.Test.YtcpdanjbnijoiaaGreatDoorMMath
import Derived.WalkKit
import Derived.LaidEql
import Derived.Stop.Asserts
import Derived.RowKitTokens
import Derived.Test.YtcpdanjbnijoiaaGreatDoorArRef7
import Derived.Test.YtcpdanjbnijoiaaGreatDoorDig
import Derived.Laws.CopyOwn

/-! errors.As at this program's two targets: a *image.Wrong (hit at the first link), an api.Errno (hit at the second one, behind Unwrap). -/
namespace Go.Proofs.YtcpdanjbnijoiaaGreatDoor
open Go.RowKit Go.Extern.Stop Go.Stop Go.Extern

/-- The variable errors.errorType holds the handle of the type error. -/
def HG (w : World) : Prop := w.cell? ⟨0, 0, none⟩ = some (.iface 139 (.agg #[.pointer (some ⟨1, 102, none⟩)]))
theorem HG.lt {w : World} (h : HG w) : 0 < w.heap.size := by
  rcases Nat.eq_zero_or_pos w.heap.size with h0 | h1
  · simp [HG, World.cell?, h0] at h
  · exact h1
theorem HG.below {w w' : World} {N : Nat} (h : HG w) (hb : Below N w w') (hN : 0 < N) : HG w' := (hb.cell (p := ⟨0, 0, none⟩) hN).trans h
theorem HG.alloc {w : World} (h : HG w) (o : Obj) : HG (w.alloc o) := by
  unfold HG; rw [World.cell?_alloc_lt _ _ ⟨0, 0, none⟩ h.lt]; exact h

/-! Closed facts at the target of type **Wrong. -/
theorem vo59 (t : Addr) (w : World) : (ReflectliteValue.unpack (.iface 107 (.pointer (some t)))).run Tryz.prog w
    = .ok (.agg #[.pointer (some ⟨1, 107, none⟩), .pointer (some ⟨w.heap.size, 0, none⟩), .int .u64 150]) (w.alloc (.cells #[.pointer (some t)] 107)) := by kernel_rfl
theorem ty59 (a : Addr) (w : World) : (ReflectliteValue.methodAny (ReflectliteValue.valueError "reflectlite.Value.Type" 0) (fun t _ _ _ => ReflectliteType.toType t) #[.agg #[.pointer (some ⟨1, 107, none⟩), .pointer (some a), .int .u64 150]]).run Tryz.prog w
    = .ok (.iface 139 (.agg #[.pointer (some ⟨1, 107, none⟩)])) w := by kernel_rfl
theorem kd59 (w : World) : ((ReflectliteType.abiMethod fun t => Functor.map (fun a : Nat => Value.int IntKind.u8 (a : Int)) (Rtype.kind t)) #[.pointer (some ⟨1, 107, none⟩)]).run Tryz.prog w = .ok (.int .u8 22) w := by kernel_rfl
theorem kd53 (w : World) : ((ReflectliteType.abiMethod fun t => Functor.map (fun a : Nat => Value.int IntKind.u8 (a : Int)) (Rtype.kind t)) #[.pointer (some ⟨1, 105, none⟩)]).run Tryz.prog w = .ok (.int .u8 22) w := by kernel_rfl
theorem pt59 (a : Addr) (w : World) : (ReflectliteValue.parts (.agg #[.pointer (some ⟨1, 107, none⟩), .pointer (some a), .int .u64 150])).run Tryz.prog w = .ok (some (107, a, 150)) w := by kernel_rfl
theorem isNil59 (a p : Addr) (W : World) (ha : W.cell? a = some (.pointer (some p))) :
    (ReflectliteValue.method (ReflectliteValue.valueError "reflectlite.Value.IsNil" 0) ReflectliteValue.isNil #[.agg #[.pointer (some ⟨1, 107, none⟩), .pointer (some a), .int .u64 150]]).run Tryz.prog W = .ok (.bool false) W := by
  show (Bind.bind (ReflectliteValue.parts _) _ : Sem Value).run Tryz.prog W = _
  simp only [Sem.run_bind, Array.getLit, List.getElem_toArray, List.getElem_cons_zero, pt59, Result.andThen]
  simp [ReflectliteValue.isNil, loadVar, isAgg, underlying, Tryz.underlying107, ha, Result.andThen]
theorem el59 (w : World) : (ReflectliteType.method ReflectliteType.elem #[.agg #[.pointer (some ⟨1, 107, none⟩)]]).run Tryz.prog w = .ok (.iface 139 (.agg #[.pointer (some ⟨1, 105, none⟩)])) w := by kernel_rfl
theorem im53 (w : World) : (ReflectliteType.relation "Implements" ReflectliteType.implements_ #[.agg #[.pointer (some ⟨1, 105, none⟩)], .iface 139 (.agg #[.pointer (some ⟨1, 102, none⟩)])]).run Tryz.prog w = .ok (.bool true) w := by kernel_rfl
theorem to53 (v : Value) (w : World) : (ReflectliteType.typeOf #[.iface 105 v]).run Tryz.prog w = .ok (.iface 139 (.agg #[.pointer (some ⟨1, 105, none⟩)])) w := by kernel_rfl
theorem as53 (w : World) : (ReflectliteType.relation "AssignableTo" ReflectliteType.assignableTo #[.agg #[.pointer (some ⟨1, 105, none⟩)], .iface 139 (.agg #[.pointer (some ⟨1, 105, none⟩)])]).run Tryz.prog w = .ok (.bool true) w := by kernel_rfl
theorem vo53 (e : Addr) (w : World) : (ReflectliteValue.unpack (.iface 105 (.pointer (some e)))).run Tryz.prog w
    = .ok (.agg #[.pointer (some ⟨1, 105, none⟩), .pointer (some ⟨w.heap.size, 0, none⟩), .int .u64 150]) (w.alloc (.cells #[.pointer (some e)] 105)) := by kernel_rfl
theorem eo59 (w : World) : (Rtype.elem? 107).run Tryz.prog w = .ok (some 105) w := by kernel_rfl
theorem mk53 (p : Addr) (w : World) : (ReflectliteValue.mk 105 p ReflectliteValue.flagAddr).run Tryz.prog w = .ok (.agg #[.pointer (some ⟨1, 105, none⟩), .pointer (some p), .int .u64 406]) w := by kernel_rfl
theorem elemV59 (a p : Addr) (W : World) (ha : W.cell? a = some (.pointer (some p))) :
    (ReflectliteValue.method (ReflectliteValue.valueError "reflectlite.Value.Elem" 0) ReflectliteValue.elem #[.agg #[.pointer (some ⟨1, 107, none⟩), .pointer (some a), .int .u64 150]]).run Tryz.prog W
      = .ok (.agg #[.pointer (some ⟨1, 105, none⟩), .pointer (some p), .int .u64 406]) W := by
  show (Bind.bind (ReflectliteValue.parts _) _ : Sem Value).run Tryz.prog W = _
  simp only [Sem.run_bind, Array.getLit, List.getElem_toArray, List.getElem_cons_zero, pt59, Result.andThen]
  simp [ReflectliteValue.elem, loadVar, isAgg, underlying, Tryz.underlying107, ha, Result.andThen, eo59, mk53]
theorem pt53a (a : Addr) (w : World) : (ReflectliteValue.parts (.agg #[.pointer (some ⟨1, 105, none⟩), .pointer (some a), .int .u64 406])).run Tryz.prog w = .ok (some (105, a, 406)) w := by kernel_rfl
theorem pt53 (a : Addr) (w : World) : (ReflectliteValue.parts (.agg #[.pointer (some ⟨1, 105, none⟩), .pointer (some a), .int .u64 150])).run Tryz.prog w = .ok (some (105, a, 150)) w := by kernel_rfl
theorem di53 (w : World) : (Rtype.directlyAssignable 105 105).run Tryz.prog w = .ok true w := by kernel_rfl
theorem set53 (ta b e : Addr) (old : Value) (W : World) (hb : W.cell? b = some (.pointer (some e))) (ht : W.cell? ta = some old) (hf : W.frozen? ta = false) :
    (ReflectliteValue.set #[.agg #[.pointer (some ⟨1, 105, none⟩), .pointer (some ta), .int .u64 406], .agg #[.pointer (some ⟨1, 105, none⟩), .pointer (some b), .int .u64 150]]).run Tryz.prog W
      = .ok (.tuple #[]) (W.setCell ta (.pointer (some e))) := by
  show (Bind.bind (ReflectliteValue.parts _) _ : Sem Value).run Tryz.prog W = _
  simp only [Sem.run_bind, Array.getLit, List.getElem_toArray, List.getElem_cons_zero, List.getElem_cons_succ, pt53a, pt53, Result.andThen]
  simp [ReflectliteValue.flagAddr, loadVar, isAgg, underlying, Tryz.underlying105, hb, Result.andThen, di53, storeVar, Value.cells, storeCells, Addr.add]
  rw [run_store Tryz.prog W ta _ _ (by rfl)]
  simp [ht, hf]

/-! Closed facts at the target of type *Errno. -/
theorem kd28 (w : World) : ((ReflectliteType.abiMethod fun t => Functor.map (fun a : Nat => Value.int IntKind.u8 (a : Int)) (Rtype.kind t)) #[.pointer (some ⟨1, 32, none⟩)]).run Tryz.prog w = .ok (.int .u8 2) w := by kernel_rfl
theorem im28 (w : World) : (ReflectliteType.relation "Implements" ReflectliteType.implements_ #[.agg #[.pointer (some ⟨1, 32, none⟩)], .iface 139 (.agg #[.pointer (some ⟨1, 102, none⟩)])]).run Tryz.prog w = .ok (.bool true) w := by kernel_rfl
theorem to28 (v : Value) (w : World) : (ReflectliteType.typeOf #[.iface 32 v]).run Tryz.prog w = .ok (.iface 139 (.agg #[.pointer (some ⟨1, 32, none⟩)])) w := by kernel_rfl
theorem as28 (w : World) : (ReflectliteType.relation "AssignableTo" ReflectliteType.assignableTo #[.agg #[.pointer (some ⟨1, 32, none⟩)], .iface 139 (.agg #[.pointer (some ⟨1, 32, none⟩)])]).run Tryz.prog w = .ok (.bool true) w := by kernel_rfl
theorem as5328 (w : World) : (ReflectliteType.relation "AssignableTo" ReflectliteType.assignableTo #[.agg #[.pointer (some ⟨1, 105, none⟩)], .iface 139 (.agg #[.pointer (some ⟨1, 32, none⟩)])]).run Tryz.prog w = .ok (.bool false) w := by kernel_rfl
theorem vo28 (n : Int) (w : World) : (ReflectliteValue.unpack (.iface 32 (.int .i64 n))).run Tryz.prog w
    = .ok (.agg #[.pointer (some ⟨1, 32, none⟩), .pointer (some ⟨w.heap.size, 0, none⟩), .int .u64 130]) (w.alloc (.cells #[.int .i64 n] 32)) := by kernel_rfl
theorem mk28 (p : Addr) (w : World) : (ReflectliteValue.mk 32 p ReflectliteValue.flagAddr).run Tryz.prog w = .ok (.agg #[.pointer (some ⟨1, 32, none⟩), .pointer (some p), .int .u64 386]) w := by kernel_rfl
theorem pt28a (a : Addr) (w : World) : (ReflectliteValue.parts (.agg #[.pointer (some ⟨1, 32, none⟩), .pointer (some a), .int .u64 386])).run Tryz.prog w = .ok (some (32, a, 386)) w := by kernel_rfl
theorem pt28 (a : Addr) (w : World) : (ReflectliteValue.parts (.agg #[.pointer (some ⟨1, 32, none⟩), .pointer (some a), .int .u64 130])).run Tryz.prog w = .ok (some (32, a, 130)) w := by kernel_rfl
theorem di28 (w : World) : (Rtype.directlyAssignable 32 32).run Tryz.prog w = .ok true w := by kernel_rfl
theorem set28 (ta b : Addr) (n : Int) (old : Value) (W : World) (hb : W.cell? b = some (.int .i64 n)) (ht : W.cell? ta = some old) (hf : W.frozen? ta = false) :
    (ReflectliteValue.set #[.agg #[.pointer (some ⟨1, 32, none⟩), .pointer (some ta), .int .u64 386], .agg #[.pointer (some ⟨1, 32, none⟩), .pointer (some b), .int .u64 130]]).run Tryz.prog W
      = .ok (.tuple #[]) (W.setCell ta (.int .i64 n)) := by
  show (Bind.bind (ReflectliteValue.parts _) _ : Sem Value).run Tryz.prog W = _
  simp only [Sem.run_bind, Array.getLit, List.getElem_toArray, List.getElem_cons_zero, List.getElem_cons_succ, pt28a, pt28, Result.andThen]
  simp [ReflectliteValue.flagAddr, loadVar, isAgg, underlying, Tryz.underlying32, hb, Result.andThen, di28, storeVar, Value.cells, storeCells, Addr.add]
  rw [run_store Tryz.prog W ta _ _ (by rfl)]
  simp [ht, hf]

/-! The assertions of errors.as. -/
theorem noAs53 (v : Value) (xT : TypeId) (w : World) : (Instr.typeAssert (.iface 105 v) xT 144 true).run Tryz.prog w = .ok (.tuple #[.nilIface, .bool false]) w := run_typeAssert_lacksB Tryz.underlying144 (by kernel_rfl) (by kernel_rfl) v xT w
theorem hasUn53 (v : Value) (xT : TypeId) (w : World) : (Instr.typeAssert (.iface 105 v) xT 147 true).run Tryz.prog w = .ok (.tuple #[.iface 105 v, .bool true]) w := run_typeAssert_hasB Tryz.underlying147 (by kernel_rfl) v xT w
end Go.Proofs.YtcpdanjbnijoiaaGreatDoor


/-! Area's statements: what is asked of the code ('Are'); lent, kept. -/
namespace Go.Proofs.YtcpdanjbnijoiaaGreatDoor
open Go.RowKit
set_option linter.unusedVariables false

/-- A slice in new memory, its room too, that holds these bytes. -/
def Nw (N : Nat) (w : World) (ao : Option Addr) (n c : Nat) (l : List By) : Prop :=
  l.length = n ∧ n ≤ c ∧ ((ao = none ∧ c = 0) ∨ ∃ g off cur, ao = some ⟨g, off, none⟩ ∧ N ≤ g ∧ Row w g 5 cur ∧ off + c ≤ cur.length ∧ ∀ j v, l[j]? = some v → cur[off + j]? = some (B8 v))

/-- What area's code keeps. -/
structure Are : Prop where
  size : ∀ (c : Cfg) (w : World), Calls Tryz.prog 7 #[.agg c.vals.toArray] w fun e w' => e = .returned (.int .i64 c.asize) ∧ Below w.heap.size w w'
  read : ∀ (G : RF) (s : RS) (S : ByteArray) (a : Int) (w : World), HG w → CAt w G s S → s.Ar → Calls Tryz.prog 17 #[.pointer (some ⟨G.g, 0, none⟩), .int .i64 a] w fun e w' => ∃ ao c, e = .returned (.tuple #[.slice ao (s.aread a).1.length c, .int .i64 (s.aread a).2]) ∧ Nw w.heap.size w' ao (s.aread a).1.length c (s.aread a).1 ∧ Below w.heap.size w w'
  write : ∀ (G : RF) (s : RS) (S : ByteArray) (a : Int) (bo : Option Addr) (n cap : Nat) (b : List By) (w : World), b.length = n → n ≤ 140737488355328 → n ≤ cap → (bo = none → cap = 0) → CAt w G s S → s.Ar → s.Good → s.n < 4611686018427000000 → IsB w bo b → (b = [] ∨ ∀ B off, bo = some ⟨B, off, none⟩ → B ∉ G.blocks) →
    Calls Tryz.prog 16 #[.pointer (some ⟨G.g, 0, none⟩), .int .i64 a, .slice bo n cap] w (CPost G (s.awrite a b).1 (s.awrite a b).2 w)

/-- And of Worn. -/
def AreWorn : Prop := ∀ (G : RF) (s : RS) (S : ByteArray) (a : Int) (w : World), CAt w G s S → s.Ar → Calls Tryz.prog 29 #[.pointer (some ⟨G.g, 0, none⟩), .int .i64 a] w fun e w' => e = .returned (.tuple #[.bool (if s.areaE a = 0 then s.aworn a else false), .int .i64 (s.areaE a)]) ∧ Below w.heap.size w w'

theorem wpList_make_full {ops : Array Oper} {rest : List Oper} {o : Oper} {a : Act} {w : World} {Q : Exit → Act → World → Prop} (hg : o.guard = none) (l c : Operand) (hop : o.op = Op.makeSlice 40 l c)
    (kl kc : IntKind) (n : Nat) (hl : a.eval l = .int kl (n : Int)) (hc : a.eval c = .int kc (n : Int)) (hn : n ≤ 281474976710656)
    (hK : ∀ w', Row w' w.heap.size 5 ((List.replicate n (0 : By)).map B8) → Below w.heap.size w w' → wpList Tryz.prog ops Q rest (a.put o.dst (.slice (some ⟨w.heap.size, 0, none⟩) n n)) w') :
    wpList Tryz.prog ops Q (o :: rest) a w := by
  obtain ⟨i0, hi, hz0, hz1, hz2⟩ := info_parts Tryz.infoU8
  refine wpList_plain hg fun K hK' => ?_
  have hrun := run_make (P := Tryz.prog) w 40 5 i0 (.int .u8 0) Tryz.underlying40 hi hz0 kl kc (n : Int) (n : Int) (by omega) (by omega) (by rw [hz2]; omega) (by omega)
  unfold Oper.wp
  simp [execOp, hop, hl, hc, hrun, Result.andThen]
  refine hK' _ _ (hK _ ?_ ?_)
  · refine Row.at w 5 _ _ _ rfl ?_
    rw [hz1, Nat.mul_one]
    have : (madeCells #[Value.int .u8 0] n).toList = (List.replicate n (0 : By)).map B8 := by
      rw [toList_madeCells_one]; simp [B8]
    rw [← this]; rfl
  · exact (Below.refl _ _).alloc (Nat.le_refl _) _

def mk4 : List By := [161#8, 162#8, 163#8, 164#8]
/-- The bytes, and the first i marks, zeroes behind them. -/
def lentTo (b : List By) (i : Nat) : List By := b ++ (mk4.take i ++ List.replicate (4 - i) 0)
theorem lentTo_len (b : List By) (i : Nat) (hi : i ≤ 4) : (lentTo b i).length = b.length + 4 := by simp [lentTo, mk4]; omega
theorem lentTo_set (b : List By) (i : Nat) (hi : i < 4) : (lentTo b i).set (b.length + i) (BitVec.ofNat 8 (161 + i)) = lentTo b (i + 1) := by
  unfold lentTo
  rw [List.set_append_right _ _ (by omega), Nat.add_sub_cancel_left]
  congr 1
  have : i = 0 ∨ i = 1 ∨ i = 2 ∨ i = 3 := by omega
  rcases this with rfl | rfl | rfl | rfl <;> rfl

/-- copy() of all bytes to the head of a row that has room for them. -/
theorem wpList_copy_head {ops : Array Oper} {rest : List Oper} {o : Oper} {a : Act} {w : World} {Q : Exit → Act → World → Prop} (hgd : o.guard = none) (d s : Operand)
    (ho : o.op = .call { callee := .builtin .copy, args := #[d, s], argTypes := #[40, 40] })
    (D dLen dCap : Nat) (bo : Option Addr) (n cap : Nat) (hd : a.eval d = .slice (some ⟨D, 0, none⟩) dLen dCap) (hs : a.eval s = .slice bo n cap) (hle : n ≤ dLen)
    (cur : List Value) (hr : Row w D 5 cur) (b : List By) (hb0 : b.length = n) (hb : IsB w bo b) (hfit : n ≤ cur.length)
    (h : ∀ w', Row w' D 5 (b.map B8 ++ cur.drop n) → SameBut D w w' → wpList Tryz.prog ops Q rest (a.put o.dst (.int .i64 (n : Int))) w') : wpList Tryz.prog ops Q (o :: rest) a w := by
  by_cases hn0 : n = 0
  · have hbn : b = [] := List.eq_nil_of_length_eq_zero (by rw [hb0]; exact hn0)
    subst hbn
    subst hn0
    refine wpList_copy_nothing hgd d s 40 40 ho 5 Tryz.underlying40 (by kernel_rfl) _ _ dLen dCap 0 cap hd hs (by show Nat.min 0 dLen = 0; exact Nat.zero_min _) ?_
    exact h w (by simpa using hr) (SameBut.refl _ _)
  · rcases hb with rfl | ⟨B, off, rfl, hc⟩
    · simp at hb0; omega
    · refine wpList_copy_Row hgd d s ho D 0 dLen dCap B off n cap hd hs 5 cur hr b n hb0 (by show n = Nat.min n dLen; exact (Nat.min_eq_left hle).symm) hc (by omega) ?_
      intro w' hr' hs'
      refine h w' ?_ hs'
      simpa [hb0] using hr'

set_option maxHeartbeats 1000000 in
set_option maxRecDepth 100000 in
theorem lent_any (bo : Option Addr) (n cap : Nat) (b : List By) (hb0 : b.length = n) (hn : n ≤ 140737488355328) (hcap : n ≤ cap) (w : World) (hb : IsB w bo b) :
    Calls Tryz.prog 26 #[.slice bo n cap] w fun e w' => e = .returned (.slice (some ⟨w.heap.size, 0, none⟩) (n + 4) (n + 4)) ∧ Row w' w.heap.size 5 ((b ++ mk4).map B8) ∧ Below w.heap.size w w' := by
  have HB : Hid (IsB w bo b) := hb
  have HB0 : Hid (b.length = n) := hb0
  have z1 : IntKind.i64.wrap ((n : Int) + 4) = ((n + 4 : Nat) : Int) := by rw [i64_in _ (by omega) (by omega)]; omega
  clear hb
  go_enter Tryz.func26, Tryz.ntmps26
  have hrl : ((List.replicate (n + 4) (0 : By)).map B8).length = n + 4 := by simp
  go_wp2_with (first
    | (refine wpList_make_full rfl _ _ rfl .i64 .i64 (n + 4) rfl rfl (by omega) ?_; intro w2 hr2 hb2)
    | (refine wpList_copy_head rfl (.tmp 9) (.tmp 10) rfl w.heap.size (n + 4) (n + 4) bo n cap rfl rfl (by omega) _ hr2 b HB0.out (HB.out.below hb2 (Nat.le_refl _)) (by rw [hrl]; omega) ?_; intro w3 hr3 hs3))
  have r3 : Row w3 w.heap.size 5 ((lentTo b 0).map B8) := by
    have e : b.map B8 ++ ((List.replicate (n + 4) (0 : By)).map B8).drop n = (lentTo b 0).map B8 := by
      unfold lentTo
      rw [List.map_append, ← List.map_drop, List.drop_replicate, Nat.add_sub_cancel_left]; rfl
    rw [← e]; exact hr3
  have b3 : Below w.heap.size w w3 := hs3.below hb2 (Nat.le_refl _)
  clear hr2 hr3 hs3 hb2
  go_loopw [4] (fun iv wr => ∃ i : Nat, i ≤ 4 ∧ iv = .int .i64 i ∧ Row wr w.heap.size 5 ((lentTo b i).map B8) ∧ Below w.heap.size w wr) (fun iv _ => 4 - (intOf iv).toNat)
  case atStart => exact ⟨0, by omega, rfl, r3, b3⟩
  case round =>
    clear r3 b3
    obtain ⟨i, hi, rfl, ri, bi⟩ := hrel
    by_cases hlt : i < 4
    · have y1 : (i : Int) < 4 := by omega
      have z2 : IntKind.i64.wrap ((n : Int) + (i : Int)) = ((n + i : Nat) : Int) := by rw [i64_in _ (by omega) (by omega)]; omega
      have z3 : IntKind.i64.wrap (161 + (i : Int)) = 161 + (i : Int) := i64_in _ (by omega) (by omega)
      have z4 : ((BitVec.ofNat 8 (161 + i)).toNat : Int) = 161 + (i : Int) := by rw [BitVec.toNat_ofNat]; omega
      have y2 : ((n + i : Nat) : Int) < ((n + 4 : Nat) : Int) := by omega
      have y3 : (0 : Int) ≤ ((n + i : Nat) : Int) := by omega
      have hl : (lentTo b i).length = n + 4 := by rw [lentTo_len b i hi, HB0.out]
      have ct := ri.cell (n + i) (B8 ((lentTo b i).getD (n + i) 0)) (by
        rw [List.getElem?_map, List.getElem?_eq_getElem (by omega), List.getD_eq_getElem?_getD, List.getElem?_eq_getElem (by omega)]; rfl)
      have ft := ri.frozen (n + i)
      have rset := ri.set (n + i) (.int .u8 ((BitVec.ofNat 8 (161 + i)).toNat : Int))
      have E : ((lentTo b i).map B8).set (n + i) (.int .u8 ((BitVec.ofNat 8 (161 + i)).toNat : Int)) = (lentTo b (i + 1)).map B8 := by
        rw [← lentTo_set b i hlt, HB0.out, List.map_set]; rfl
      rw [E] at rset
      have sb := SameBut.setCell w.heap.size (n + i) (.int .u8 ((BitVec.ofNat 8 (161 + i)).toNat : Int)) wr
      have FIN : Hid (Row (wr.setCell ⟨w.heap.size, n + i, none⟩ (.int .u8 ((BitVec.ofNat 8 (161 + i)).toNat : Int))) w.heap.size 5 ((lentTo b (i + 1)).map B8) ∧ Below w.heap.size w (wr.setCell ⟨w.heap.size, n + i, none⟩ (.int .u8 ((BitVec.ofNat 8 (161 + i)).toNat : Int)))) := ⟨rset, sb.below bi (Nat.le_refl _)⟩
      rw [z4] at FIN
      clear rset sb E ri bi hl z4
      generalize B8 ((lentTo b i).getD (n + i) 0) = old at ct
      generalize hMM : n + i = MM at *
      generalize hNN : n + 4 = NN at *
      go_wp2
      obtain ⟨f1, f2⟩ := FIN.out
      exact ⟨⟨i + 1, by omega, by go_num, f1, f2⟩, by simp [intOf]; omega⟩
    · obtain rfl : i = 4 := by omega
      have e : lentTo b 4 = b ++ mk4 := by unfold lentTo; simp [mk4]
      rw [e] at ri
      go_wp2
      go_ret
      exact ⟨rfl, ri, bi⟩

theorem strOf_eq {a b : List By} (h : a = b) : ((strOf a).toList == (strOf b).toList) = true := by rw [h]; exact beq_self_eq_true _

set_option maxHeartbeats 1000000 in
set_option maxRecDepth 100000 in
theorem kept_any (g : Nat) (bo : Option Addr) (n cap : Nat) (b : List By) (hb0 : b.length = n) (hn : n ≤ 140737488355328) (w : World) (hr : Row w g 5 ((b ++ mk4).map B8)) (hb : IsB w bo b) :
    Calls Tryz.prog 28 #[.slice (some ⟨g, 0, none⟩) (n + 4) (n + 4), .slice bo n cap] w fun e w' => e = .returned (.bool true) ∧ Dr w w' := by
  have HIB : Hid (∀ W, Dr w W → IsB W bo b) := fun W d => by obtain ⟨k, rfl⟩ := d; exact hb
  have HIG : Hid (∀ W, Dr w W → IsB W (some ⟨g, 0, none⟩) b) := fun W d => by
    obtain ⟨k, rfl⟩ := d
    refine .inr ⟨g, 0, rfl, fun j v hj => ?_⟩
    rw [Nat.zero_add]
    refine hr.cell j _ ?_
    rw [List.getElem?_map, List.getElem?_append_left (List.getElem?_eq_some_iff.1 hj).1, hj]; rfl
  have cv1 : ∀ k c, (convert 40 9 (.slice (some ⟨g, 0, none⟩) n c)).run Tryz.prog (w.drewN k) = .ok (.string (strOf b)) (w.drewN k) := fun k c => conv_string (w.drewN k) (some ⟨g, 0, none⟩) n c b hb0 (HIG.out _ ⟨k, rfl⟩)
  have cv2 : ∀ k c, (convert 40 9 (.slice bo n c)).run Tryz.prog (w.drewN k) = .ok (.string (strOf b)) (w.drewN k) := fun k c => conv_string (w.drewN k) bo n c b hb0 (HIB.out _ ⟨k, rfl⟩)
  have cv3 := fun c => cv1 0 c
  have cv4 := fun c => cv2 0 c
  have HC : Hid (∀ W, Dr w W → ∀ i : Nat, i < 4 → W.cell? ⟨g, n + i, none⟩ = some (.int .u8 (161 + (i : Int)))) := fun W d i hi => by
    obtain ⟨k, rfl⟩ := d
    refine hr.cell (n + i) _ ?_
    rw [List.getElem?_map, List.getElem?_append_right (by omega), hb0, Nat.add_sub_cancel_left]
    have : i = 0 ∨ i = 1 ∨ i = 2 ∨ i = 3 := by omega
    rcases this with rfl | rfl | rfl | rfl <;> rfl
  have y0 : (n : Int) ≤ ((n + 4 : Nat) : Int) := by omega
  have y1 : (0 : Int) ≤ (n : Int) := by omega
  have tn : ((n : Int)).toNat = n := by omega
  clear hr hb
  generalize hSS : strOf b = SS at *
  go_enter Tryz.func28, Tryz.ntmps28
  go_wp2
  go_quiet (fail)
  go_wp2
  go_loopw [5, 6] (fun ov iv wr => ∃ i : Nat, i ≤ 4 ∧ ov = .bool true ∧ iv = .int .i64 i ∧ Dr w wr) (fun _ iv _ => 4 - (intOf iv).toNat)
  case atStart => exact ⟨0, by omega, by first | rfl | simp, rfl, ⟨nq, rfl⟩⟩
  case round =>
    obtain ⟨i, hi, rfl, rfl, d⟩ := hrel
    by_cases hlt : i < 4
    · have l1 : (i : Int) < 4 := by omega
      have z2 : IntKind.i64.wrap ((n : Int) + (i : Int)) = ((n + i : Nat) : Int) := by rw [i64_in _ (by omega) (by omega)]; omega
      have z3 : IntKind.i64.wrap (161 + (i : Int)) = 161 + (i : Int) := i64_in _ (by omega) (by omega)
      have l2 : ((n + i : Nat) : Int) < ((n + 4 : Nat) : Int) := by omega
      have l3 : (0 : Int) ≤ ((n + i : Nat) : Int) := by omega
      have cc := HC.out _ d i hlt
      clear cv1 cv2 cv3 cv4
      generalize hMM : n + i = MM at *
      generalize hNN : n + 4 = NN at *
      go_wp2
      exact ⟨⟨i + 1, by omega, by first | rfl | simp, by go_num, d⟩, by simp [intOf]; omega⟩
    · obtain rfl : i = 4 := by omega
      clear cv1 cv2 cv3 cv4
      go_wp2
      go_ret
      exact ⟨rfl, d⟩
end Go.Proofs.YtcpdanjbnijoiaaGreatDoor
