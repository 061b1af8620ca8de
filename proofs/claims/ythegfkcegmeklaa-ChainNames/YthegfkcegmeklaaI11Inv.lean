import Derived.Test.YthegfkcegmeklaaMem
import Derived.Test.YthegfkcegmeklaaRows
import Derived.DeepKeys
import Derived.Test.YthegfkcegmeklaaI11Mem
import Derived.Test.YthegfkcegmeklaaA
import Derived.Deep.RegionHeld3

namespace Go.Proofs.Ythegfkcegmeklaa
open Go.RowKit

theorem mapM_some {α β : Type} {f : α → Option β} (g : α → β) : ∀ (l : List α), (∀ x ∈ l, f x = some (g x)) → l.mapM f = some (l.map g)
  | [], _ => rfl
  | x :: l, h => by
    rw [List.mapM_cons, h x (by simp), mapM_some g l (fun y hy => h y (by simp [hy]))]
    rfl

theorem Try.cells32 : Try.prog.cellsOf 32 = 32 := by kernel_rfl
theorem Try.cells5 : Try.prog.cellsOf 5 = 1 := by kernel_rfl

theorem hash_key (bs : List By) (hl : bs.length = 32) : ∃ l, Try.prog.keyLits 2 32 (bs.map B8) = some l := by
  have hu : Try.prog.underlying 32 = some (.array 32 5) := Try.underlying32
  refine ⟨((List.range 32).map fun i => [Lit.int .u8 ((bs.getD i 0).toNat : Int)]).flatten, ?_⟩
  unfold Program.keyLits
  simp only [hu]
  rw [if_pos (by rw [Try.cells32, List.length_map, hl])]
  rw [mapM_some (fun i => [Lit.int .u8 ((bs.getD i 0).toNat : Int)])]
  · rfl
  · intro i hi
    rw [List.mem_range] at hi
    have e : ((bs.map B8).drop (i * Try.prog.cellsOf 5)).take (Try.prog.cellsOf 5) = [.int .u8 ((bs.getD i 0).toNat : Int)] := by
      rw [Try.cells5, Nat.mul_one, List.drop_eq_getElem_cons (by rw [List.length_map, hl]; exact hi)]
      simp [B8, hl, hi]
    rw [e]
    unfold Program.keyLits
    have h8 := b8_lt (bs.getD i 0)
    simp only [Try.underlying5]
    rw [if_pos ⟨trivial, WalkArith.wf_u8 (by omega)⟩]

theorem eq_self (bs : List By) (hl : bs.length = 32) (w : World) : (Op.equalIn 10000 32 (.agg (bs.map B8).toArray) (.agg (bs.map B8).toArray)).run Try.prog w = .ok true w := by
  obtain ⟨l, hk⟩ := hash_key bs hl
  have hf : (Value.agg (bs.map B8).toArray).formed Try.prog 32 = true := by
    simp [Value.formed, Try.underlying32, Try.cells32, hl]
  have hk' : Try.prog.keyLits 2 32 (Value.agg (bs.map B8).toArray).cells.toList = some l := by simpa [Value.cells] using hk
  obtain ⟨r, hr, hiff⟩ := run_equalIn_deep (P := Try.prog) 9998 2 32 (by kernel_rfl) w 2 2 _ _ l l hf hf hk' hk'
  rw [hr, hiff.2 rfl]
end Go.Proofs.Ythegfkcegmeklaa


/-! Two hashes held against each other; a whole row loaded where a guard lets it. -/
namespace Go.Proofs.Ythegfkcegmeklaa
open Go.RowKit
set_option linter.unusedVariables false
set_option maxRecDepth 100000

def hashLits (bs : List By) : List Lit := ((List.range 32).map fun i => [Lit.int .u8 ((bs.getD i 0).toNat : Int)]).flatten
theorem hash_key_at (bs : List By) (hl : bs.length = 32) : Try.prog.keyLits 2 32 (bs.map B8) = some (hashLits bs) := by
  have hu : Try.prog.underlying 32 = some (.array 32 5) := Try.underlying32
  unfold Program.keyLits
  simp only [hu]
  rw [if_pos (by rw [Try.cells32, List.length_map, hl])]
  rw [mapM_some (fun i => [Lit.int .u8 ((bs.getD i 0).toNat : Int)])]
  · rfl
  · intro i hi
    rw [List.mem_range] at hi
    have e : ((bs.map B8).drop (i * Try.prog.cellsOf 5)).take (Try.prog.cellsOf 5) = [.int .u8 ((bs.getD i 0).toNat : Int)] := by
      rw [Try.cells5, Nat.mul_one, List.drop_eq_getElem_cons (by rw [List.length_map, hl]; exact hi)]
      simp [B8, hl, hi]
    rw [e]
    unfold Program.keyLits
    have h8 := b8_lt (bs.getD i 0)
    simp only [Try.underlying5]
    rw [if_pos ⟨trivial, WalkArith.wf_u8 (by omega)⟩]
theorem flat_one {α β : Type} (g : α → β) : ∀ l : List α, (l.map fun i => [g i]).flatten = l.map g
  | [] => rfl
  | x :: l => by simp [flat_one g l]
theorem hashLits_inj {a b : List By} (ha : a.length = 32) (hb : b.length = 32) (h : hashLits a = hashLits b) : a = b := by
  unfold hashLits at h
  rw [flat_one (fun i => Lit.int .u8 ((a.getD i 0).toNat : Int)), flat_one (fun i => Lit.int .u8 ((b.getD i 0).toNat : Int)), List.map_inj_left] at h
  refine List.ext_getElem (by rw [ha, hb]) fun i h1 h2 => ?_
  have := h i (by rw [List.mem_range]; omega)
  rw [getD_lt h1, getD_lt h2] at this
  injection this with _ e
  exact BitVec.eq_of_toNat_eq (by omega)
theorem eq_any (a b : List By) (ha : a.length = 32) (hb : b.length = 32) (r : Bool) (hr0 : r = decide (a = b)) (w : World) : (Op.equalIn 10000 32 (.agg (a.map B8).toArray) (.agg (b.map B8).toArray)).run Try.prog w = .ok r w := by
  have hf : ∀ bs : List By, bs.length = 32 → (Value.agg (bs.map B8).toArray).formed Try.prog 32 = true := fun bs hl => by
    simp [Value.formed, Try.underlying32, Try.cells32, hl]
  have hk : ∀ bs : List By, bs.length = 32 → Try.prog.keyLits 2 32 (Value.agg (bs.map B8).toArray).cells.toList = some (hashLits bs) := fun bs hl => by simpa [Value.cells] using hash_key_at bs hl
  obtain ⟨q, hr, hiff⟩ := run_equalIn_deep (P := Try.prog) 9998 2 32 (by kernel_rfl) w 2 2 _ _ _ _ (hf a ha) (hf b hb) (hk a ha) (hk b hb)
  rw [hr, hr0]
  congr 1
  rw [Bool.eq_iff_iff, hiff, decide_eq_true_iff]
  exact ⟨hashLits_inj ha hb, fun h => by rw [h]⟩

theorem wpList_load_whole_g {ops : Array Oper} {rest : List Oper} {op : Oper} {a : Act} {w : World} {Q : Exit → Act → World → Prop} (hw : Region.wanted op (yielded ops a.tmps) = true) (ty : TypeId) (x : Operand) (ho : op.op = .load ty x)
    (g t n : Nat) (cs : List Value) (hr : Row w g t cs) (hx : a.eval x = .pointer (some ⟨g, 0, none⟩)) (d : TypeDesc) (hn : cs.length = n)
    (hu : Try.prog.underlying ty = some d) (hd : d.isRow = true) (hi : (Try.prog.info? ty).map (·.size) = some n)
    (h : wpList Try.prog ops Q rest (a.put op.dst (.agg cs.toArray)) w) : wpList Try.prog ops Q (op :: rest) a w := by
  refine wpList_step fun K hK => ?_
  rw [if_pos hw]
  exact wp_load_mid ty x ho g 0 hx _ d (by have := hr.range 0 cs.length; simpa using this) hu hd (by rw [hn]; exact hi) (hK _ _ h)
end Go.Proofs.Ythegfkcegmeklaa


/-! A drawn region by an invariant over what has come up: one step an operation, whatever the number of orders. -/
namespace Go.Proofs.Ythegfkcegmeklaa
open Go.RowKit

def onesOf (o : Oper) : List Nat := (o.after.toList.filter (Region.binds .any)).map (·.on)

/-- Each operation waits for earlier ones alone. -/
def dagB (ops : Array Oper) : Bool := (List.range ops.size).all fun i => ((ops[i]?).map fun o => (onesOf o).all (· < i)).getD true

/-- 'L' with number 'i' besides. -/
def upd (L : Nat → Bool) (i : Nat) : Nat → Bool := fun j => if j = i then true else L j

/-- One operation keeps the invariant. -/
def StepI (P : Program) (ops : Array Oper) (I : (Nat → Bool) → Act → World → Prop) (Q : Exit → Act → World → Prop) (i : Nat) (o : Oper) : Prop :=
  ∀ (L : Nat → Bool) (a : Act) (w : World), I L a w → L i = false → (∀ j ∈ onesOf o, L j = true) → ∀ K : Act → World → Prop, Shut (∀ a' w', I (upd L i) a' w' → K a' w') →
    if Region.wanted o (yielded ops a.tmps) = true then Oper.wp P o a w K Q else K (a.put o.dst undef) w

/-- All operations of a list, the first of them number 'n'. -/
def StepsI (P : Program) (ops : Array Oper) (I : (Nat → Bool) → Act → World → Prop) (Q : Exit → Act → World → Prop) : Nat → List Oper → Prop
  | _, [] => True
  | n, o :: r => StepI P ops I Q n o ∧ StepsI P ops I Q (n + 1) r

theorem StepsI.at {P : Program} {ops : Array Oper} {I : (Nat → Bool) → Act → World → Prop} {Q : Exit → Act → World → Prop} : ∀ (l : List Oper) (n : Nat), StepsI P ops I Q n l → ∀ (i : Nat) (o : Oper), l[i]? = some o → StepI P ops I Q (n + i) o
  | [], _, _, _, _, h => by simp at h
  | x :: r, n, hs, 0, o, h => by
    simp at h; subst h; exact hs.1
  | x :: r, n, hs, i + 1, o, h => by
    have := StepsI.at r (n + 1) hs.2 i o (by simpa using h)
    rw [show n + (i + 1) = n + 1 + i by omega]; exact this

def asL (l : Array Bool) : Nat → Bool := fun j => l.getD j false

theorem asL_set (l : Array Bool) (i : Nat) (h : i < l.size) : asL (l.setIfInBounds i true) = upd (asL l) i := by
  funext j
  unfold asL upd
  by_cases hj : j = i
  · subst hj; simp [h]
  · rw [if_neg hj, getD_set_ne false (fun e => hj e.symm)]

theorem wp_region_inv {P : Program} {ops : Array Oper} {Q : Exit → Act → World → Prop} {id : Nat} {a : Act} {w : World} (I : (Nat → Bool) → Act → World → Prop) (hm : P.follows .mixedOrders = true) (hd : dagB ops = true)
    (h0 : I (fun _ => false) a w.drew) (hs : StepsI P ops I Q 0 ops.toList) (he : ∀ L a' w', (∀ j, j < ops.size → L j = true) → I L a' w' → Q .normal a' w') : (Code.region id ops true).wp P Q a w := by
  have hall : ∀ l : Array Bool, l.size = ops.size → Region.ready .any ops l = [] → ∀ j, j < ops.size → asL l j = true := by
    intro l hl hr j
    induction j using Nat.strongRecOn with
    | _ j ih =>
      intro hj
      cases hb : asL l j with
      | true => rfl
      | false =>
        exfalso
        have hm : j ∈ Region.ready .any ops l := by
          rw [mem_ready]
          refine ⟨?_, ops[j], Array.getElem?_eq_getElem hj, fun e hme hbe => ?_⟩
          · unfold asL at hb
            simp [hl, hj] at hb ⊢; exact hb
          · have h1 : e.on ∈ onesOf ops[j] := by
              unfold onesOf
              exact List.mem_map.2 ⟨e, List.mem_filter.2 ⟨by simpa using hme, hbe⟩, rfl⟩
            unfold dagB at hd
            rw [List.all_eq_true] at hd
            have h2 := hd j (List.mem_range.2 hj)
            rw [Array.getElem?_eq_getElem hj] at h2
            simp only [Option.map_some, Option.getD_some, List.all_eq_true, decide_eq_true_eq] at h2
            have h3 := h2 _ h1
            exact ih _ h3 (by omega)
        rw [hr] at hm; cases hm
  have hmain : ∀ (fuel : Nat) (l : Array Bool) (a : Act) (w : World), l.size = ops.size → (l.toList.filter (! ·)).length ≤ fuel → I (asL l) a w → wpAny P .any ops Q fuel l a w := by
    intro fuel
    induction fuel with
    | zero =>
      intro l a w hl hc hI
      have hr : Region.ready .any ops l = [] := by
        apply List.eq_nil_iff_forall_not_mem.2
        intro j hj
        obtain ⟨h1, o, ho, _⟩ := mem_ready.1 hj
        have hlt : j < l.size := by rw [hl]; exact (Array.getElem?_eq_some_iff.1 ho).1
        have : l[j] ∈ l.toList.filter (! ·) := List.mem_filter.2 ⟨by simp, by simp [hlt] at h1; simp [h1]⟩
        have h2 := List.length_pos_of_mem this
        omega
      exact ⟨hr, he _ _ _ (hall l hl hr) hI⟩
    | succ fuel ih =>
      intro l a w hl hc hI
      refine ⟨fun hr => he _ _ _ (hall l hl hr) hI, fun i hi => ?_⟩
      obtain ⟨h1, o, ho, h2⟩ := mem_ready.1 hi
      have hlt : i < l.size := by rw [hl]; exact (Array.getElem?_eq_some_iff.1 ho).1
      have hfi : asL l i = false := by unfold asL; simp [hlt] at h1 ⊢; exact h1
      have hst := StepsI.at ops.toList 0 hs i o (by simpa using ho)
      rw [Nat.zero_add] at hst
      refine wpOp_step ho fun K hK => hst (asL l) a w hI hfi ?_ K ?_
      · intro j hj
        unfold onesOf at hj
        obtain ⟨e, hme, rfl⟩ := List.mem_map.1 hj
        obtain ⟨h3, h4⟩ := List.mem_filter.1 hme
        exact h2 e (by simpa using h3) h4
      · intro a' w' hI'
        refine hK a' w' (ih _ a' w' (by simpa using hl) ?_ (by rw [asL_set l i hlt]; exact hI'))
        have h5 : l[i] = false := by simp [hlt] at h1; exact h1
        have h6 : ((l.setIfInBounds i true).toList.filter (! ·)).length + 1 ≤ (l.toList.filter (! ·)).length := by
          rw [Array.toList_setIfInBounds]
          clear hI' hK hI hst hfi hc hl h2
          have h7 : l.toList[i]? = some false := by simp [hlt, h5]
          generalize l.toList = ll at h7 ⊢
          clear hi h1 h5 hlt ho
          induction ll generalizing i with
          | nil => simp at h7
          | cons y r ihl =>
            cases i with
            | zero => simp at h7; subst h7; simp
            | succ i =>
              have := ihl i (by simpa using h7)
              cases y <;> simp at this ⊢ <;> omega
        omega
  refine wp_region_any hm ?_
  refine hmain _ _ _ _ (by simp) ?_ ?_
  · refine Nat.le_trans (List.length_filter_le _ _) (by simp)
  · have : asL (Array.replicate ops.size false) = fun _ => false := by
      funext j; unfold asL
      by_cases hj : j < ops.size <;> simp [hj]
    rw [this]; exact h0

/-- The invariant, once for each operation. -/
theorem StepsI.cons {P : Program} {ops : Array Oper} {I : (Nat → Bool) → Act → World → Prop} {Q : Exit → Act → World → Prop} {n : Nat} {o : Oper} {r : List Oper} (h : StepI P ops I Q n o) (hr : StepsI P ops I Q (n + 1) r) : StepsI P ops I Q n (o :: r) := ⟨h, hr⟩
theorem StepsI.nil {P : Program} {ops : Array Oper} {I : (Nat → Bool) → Act → World → Prop} {Q : Exit → Act → World → Prop} {n : Nat} : StepsI P ops I Q n [] := trivial
end Go.Proofs.Ythegfkcegmeklaa
