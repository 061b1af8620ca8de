
import Derived.Test.YthegfkcegmeklaaH16It
import Derived.Lib.SliceRun
/-! The code's chain: a Log in memory; New, Add, Register, Events. (Printed by tools/gencode16.py.) -/
namespace Go.Proofs.Ythegfkcegmeklaa
open Go.RowKit
set_option linter.unusedVariables false

/-- append of what may be nil, onto a row of one's own. -/
theorem wpList_append_il {T e size bytes : Nat} {z : Value} (E : ElT T e size bytes z) {ops : Array Oper} {rest : List Oper} {o : Oper} {a : Act} {w : World} {Q : Exit → Act → World → Prop} (hgd : o.guard = none) (s x : Operand)
    (ho : o.op = .call { callee := .builtin .append, args := #[s, x], argTypes := #[T, T] })
    (N : Nat) (a0 : World) (aoD : Option Addr) (nD capD : Nat) (vs : List Value) (hs : a.eval s = .slice aoD nD capD) (hown : w.ownsRow N e size (.slice aoD nD capD) nD vs) (hN : N ≤ w.heap.size) (hbel : Below N a0 w)
    (ao : Option Addr) (n cap : Nat) (news : List Value) (hx : a.eval x = .slice ao n cap) (hn : news.length = n * size) (hb : IsL w ao news) (h1 : ∀ u ∈ news, u.oneCell' = true) (hnil : ao = none → cap = 0) (hm : nD + n ≤ maxLen) (hl : (nD + n) * bytes ≤ 140737488355328)
    (h : ∀ ao' cap' w', w'.ownsRow N e size (.slice ao' (nD + n) cap') (nD + n) (vs ++ news) → Below N a0 w' → wpList Try.prog ops Q rest (a.put o.dst (.slice ao' (nD + n) cap')) w') : wpList Try.prog ops Q (o :: rest) a w := by
  refine wpList_plain hgd fun K hK => ?_
  obtain ⟨ao', cap', w', hrun, h2, h3, _, _⟩ := run_append_gen E N a0 w o.type aoD nD capD vs hown hN hbel ao n cap news hn hb h1 hnil hm hl
  unfold Oper.wp execOp
  simp only [ho, resolve, invoke, builtin, Sem.run_bind, Sem.run_pure, Result.andThen_ok, List.map_toArray, List.map_cons, List.map_nil, hs, hx, hrun]
  exact hK _ _ (h ao' cap' w' h2 h3)
/-- append of one's row by what lies in a block, at a step of a drawn region: and where it lies then. -/
theorem step_append_at {T e size bytes : Nat} {z : Value} (E : ElT T e size bytes z) {ops : Array Oper} {o : Oper} {a : Act} {w : World} {K : Act → World → Prop} {Q : Exit → Act → World → Prop} {X : Prop} (hw : Region.wanted o (yielded ops a.tmps) = true) (s x : Operand)
    (ho : o.op = .call { callee := .builtin .append, args := #[s, x], argTypes := #[T, T] })
    (aoD : Option Addr) (nD capD : Nat) (vs : List Value) (hs : a.eval s = .slice aoD nD capD) (hown : w.ownsRow 0 e size (.slice aoD nD capD) nD vs)
    (M n cap : Nat) (news : List Value) (hx : a.eval x = .slice (some ⟨M, 0, none⟩) n cap) (hn : news.length = n * size) (hc : ∀ j u, news[j]? = some u → w.cell? ⟨M, 0 + j, none⟩ = some u) (hn0 : 0 < n) (h1 : ∀ u ∈ news, u.oneCell' = true) (hm : nD + n ≤ maxLen) (hl : (nD + n) * bytes ≤ 140737488355328)
    (h : ∀ ao' cap' w', w'.ownsRow 0 e size (.slice ao' (nD + n) cap') (nD + n) (vs ++ news) → But (fun j => aoD = some ⟨j, 0, none⟩) w w' → (ao' = aoD ∨ ao' = some ⟨w.heap.size, 0, none⟩) → K (a.put o.dst (.slice ao' (nD + n) cap')) w') : if Region.wanted o (yielded ops a.tmps) = true then Oper.wp Try.prog o a w K Q else X := by
  rw [if_pos hw]
  obtain ⟨ao', cap', w', hrun, h2, h3, h4, h5⟩ := run_append_gen E 0 w w o.type aoD nD capD vs hown (Nat.zero_le _) (Below.refl _ _) (some ⟨M, 0, none⟩) n cap news hn (.inr ⟨M, 0, rfl, hc⟩) h1 (by simp) hm hl
  have hwh := append_where E 0 w o.type aoD nD capD vs hown ⟨M, 0, none⟩ n cap news hn (fun j u hu => by rw [Addr.add_mid]; exact hc j u hu) h1 hn0 hm hl ao' _ cap' w' hrun
  unfold Oper.wp execOp
  simp only [ho, resolve, invoke, builtin, Sem.run_bind, Sem.run_pure, Result.andThen_ok, List.map_toArray, List.map_cons, List.map_nil, hs, hx, hrun]
  exact h ao' cap' w' h2 ⟨h3.os, h3.tape, h3.output, h4, fun k hk hne => h5 k hk fun g e e2 => hne (by rw [e, e2])⟩ (hwh.imp (·.1) (·.1))

/-- A Log of the code: its own block, and its events in a row of its own. -/
def LgC (S : Nat → Prop) (w : World) (a : Addr) (xs : List EvV) : Prop :=
  ∃ g ao c, a = ⟨g, 0, none⟩ ∧ Row w g 59 [.slice ao xs.length c] ∧ xs.length ≤ 1024 ∧ (∀ x ∈ xs, EvOk x) ∧ w.ownsRow 0 35 33 (.slice ao xs.length c) xs.length (xs.flatMap evC) ∧ ∀ j, S j ↔ (j = g ∨ ao = some ⟨j, 0, none⟩)
theorem own_none {N e size : Nat} {w : World} {n c : Nat} {vs : List Value} (h : w.ownsRow N e size (.slice none n c) n vs) : n = 0 ∧ c = 0 := by
  rcases h.2 with ⟨e1, e2⟩ | ⟨g, c', cur, e1, _⟩
  · injection e1 with _ _ e3
    exact ⟨e2, e3⟩
  · injection e1 with e1
    cases e1
theorem own_some {N e size : Nat} {w : World} {p : Addr} {n c : Nat} {vs : List Value} (h : w.ownsRow N e size (.slice (some p) n c) n vs) : ∃ B, p = ⟨B, 0, none⟩ ∧ N ≤ B ∧ B < w.heap.size := by
  have h0 := h
  rcases h.2 with ⟨e1, e2⟩ | ⟨g, c', cur, e1, _⟩
  · injection e1 with e1
    cases e1
  · injection e1 with e1
    injection e1 with e1
    subst e1
    exact ⟨g, rfl, h0.lt g rfl⟩
theorem own_ty_ne {N : Nat} {w : World} {n c B g : Nat} {vs cs : List Value} (h : w.ownsRow N 35 33 (.slice (some ⟨B, 0, none⟩) n c) n vs) (hr : Row w g 59 cs) : B ≠ g := by
  intro e
  obtain ⟨cur, h1⟩ := owns_ty h B rfl
  unfold Row at hr
  rw [e, hr] at h1
  injection h1 with h1
  injection h1 with _ h1
  cases h1
theorem own_evIn {N : Nat} {w : World} {ao : Option Addr} {c : Nat} {xs : List EvV} (h : w.ownsRow N 35 33 (.slice ao xs.length c) xs.length (xs.flatMap evC)) (ho : ∀ x ∈ xs, EvOk x) : ∃ B, (0 < xs.length → ao = some ⟨B, 0, none⟩) ∧ EvIn w B 0 xs := by
  cases ao with
  | none =>
    have h0 := (own_none h).1
    have : xs = [] := List.length_eq_zero_iff.1 h0
    subst this
    exact ⟨0, fun h => (by cases h), fun i x hi => (by simp at hi), fun i x hi => (by simp at hi)⟩
  | some p =>
    obtain ⟨B, rfl, _⟩ := own_some h
    exact ⟨B, fun _ => rfl, evIn_owns h ho⟩
theorem LgC.lt {S : Nat → Prop} {w : World} {a : Addr} {xs : List EvV} (h : LgC S w a xs) : ∀ j, S j → j < w.heap.size := by
  obtain ⟨g, ao, c, rfl, hr, _, _, ho, hS⟩ := h
  intro j hj
  rcases (hS j).1 hj with rfl | rfl
  · exact hr.lt
  · exact (ho.lt j rfl).2
theorem LgC.keep {S : Nat → Prop} {w w' : World} {a : Addr} {xs : List EvV} (h : LgC S w a xs) (hk : ∀ j, S j → w'.heap[j]? = w.heap[j]?) : LgC S w' a xs := by
  obtain ⟨g, ao, c, rfl, hr, hl, hok, ho, hS⟩ := h
  exact ⟨g, ao, c, rfl, (hk g ((hS g).2 (.inl rfl))).trans hr, hl, hok, owns_blk ho fun B hB => hk B ((hS B).2 (.inr (own_ao ho hB))), hS⟩
theorem LgC.below {S : Nat → Prop} {w w' : World} {a : Addr} {xs : List EvV} (h : LgC S w a xs) (hb : Below w.heap.size w w') : LgC S w' a xs := h.keep fun j hj => hb.block j (h.lt j hj)

set_option maxHeartbeats 1000000 in
set_option maxRecDepth 100000 in
theorem cnew_any (w : World) : Calls Try.prog 9 #[] w fun e w' => ∃ a S, e = .returned (.pointer (some a)) ∧ LgC S w' a [] ∧ (∀ j, S j → w.heap.size ≤ j) ∧ Below w.heap.size w w' := by
  have HB : Hid (Below w.heap.size w (w.alloc (.cells #[.slice none 0 0] 59))) := (Below.refl _ _).alloc (Nat.le_refl _) _
  have HR : Hid (Row (w.alloc (.cells #[.slice none 0 0] 59)) w.heap.size 59 [.slice none 0 0]) := Row.at w _ _ _ _ rfl rfl
  go_enter Try.func9, Try.ntmps9
  go_wp2
  go_ret
  exact ⟨⟨w.heap.size, 0, none⟩, fun j => j = w.heap.size, rfl, ⟨w.heap.size, none, 0, rfl, HR.out, by simp, by simp, World.ownsRow_nil _ _ _ _, fun j => ⟨.inl, fun h => h.elim id fun h => (by cases h)⟩⟩, fun j hj => by rw [hj]; exact Nat.le_refl _, HB.out⟩

set_option maxHeartbeats 1000000 in
set_option maxRecDepth 100000 in
theorem cregister_any {S : Nat → Prop} {w : World} {a : Addr} {xs : List EvV} (h : LgC S w a xs) :
    Calls Try.prog 11 #[.pointer (some a)] w fun e w' => e = .returned (.agg ((reg xs).map B8).toArray) ∧ Below w.heap.size w w' := by
  obtain ⟨g, ao, c, rfl, hr, hl, hok, ho, hS⟩ := h
  obtain ⟨B, hao, hin⟩ := own_evIn ho hok
  obtain ⟨W1, hW1⟩ : ∃ W1, W1 = w.alloc (.cells z32.toArray 32) := ⟨_, rfl⟩
  have b1 : Below w.heap.size w W1 := by rw [hW1]; exact (Below.refl _ _).alloc (Nat.le_refl _) _
  have r1 : Row W1 w.heap.size 32 z32 := by rw [hW1]; exact Row.at w _ _ _ _ rfl rfl
  have hc : (w.alloc (.cells #[.int .u8 0, .int .u8 0, .int .u8 0, .int .u8 0, .int .u8 0, .int .u8 0, .int .u8 0, .int .u8 0, .int .u8 0, .int .u8 0, .int .u8 0, .int .u8 0, .int .u8 0, .int .u8 0, .int .u8 0, .int .u8 0, .int .u8 0, .int .u8 0, .int .u8 0, .int .u8 0, .int .u8 0, .int .u8 0, .int .u8 0, .int .u8 0, .int .u8 0, .int .u8 0, .int .u8 0, .int .u8 0, .int .u8 0, .int .u8 0, .int .u8 0, .int .u8 0] 32)).cell? ⟨g, 0, none⟩ = some (.slice ao xs.length c) := by
    have := (hr.below b1 hr.lt).cell 0 _ rfl
    rw [hW1] at this
    exact this
  have RG := creg_any cextend_any cmeasure_any W1 ao xs.length c B 0 xs rfl (by omega) hao (hin.keep b1)
  have hrl := reg_len xs
  clear hin hao ho hr hS hok
  generalize reg xs = R at *
  rw [hW1] at RG
  go_enter Try.func11, Try.ntmps11
  go_wp2_with fail
  refine RG.mono ?_
  rw [← hW1]
  rintro e w2 ⟨rfl, hb2⟩
  dsimp only
  have r2 := r1.below hb2 r1.lt
  have b2 : Below w.heap.size w w2 := b1.trans (hb2.mono b1.size)
  clear RG hb2 r1 hW1 b1 hc
  go_wp2_with (refine wpList_store_Row rfl 32 _ _ rfl w.heap.size 32 0 z32 (R.map B8) r2 (by simp [hrl]) rfl rfl (by rw [List.length_map, hrl]; kernel_rfl) (B8_one _) ?_; intro w9 hr9 hs9)
  have hr := row_whole hr9 (by simp [hrl])
  refine bodyPost_ret_by (results_Row Try.results11 _ w9 w.heap.size 32 _ _ rfl hr Try.underlying32 rfl (by rw [List.length_map, hrl]; kernel_rfl)) rfl ⟨rfl, hs9.below b2 (Nat.le_refl _)⟩

set_option maxHeartbeats 1000000 in
set_option maxRecDepth 100000 in
theorem cclone_any (w : World) (ao : Option Addr) (n c : Nat) (XC : List Value) (hn : n ≤ 1024) (ho : w.ownsRow 0 35 33 (.slice ao n c) n XC) (h1 : ∀ u ∈ XC, u.oneCell' = true) :
    Calls Try.prog 28 #[.slice ao n c] w fun e w' => ∃ ao' c', e = .returned (.slice ao' n c') ∧ w'.ownsRow w.heap.size 35 33 (.slice ao' n c') n XC ∧ Below w.heap.size w w' := by
  have qe : ∀ (w : World) (a : Option Addr) (n c n' c' : Nat), (binOp .eql 27 (.slice a n c) (.slice none n' c')).run Try.prog w = .ok (.bool a.isNone) w := fun w a n c n' c' => Lib.run_eql_slice_nil w _ _ a n c n' c' Try.underlying27
  cases ao with
  | none =>
    obtain ⟨rfl, rfl⟩ := own_none ho
    have hx : XC = [] := List.length_eq_zero_iff.1 (by have := ho.1; simpa using this)
    subst hx
    have HB : Hid (Below w.heap.size w w) := Below.refl _ _
    clear ho h1
    go_enter Try.func28, Try.ntmps28
    go_wp2
    go_ret
    exact ⟨none, 0, rfl, World.ownsRow_nil _ _ _ _, HB.out⟩
  | some p =>
    obtain ⟨B, rfl, _, hB⟩ := own_some ho
    obtain ⟨W1, hW1⟩ : ∃ W1, W1 = w.alloc (.cells #[] 35) := ⟨_, rfl⟩
    have b1 : Below w.heap.size w W1 := by rw [hW1]; exact (Below.refl _ _).alloc (Nat.le_refl _) _
    have hz1 : w.heap.size ≤ W1.heap.size := b1.size
    have O1 : Hid (W1.ownsRow w.heap.size 35 33 (.slice (some ⟨w.heap.size, 0, none⟩) 0 0) 0 []) := by
      show World.ownsRow _ _ _ _ _ _ _
      rw [hW1]
      exact ⟨rfl, .inr ⟨w.heap.size, 0, #[], rfl, Nat.le_refl _, heap_alloc_new w _, Nat.le_refl _, by unfold maxLen; omega, rfl, rfl⟩⟩
    have IL : Hid (IsL W1 (some ⟨B, 0, none⟩) XC) := .inr ⟨B, 0, rfl, fun j v hj => by
      have h2 := ho.cells (g := B) rfl j v hj
      rw [Addr.add_mid] at h2
      exact (b1.cell (cell_lt h2)).trans h2⟩
    have hl : XC.length = n * 33 := ho.1
    have OX : Hid (∀ u ∈ XC, u.oneCell' = true) := h1
    have BB : Hid (Below w.heap.size w W1) := b1
    clear ho h1 b1
    subst hW1
    go_enter Try.func28, Try.ntmps28
    go_wp2_with (at_builtin; refine wpList_append_il el_evs rfl (.tmp 5) (.tmp 6) rfl w.heap.size w (some ⟨w.heap.size, 0, none⟩) 0 0 [] rfl O1.out hz1 BB.out (some ⟨B, 0, none⟩) n c XC rfl hl IL.out OX.out (fun h => by cases h) (by unfold maxLen; omega) (by omega) ?_; intro ao2 c2 w2 ho2 hb2)
    have HO : Hid (w2.ownsRow w.heap.size 35 33 (.slice ao2 n c2) n XC) := by
      show World.ownsRow _ _ _ _ _ _ _
      rw [List.nil_append, Nat.zero_add] at ho2
      exact ho2
    have HB : Hid (Below w.heap.size w w2) := hb2
    clear ho2 hb2
    go_ret
    exact ⟨ao2, c2, rfl, HO.out, HB.out⟩

set_option maxHeartbeats 1000000 in
set_option maxRecDepth 100000 in
theorem cevents_any {S : Nat → Prop} {w : World} {a : Addr} {xs : List EvV} (h : LgC S w a xs) :
    Calls Try.prog 14 #[.pointer (some a)] w fun e w' => ∃ ao c, e = .returned (.slice ao xs.length c) ∧ w'.ownsRow w.heap.size 35 33 (.slice ao xs.length c) xs.length (xs.flatMap evC) ∧ Below w.heap.size w w' := by
  obtain ⟨g, ao, c, rfl, hr, hl, hok, ho, hS⟩ := h
  have CL := cclone_any w ao xs.length c (xs.flatMap evC) hl ho evs_one
  have hc := hr.cell 0 _ rfl
  clear ho hr hS hok
  generalize xs.flatMap evC = XC at *
  go_enter Try.func14, Try.ntmps14
  go_wp2_with fail
  refine CL.mono ?_
  rintro e w2 ⟨ao2, c2, rfl, ho2, hb2⟩
  dsimp only
  have HO : Hid _ := ho2
  have HB : Hid _ := hb2
  clear ho2 hb2 CL hc
  go_wp2
  go_ret
  exact ⟨ao2, c2, rfl, HO.out, HB.out⟩
/-- While an event is added. -/
structure AW (W1 : World) (g E : Nat) (ao : Option Addr) (n c : Nat) (XC EC : List Value) (l4 l6 l7 l10 : Bool) (x17 x18 : Value) (W : World) : Prop where
  but : But (fun j => j = g ∨ ao = some ⟨j, 0, none⟩) W1 W
  ev : Row W E 35 EC
  c7a : l7 = true → l4 = true
  c7b : l7 = true → l6 = true
  c10 : l10 = true → l7 = true
  log : l10 = false → Row W g 59 [.slice ao n c]
  own : l7 = false → W.ownsRow 0 35 33 (.slice ao n c) n XC
  p17 : l6 = true → l7 = false → ∃ M, x17 = .slice (some ⟨M, 0, none⟩) 1 1 ∧ Row W M 35 EC
  p18 : l7 = true → ∃ ao' c', x18 = .slice ao' (n + 1) c' ∧ W.ownsRow 0 35 33 (.slice ao' (n + 1) c') (n + 1) (XC ++ EC) ∧ (ao' = ao ∨ ∃ B', ao' = some ⟨B', 0, none⟩ ∧ W1.heap.size ≤ B')
  p10 : l10 = true → Row W g 59 [x18]
section
variable {W1 : World} {g E : Nat} {ao : Option Addr} {n c : Nat} {XC EC : List Value} {l4 l6 l7 l10 : Bool} {x17 x18 : Value} {W W2 : World}
theorem AW.s4 (h : AW W1 g E ao n c XC EC l4 l6 l7 l10 x17 x18 W) : AW W1 g E ao n c XC EC true l6 l7 l10 x17 x18 W :=
  ⟨h.but, h.ev, fun _ => rfl, h.c7b, h.c10, h.log, h.own, h.p17, h.p18, h.p10⟩
theorem AW.s6 (h : AW W1 g E ao n c XC EC l4 l6 l7 l10 x17 x18 W) (h6 : l6 = false) : AW W1 g E ao n c XC EC l4 true l7 l10 (.slice (some ⟨W.heap.size, 0, none⟩) 1 1) x18 (W.alloc (.cells EC.toArray 35)) := by
  have h7 := ff h.c7b h6
  have h10 := ff h.c10 h7
  subst h7 h10
  exact ⟨h.but.trans (But.of_below (S := fun _ => False) ((Below.refl _ _).alloc (Nat.le_refl _) _)) (fun j hj => hj.elim), h.ev.alloc _, fun h => (by cases h), fun h => (by cases h), fun h => (by cases h), fun _ => (h.log rfl).alloc _, fun _ => (h.own rfl).alloc _, fun _ _ => ⟨_, rfl, Row.at W _ _ _ _ rfl rfl⟩, fun h => (by cases h), fun h => (by cases h)⟩
theorem AW.s7 (h : AW W1 g E ao n c XC EC l4 l6 l7 l10 x17 x18 W) (hgE : g ≠ E) (haE : ao ≠ some ⟨E, 0, none⟩) (hag : ao ≠ some ⟨g, 0, none⟩) (hg1 : g < W1.heap.size) (h4 : l4 = true) (h6 : l6 = true) (h7 : l7 = false) {ao' : Option Addr} {c' : Nat} (ho : W2.ownsRow 0 35 33 (.slice ao' (n + 1) c') (n + 1) (XC ++ EC)) (hb : But (fun j => ao = some ⟨j, 0, none⟩) W W2) (hw : ao' = ao ∨ ao' = some ⟨W.heap.size, 0, none⟩) : AW W1 g E ao n c XC EC l4 l6 true l10 x17 (.slice ao' (n + 1) c') W2 := by
  have h10 := ff h.c10 h7
  subst h7 h10
  have hz := h.but.size
  refine ⟨h.but.trans hb (fun j hj => .inl (.inr hj)), (hb.block E h.ev.lt haE).trans h.ev, fun _ => h4, fun _ => h6, fun _ => rfl, fun _ => (hb.block g (by omega) hag).trans (h.log rfl), fun h => (by cases h), fun _ h => (by cases h), fun _ => ⟨ao', c', rfl, ho, ?_⟩, fun h => (by cases h)⟩
  rcases hw with hw | hw
  · exact .inl hw
  · exact .inr ⟨_, hw, hz⟩
theorem AW.s10 (h : AW W1 g E ao n c XC EC l4 l6 l7 l10 x17 x18 W) (hgE : g ≠ E) (h7 : l7 = true) (h10 : l10 = false) : AW W1 g E ao n c XC EC l4 l6 l7 true x17 x18 (W.setCell ⟨g, 0, none⟩ x18) := by
  subst h10
  have hs := SameBut.setCell g 0 x18 W
  have hl := h.log rfl
  subst h7
  refine ⟨h.but.trans (T := fun j => j = g) ⟨hs.os, hs.tape, hs.output, by rw [hs.size]; exact Nat.le_refl _, fun k _ hk => hs.block k hk⟩ (fun j hj => .inl (.inl hj)), h.ev.but hs (Ne.symm hgE), h.c7a, h.c7b, fun _ => rfl, fun h => (by cases h), fun h => (by cases h), fun _ h => (by cases h), fun _ => ?_, fun _ => hl.set 0 x18⟩
  obtain ⟨ao', c', e, ho, hw⟩ := h.p18 rfl
  refine ⟨ao', c', e, owns_blk ho fun B hB => hs.block B ?_, hw⟩
  have := own_ao ho hB
  subst this
  exact own_ty_ne ho hl
end

structure A3 (W1 : World) (g E : Nat) (ao : Option Addr) (n c : Nat) (XC EC : List Value) (L : Nat → Bool) (x11 x12 x13 x14 x15 x16 x17 x18 x19 x20 : Value) (W : World) : Prop where
  x : AW W1 g E ao n c XC EC (L 4) (L 6) (L 7) (L 10) x17 x18 W
  p0 : L 0 = true → x11 = .pointer (some ⟨g, 0, none⟩)
  p1 : L 1 = true → x12 = .pointer (some ⟨g, 0, none⟩)
  p2 : L 2 = true → x13 = .pointer (some ⟨g, 0, none⟩)
  p3 : L 3 = true → x14 = .pointer (some ⟨g, 0, none⟩)
  p4 : L 4 = true → x15 = .slice ao n c
  p5 : L 5 = true → x16 = .agg EC.toArray
  p8 : L 8 = true → x19 = .pointer (some ⟨g, 0, none⟩)
  p9 : L 9 = true → x20 = .pointer (some ⟨g, 0, none⟩)
section
variable {W1 : World} {g E : Nat} {ao : Option Addr} {n c : Nat} {XC EC : List Value} {L : Nat → Bool} {x11 x12 x13 x14 x15 x16 x17 x18 x19 x20 : Value} {W W2 : World}
theorem A3.s0 (h : A3 W1 g E ao n c XC EC L x11 x12 x13 x14 x15 x16 x17 x18 x19 x20 W) : A3 W1 g E ao n c XC EC (upd L 0) (.pointer (some ⟨g, 0, none⟩)) x12 x13 x14 x15 x16 x17 x18 x19 x20 W :=
  ⟨h.x, fun _ => rfl, h.p1, h.p2, h.p3, h.p4, h.p5, h.p8, h.p9⟩
theorem A3.s1 (h : A3 W1 g E ao n c XC EC L x11 x12 x13 x14 x15 x16 x17 x18 x19 x20 W) : A3 W1 g E ao n c XC EC (upd L 1) x11 (.pointer (some ⟨g, 0, none⟩)) x13 x14 x15 x16 x17 x18 x19 x20 W :=
  ⟨h.x, h.p0, fun _ => rfl, h.p2, h.p3, h.p4, h.p5, h.p8, h.p9⟩
theorem A3.s2 (h : A3 W1 g E ao n c XC EC L x11 x12 x13 x14 x15 x16 x17 x18 x19 x20 W) : A3 W1 g E ao n c XC EC (upd L 2) x11 x12 (.pointer (some ⟨g, 0, none⟩)) x14 x15 x16 x17 x18 x19 x20 W :=
  ⟨h.x, h.p0, h.p1, fun _ => rfl, h.p3, h.p4, h.p5, h.p8, h.p9⟩
theorem A3.s3 (h : A3 W1 g E ao n c XC EC L x11 x12 x13 x14 x15 x16 x17 x18 x19 x20 W) : A3 W1 g E ao n c XC EC (upd L 3) x11 x12 x13 (.pointer (some ⟨g, 0, none⟩)) x15 x16 x17 x18 x19 x20 W :=
  ⟨h.x, h.p0, h.p1, h.p2, fun _ => rfl, h.p4, h.p5, h.p8, h.p9⟩
theorem A3.s4 (h : A3 W1 g E ao n c XC EC L x11 x12 x13 x14 x15 x16 x17 x18 x19 x20 W) (hX : AW W1 g E ao n c XC EC ((upd L 4) 4) ((upd L 4) 6) ((upd L 4) 7) ((upd L 4) 10) x17 x18 W2) : A3 W1 g E ao n c XC EC (upd L 4) x11 x12 x13 x14 (.slice ao n c) x16 x17 x18 x19 x20 W2 :=
  ⟨hX, h.p0, h.p1, h.p2, h.p3, fun _ => rfl, h.p5, h.p8, h.p9⟩
theorem A3.s5 (h : A3 W1 g E ao n c XC EC L x11 x12 x13 x14 x15 x16 x17 x18 x19 x20 W) : A3 W1 g E ao n c XC EC (upd L 5) x11 x12 x13 x14 x15 (.agg EC.toArray) x17 x18 x19 x20 W :=
  ⟨h.x, h.p0, h.p1, h.p2, h.p3, h.p4, fun _ => rfl, h.p8, h.p9⟩
theorem A3.s6 (h : A3 W1 g E ao n c XC EC L x11 x12 x13 x14 x15 x16 x17 x18 x19 x20 W) {v : Value} (hX : AW W1 g E ao n c XC EC ((upd L 6) 4) ((upd L 6) 6) ((upd L 6) 7) ((upd L 6) 10) v x18 W2) : A3 W1 g E ao n c XC EC (upd L 6) x11 x12 x13 x14 x15 x16 v x18 x19 x20 W2 :=
  ⟨hX, h.p0, h.p1, h.p2, h.p3, h.p4, h.p5, h.p8, h.p9⟩
theorem A3.s7 (h : A3 W1 g E ao n c XC EC L x11 x12 x13 x14 x15 x16 x17 x18 x19 x20 W) {v : Value} (hX : AW W1 g E ao n c XC EC ((upd L 7) 4) ((upd L 7) 6) ((upd L 7) 7) ((upd L 7) 10) x17 v W2) : A3 W1 g E ao n c XC EC (upd L 7) x11 x12 x13 x14 x15 x16 x17 v x19 x20 W2 :=
  ⟨hX, h.p0, h.p1, h.p2, h.p3, h.p4, h.p5, h.p8, h.p9⟩
theorem A3.s8 (h : A3 W1 g E ao n c XC EC L x11 x12 x13 x14 x15 x16 x17 x18 x19 x20 W) : A3 W1 g E ao n c XC EC (upd L 8) x11 x12 x13 x14 x15 x16 x17 x18 (.pointer (some ⟨g, 0, none⟩)) x20 W :=
  ⟨h.x, h.p0, h.p1, h.p2, h.p3, h.p4, h.p5, fun _ => rfl, h.p9⟩
theorem A3.s9 (h : A3 W1 g E ao n c XC EC L x11 x12 x13 x14 x15 x16 x17 x18 x19 x20 W) : A3 W1 g E ao n c XC EC (upd L 9) x11 x12 x13 x14 x15 x16 x17 x18 x19 (.pointer (some ⟨g, 0, none⟩)) W :=
  ⟨h.x, h.p0, h.p1, h.p2, h.p3, h.p4, h.p5, h.p8, fun _ => rfl⟩
theorem A3.s10 (h : A3 W1 g E ao n c XC EC L x11 x12 x13 x14 x15 x16 x17 x18 x19 x20 W) (hX : AW W1 g E ao n c XC EC ((upd L 10) 4) ((upd L 10) 6) ((upd L 10) 7) ((upd L 10) 10) x17 x18 W2) : A3 W1 g E ao n c XC EC (upd L 10) x11 x12 x13 x14 x15 x16 x17 x18 x19 x20 W2 :=
  ⟨hX, h.p0, h.p1, h.p2, h.p3, h.p4, h.p5, h.p8, h.p9⟩
end
@[reducible] def IA3 (W1 : World) (g E : Nat) (ao : Option Addr) (n c : Nat) (XC EC : List Value) (y0 y1 y2 y3 y4 y5 y6 y7 y8 y9 y10 : Value) : (Nat → Bool) → Act → World → Prop := fun L a W => ∃ x11 x12 x13 x14 x15 x16 x17 x18 x19 x20, a = ⟨#[y0, y1, y2, y3, y4, y5, y6, y7, y8, y9, y10, x11, x12, x13, x14, x15, x16, x17, x18, x19, x20], []⟩ ∧ A3 W1 g E ao n c XC EC L x11 x12 x13 x14 x15 x16 x17 x18 x19 x20 W
theorem A3.step {W1 : World} {g E : Nat} {ao : Option Addr} {n c : Nat} {XC EC : List Value} {y0 y1 y2 y3 y4 y5 y6 y7 y8 y9 y10 : Value} {P : Program} {ops : Array Oper} {Q : Exit → Act → World → Prop} {i : Nat} {o : Oper} (hq : ∀ x11 x12 x13 x14 x15 x16 x17 x18 x19 x20 (L : Nat → Bool) (W : World), A3 W1 g E ao n c XC EC L x11 x12 x13 x14 x15 x16 x17 x18 x19 x20 W → L i = false → (∀ j ∈ onesOf o, L j = true) → ∀ K : Act → World → Prop, Shut (∀ a' w', IA3 W1 g E ao n c XC EC y0 y1 y2 y3 y4 y5 y6 y7 y8 y9 y10 (upd L i) a' w' → K a' w') → if Region.wanted o (yielded ops (⟨#[y0, y1, y2, y3, y4, y5, y6, y7, y8, y9, y10, x11, x12, x13, x14, x15, x16, x17, x18, x19, x20], []⟩ : Act).tmps) = true then Oper.wp P o ⟨#[y0, y1, y2, y3, y4, y5, y6, y7, y8, y9, y10, x11, x12, x13, x14, x15, x16, x17, x18, x19, x20], []⟩ W K Q else K ((⟨#[y0, y1, y2, y3, y4, y5, y6, y7, y8, y9, y10, x11, x12, x13, x14, x15, x16, x17, x18, x19, x20], []⟩ : Act).put o.dst undef) W) : StepI P ops (IA3 W1 g E ao n c XC EC y0 y1 y2 y3 y4 y5 y6 y7 y8 y9 y10) Q i o := by
  rintro L a W ⟨x11, x12, x13, x14, x15, x16, x17, x18, x19, x20, rfl, h⟩
  exact hq _ _ _ _ _ _ _ _ _ _ _ _ h
theorem A3.ends {W1 : World} {g E : Nat} {ao : Option Addr} {n c : Nat} {XC EC : List Value} {y0 y1 y2 y3 y4 y5 y6 y7 y8 y9 y10 : Value} {mm_ : Nat} {Q : Exit → Act → World → Prop} (hq : ∀ x11 x12 x13 x14 x15 x16 x17 x18 x19 x20 (L : Nat → Bool) (W : World), (∀ j, j < mm_ → L j = true) → A3 W1 g E ao n c XC EC L x11 x12 x13 x14 x15 x16 x17 x18 x19 x20 W → Q .normal ⟨#[y0, y1, y2, y3, y4, y5, y6, y7, y8, y9, y10, x11, x12, x13, x14, x15, x16, x17, x18, x19, x20], []⟩ W) : ∀ L a' w', (∀ j, j < mm_ → L j = true) → IA3 W1 g E ao n c XC EC y0 y1 y2 y3 y4 y5 y6 y7 y8 y9 y10 L a' w' → Q .normal a' w' := by
  rintro L a W hall ⟨x11, x12, x13, x14, x15, x16, x17, x18, x19, x20, rfl, h⟩
  exact hq _ _ _ _ _ _ _ _ _ _ _ _ hall h
set_option maxHeartbeats 2000000 in
set_option maxRecDepth 100000 in
theorem cadd_any {S : Nat → Prop} {w : World} {a : Addr} {xs : List EvV} (x : EvV) (hx : EvOk x) (h : LgC S w a xs) :
    Calls Try.prog 25 #[.pointer (some a), .agg (evC x).toArray] w fun e w' => ∃ S', e = .returned (.int .i64 (if xs.length < 1024 then 0 else 3)) ∧ LgC S' w' a (addE xs x) ∧ (∀ j, S' j → S j ∨ w.heap.size ≤ j) ∧ But S w w' := by
  have HL : Hid (LgC S w a xs) := h
  obtain ⟨g, ao, c, rfl, hr, hl, hok, ho, hS⟩ := h
  obtain ⟨W1, hW1⟩ : ∃ W1, W1 = w.alloc (.cells (evC x).toArray 35) := ⟨_, rfl⟩
  have b1 : Below w.heap.size w W1 := by rw [hW1]; exact (Below.refl _ _).alloc (Nat.le_refl _) _
  have hc := (hr.below b1 hr.lt).cell 0 _ rfl
  have hz1 : W1.heap.size = w.heap.size + 1 := by rw [hW1]; simp
  have lE := evC_len hx
  by_cases hlt : xs.length < 1024
  · have i1 : ¬ (1024 : Int) ≤ (xs.length : Int) := by omega
    have HG : Hid (g < w.heap.size) := hr.lt
    have haB : ∀ j, ao = some ⟨j, 0, none⟩ → j < w.heap.size ∧ j ≠ g := fun j hj => by
      subst hj
      exact ⟨(ho.lt j rfl).2, own_ty_ne ho hr⟩
    have hgl := hr.lt
    have hgE : g ≠ w.heap.size := by omega
    have haE : ao ≠ some ⟨w.heap.size, 0, none⟩ := fun e => by have := (haB _ e).1; omega
    have hag : ao ≠ some ⟨g, 0, none⟩ := fun e => (haB _ e).2 rfl
    have hg1 : g < W1.heap.size := by omega
    have M0 : Hid (∀ x17 x18, AW W1 g w.heap.size ao xs.length c (xs.flatMap evC) (evC x) false false false false x17 x18 W1.drew) := fun x17 x18 =>
      ⟨But.of_below (Below.refl _ _).drew, by rw [hW1]; exact Row.at w _ _ _ _ rfl rfl, fun h => (by cases h), fun h => (by cases h), fun h => (by cases h), fun _ => hr.below b1.drew hr.lt, fun _ => owns_blk ho (fun B hB => b1.block B (ho.lt B hB).2), fun h => (by cases h), fun h => (by cases h), fun h => (by cases h)⟩
    have FIN : Hid (∀ x17 x18 W, AW W1 g w.heap.size ao xs.length c (xs.flatMap evC) (evC x) true true true true x17 x18 W → ∃ S', LgC S' W ⟨g, 0, none⟩ (addE xs x) ∧ (∀ j, S' j → S j ∨ w.heap.size ≤ j) ∧ But S w W) := fun x17 x18 W h => by
      have ea : addE xs x = xs ++ [x] := by unfold addE; rw [if_pos hlt]
      obtain ⟨ao', c', e, ho', hw⟩ := h.p18 rfl
      have hp := h.p10 rfl
      rw [e] at hp
      refine ⟨fun j => j = g ∨ ao' = some ⟨j, 0, none⟩, ⟨g, ao', c', rfl, ?_, ?_, ?_, ?_, fun j => Iff.rfl⟩, ?_, ?_⟩
      · rw [ea, List.length_append, List.length_singleton]; exact hp
      · rw [ea, List.length_append, List.length_singleton]; omega
      · rw [ea]
        intro y hy
        rcases List.mem_append.1 hy with hy | hy
        · exact hok y hy
        · rw [List.mem_singleton] at hy; subst hy; exact hx
      · rw [ea, List.length_append, List.length_singleton, List.flatMap_append]
        have : [x].flatMap evC = evC x := by simp
        rw [this]; exact ho'
      · intro j hj
        rcases hj with rfl | hj
        · exact .inl ((hS j).2 (.inl rfl))
        · rcases hw with hw | ⟨B', hw, hB'⟩
          · exact .inl ((hS j).2 (.inr (by rw [← hw]; exact hj)))
          · rw [hw] at hj
            injection hj with hj
            injection hj with hj
            exact .inr (by omega)
      · exact (But.of_below b1 : But S w W1).trans (h.but.mono (T := S) fun j hj => (hS j).2 hj) (fun j hj => .inl hj)
    have HRes : Hid ((if xs.length < 1024 then (0 : Int) else 3) = 0) := if_pos hlt
    have hXl : Hid ((xs.flatMap evC).length = xs.length * 33) := flat_len hok
    have oE : Hid (∀ u ∈ evC x, u.oneCell' = true) := evC_one x
    clear HL ho hr hS hok b1 haB HG hz1
    generalize hn : xs.length = n at *
    generalize xs.flatMap evC = XC at *
    generalize evC x = EC at *
    generalize hE : w.heap.size = E at *
    rw [hW1] at hc
    go_enter Try.func25, Try.ntmps25
    go_wp2_with fail
    rw [← hW1]
    clear hc hW1
    refine wp_region_inv (IA3 W1 g E ao n c XC EC _ _ _ _ _ _ _ _ _ _ _) (by kernel_rfl) (by kernel_rfl) ⟨_, _, _, _, _, _, _, _, _, _, rfl, ⟨M0.out _ _, fun k => (by cases k), fun k => (by cases k), fun k => (by cases k), fun k => (by cases k), fun k => (by cases k), fun k => (by cases k), fun k => (by cases k), fun k => (by cases k)⟩⟩ ?_ ?_
    · refine .cons ?_ (.cons ?_ (.cons ?_ (.cons ?_ (.cons ?_ (.cons ?_ (.cons ?_ (.cons ?_ (.cons ?_ (.cons ?_ (.cons ?_ .nil))))))))))
      all_goals (refine A3.step ?_; intro x11 x12 x13 x14 x15 x16 x17 x18 x19 x20 L W hI hL hd K hK)
      · rw [if_pos (by rfl)]
        go_simp
        exact hK.out _ _ ⟨_, _, _, _, _, _, _, _, _, _, rfl, hI.s0⟩
      · rw [if_pos (by rfl)]
        go_simp
        exact hK.out _ _ ⟨_, _, _, _, _, _, _, _, _, _, rfl, hI.s1⟩
      · have hx1 := hI.p1 (hd 1 (by decide))
        subst hx1
        rw [if_pos (by rfl)]
        go_simp
        exact hK.out _ _ ⟨_, _, _, _, _, _, _, _, _, _, rfl, hI.s2⟩
      · have hx2 := hI.p2 (hd 2 (by decide))
        subst hx2
        rw [if_pos (by rfl)]
        go_simp
        exact hK.out _ _ ⟨_, _, _, _, _, _, _, _, _, _, rfl, hI.s3⟩
      · have hx3 := hI.p3 (hd 3 (by decide))
        subst hx3
        rw [if_pos (by rfl)]
        have hc := (hI.x.log (ff hI.x.c10 (ff hI.x.c7a hL))).cell 0 _ rfl
        have hX := hI.x.s4
        go_simp
        exact hK.out _ _ ⟨_, _, _, _, _, _, _, _, _, _, rfl, hI.s4 hX⟩
      · refine step_load_Row rfl 35 _ rfl E 35 EC hI.x.ev rfl _ Try.underlying35 rfl (by rw [lE]; kernel_rfl) ?_
        exact hK.out _ _ ⟨_, _, _, _, _, _, _, _, _, _, rfl, hI.s5⟩
      · have hx5 := hI.p5 (hd 5 (by decide))
        subst hx5
        rw [if_pos (by rfl)]
        have hX := hI.x.s6 hL
        rw [← fold_ev EC lE] at hX
        go_simp
        exact hK.out _ _ ⟨_, _, _, _, _, _, _, _, _, _, rfl, hI.s6 hX⟩
      · have hx4 := hI.p4 (hd 4 (by decide))
        subst hx4
        obtain ⟨M, e8, r8⟩ := hI.x.p17 (hd 6 (by decide)) hL
        refine step_append_at el_evs rfl (.tmp 15) (.tmp 17) rfl ao n c XC rfl (hI.x.own hL) M 1 1 EC e8 (by rw [lE]) (fun j u hu => by rw [Nat.zero_add]; exact r8.cell j u hu) (by omega) oE.out (by unfold maxLen; omega) (by omega) ?_
        intro ao8 c8 W2 q1 q2 q3
        have hX := hI.x.s7 hgE haE hag hg1 (hd 4 (by decide)) (hd 6 (by decide)) hL q1 q2 q3
        exact hK.out _ _ ⟨_, _, _, _, _, _, _, _, _, _, rfl, hI.s7 hX⟩
      · have hx0 := hI.p0 (hd 0 (by decide))
        subst hx0
        rw [if_pos (by rfl)]
        go_simp
        exact hK.out _ _ ⟨_, _, _, _, _, _, _, _, _, _, rfl, hI.s8⟩
      · have hx8 := hI.p8 (hd 8 (by decide))
        subst hx8
        rw [if_pos (by rfl)]
        go_simp
        exact hK.out _ _ ⟨_, _, _, _, _, _, _, _, _, _, rfl, hI.s9⟩
      · have hx9 := hI.p9 (hd 9 (by decide))
        subst hx9
        rw [if_pos (by rfl)]
        have r9 := hI.x.log hL
        have hc9 := r9.cell 0 _ rfl
        have hf9 := r9.frozen 0
        have hX := hI.x.s10 hgE (hd 7 (by decide)) hL
        obtain ⟨ao5, c5, e5, _⟩ := hI.x.p18 (hd 7 (by decide))
        subst e5
        go_simp
        exact hK.out _ _ ⟨_, _, _, _, _, _, _, _, _, _, rfl, hI.s10 hX⟩
    · refine A3.ends ?_; intro x11 x12 x13 x14 x15 x16 x17 x18 x19 x20 L W hall hI
      have hx0 := hI.p0 (hall 0 (by decide))
      subst hx0
      have hx1 := hI.p1 (hall 1 (by decide))
      subst hx1
      have hx2 := hI.p2 (hall 2 (by decide))
      subst hx2
      have hx3 := hI.p3 (hall 3 (by decide))
      subst hx3
      have hx4 := hI.p4 (hall 4 (by decide))
      subst hx4
      have hx5 := hI.p5 (hall 5 (by decide))
      subst hx5
      have hx8 := hI.p8 (hall 8 (by decide))
      subst hx8
      have hx9 := hI.p9 (hall 9 (by decide))
      subst hx9
      have hXe := hI.x
      rw [hall 4 (by decide)] at hXe
      rw [hall 6 (by decide)] at hXe
      rw [hall 7 (by decide)] at hXe
      rw [hall 10 (by decide)] at hXe
      clear hI hall
      try dsimp only
      have HF : Hid _ := FIN.out _ _ _ hXe
      clear hXe FIN M0
      go_wp2
      go_ret
      obtain ⟨S', k1, k2, k3⟩ := HF.out
      first | exact ⟨rfl, S', k1, k2, k3⟩ | exact ⟨S', by rw [HRes.out]; rfl, k1, k2, k3⟩
  · have i1 : (1024 : Int) ≤ (xs.length : Int) := by omega
    have HRes : Hid ((if xs.length < 1024 then (0 : Int) else 3) = 3) := if_neg hlt
    have FIN : Hid (LgC S W1 ⟨g, 0, none⟩ (addE xs x) ∧ But S w W1) := by
      have ea : addE xs x = xs := by unfold addE; rw [if_neg hlt]
      exact ⟨by rw [ea]; exact HL.out.below b1, But.of_below b1⟩
    clear HL ho hr hS hok b1
    generalize evC x = EC at *
    rw [hW1] at hc FIN
    go_enter Try.func25, Try.ntmps25
    go_wp2
    go_ret
    exact ⟨rfl, S, FIN.out.1, fun j hj => .inl hj, FIN.out.2⟩
end Go.Proofs.Ythegfkcegmeklaa
