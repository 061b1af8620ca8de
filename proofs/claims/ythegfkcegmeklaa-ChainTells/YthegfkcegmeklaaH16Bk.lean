
import Derived.Test.YthegfkcegmeklaaH16Tells
/-! A book of the law: a log of the code, and its events beside it. -/
namespace Go.Proofs.Ythegfkcegmeklaa
open Go.RowKit
set_option linter.unusedVariables false

theorem cell_blk {w w' : World} {p : Addr} (hb : w'.heap[p.block]? = w.heap[p.block]?) : w'.cell? p = w.cell? p := by simp [World.cell?, hb]
theorem EvIn.blk {w w' : World} {B off : Nat} {xs : List EvV} (h : EvIn w B off xs) (hb : w'.heap[B]? = w.heap[B]?) : EvIn w' B off xs :=
  ⟨fun i x hi j v hv => (cell_blk (p := ⟨B, off + i * 33 + j, none⟩) hb).trans (h.cells i x hi j v hv), h.ok⟩
theorem blk_lt {w : World} {g : Nat} {o : Obj} (h : w.heap[g]? = some o) : g < w.heap.size := (Array.getElem?_eq_some_iff.1 h).1
theorem flat_at : ∀ {xs : List EvV}, (∀ x ∈ xs, EvOk x) → ∀ {i : Nat} {x : EvV}, xs[i]? = some x → ∀ {j : Nat} {v : Value}, (evC x)[j]? = some v → (xs.flatMap evC)[i * 33 + j]? = some v
  | [], _, i, x, h, _, _, _ => by simp at h
  | y :: ys, ho, 0, x, h, j, v, hv => by
    injection h with h
    subst h
    have hl := (List.getElem?_eq_some_iff.1 hv).1
    rw [List.flatMap_cons, Nat.zero_mul, Nat.zero_add, List.getElem?_append_left hl]; exact hv
  | y :: ys, ho, i + 1, x, h, j, v, hv => by
    have ly := evC_len (ho y (List.mem_cons_self ..))
    rw [List.flatMap_cons, List.getElem?_append_right (by rw [ly]; omega), ly]
    have e : (i + 1) * 33 + j - 33 = i * 33 + j := by omega
    rw [e]
    exact flat_at (fun z hz => ho z (List.mem_cons_of_mem _ hz)) h hv
theorem flat_len : ∀ {xs : List EvV}, (∀ x ∈ xs, EvOk x) → (xs.flatMap evC).length = xs.length * 33
  | [], _ => rfl
  | y :: ys, ho => by
    rw [List.flatMap_cons, List.length_append, evC_len (ho y (List.mem_cons_self ..)), flat_len fun z hz => ho z (List.mem_cons_of_mem _ hz), List.length_cons]; omega
theorem evs_one {xs : List EvV} : ∀ u ∈ xs.flatMap evC, u.oneCell' = true := fun u hu => by
  obtain ⟨x, _, h2⟩ := List.mem_flatMap.1 hu
  exact evC_one x u h2
/-- Events in a row of its own. -/
theorem evIn_owns {w : World} {N B n c : Nat} {xs : List EvV} (h : w.ownsRow N 35 33 (.slice (some ⟨B, 0, none⟩) n c) n (xs.flatMap evC)) (ho : ∀ x ∈ xs, EvOk x) : EvIn w B 0 xs where
  cells i x hi j v hv := by
    have := h.cells (g := B) rfl (i * 33 + j) v (flat_at ho hi hv)
    rw [Addr.add_mid] at this
    rw [← this, Nat.add_assoc]
  ok i x hi := ho x (List.mem_of_getElem? hi)
theorem evIn_cells {w : World} {B : Nat} {xs : List EvV} (h : EvIn w B 0 xs) : ∀ {j : Nat} {v : Value}, (xs.flatMap evC)[j]? = some v → w.cell? ⟨B, 0 + j, none⟩ = some v := by
  intro j v hv
  have hl := (List.getElem?_eq_some_iff.1 hv).1
  have ho := h.all
  rw [flat_len ho] at hl
  have hi : j / 33 < xs.length := by omega
  obtain ⟨x, hx⟩ : ∃ x, xs[j / 33]? = some x := ⟨_, List.getElem?_eq_getElem hi⟩
  have lx := evC_len (h.ok _ x hx)
  obtain ⟨u, hu⟩ : ∃ u, (evC x)[j % 33]? = some u := ⟨_, List.getElem?_eq_getElem (by rw [lx]; omega)⟩
  have h1 := flat_at ho hx hu
  have e : j / 33 * 33 + j % 33 = j := by omega
  rw [e, hv] at h1
  injection h1 with h1
  subst h1
  have h2 := h.cells _ x hx _ _ hu
  rw [Nat.add_assoc, e] at h2
  exact h2

/-- A log that may write in F and in new memory, and blocks beside it. -/
def FB (Lg : (Nat → Prop) → World → Addr → List EvV → Prop) (F : Nat → Prop) (w : World) (a : Addr) (xs : List EvV) (R : List (Nat × Obj)) (W : World) : Prop :=
  ∃ S, Lg S W a xs ∧ (∀ j, S j → F j ∨ w.heap.size ≤ j) ∧ But F w W ∧ ∀ t ∈ R, W.heap[t.1]? = some t.2 ∧ ¬ S t.1
section
variable {Lg : (Nat → Prop) → World → Addr → List EvV → Prop} {F : Nat → Prop} {w : World} {a : Addr} {xs : List EvV} {R R2 : List (Nat × Obj)} {W W' : World}
theorem FB.below (C : Chn Lg) (h : FB Lg F w a xs R W) (hb : Below W.heap.size W W') : FB Lg F w a xs R W' := by
  obtain ⟨S, h1, h2, h3, h4⟩ := h
  exact ⟨S, C.keep h1 (fun j hj => hb.block j (C.lt h1 j hj)) hb.size, h2, h3.trans (But.of_below (S := fun _ => False) hb) (fun _ h => h.elim), fun t ht => ⟨(hb.block _ (blk_lt (h4 t ht).1)).trans (h4 t ht).1, (h4 t ht).2⟩⟩
theorem FB.dr (C : Chn Lg) (h : FB Lg F w a xs R W) (hd : Dr W W') : FB Lg F w a xs R W' := h.below C (Below_dr (Below.refl _ _) hd)
theorem FB.drew (C : Chn Lg) (h : FB Lg F w a xs R W) : FB Lg F w a xs R W.drew := h.below C (Below.refl _ _).drew
theorem FB.out (h : FB Lg F w a xs R W) : ∃ S, Lg S W a xs ∧ (∀ t ∈ R, ¬ S t.1) ∧ ∀ S' W' ys, Lg S' W' a ys → (∀ j, S' j → S j ∨ W.heap.size ≤ j) → But S W W' → FB Lg F w a ys R W' := by
  obtain ⟨S, h1, h2, h3, h4⟩ := h
  exact ⟨S, h1, fun t ht => (h4 t ht).2, fun S' W' ys hl hs hb => ⟨S', hl, fun j hj => (hs j hj).elim (h2 j) fun h => .inr (Nat.le_trans h3.size h), h3.trans hb h2, fun t ht => ⟨(hb.block _ (blk_lt (h4 t ht).1) (h4 t ht).2).trans (h4 t ht).1, fun h => (hs _ h).elim (h4 t ht).2 fun h9 => absurd (blk_lt (h4 t ht).1) (by omega)⟩⟩⟩
theorem FB.but (h : FB Lg F w a xs R W) : But F w W := by
  obtain ⟨S, h1, h2, h3, h4⟩ := h
  exact h3
theorem FB.len (C : Chn Lg) (h : FB Lg F w a xs R W) : xs.length ≤ 1024 := by
  obtain ⟨S, h1, h2, h3, h4⟩ := h
  exact C.len h1
theorem FB.blk (h : FB Lg F w a xs R W) {G : Nat} {o : Obj} (hm : (G, o) ∈ R) : W.heap[G]? = some o := by
  obtain ⟨S, h1, h2, h3, h4⟩ := h
  exact (h4 _ hm).1
theorem FB.row (h : FB Lg F w a xs R W) {G t : Nat} {l : List Value} (hm : (G, .cells l.toArray t (0, 0)) ∈ R) : Row W G t l := h.blk hm
theorem FB.pushes (C : Chn Lg) (h : FB Lg F w a xs R W) (hb : Below W.heap.size W W') (hr : ∀ t ∈ R2, W'.heap[t.1]? = some t.2 ∧ W.heap.size ≤ t.1) : FB Lg F w a xs (R2 ++ R) W' := by
  obtain ⟨S, k1, k2, k3, k4⟩ := h.below C hb
  obtain ⟨S0, j1, j2, j3, j4⟩ := h
  refine ⟨S0, C.keep j1 (fun j hj => hb.block j (C.lt j1 j hj)) hb.size, j2, k3, fun t ht => ?_⟩
  rcases List.mem_append.1 ht with ht | ht
  · exact ⟨(hr t ht).1, fun hs => by have := C.lt j1 _ hs; have := (hr t ht).2; omega⟩
  · exact ⟨(k4 t ht).1, (j4 t ht).2⟩
theorem FB.push (C : Chn Lg) (h : FB Lg F w a xs R W) (hb : Below W.heap.size W W') {G : Nat} {o : Obj} (hr : W'.heap[G]? = some o) (hG : W.heap.size ≤ G) : FB Lg F w a xs ((G, o) :: R) W' :=
  FB.pushes (R2 := [(G, o)]) C h hb fun t ht => by
    rw [List.mem_singleton] at ht
    subst ht
    exact ⟨hr, hG⟩
theorem FB.weaken (h : FB Lg F w a xs R W) (hs : ∀ t ∈ R2, t ∈ R) : FB Lg F w a xs R2 W := by
  obtain ⟨S, h1, h2, h3, h4⟩ := h
  exact ⟨S, h1, h2, h3, fun t ht => h4 t (hs t ht)⟩
/-- A block beside the log is written over. -/
theorem FB.swap (C : Chn Lg) {G : Nat} {o o' : Obj} (h : FB Lg F w a xs ((G, o) :: R) W) (hG : F G ∨ w.heap.size ≤ G) (h1 : W'.heap[G]? = some o') (h2 : ∀ k, k < W.heap.size → k ≠ G → W'.heap[k]? = W.heap[k]?) (h3 : W.heap.size ≤ W'.heap.size) (ho : W'.os = W.os) (htp : W'.tape = W.tape) (hout : W'.output = W.output) (hR : ∀ t ∈ R, t.1 ≠ G) : FB Lg F w a xs ((G, o') :: R) W' := by
  obtain ⟨S, k1, k2, k3, k4⟩ := h
  have hS := (k4 _ (List.mem_cons_self ..)).2
  refine ⟨S, C.keep k1 (fun j hj => h2 j (C.lt k1 j hj) fun e => hS (by rw [← e]; exact hj)) h3, k2, k3.trans (T := fun j => j = G) ⟨ho, htp, hout, h3, h2⟩ (fun j e => by subst e; exact hG), fun t ht => ?_⟩
  rcases List.mem_cons.1 ht with rfl | ht
  · exact ⟨h1, hS⟩
  · have := k4 t (List.mem_cons_of_mem _ ht)
    exact ⟨(h2 _ (blk_lt this.1) (hR t ht)).trans this.1, this.2⟩
end

/-- A book at block g: all that is its lies in F. -/
def Bk (Lg : (Nat → Prop) → World → Addr → List EvV → Prop) (F : Nat → Prop) (w : World) (g : Nat) (xs : List EvV) : Prop :=
  ∃ (a : Addr) (S : Nat → Prop) (ao : Option Addr) (c B : Nat) (ob : Obj), Lg S w a xs ∧ (∀ j, S j → F j) ∧ (∀ j, F j → j < w.heap.size) ∧ Row w g 29 [.pointer (some a), .slice ao xs.length c] ∧ F g ∧ ¬ S g ∧ w.heap[B]? = some ob ∧ F B ∧ ¬ S B ∧ (0 < xs.length → ao = some ⟨B, 0, none⟩ ∧ B ≠ g) ∧ (ao = none → c = 0) ∧ EvIn w B 0 xs
section
variable {Lg : (Nat → Prop) → World → Addr → List EvV → Prop} {F : Nat → Prop} {w w' : World} {g : Nat} {xs : List EvV}
theorem Bk.lt (h : Bk Lg F w g xs) : ∀ j, F j → j < w.heap.size := by
  obtain ⟨a, S, ao, c, B, ob, h1, h2, h3, _⟩ := h
  exact h3
theorem Bk.keep (C : Chn Lg) (h : Bk Lg F w g xs) (hb : ∀ j, F j → w'.heap[j]? = w.heap[j]?) (hs : w.heap.size ≤ w'.heap.size) : Bk Lg F w' g xs := by
  obtain ⟨a, S, ao, c, B, ob, h1, h2, h3, h4, h5, h6, h7, h8, h9, h10, h11, h12⟩ := h
  exact ⟨a, S, ao, c, B, ob, C.keep h1 (fun j hj => hb j (h2 j hj)) hs, h2, fun j hj => Nat.lt_of_lt_of_le (h3 j hj) hs, h4.blk (hb g h5), h5, h6, (hb B h8).trans h7, h8, h9, h10, h11, h12.blk (hb B h8)⟩
/-- Where a step left a log and its rows, a book stands. -/
theorem Bk.of_fb (C : Chn Lg) {W : World} {a : Addr} {R : List (Nat × Obj)} {ao : Option Addr} {c B : Nat} {ob : Obj} (h : FB Lg F w a xs R W) (hg : (g, .cells #[.pointer (some a), .slice ao xs.length c] 29 (0, 0)) ∈ R) (hB : (B, ob) ∈ R) (hFg : F g ∨ w.heap.size ≤ g) (hFB : F B ∨ w.heap.size ≤ B) (hao : 0 < xs.length → ao = some ⟨B, 0, none⟩ ∧ B ≠ g) (hnil : ao = none → c = 0) (hin : EvIn W B 0 xs) :
    ∃ F', Bk Lg F' W g xs ∧ (∀ j, F' j → F j ∨ w.heap.size ≤ j) ∧ But F w W := by
  obtain ⟨S, k1, k2, k3, k4⟩ := h
  refine ⟨fun j => (F j ∨ w.heap.size ≤ j) ∧ j < W.heap.size, ⟨a, S, ao, c, B, ob, k1, fun j hj => ⟨k2 j hj, C.lt k1 j hj⟩, fun j hj => hj.2, (k4 _ hg).1, ⟨hFg, blk_lt (k4 _ hg).1⟩, (k4 _ hg).2, (k4 _ hB).1, ⟨hFB, blk_lt (k4 _ hB).1⟩, (k4 _ hB).2, hao, hnil, hin⟩, fun j hj => hj.1, k3⟩
end
/-- What a step leaves. -/
def StP (Lg : (Nat → Prop) → World → Addr → List EvV → Prop) (F : Nat → Prop) (w : World) (g : Nat) : Ending → World → Prop := fun e w' => ∃ F' xs', e = .returned (.bool true) ∧ Bk Lg F' w' g xs' ∧ (∀ j, F' j → F j ∨ w.heap.size ≤ j) ∧ But F w w'
/-- The cells of a step of the script. -/
def opC (k on : Int) (x : EvV) (ko : Option Addr) (kn kc : Nat) (no : Option Addr) (nb nc : Nat) : List Value := [.int .i64 k, .int .i64 on] ++ evC x ++ [.slice ko kn kc, .slice no nb nc]
theorem opC_len {k on : Int} {x : EvV} {ko : Option Addr} {kn kc : Nat} {no : Option Addr} {nb nc : Nat} (hx : EvOk x) : (opC k on x ko kn kc no nb nc).length = 37 := by simp [opC, evC_len hx]
theorem opC_ev {k on : Int} {x : EvV} {ko : Option Addr} {kn kc : Nat} {no : Option Addr} {nb nc j : Nat} {v : Value} (h : (evC x)[j]? = some v) : (opC k on x ko kn kc no nb nc)[2 + j]? = some v := by
  have hl := (List.getElem?_eq_some_iff.1 h).1
  unfold opC
  rw [List.append_assoc, List.getElem?_append_right (by simp), List.getElem?_append_left (by simp; omega)]
  simpa using h
theorem opC_k {k on : Int} {x : EvV} {ko : Option Addr} {kn kc : Nat} {no : Option Addr} {nb nc : Nat} : (opC k on x ko kn kc no nb nc)[0]? = some (.int .i64 k) := rfl
theorem opC_on {k on : Int} {x : EvV} {ko : Option Addr} {kn kc : Nat} {no : Option Addr} {nb nc : Nat} : (opC k on x ko kn kc no nb nc)[1]? = some (.int .i64 on) := rfl
theorem opC_key {k on : Int} {x : EvV} {ko : Option Addr} {kn kc : Nat} {no : Option Addr} {nb nc : Nat} (hx : EvOk x) : (opC k on x ko kn kc no nb nc)[35]? = some (.slice ko kn kc) := by
  unfold opC
  rw [List.getElem?_append_right (by simp [evC_len hx])]; simp [evC_len hx]
theorem opC_nonce {k on : Int} {x : EvV} {ko : Option Addr} {kn kc : Nat} {no : Option Addr} {nb nc : Nat} (hx : EvOk x) : (opC k on x ko kn kc no nb nc)[36]? = some (.slice no nb nc) := by
  unfold opC
  rw [List.getElem?_append_right (by simp [evC_len hx])]; simp [evC_len hx]
theorem opC_one {k on : Int} {x : EvV} {ko : Option Addr} {kn kc : Nat} {no : Option Addr} {nb nc : Nat} : ∀ u ∈ opC k on x ko kn kc no nb nc, u.oneCell' = true := by
  intro u hu
  simp only [opC, List.mem_append, List.mem_cons, List.not_mem_nil, or_false] at hu
  rcases hu with ((rfl | rfl) | hu) | (rfl | rfl)
  all_goals first | rfl | exact evC_one x u hu
/-- The rows beside the log at a step's beginning. -/
def bkR (X g : Nat) (OC : List Value) (a : Addr) (ao : Option Addr) (n c B : Nat) (ob : Obj) : List (Nat × Obj) := [(X, .cells OC.toArray 38 (0, 0)), (g, .cells #[.pointer (some a), .slice ao n c] 29 (0, 0)), (B, ob)]
theorem Bk.start {Lg : (Nat → Prop) → World → Addr → List EvV → Prop} {F : Nat → Prop} {w : World} {g : Nat} {xs : List EvV} (C : Chn Lg) (h : Bk Lg F w g xs) (OC : List Value) :
    ∃ a ao c B ob, FB Lg F w a xs (bkR w.heap.size g OC a ao xs.length c B ob) (w.alloc (.cells OC.toArray 38)) ∧ F g ∧ F B ∧ g < w.heap.size ∧ B < w.heap.size ∧ (0 < xs.length → ao = some ⟨B, 0, none⟩ ∧ B ≠ g) ∧ (ao = none → c = 0) ∧ ∀ W, W.heap[B]? = some ob → EvIn W B 0 xs := by
  obtain ⟨a, S, ao, c, B, ob, h1, h2, h3, h4, h5, h6, h7, h8, h9, h10, h11, h12⟩ := h
  refine ⟨a, ao, c, B, ob, ?_, h5, h8, h3 g h5, h3 B h8, h10, h11, fun W hW => h12.blk (hW.trans h7.symm)⟩
  have hb : Below w.heap.size w (w.alloc (.cells OC.toArray 38)) := (Below.refl _ _).alloc (Nat.le_refl _) _
  have h0 : FB Lg F w a xs [(g, .cells #[.pointer (some a), .slice ao xs.length c] 29 (0, 0)), (B, ob)] w := ⟨S, h1, fun j hj => .inl (h2 j hj), ⟨rfl, rfl, rfl, Nat.le_refl _, fun _ _ _ => rfl⟩, fun t ht => by
    rcases List.mem_cons.1 ht with rfl | ht
    · exact ⟨h4, h6⟩
    · rw [List.mem_singleton] at ht
      subst ht
      exact ⟨h7, h9⟩⟩
  exact h0.push C hb (Row.at w _ _ _ _ rfl rfl) (Nat.le_refl _)
section
variable {Lg : (Nat → Prop) → World → Addr → List EvV → Prop} {F : Nat → Prop} {w : World} {X g : Nat} {xs : List EvV} {OC : List Value} {a : Addr} {ao : Option Addr} {n c B : Nat} {ob : Obj} {R : List (Nat × Obj)} {W : World}
theorem FB.op (h : FB Lg F w a xs (bkR X g OC a ao n c B ob) W) : Row W X 38 OC := h.row (List.mem_cons_self ..)
theorem FB.bk (h : FB Lg F w a xs (bkR X g OC a ao n c B ob) W) : Row W g 29 [.pointer (some a), .slice ao n c] := h.blk (List.mem_cons_of_mem _ (List.mem_cons_self ..))
theorem FB.ev (h : FB Lg F w a xs (bkR X g OC a ao n c B ob) W) : W.heap[B]? = some ob := h.blk (List.mem_cons_of_mem _ (List.mem_cons_of_mem _ (List.mem_cons_self ..)))
theorem FB.endP (C : Chn Lg) (h : FB Lg F w a xs (bkR X g OC a ao xs.length c B ob) W) (hFg : F g) (hFB : F B) (hao : 0 < xs.length → ao = some ⟨B, 0, none⟩ ∧ B ≠ g) (hnil : ao = none → c = 0) (hin : ∀ W, W.heap[B]? = some ob → EvIn W B 0 xs) : StP Lg F w g (.returned (.bool true)) W := by
  obtain ⟨F', h1, h2, h3⟩ := Bk.of_fb C h (g := g) (ao := ao) (c := c) (B := B) (ob := ob) (List.mem_cons_of_mem _ (List.mem_cons_self ..)) (List.mem_cons_of_mem _ (List.mem_cons_of_mem _ (List.mem_cons_self ..))) (.inl hFg) (.inl hFB) hao hnil (hin W h.ev)
  exact ⟨F', xs, rfl, h1, h2, h3⟩
end
end Go.Proofs.Ythegfkcegmeklaa
