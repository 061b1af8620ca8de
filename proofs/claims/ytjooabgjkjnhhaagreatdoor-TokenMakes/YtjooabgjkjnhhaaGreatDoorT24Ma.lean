
import Derived.Test.YtjooabgjkjnhhaaGreatDoorT24Iq
import Derived.Test.YtjooabgjkjnhhaaGreatDoorT24Op
/-! TokenMakes: Narrow and Issue of the code and of the document as one; tokens that stay while variables change. -/
namespace Go.Proofs.YtjooabgjkjnhhaaGreatDoor
open Go.RowKit
set_option linter.unusedVariables false
set_option linter.unusedSimpArgs false
set_option maxRecDepth 100000

def nrT (T : Tk) (c : Cv) : Tk := if 32 ≤ T.cs.length then tk0 else if cvMay c = true then ⟨T.key, T.id, T.cs ++ [c], tag T.tag (cvB c)⟩ else tk0
def nrE (T : Tk) (c : Cv) : Int := if 32 ≤ T.cs.length then 3 else if cvMay c = true then 0 else 1
theorem nrT_tag (T : Tk) (c : Cv) : (nrT T c).tag.length = 32 := by
  unfold nrT
  split
  · rfl
  · split
    · exact tag_len _ _
    · rfl
theorem nrT_len (T : Tk) (c : Cv) : (nrT T c).cs.length ≤ T.cs.length + 1 := by
  unfold nrT
  split
  · exact Nat.zero_le _
  · split
    · show (T.cs ++ [c]).length ≤ _; simp
    · exact Nat.zero_le _
theorem tk0_o (ct N : Nat) (W : World) (h : N ≤ W.heap.size) : TkO ct N W tk0 none 0 none 0 := ⟨⟨World.ownsRow_nil _ _ _ _, h⟩, World.ownsRow_nil _ _ _ _, rfl, fun c hc => (by cases hc), by decide⟩
/-- An answer of the document that is a token, and v beside it. -/
def TkD (x : Tk) (v : Value) (w : World) (e : Ending) (w' : World) : Prop := ∃ io ic lo lc, e = .returned (.tuple #[.agg (tkCells x io ic lo lc).toArray, v]) ∧ TkO 50 w.heap.size w' x io ic lo lc
theorem cnar_any (C : Tok) (t : Tk) (c : Cv) (io : Option Addr) (ic : Nat) (lo : Option Addr) (lc : Nat) (W : World) (hv : TkV W t io ic lo lc) (hl : t.cs.length ≤ 70000) (hc : c.ok) : Calls Tryz.prog 15 #[.agg (tkCells t io ic lo lc).toArray, .agg (cvC c).toArray] W fun e w' => Below W.heap.size W w' ∧ TkA (nrT t c) (.int .i64 (nrE t c)) W e w' :=
  (C.narrow t c io ic lo lc W hv hl hc).mono fun e w' ⟨h1, h2⟩ => ⟨h1, by
    unfold nrT nrE
    by_cases h9 : 32 ≤ t.cs.length
    · rw [if_pos h9] at h2 ⊢; rw [if_pos h9]; exact h2
    · rw [if_neg h9] at h2 ⊢
      rw [if_neg h9]
      by_cases h8 : cvMay c = true
      · rw [if_pos h8] at h2 ⊢; rw [if_pos h8]; exact h2
      · rw [if_neg h8] at h2 ⊢; rw [if_neg h8]; exact h2⟩
theorem rnar_any (t : Tk) (c : Cv) (io : Option Addr) (ic : Nat) (lo : Option Addr) (lc : Nat) (W : World) (hv : TkV W t io ic lo lc) (hc : c.ok) : Calls Tryz.prog 17 #[.agg (tkCells t io ic lo lc).toArray, .agg (cvC c).toArray] W fun e w' => Below W.heap.size W w' ∧ TkD (nrT t c) (.int .i64 (nrE t c)) W e w' :=
  (r24Narrow_any t c hc io ic lo lc W hv).mono fun e w' ⟨h1, h2⟩ => ⟨h1, by
    unfold nrT nrE
    by_cases h9 : 32 ≤ t.cs.length
    · rw [if_pos h9] at h2 ⊢; rw [if_pos h9]; exact ⟨none, 0, none, 0, h2, tk0_o _ _ _ h1.size⟩
    · rw [if_neg h9] at h2 ⊢
      rw [if_neg h9]
      by_cases h8 : cvMay c = true
      · rw [if_pos h8] at h2 ⊢; rw [if_pos h8]; exact h2
      · rw [if_neg h8] at h2 ⊢; rw [if_neg h8]; exact ⟨none, 0, none, 0, h2, tk0_o _ _ _ h1.size⟩⟩
def isxT (l : Secs) (key : Int) (id : List By) : Tk := if (fnd l key).isSome = false then tk0 else if id.length < 1 ∨ 64 < id.length then tk0 else ⟨key, id, [], sgn l key (firstB id)⟩
def isxE (l : Secs) (key : Int) (id : List By) : Int := if (fnd l key).isSome = false then 13 else if id.length < 1 ∨ 64 < id.length then 4 else 0
theorem isxT_cs (l : Secs) (key : Int) (id : List By) : (isxT l key id).cs = [] := by
  unfold isxT
  split
  · rfl
  · split <;> rfl
theorem ciss_any (C : Tok) (N M : Nat) (w : World) (g b : Nat) (vs : List Value) (l : Secs) (hk : KgO N M w g b vs l) (h256 : ∀ i, i < l.length → (l.getD i (0, [])).2.length ≤ 256) (key : Int) (io : Option Addr) (ic : Nat) (id : List By) (hi : IsB w io id) (hic : id.length ≤ ic) (hin : io = none → ic = 0) (hib : id.length ≤ 140737488351232) : Calls Tryz.prog 10 #[.pointer (some ⟨g, 0, none⟩), .int .i64 key, .slice io id.length ic] w fun e w' => Below w.heap.size w w' ∧ TkA (isxT l key id) (.int .i64 (isxE l key id)) w e w' :=
  (C.issue N M w g b vs l hk h256 key io ic id hi hic hin hib).mono fun e w' ⟨h1, h2⟩ => ⟨h1, by
    unfold isxT isxE
    by_cases h9 : (fnd l key).isSome = false
    · rw [if_pos h9] at h2 ⊢; rw [if_pos h9]; exact h2
    · rw [if_neg h9] at h2 ⊢
      rw [if_neg h9]
      by_cases h8 : id.length < 1 ∨ 64 < id.length
      · rw [if_pos h8] at h2 ⊢; rw [if_pos h8]; exact h2
      · rw [if_neg h8] at h2 ⊢; rw [if_neg h8]; exact h2⟩
theorem riss_any (w : World) (g : Nat) (ro : Option Addr) (rc : Nat) (vs : List Value) (l : Secs) (h : RgAt w g ro rc vs l) (hl : l.length ≤ 64) (hb256 : ∀ i, i < l.length → (l.getD i (0, [])).2.length ≤ 256) (key : Int) (io : Option Addr) (ic : Nat) (id : List By) (hb : IsB w io id) (hnil : io = none → ic = 0) (hbig : id.length ≤ 140737488351232) : Calls Tryz.prog 11 #[.pointer (some ⟨g, 0, none⟩), .int .i64 key, .slice io id.length ic] w fun e w' => Below w.heap.size w w' ∧ TkD (isxT l key id) (.int .i64 (isxE l key id)) w e w' :=
  (r24Issue_any w g ro rc vs l h hl hb256 key io ic id hb hnil hbig).mono fun e w' ⟨h1, h2⟩ => ⟨h1, by
    unfold isxT isxE
    by_cases h9 : (fnd l key).isSome = false
    · rw [if_pos h9] at h2 ⊢; rw [if_pos h9]; exact ⟨none, 0, none, 0, h2, tk0_o _ _ _ h1.size⟩
    · rw [if_neg h9] at h2 ⊢
      rw [if_neg h9]
      by_cases h8 : id.length < 1 ∨ 64 < id.length
      · rw [if_pos h8] at h2 ⊢; rw [if_pos h8]; exact ⟨none, 0, none, 0, h2, tk0_o _ _ _ h1.size⟩
      · rw [if_neg h8] at h2 ⊢
        rw [if_neg h8]
        obtain ⟨io2, ic2, he, ho⟩ := h2
        exact ⟨io2, ic2, none, 0, he, ho⟩⟩
theorem sb_cell {g : Nat} {W W2 : World} (h : SameBut g W W2) (B : Nat) (hB : B ≠ g) (i : Nat) : W2.cell? ⟨B, i, none⟩ = W.cell? ⟨B, i, none⟩ := by simp only [World.cell?, h.block B hB]
/-- A token that does not lie in the variables ga and gb. -/
structure TkF (ga gb : Nat) (W : World) (x : Tk) (io : Option Addr) (ic : Nat) (lo : Option Addr) (lc : Nat) : Prop where
  v : TkV W x io ic lo lc
  fi : x.id = [] ∨ ∃ B off, io = some ⟨B, off, none⟩ ∧ B ≠ ga ∧ B ≠ gb
  fl : x.cs = [] ∨ ∃ B off, lo = some ⟨B, off, none⟩ ∧ B ≠ ga ∧ B ≠ gb
theorem TkF.keep {ga gb : Nat} {W W2 : World} {x : Tk} {io : Option Addr} {ic : Nat} {lo : Option Addr} {lc : Nat} (h : TkF ga gb W x io ic lo lc) (hb : Below W.heap.size W W2) : TkF ga gb W2 x io ic lo lc := ⟨h.v.keep hb, h.fi, h.fl⟩
theorem TkF.but {ga gb g : Nat} {W W2 : World} {x : Tk} {io : Option Addr} {ic : Nat} {lo : Option Addr} {lc : Nat} (h : TkF ga gb W x io ic lo lc) (hs : SameBut g W W2) (hg : g = ga ∨ g = gb) : TkF ga gb W2 x io ic lo lc := by
  refine ⟨⟨?_, h.v.inil, h.v.ile, ?_, h.v.lnil, h.v.lle, h.v.tag, h.v.ok, h.v.big⟩, h.fi, h.fl⟩
  · rcases h.fi with h1 | ⟨B, off, rfl, h1, h2⟩
    · exact .inl h1
    · have h3 : B ≠ g := by rcases hg with rfl | rfl <;> assumption
      rcases h.v.id with h4 | ⟨B2, off2, e, hc⟩
      · exact .inl h4
      · injection e with e; injection e with e1 e2 _
        subst e1; subst e2
        exact .inr ⟨B, off, rfl, fun j v hj => (sb_cell hs B h3 (off + j)).trans (hc j v hj)⟩
  · intro i c hi
    rcases h.fl with h1 | ⟨B, off, rfl, h1, h2⟩
    · rw [h1] at hi; cases hi
    · have h3 : B ≠ g := by rcases hg with rfl | rfl <;> assumption
      obtain ⟨B2, off2, e, hB, hr⟩ := h.v.cs i c hi
      injection e with e; injection e with e1 e2 _
      subst e1; subst e2
      exact ⟨B, off, rfl, by rw [hs.size]; exact hB, fun j v hv => (sb_cell hs B h3 _).trans (hr j v hv)⟩
theorem tkF_own {ct N ga gb : Nat} {W : World} {x : Tk} {io : Option Addr} {ic : Nat} {lo : Option Addr} {lc : Nat} (h : TkO ct N W x io ic lo lc) (ha : ga < N) (hb : gb < N) : TkF ga gb W x io ic lo lc := by
  refine ⟨h.v, ?_, ?_⟩
  · rcases h.id.1.2 with ⟨_, e0⟩ | ⟨g, c', cur, e1, hg, _⟩
    · exact .inl (List.eq_nil_of_length_eq_zero e0)
    · injection e1 with e1 _ _; exact .inr ⟨g, 0, e1, by omega, by omega⟩
  · rcases h.cs.2 with ⟨_, e0⟩ | ⟨g, c', cur, e1, hg, _⟩
    · exact .inl (List.eq_nil_of_length_eq_zero e0)
    · injection e1 with e1 _ _; exact .inr ⟨g, 0, e1, by omega, by omega⟩
theorem isb_lt {W : World} {io : Option Addr} {m : List By} (h : IsB W io m) : m = [] ∨ ∃ B off, io = some ⟨B, off, none⟩ ∧ B < W.heap.size := by
  rcases h with h | ⟨B, off, e, hc⟩
  · exact .inl h
  · cases m with
    | nil => exact .inl rfl
    | cons a r =>
      refine .inr ⟨B, off, e, ?_⟩
      have h4 := hc 0 a rfl
      exact Nat.lt_of_not_le fun hle => by
        have : W.heap[B]? = none := by simp; exact hle
        simp [World.cell?, this] at h4
theorem tkF_in {ga gb : Nat} {w : World} {x : Tk} {io : Option Addr} {ic : Nat} {lo : Option Addr} {lc : Nat} (h : TkV w x io ic lo lc) (ha : w.heap.size ≤ ga) (hb : w.heap.size ≤ gb) : TkF ga gb w x io ic lo lc := by
  refine ⟨h, ?_, ?_⟩
  · rcases isb_lt h.id with h1 | ⟨B, off, e, hB⟩
    · exact .inl h1
    · exact .inr ⟨B, off, e, by omega, by omega⟩
  · cases hcs : x.cs with
    | nil => exact .inl rfl
    | cons a r =>
      obtain ⟨B, off, e, hB, _⟩ := h.cs 0 a (by rw [hcs]; rfl)
      exact .inr ⟨B, off, e, by omega, by omega⟩
/-- Two pairs of back and Same. -/
structure BS2 (W1 : World) (x : Tk) (io : Option Addr) (ic : Nat) (y : Tk) (jo : Option Addr) (jc : Nat) (q p : Bool) (u v : Value) (W : World) : Prop where
  a : BS W1 x io ic q u W
  b : BS W1 y jo jc p v W
/-- Between two caveats of TokenMakes. -/
structure MK (w : World) (gm g8 : Nat) (T : Tk) (io : Option Addr) (ic : Nat) (lo : Option Addr) (lc : Nat) (jo : Option Addr) (jc : Nat) (ko : Option Addr) (kc : Nat) (W : World) : Prop where
  bel : Below w.heap.size w W
  hm : w.heap.size ≤ gm
  h8 : w.heap.size ≤ g8
  ne : gm ≠ g8
  m : Row W gm 40 (tkCells T io ic lo lc)
  t : Row W g8 28 (tkCells T jo jc ko kc)
  mf : TkF gm g8 W T io ic lo lc
  tf : TkF gm g8 W T jo jc ko kc
theorem MK.keep {w : World} {gm g8 : Nat} {T : Tk} {io : Option Addr} {ic : Nat} {lo : Option Addr} {lc : Nat} {jo : Option Addr} {jc : Nat} {ko : Option Addr} {kc : Nat} {W W2 : World} (h : MK w gm g8 T io ic lo lc jo jc ko kc W) (hb : Below W.heap.size W W2) : MK w gm g8 T io ic lo lc jo jc ko kc W2 :=
  ⟨h.bel.trans (hb.mono h.bel.size), h.hm, h.h8, h.ne, h.m.below hb h.m.lt, h.t.below hb h.t.lt, h.mf.keep hb, h.tf.keep hb⟩
/-- While mine and t are set. -/
structure M23 (w : World) (gm g8 ga gb : Nat) (y : Tk) (io : Option Addr) (ic : Nat) (lo : Option Addr) (lc : Nat) (jo : Option Addr) (jc : Nat) (ko : Option Addr) (kc : Nat) (CM CT : List Value) (q2 q3 : Bool) (W : World) : Prop where
  bel : Below w.heap.size w W
  hm : w.heap.size ≤ gm
  h8 : w.heap.size ≤ g8
  ne : gm ≠ g8
  nea : ga ≠ gm ∧ ga ≠ g8
  neb : gb ≠ gm ∧ gb ≠ g8
  lm : CM.length = 35
  lt : CT.length = 35
  m : Row W gm 40 (if q2 then tkCells y io ic lo lc else CM)
  t : Row W g8 28 (if q3 then tkCells y jo jc ko kc else CT)
  a : Row W ga 40 (tkCells y io ic lo lc)
  b : Row W gb 28 (tkCells y jo jc ko kc)
  af : TkF gm g8 W y io ic lo lc
  bf : TkF gm g8 W y jo jc ko kc
theorem M23.s2 {w : World} {gm g8 ga gb : Nat} {y : Tk} {io : Option Addr} {ic : Nat} {lo : Option Addr} {lc : Nat} {jo : Option Addr} {jc : Nat} {ko : Option Addr} {kc : Nat} {CM CT : List Value} {q2 q3 : Bool} {W W2 : World} (h : M23 w gm g8 ga gb y io ic lo lc jo jc ko kc CM CT q2 q3 W) (hr : Row W2 gm 40 (tkCells y io ic lo lc)) (hs : SameBut gm W W2) {q' : Bool} (hq : q' = true) : M23 w gm g8 ga gb y io ic lo lc jo jc ko kc CM CT q' q3 W2 :=
  ⟨hs.below h.bel h.hm, h.hm, h.h8, h.ne, h.nea, h.neb, h.lm, h.lt, (by rw [hq]; exact hr), h.t.but hs (Ne.symm h.ne), h.a.but hs h.nea.1, h.b.but hs h.neb.1, h.af.but hs (.inl rfl), h.bf.but hs (.inl rfl)⟩
theorem M23.s3 {w : World} {gm g8 ga gb : Nat} {y : Tk} {io : Option Addr} {ic : Nat} {lo : Option Addr} {lc : Nat} {jo : Option Addr} {jc : Nat} {ko : Option Addr} {kc : Nat} {CM CT : List Value} {q2 q3 : Bool} {W W2 : World} (h : M23 w gm g8 ga gb y io ic lo lc jo jc ko kc CM CT q2 q3 W) (hr : Row W2 g8 28 (tkCells y jo jc ko kc)) (hs : SameBut g8 W W2) {q' : Bool} (hq : q' = true) : M23 w gm g8 ga gb y io ic lo lc jo jc ko kc CM CT q2 q' W2 :=
  ⟨hs.below h.bel h.h8, h.hm, h.h8, h.ne, h.nea, h.neb, h.lm, h.lt, h.m.but hs h.ne, (by rw [hq]; exact hr), h.a.but hs h.nea.2, h.b.but hs h.neb.2, h.af.but hs (.inr rfl), h.bf.but hs (.inr rfl)⟩
end Go.Proofs.YtjooabgjkjnhhaaGreatDoor
