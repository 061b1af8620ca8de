
import Derived.Test.YtngfdofjflmhhaaL4Fix
/-! What a step of the statement's script needs. -/
namespace Go.Proofs.Ytngfdofjflmhhaa
open Go.RowKit

theorem own_nilcap {N : Nat} {w : World} {ao : Option Addr} {n c : Nat} {m : List By} (h : Own N w (.slice ao n c) m) : ao = none → c = 0 := by
  rintro rfl
  rcases h.1.2 with ⟨h1, _⟩ | ⟨g, c', cur, h1, _⟩
  · injection h1
  · cases h1

set_option maxHeartbeats 1000000 in
set_option maxRecDepth 100000 in
theorem cut2_any (F : RF) (s : RS) (n : Int) (ao : Option Addr) (len cap : Nat) (m : List By) (hm : m.length = len) (w : World) (h : RAt w F s) (hb : IsB w ao m) (hbg : m = [] ∨ ∀ B off, ao = some ⟨B, off, none⟩ → B ≠ F.g) (hnil : ao = none → cap = 0) (hl : len ≤ 140737488353280) :
    Calls Try.prog 30 #[.pointer (some ⟨F.g, 0, none⟩), .int .i64 n, .slice ao len cap] w fun e w' => e = .returned (.tuple #[]) ∧ ∃ mo mc mb, (∀ B, mb = some B → w.heap.size ≤ B) ∧ (mo = none → mc = 0) ∧ RAt w' { F with mo := mo, mcap := mc, mb := mb } { s with wait := max (-1) n, mask := m } ∧ KeptL [F.g] w w' := by
  have HM : Hid (m.length = len) := hm
  have c12 := h.cWait
  have f12 := h.row.frozen 12
  obtain ⟨mx, hmx⟩ : ∃ mx, mx = max (-1) n := ⟨_, rfl⟩
  rw [← hmx]
  have HMX : Hid (mx = max (-1) n) := hmx
  have r1 := h.row.set 12 (.int .i64 mx)
  rw [cells_wait] at r1
  have s1 := SameBut.setCell F.g 12 (.int .i64 mx) w
  have ra1 : RAt (w.setCell ⟨F.g, 12, none⟩ (.int .i64 mx)) F { s with wait := mx } := h.struct s1 r1 rfl rfl rfl rfl rfl
  have hgl := h.row.lt
  have HBL : Hid (∀ B ∈ F.blocks, B < w.heap.size) := h.blt
  have ib1 : IsB (w.setCell ⟨F.g, 12, none⟩ (.int .i64 mx)) ao m := by
    rcases hb with h0 | ⟨B, off, h1, hc⟩
    · exact .inl h0
    · rcases hbg with h0 | h0
      · exact .inl h0
      · exact .inr ⟨B, off, h1, fun j v hj => (World.cell?_of_block (w := w) (s1.block B (h0 B off h1))).trans (hc j v hj)⟩
  have HW : Hid (∀ w1, w.setCell ⟨F.g, 12, none⟩ (.int .i64 mx) = w1 → RAt w1 F { s with wait := mx } ∧ IsB w1 ao m ∧ SameBut F.g w w1) := by
    rintro w1 rfl; exact ⟨ra1, ib1, s1⟩
  clear ra1 ib1 s1 r1 hmx hb hbg hm
  have key : (mx = -1 ∧ ¬ -1 < n) ∨ (mx = n ∧ -1 < n) := by have := HMX.out; omega
  rcases key with ⟨rfl, hlt⟩ | ⟨rfl, hlt⟩
  all_goals
    go_enter Try.func30, Try.ntmps30
    go_upto_region 1 with fail
    generalize hw1 : World.setCell w ⟨F.g, 12, none⟩ _ = w1
    obtain ⟨ra1, ib1, s1⟩ := HW.out w1 hw1
    clear hw1 HW
    have HZ1 : Hid (w1.heap.size = w.heap.size) := s1.size
    have oe := own_empty w1.heap.size w1 (Nat.le_refl _) #[] rfl
    have b1 : ∀ o1, Below w1.heap.size w1 (w1.alloc o1) := fun o1 => (Below.refl _ _).alloc (Nat.le_refl _) _
    have IB1 : Hid (∀ o1, IsB (w1.alloc o1) ao m) := fun o1 => ib1.below (b1 o1) (Nat.le_refl _)
    have HC : Hid (∀ w2, Below w1.heap.size w1 w2 → w2.cell? ⟨F.g, 13, none⟩ = some (.slice F.mo s.mask.length F.mcap) ∧ w2.frozen? ⟨F.g, 13, none⟩ = false ∧ RAt w2 F { s with wait := _ }) := fun w2 b2 => by
      have r2 := ra1.keep (w' := w2) (fun B hB => b2.block B (by rw [HZ1.out]; exact HBL.out B hB))
      exact ⟨r2.cMask, r2.row.frozen 13, r2⟩
    go_wp2_with (at_builtin; (refine wpList_append_more rfl (.tmp 12) (.tmp 13) rfl w1.heap.size w1 _ 0 0 [] rfl rfl oe (b1 _) ao len cap m rfl HM.out (IB1.out _) hnil (by omega) ?_); intro mo mc w2 ho2 hb2; rw [Nat.zero_add, List.nil_append] at ho2; obtain ⟨c13, f13, ra2⟩ := HC.out w2 hb2)
    go_end0
    have hz1 := HZ1.out
    have kl2 : KeptL [F.g] w w2 := ((KeptL.refl _ _).but s1 (.inl (by simp))).below hb2 (by omega)
    have kl3 : ∀ v, KeptL [F.g] w (w2.setCell ⟨F.g, 13, none⟩ v) := fun v => kl2.but (SameBut.setCell F.g 13 v w2) (.inl (by simp))
    by_cases hme : m = []
    · refine ⟨rfl, mo, mc, none, (fun B hB => by cases hB), own_nilcap ho2, ?_, kl3 _⟩
      have := ra2.setMask m mo mc none (fun B hB => by cases hB) (.inl hme)
      rw [HM.out] at this
      simpa using this
    · obtain ⟨B, hB1, hB2, hB3, hB4⟩ := own_pre ho2 hme
      refine ⟨rfl, mo, mc, some B, (fun B' hB' => by injection hB' with e; omega), own_nilcap ho2, ?_, kl3 _⟩
      have := ra2.setMask m mo mc (some B) (fun B' hB' => by injection hB' with e; subst e; exact ⟨hB3, fun hmem => by have := HBL.out _ hmem; omega⟩) (.inr ⟨B, rfl, hB1, hB4⟩)
      rw [HM.out] at this
      simpa using this

theorem conv_string (w : World) (ao : Option Addr) (n cap : Nat) (bs : List By) (hn : bs.length = n) (hb : IsB w ao bs) :
    (convert 43 9 (.slice ao n cap)).run Try.prog w = .ok (.string (strOf bs)) w := by
  subst hn
  rw [run_convert_bytes_string w 43 9 5 ao bs.length cap Try.underlying43 Try.underlying5 Try.underlying9]
  have key : ∀ a : Addr, (∀ j v, (bs.map B8)[j]? = some v → w.cell? (a.add j) = some v) → (Conv.bytesToString (.slice (some a) bs.length cap)).run Try.prog w = .ok (.string (strOf bs)) w := by
    intro a h
    have hl := run_loadCells_list (P := Try.prog) w a (bs.map B8) h
    rw [List.length_map] at hl
    have e : bs.map B8 = (bs.map fun b => (b.toNat : Int)).map (Value.int .u8) := by
      rw [List.map_map]; rfl
    rw [e] at hl
    exact run_bytesToString w a bs.length cap _ hl
  rcases hb with rfl | ⟨B, off, rfl, hc⟩
  · cases ao with
    | none => rfl
    | some a => exact key a (by simp)
  · refine key _ ?_
    intro j u hu
    rw [Addr.add_mid]
    rw [List.getElem?_map] at hu
    cases hj : bs[j]? with
    | none => rw [hj] at hu; cases hu
    | some v =>
      rw [hj] at hu
      injection hu with hu
      rw [← hu]; exact hc j v hj

/-- What stays true of a chip's numbers. -/
structure RS.Good (s : RS) : Prop where
  n0 : 0 ≤ s.n
  wt : s.wait < 9223372036854775808
  ce : s.c.erases ≤ 65536
  e0 : ∀ e ∈ s.erases, 0 ≤ e
  ml : s.mask.length ≤ 140737488351232
  pos : 0 < s.pages.length
theorem RS.Good.act {s : RS} (h : s.Good) : s.act.Good := by
  refine ⟨by show 0 ≤ s.n + 1; have := h.n0; omega, ?_, h.ce, h.e0, h.ml, h.pos⟩
  show (if s.wait = 0 then -1 else if 0 < s.wait then s.wait - 1 else s.wait) < _
  have := h.wt
  split
  · omega
  · split <;> omega
theorem RS.Good.program {s : RS} (h : s.Good) (p c : Int) (x : List By) : (s.program p c x).Good ∧ (s.program p c x).n ≤ s.n + 1 := by
  unfold RS.program
  split
  · have k := h.act
    refine ⟨⟨k.n0, k.wt, k.ce, k.e0, k.ml, ?_⟩, by show s.n + 1 ≤ _; omega⟩
    show 0 < (s.pages.set _ _).length
    rw [List.length_set]; exact h.pos
  · exact ⟨h, by omega⟩
theorem RS.Good.erase {s : RS} (h : s.Good) (p : Int) : (s.erase p).Good ∧ (s.erase p).n ≤ s.n + 1 := by
  unfold RS.erase
  split
  · have k := h.act
    refine ⟨⟨k.n0, k.wt, k.ce, ?_, k.ml, ?_⟩, by show s.n + 1 ≤ _; omega⟩
    · intro e he
      have he' : e ∈ s.erases.set p.toNat (s.erases.getD p.toNat 0 + 1) := he
      rcases List.mem_or_eq_of_mem_set he' with h1 | rfl
      · exact h.e0 e h1
      · have : 0 ≤ s.erases.getD p.toNat 0 := by
          rw [List.getD_eq_getElem?_getD]
          cases hq : s.erases[p.toNat]? with
          | none => simp
          | some v => exact h.e0 v (List.mem_of_getElem? hq)
        omega
    · show 0 < (s.pages.set _ _).length
      rw [List.length_set]; exact h.pos
  · exact ⟨h, by omega⟩
theorem RS.Good.blow {s : RS} (h : s.Good) (i : Int) : (s.blow i).Good ∧ (s.blow i).n ≤ s.n + 1 := by
  unfold RS.blow
  split
  · have k := h.act
    exact ⟨⟨k.n0, k.wt, k.ce, k.e0, k.ml, k.pos⟩, by show s.n + 1 ≤ _; omega⟩
  · exact ⟨h, by omega⟩

/-- A chip of the code beside the document's: they hold the same. -/
structure PR (w : World) (G F : RF) (s : RS) : Prop where
  c : ∃ S, CAt w G s S
  r : RAt w F s
  sep : ∀ B ∈ G.blocks, B ∉ F.blocks
  good : s.Good
  mn : F.mo = none → F.mcap = 0
theorem PR.keep {w w' : World} {G F : RF} {s : RS} (h : PR w G F s) (hb : ∀ B, B ∈ G.blocks ∨ B ∈ F.blocks → w'.heap[B]? = w.heap[B]?) : PR w' G F s := by
  obtain ⟨S, c⟩ := h.c
  exact ⟨⟨S, c.keep fun B hB => hb B (.inl hB)⟩, h.r.keep fun B hB => hb B (.inr hB), h.sep, h.good, h.mn⟩
theorem PR.lt {w : World} {G F : RF} {s : RS} (h : PR w G F s) : ∀ B, B ∈ G.blocks ∨ B ∈ F.blocks → B < w.heap.size := by
  obtain ⟨S, c⟩ := h.c
  rintro B (hB | hB)
  · exact c.blt B hB
  · exact h.r.blt B hB
theorem PR.below {w w' : World} {G F : RF} {s : RS} {N : Nat} (h : PR w G F s) (hb : Below N w w') (hN : w.heap.size ≤ N) : PR w' G F s :=
  h.keep fun B hB => hb.block B (Nat.lt_of_lt_of_le (h.lt B hB) hN)

/-- What a step leaves. -/
def StepPost (G F : RF) (s : RS) (w : World) (e : Ending) (w' : World) : Prop := e = .returned (.bool true) ∧ ∃ F' s', PR w' G F' s' ∧ F'.g = F.g ∧ (∀ B ∈ F'.blocks, B ∈ F.blocks ∨ w.heap.size ≤ B) ∧ s'.n ≤ s.n + 1 ∧ KeptL (G.blocks ++ F.blocks) w w'
theorem blocks_mask {F : RF} {mo : Option Addr} {mc : Nat} {mb : Option Nat} {B : Nat} (h : B ∈ ({ F with mo := mo, mcap := mc, mb := mb } : RF).blocks) : B ∈ F.blocks ∨ mb = some B := by
  simp only [RF.blocks, List.mem_cons, List.mem_append] at h ⊢
  rcases h with h | h | h | h | h | h
  · exact .inl (.inl h)
  · exact .inl (.inr (.inl h))
  · exact .inl (.inr (.inr (.inl h)))
  · exact .inl (.inr (.inr (.inr (.inl h))))
  · exact .inl (.inr (.inr (.inr (.inr (.inl h)))))
  · exact .inr (by simpa using h)
theorem isb_keep {w w' : World} {ao : Option Addr} {m : List By} (h : IsB w ao m) (hb : ∀ B off, m ≠ [] → ao = some ⟨B, off, none⟩ → w'.heap[B]? = w.heap[B]?) : IsB w' ao m := by
  by_cases he : m = []
  · exact .inl he
  · rcases h with h | ⟨B, off, h1, hc⟩
    · exact .inl h
    · exact .inr ⟨B, off, h1, fun j v hj => (World.cell?_of_block (hb B off he h1)).trans (hc j v hj)⟩
theorem lay_good {c : Cfg} {t : St} (hc : c.may = 0) (hf : Fit c t) : (layS c t).Good := by
  have hm := may_facts hc
  have hp := (may_parts hc).2.2.2.2
  obtain ⟨f1, f2, f3, f4⟩ := hf
  refine ⟨by show (0 : Int) ≤ 0; omega, by show (-1 : Int) < _; omega, hm.2.2.2.2.2.2.2, ?_, by show (0 : Nat) ≤ _; omega, ?_⟩
  · intro e he
    obtain ⟨j, hj⟩ := List.mem_iff_getElem?.1 he
    have hj' : t.erases[j]? = some e := hj
    have hl := (List.getElem?_eq_some_iff.1 hj').1
    have := (f4 j (by omega)).2
    rw [List.getD_eq_getElem?_getD, hj'] at this
    exact this
  · show 0 < t.pages.length
    omega
def badK (c : Cfg) : Int := if c.may = 0 then 5 else c.may
def CLayP (K : Int) (OK : Prop) (s : RS) (w : World) (e : Ending) (w' : World) : Prop := Below w.heap.size w w' ∧ ((¬ OK ∧ e = .returned (.tuple #[.pointer none, .int .i64 K])) ∨ (OK ∧ ∃ F, e = .returned (.tuple #[.pointer (some ⟨F.g, 0, none⟩), .int .i64 0]) ∧ CAt w' F s ⟨#[]⟩ ∧ ∀ B ∈ F.blocks, w.heap.size ≤ B))
def RLayP (K : Int) (OK : Prop) (s : RS) (w : World) (e : Ending) (w' : World) : Prop := Below w.heap.size w w' ∧ ((¬ OK ∧ e = .returned (.tuple #[.pointer none, .int .i64 K])) ∨ (OK ∧ ∃ F, e = .returned (.tuple #[.pointer (some ⟨F.g, 0, none⟩), .int .i64 0]) ∧ RAt w' F s ∧ (F.mo = none → F.mcap = 0) ∧ ∀ B ∈ F.blocks, w.heap.size ≤ B))

theorem clayp {c : Cfg} {t : St} {w : World} {e : Ending} {w' : World} (h : LayPost c t w e w') : CLayP (badK c) (c.may = 0 ∧ Fit c t) (layS c t) w e w' := by
  obtain ⟨h1, h2⟩ := h
  refine ⟨h1, ?_⟩
  rcases h2 with ⟨a, b⟩ | ⟨a, b, d⟩ | ⟨a, b, d⟩
  · exact .inl ⟨fun k => a k.1, by rw [b, badK, if_neg a]⟩
  · exact .inl ⟨fun k => b k.2, by rw [d, badK, if_pos a]⟩
  · exact .inr ⟨⟨a, b⟩, d⟩

theorem pn_below {w W : World} {v : SV} {t : St} (h : StV w v t) (hW : Below w.heap.size w W) (hnp : ∀ B off p n qc, v.po = some ⟨B, off, none⟩ → p < t.pages.length → w.cell? ⟨B, off + p, none⟩ = some (.slice none n qc) → qc = 0) : ∀ B off p n qc, v.po = some ⟨B, off, none⟩ → p < t.pages.length → W.cell? ⟨B, off + p, none⟩ = some (.slice none n qc) → qc = 0 := by
  intro B off p n qc e1 e2 e3
  obtain ⟨B', off', qo, qc', f1, f2, _⟩ := h.page p e2
  rw [e1] at f1
  injection f1 with f1
  injection f1 with f3 f4
  subst f3 f4
  refine hnp B off p n qc e1 e2 ?_
  rw [← e3]
  exact (hW.cell (World.block_lt_of_cell? _ _ f2)).symm

end Go.Proofs.Ytngfdofjflmhhaa
