import Derived.Test.YthjndaeibbfgaaaL4Same
/-! What a step of the statement's script needs. -/
namespace Go.Proofs.Ythjndaeibbfgaaa
open Go.RowKit

theorem own_nilcap {N : Nat} {w : World} {ao : Option Addr} {n c : Nat} {m : List By} (h : Own N w (.slice ao n c) m) : ao = none → c = 0 := by
  rintro rfl
  rcases h.1.2 with ⟨h1, _⟩ | ⟨g, c', cur, h1, _⟩
  · injection h1
  · cases h1

set_option maxHeartbeats 1000000 in
set_option maxRecDepth 100000 in
theorem cut2_any (F : RF) (s : RS) (n : Int) (ao : Option Addr) (len cap : Nat) (m : List By) (hm : m.length = len) (w : World) (h : RAt w F s) (hb : IsB w ao m) (hbg : m = [] ∨ ∀ B off, ao = some ⟨B, off, none⟩ → B ≠ F.g) (hnil : ao = none → cap = 0) (hl : len ≤ 140737488353280) :
    Calls Try.prog 57 #[.pointer (some ⟨F.g, 0, none⟩), .int .i64 n, .slice ao len cap] w fun e w' => e = .returned (.tuple #[]) ∧ ∃ mo mc mb, (∀ B, mb = some B → w.heap.size ≤ B) ∧ (mo = none → mc = 0) ∧ RAt w' { F with mo := mo, mcap := mc, mb := mb } { s with wait := max (-1) n, mask := m } ∧ KeptL [F.g] w w' := by
  have HM : Hid (m.length = len) := hm
  have c12 := h.cWait
  have f12 := h.row.frozen 12
  obtain ⟨mx, hmx⟩ : ∃ mx, mx = max (-1) n := ⟨_, rfl⟩
  rw [← hmx]
  have HMX : Hid (mx = max (-1) n) := hmx
  have r1 := h.row.set 12 (.int .i64 mx)
  rw [cells_wait] at r1
  have s1 := SameBut.setCell F.g 12 (.int .i64 mx) w
  have ra1 : RAt (w.setCell ⟨F.g, 12, none⟩ (.int .i64 mx)) F { s with wait := mx } := h.struct s1 r1 rfl rfl rfl rfl rfl
  have hgl := h.row.lt
  have HBL : Hid (∀ B ∈ F.blocks, B < w.heap.size) := h.blt
  have ib1 : IsB (w.setCell ⟨F.g, 12, none⟩ (.int .i64 mx)) ao m := by
    rcases hb with h0 | ⟨B, off, h1, hc⟩
    · exact .inl h0
    · rcases hbg with h0 | h0
      · exact .inl h0
      · exact .inr ⟨B, off, h1, fun j v hj => (World.cell?_of_block (w := w) (s1.block B (h0 B off h1))).trans (hc j v hj)⟩
  have HW : Hid (∀ w1, w.setCell ⟨F.g, 12, none⟩ (.int .i64 mx) = w1 → RAt w1 F { s with wait := mx } ∧ IsB w1 ao m ∧ SameBut F.g w w1) := by
    rintro w1 rfl; exact ⟨ra1, ib1, s1⟩
  clear ra1 ib1 s1 r1 hmx hb hbg hm
  have key : (mx = -1 ∧ ¬ -1 < n) ∨ (mx = n ∧ -1 < n) := by have := HMX.out; omega
  rcases key with ⟨rfl, hlt⟩ | ⟨rfl, hlt⟩
  all_goals
    go_enter Try.func57, Try.ntmps57
    go_upto_region 1 with fail
    generalize hw1 : World.setCell w ⟨F.g, 12, none⟩ _ = w1
    obtain ⟨ra1, ib1, s1⟩ := HW.out w1 hw1
    clear hw1 HW
    have HZ1 : Hid (w1.heap.size = w.heap.size) := s1.size
    have oe := own_empty w1.heap.size w1 (Nat.le_refl _) #[] rfl
    have b1 : ∀ o1, Below w1.heap.size w1 (w1.alloc o1) := fun o1 => (Below.refl _ _).alloc (Nat.le_refl _) _
    have IB1 : Hid (∀ o1, IsB (w1.alloc o1) ao m) := fun o1 => ib1.below (b1 o1) (Nat.le_refl _)
    have HC : Hid (∀ w2, Below w1.heap.size w1 w2 → w2.cell? ⟨F.g, 13, none⟩ = some (.slice F.mo s.mask.length F.mcap) ∧ w2.frozen? ⟨F.g, 13, none⟩ = false ∧ RAt w2 F { s with wait := _ }) := fun w2 b2 => by
      have r2 := ra1.keep (w' := w2) (fun B hB => b2.block B (by rw [HZ1.out]; exact HBL.out B hB))
      exact ⟨r2.cMask, r2.row.frozen 13, r2⟩
    go_wp2_with (at_builtin; (refine wpList_append_more rfl (.tmp 12) (.tmp 13) rfl w1.heap.size w1 _ 0 0 [] rfl rfl oe (b1 _) ao len cap m rfl HM.out (IB1.out _) hnil (by omega) ?_); intro mo mc w2 ho2 hb2; rw [Nat.zero_add, List.nil_append] at ho2; obtain ⟨c13, f13, ra2⟩ := HC.out w2 hb2)
    go_end0
    have hz1 := HZ1.out
    have kl2 : KeptL [F.g] w w2 := ((KeptL.refl _ _).but s1 (.inl (by simp))).below hb2 (by omega)
    have kl3 : ∀ v, KeptL [F.g] w (w2.setCell ⟨F.g, 13, none⟩ v) := fun v => kl2.but (SameBut.setCell F.g 13 v w2) (.inl (by simp))
    by_cases hme : m = []
    · refine ⟨rfl, mo, mc, none, (fun B hB => by cases hB), own_nilcap ho2, ?_, kl3 _⟩
      have := ra2.setMask m mo mc none (fun B hB => by cases hB) (.inl hme)
      rw [HM.out] at this
      simpa using this
    · obtain ⟨B, hB1, hB2, hB3, hB4⟩ := own_pre ho2 hme
      refine ⟨rfl, mo, mc, some B, (fun B' hB' => by injection hB' with e; omega), own_nilcap ho2, ?_, kl3 _⟩
      have := ra2.setMask m mo mc (some B) (fun B' hB' => by injection hB' with e; subst e; exact ⟨hB3, fun hmem => by have := HBL.out _ hmem; omega⟩) (.inr ⟨B, rfl, hB1, hB4⟩)
      rw [HM.out] at this
      simpa using this

theorem conv_string (w : World) (ao : Option Addr) (n cap : Nat) (bs : List By) (hn : bs.length = n) (hb : IsB w ao bs) :
    (convert 50 9 (.slice ao n cap)).run Try.prog w = .ok (.string (strOf bs)) w := by
  subst hn
  rw [run_convert_bytes_string w 50 9 5 ao bs.length cap Try.underlying50 Try.underlying5 Try.underlying9]
  have key : ∀ a : Addr, (∀ j v, (bs.map B8)[j]? = some v → w.cell? (a.add j) = some v) → (Conv.bytesToString (.slice (some a) bs.length cap)).run Try.prog w = .ok (.string (strOf bs)) w := by
    intro a h
    have hl := run_loadCells_list (P := Try.prog) w a (bs.map B8) h
    rw [List.length_map] at hl
    have e : bs.map B8 = (bs.map fun b => (b.toNat : Int)).map (Value.int .u8) := by
      rw [List.map_map]; rfl
    rw [e] at hl
    exact run_bytesToString w a bs.length cap _ hl
  rcases hb with rfl | ⟨B, off, rfl, hc⟩
  · cases ao with
    | none => rfl
    | some a => exact key a (by simp)
  · refine key _ ?_
    intro j u hu
    rw [Addr.add_mid]
    rw [List.getElem?_map] at hu
    cases hj : bs[j]? with
    | none => rw [hj] at hu; cases hu
    | some v =>
      rw [hj] at hu
      injection hu with hu
      rw [← hu]; exact hc j v hj

/-- What stays true of a chip's numbers. -/
structure RS.Good (s : RS) : Prop where
  n0 : 0 ≤ s.n
  wt : s.wait < 9223372036854775808
  ce : s.c.erases ≤ 65536
  e0 : ∀ e ∈ s.erases, 0 ≤ e
  ml : s.mask.length ≤ 140737488351232
  pos : 0 < s.pages.length
theorem RS.Good.act {s : RS} (h : s.Good) : s.act.Good := by
  refine ⟨by show 0 ≤ s.n + 1; have := h.n0; omega, ?_, h.ce, h.e0, h.ml, h.pos⟩
  show (if s.wait = 0 then -1 else if 0 < s.wait then s.wait - 1 else s.wait) < _
  have := h.wt
  split
  · omega
  · split <;> omega
theorem RS.Good.program {s : RS} (h : s.Good) (p c : Int) (x : List By) : (s.program p c x).Good ∧ (s.program p c x).n ≤ s.n + 1 := by
  unfold RS.program
  split
  · have k := h.act
    refine ⟨⟨k.n0, k.wt, k.ce, k.e0, k.ml, ?_⟩, by show s.n + 1 ≤ _; omega⟩
    show 0 < (s.pages.set _ _).length
    rw [List.length_set]; exact h.pos
  · exact ⟨h, by omega⟩
theorem RS.Good.erase {s : RS} (h : s.Good) (p : Int) : (s.erase p).Good ∧ (s.erase p).n ≤ s.n + 1 := by
  unfold RS.erase
  split
  · have k := h.act
    refine ⟨⟨k.n0, k.wt, k.ce, ?_, k.ml, ?_⟩, by show s.n + 1 ≤ _; omega⟩
    · intro e he
      have he' : e ∈ s.erases.set p.toNat (s.erases.getD p.toNat 0 + 1) := he
      rcases List.mem_or_eq_of_mem_set he' with h1 | rfl
      · exact h.e0 e h1
      · have : 0 ≤ s.erases.getD p.toNat 0 := by
          rw [List.getD_eq_getElem?_getD]
          cases hq : s.erases[p.toNat]? with
          | none => simp
          | some v => exact h.e0 v (List.mem_of_getElem? hq)
        omega
    · show 0 < (s.pages.set _ _).length
      rw [List.length_set]; exact h.pos
  · exact ⟨h, by omega⟩
theorem RS.Good.blow {s : RS} (h : s.Good) (i : Int) : (s.blow i).Good ∧ (s.blow i).n ≤ s.n + 1 := by
  unfold RS.blow
  split
  · have k := h.act
    exact ⟨⟨k.n0, k.wt, k.ce, k.e0, k.ml, k.pos⟩, by show s.n + 1 ≤ _; omega⟩
  · exact ⟨h, by omega⟩

/-- A chip of the code beside the document's: they hold the same. -/
structure PR (w : World) (G F : RF) (s : RS) : Prop where
  c : ∃ S, CAt w G s S
  r : RAt w F s
  sep : ∀ B ∈ G.blocks, B ∉ F.blocks
  good : s.Good
  mn : F.mo = none → F.mcap = 0
theorem PR.keep {w w' : World} {G F : RF} {s : RS} (h : PR w G F s) (hb : ∀ B, B ∈ G.blocks ∨ B ∈ F.blocks → w'.heap[B]? = w.heap[B]?) : PR w' G F s := by
  obtain ⟨S, c⟩ := h.c
  exact ⟨⟨S, c.keep fun B hB => hb B (.inl hB)⟩, h.r.keep fun B hB => hb B (.inr hB), h.sep, h.good, h.mn⟩
theorem PR.lt {w : World} {G F : RF} {s : RS} (h : PR w G F s) : ∀ B, B ∈ G.blocks ∨ B ∈ F.blocks → B < w.heap.size := by
  obtain ⟨S, c⟩ := h.c
  rintro B (hB | hB)
  · exact c.blt B hB
  · exact h.r.blt B hB
theorem PR.below {w w' : World} {G F : RF} {s : RS} {N : Nat} (h : PR w G F s) (hb : Below N w w') (hN : w.heap.size ≤ N) : PR w' G F s :=
  h.keep fun B hB => hb.block B (Nat.lt_of_lt_of_le (h.lt B hB) hN)

/-- What a step leaves. -/
def StepPost (G F : RF) (s : RS) (w : World) (e : Ending) (w' : World) : Prop := e = .returned (.bool true) ∧ ∃ F' s', PR w' G F' s' ∧ F'.g = F.g ∧ (∀ B ∈ F'.blocks, B ∈ F.blocks ∨ w.heap.size ≤ B) ∧ s'.n ≤ s.n + 1 ∧ KeptL (G.blocks ++ F.blocks) w w'
end Go.Proofs.Ythjndaeibbfgaaa

/-! step: the walk. -/
namespace Go.Proofs.Ythjndaeibbfgaaa
open Go.RowKit
set_option linter.unusedVariables false

theorem blocks_mask {F : RF} {mo : Option Addr} {mc : Nat} {mb : Option Nat} {B : Nat} (h : B ∈ ({ F with mo := mo, mcap := mc, mb := mb } : RF).blocks) : B ∈ F.blocks ∨ mb = some B := by
  simp only [RF.blocks, List.mem_cons, List.mem_append] at h ⊢
  rcases h with h | h | h | h | h | h
  · exact .inl (.inl h)
  · exact .inl (.inr (.inl h))
  · exact .inl (.inr (.inr (.inl h)))
  · exact .inl (.inr (.inr (.inr (.inl h))))
  · exact .inl (.inr (.inr (.inr (.inr (.inl h)))))
  · exact .inr (by simpa using h)
theorem isb_keep {w w' : World} {ao : Option Addr} {m : List By} (h : IsB w ao m) (hb : ∀ B off, m ≠ [] → ao = some ⟨B, off, none⟩ → w'.heap[B]? = w.heap[B]?) : IsB w' ao m := by
  by_cases he : m = []
  · exact .inl he
  · rcases h with h | ⟨B, off, h1, hc⟩
    · exact .inl h
    · exact .inr ⟨B, off, h1, fun j v hj => (World.cell?_of_block (hb B off he h1)).trans (hc j v hj)⟩
theorem xor90 (x : By) : bits .xor .u8 (x.toNat : Int) 90 = ((x ^^^ 90#8).toNat : Int) := by
  revert x; decide +kernel

set_option maxHeartbeats 2000000 in
set_option maxRecDepth 100000 in
theorem lstep_any (w : World) (G F : RF) (s : RS) (hp : PR w G F s) (hn : s.n < 4611686018427387904) (k a b : Int) (x : List By) (hx : x.length = 32) (ha : a < 9223372036854775808) (mo : Option Addr) (mc : Nat) (m : List By) (hib : IsB w mo m) (hmn : mo = none → mc = 0) (hmc : m.length ≤ mc) (hml : m.length ≤ 140737488351232) (hmF : m = [] ∨ ∀ B off, mo = some ⟨B, off, none⟩ → B < w.heap.size ∧ B ≠ G.g ∧ B ≠ F.g) :
    Calls Try.prog 33 #[.agg #[.pointer (some ⟨G.g, 0, none⟩), .pointer (some ⟨F.g, 0, none⟩)], .agg (stepVals k a b x mo m.length mc).toArray] w (StepPost G F s w) := by
  have hgood := hp.good
  have HP : Hid (PR w G F s) := hp
  obtain ⟨VS, hVS⟩ : ∃ VS, VS = stepVals k a b x mo m.length mc := ⟨_, rfl⟩
  rw [← hVS]
  have HSEG : Hid ((VS.drop 3).take 32 = x.map B8) := by
    show _ = _
    rw [hVS]
    unfold stepVals
    have e : ([Value.int .i64 k, .int .i64 a, .int .i64 b] ++ x.map B8 ++ [Value.slice mo m.length mc]).drop 3 = x.map B8 ++ [Value.slice mo m.length mc] := by simp
    rw [e, List.take_append_of_le_length (by simp [hx]), List.take_of_length_le (by simp [hx])]
  have v0 : VS[0]? = some (.int .i64 k) := by rw [hVS]; rfl
  have v1 : VS[1]? = some (.int .i64 a) := by rw [hVS]; rfl
  have v2 : VS[2]? = some (.int .i64 b) := by rw [hVS]; rfl
  have v35 : VS[35]? = some (.slice mo m.length mc) := by
    rw [hVS]
    unfold stepVals
    rw [List.getElem?_append_right (by simp [hx])]
    simp [hx]
  obtain ⟨W0, hW0⟩ : ∃ W0, W0 = (w.alloc (.cells #[.pointer (some ⟨G.g, 0, none⟩), .pointer (some ⟨F.g, 0, none⟩)] 76)).alloc (.cells VS.toArray 52) := ⟨_, rfl⟩
  have bb0 : Below w.heap.size w W0 := by rw [hW0]; exact ((Below.refl _ _).alloc (Nat.le_refl _) _).alloc (by simp) _
  have rp0 : Row W0 w.heap.size 76 [.pointer (some ⟨G.g, 0, none⟩), .pointer (some ⟨F.g, 0, none⟩)] := by rw [hW0]; exact (Row.at _ _ _ _ _ rfl rfl : Row (w.alloc _) _ _ _).alloc _
  have rs0 : Row W0 (w.heap.size + 1) 52 VS := by rw [hW0]; exact Row.at _ _ _ _ _ (by simp) rfl
  have HPL : Hid (∀ B, B ∈ G.blocks ∨ B ∈ F.blocks → B < w.heap.size) := hp.lt
  have hGg : G.g ∈ G.blocks := by simp [RF.blocks]
  have hFg : F.g ∈ F.blocks := by simp [RF.blocks]
  /- what stays, whatever the two chips do -/
  have HK : Hid (∀ W, KeptL (G.blocks ++ F.blocks) W0 W → KeptL (G.blocks ++ F.blocks) w W ∧ Row W w.heap.size 76 [.pointer (some ⟨G.g, 0, none⟩), .pointer (some ⟨F.g, 0, none⟩)] ∧ Row W (w.heap.size + 1) 52 VS) := by
    intro W kl
    have hnot : ∀ B, w.heap.size ≤ B → B ∉ G.blocks ++ F.blocks := fun B hB hm => by
      have := HPL.out B (List.mem_append.1 hm)
      omega
    exact ⟨((KeptL.refl _ _).below bb0 (Nat.le_refl _)).trans kl, (kl.block _ rp0.lt (hnot _ (Nat.le_refl _))).trans rp0, (kl.block _ rs0.lt (hnot _ (by omega))).trans rs0⟩
  have HK0 : Hid (KeptL (G.blocks ++ F.blocks) W0 W0) := KeptL.refl _ _
  have HP0 : Hid (PR W0 G F s) := hp.below bb0 (Nat.le_refl _)
  have HSTAY : Hid (∀ W, PR W G F s → KeptL (G.blocks ++ F.blocks) W0 W → StepPost G F s w (.returned (.bool true)) W) := fun W hW kl => ⟨rfl, F, s, hW, rfl, fun B hB => .inl hB, by omega, (HK.out W kl).1⟩
  have HGO : Hid (∀ W s', (∃ S, CAt W G s' S) → RAt W F s' → s'.Good → s'.n ≤ s.n + 1 → KeptL (G.blocks ++ F.blocks) W0 W → StepPost G F s w (.returned (.bool true)) W) := fun W s' h1 h2 h3 h4 kl => ⟨rfl, F, s', ⟨h1, h2, hp.sep, h3, hp.mn⟩, rfl, fun B hB => .inl hB, h4, (HK.out W kl).1⟩
  have d0 := rp0.cell 0 _ rfl
  have d1 := rp0.cell 1 _ rfl
  have c0 := rs0.cell 0 _ v0
  have c1 := rs0.cell 1 _ v1
  have c2 := rs0.cell 2 _ v2
  have HV : Hid (VS[0]? = some (.int .i64 k) ∧ VS[1]? = some (.int .i64 a) ∧ VS[2]? = some (.int .i64 b) ∧ VS[35]? = some (.slice mo m.length mc)) := ⟨v0, v1, v2, v35⟩
  have HRS0 : Hid (Row W0 (w.heap.size + 1) 52 VS) := rs0
  have HRP0 : Hid (Row W0 w.heap.size 76 [.pointer (some ⟨G.g, 0, none⟩), .pointer (some ⟨F.g, 0, none⟩)]) := rp0
  have HSEP : Hid (∀ B ∈ G.blocks, B ∉ F.blocks) := hp.sep
  have HLO : Hid (∀ B ∈ G.blocks ++ F.blocks, B < w.heap.size) := fun B hB => HPL.out B (List.mem_append.1 hB)
  clear hp hVS v0 v1 v2 v35 rs0 rp0
  by_cases h2 : k = 2
  · subst h2
    have HC : Hid (∀ W, PR W G F s → Calls Try.prog 23 #[.pointer (some ⟨G.g, 0, none⟩), .int .i64 a, .int .i64 b, .agg (x.map B8).toArray] W (CPost G (s.program a b x) (s.programE a b) W)) := fun W hW => by
      obtain ⟨S, c⟩ := hW.c
      exact cprogram_any G s S a b x hx W c hgood.n0 hn hgood.wt
    have HR : Hid (∀ W, RAt W F s → Calls Try.prog 51 #[.pointer (some ⟨F.g, 0, none⟩), .int .i64 a, .int .i64 b, .agg (x.map B8).toArray] W fun e w' => e = .returned (.int .i64 (s.programE a b)) ∧ RAt w' F (s.program a b x) ∧ KeptL F.blocks W w') := fun W hW => program_any F s a b x hx W hW hgood.n0 hn hgood.wt
    have HGG : Hid ((s.program a b x).Good ∧ (s.program a b x).n ≤ s.n + 1) := hgood.program a b x
    generalize s.program a b x = s' at *
    generalize s.programE a b = E at *
    go_enter Try.func33, Try.ntmps33
    go_upto_region 1 with fail
    rw [← hW0]
    clear hW0
    go_wp2_with (first | (refine wpList_load_part rfl 49 _ rfl (w.heap.size + 1) 3 52 32 VS HRS1.out rfl _ (x.map B8) HSEG.out (by rw [List.length_map]; exact hx) Try.underlying49 rfl (by kernel_rfl) ?_) | (refine wpList_load_part rfl 49 _ rfl (w.heap.size + 1) 3 52 32 VS HRS0.out rfl _ (x.map B8) HSEG.out (by rw [List.length_map]; exact hx) Try.underlying49 rfl (by kernel_rfl) ?_) | (refine (HC.out _ HP0.out).mono ?_; rintro e w1 ⟨rfl, hc1, kl1⟩; have kk1 : KeptL (G.blocks ++ F.blocks) W0 w1 := kl1.sub (fun B hB => List.mem_append.2 (.inl hB)); have HRS1 : Hid (Row w1 (w.heap.size + 1) 52 VS) := (HK.out w1 kk1).2.2; have HRP1 : Hid (Row w1 w.heap.size 76 [.pointer (some ⟨G.g, 0, none⟩), .pointer (some ⟨F.g, 0, none⟩)]) := (HK.out w1 kk1).2.1; have HR1 : Hid (RAt w1 F s) := HP0.out.r.keep (fun B hB => kl1.block B (HP0.out.r.blt B hB) (fun hm => HSEP.out B hm hB)); have HC1 : Hid (∃ S, CAt w1 G s' S) := hc1; have KK1 : Hid (KeptL (G.blocks ++ F.blocks) W0 w1) := kk1; have d1 := HRP1.out.cell 1 _ rfl; have c1 := HRS1.out.cell 1 _ HV.out.2.1; have c2 := HRS1.out.cell 2 _ HV.out.2.2.1; clear kk1 kl1 hc1) | (refine (HR.out _ HR1.out).mono ?_; rintro e w2 ⟨rfl, hr2, kl2⟩))
    go_ret
    refine HGO.out w2 s' ?_ hr2 HGG.out.1 HGG.out.2 (KK1.out.trans (kl2.sub (fun B hB => List.mem_append.2 (.inr hB))))
    obtain ⟨S1, c1'⟩ := HC1.out
    exact ⟨S1, c1'.keep fun B hB => kl2.block B (c1'.blt B hB) (HSEP.out B hB)⟩
  by_cases h3 : k = 3
  · subst h3
    have HC : Hid (∀ W, PR W G F s → Calls Try.prog 39 #[.pointer (some ⟨G.g, 0, none⟩), .int .i64 a] W (CPost G (s.erase a) (s.eraseE a) W)) := fun W hW => by
      obtain ⟨S, c⟩ := hW.c
      exact cerase_any G s S a W c hgood.n0 hn hgood.wt hgood.ce hgood.e0
    have HR : Hid (∀ W, RAt W F s → Calls Try.prog 52 #[.pointer (some ⟨F.g, 0, none⟩), .int .i64 a] W fun e w' => e = .returned (.int .i64 (s.eraseE a)) ∧ RAt w' F (s.erase a) ∧ KeptL F.blocks W w') := fun W hW => erase_any F s a W hW hgood.n0 hn hgood.wt hgood.ce hgood.e0
    have HGG : Hid ((s.erase a).Good ∧ (s.erase a).n ≤ s.n + 1) := hgood.erase a
    generalize s.erase a = s' at *
    generalize s.eraseE a = E at *
    go_enter Try.func33, Try.ntmps33
    go_upto_region 1 with fail
    rw [← hW0]
    clear hW0
    go_wp2_with (first | (refine (HC.out _ HP0.out).mono ?_; rintro e w1 ⟨rfl, hc1, kl1⟩; have kk1 : KeptL (G.blocks ++ F.blocks) W0 w1 := kl1.sub (fun B hB => List.mem_append.2 (.inl hB)); have HRS1 : Hid (Row w1 (w.heap.size + 1) 52 VS) := (HK.out w1 kk1).2.2; have HRP1 : Hid (Row w1 w.heap.size 76 [.pointer (some ⟨G.g, 0, none⟩), .pointer (some ⟨F.g, 0, none⟩)]) := (HK.out w1 kk1).2.1; have HR1 : Hid (RAt w1 F s) := HP0.out.r.keep (fun B hB => kl1.block B (HP0.out.r.blt B hB) (fun hm => HSEP.out B hm hB)); have HC1 : Hid (∃ S, CAt w1 G s' S) := hc1; have KK1 : Hid (KeptL (G.blocks ++ F.blocks) W0 w1) := kk1; have d1 := HRP1.out.cell 1 _ rfl; have c1 := HRS1.out.cell 1 _ HV.out.2.1; have c2 := HRS1.out.cell 2 _ HV.out.2.2.1; clear kk1 kl1 hc1) | (refine (HR.out _ HR1.out).mono ?_; rintro e w2 ⟨rfl, hr2, kl2⟩))
    go_ret
    refine HGO.out w2 s' ?_ hr2 HGG.out.1 HGG.out.2 (KK1.out.trans (kl2.sub (fun B hB => List.mem_append.2 (.inr hB))))
    obtain ⟨S1, c1'⟩ := HC1.out
    exact ⟨S1, c1'.keep fun B hB => kl2.block B (c1'.blt B hB) (HSEP.out B hB)⟩
  by_cases h4 : k = 4
  · subst h4
    have HC : Hid (∀ W, PR W G F s → Calls Try.prog 25 #[.pointer (some ⟨G.g, 0, none⟩), .int .i64 a] W (CPost G (s.blow a) (s.blowE a) W)) := fun W hW => by
      obtain ⟨S, c⟩ := hW.c
      exact cblow_any G s S a W c hgood.n0 hn hgood.wt
    have HR : Hid (∀ W, RAt W F s → Calls Try.prog 53 #[.pointer (some ⟨F.g, 0, none⟩), .int .i64 a] W fun e w' => e = .returned (.int .i64 (s.blowE a)) ∧ RAt w' F (s.blow a) ∧ KeptL F.blocks W w') := fun W hW => blow_any F s a W hW hgood.n0 hn hgood.wt
    have HGG : Hid ((s.blow a).Good ∧ (s.blow a).n ≤ s.n + 1) := hgood.blow a
    generalize s.blow a = s' at *
    generalize s.blowE a = E at *
    go_enter Try.func33, Try.ntmps33
    go_upto_region 1 with fail
    rw [← hW0]
    clear hW0
    go_wp2_with (first | (refine (HC.out _ HP0.out).mono ?_; rintro e w1 ⟨rfl, hc1, kl1⟩; have kk1 : KeptL (G.blocks ++ F.blocks) W0 w1 := kl1.sub (fun B hB => List.mem_append.2 (.inl hB)); have HRS1 : Hid (Row w1 (w.heap.size + 1) 52 VS) := (HK.out w1 kk1).2.2; have HRP1 : Hid (Row w1 w.heap.size 76 [.pointer (some ⟨G.g, 0, none⟩), .pointer (some ⟨F.g, 0, none⟩)]) := (HK.out w1 kk1).2.1; have HR1 : Hid (RAt w1 F s) := HP0.out.r.keep (fun B hB => kl1.block B (HP0.out.r.blt B hB) (fun hm => HSEP.out B hm hB)); have HC1 : Hid (∃ S, CAt w1 G s' S) := hc1; have KK1 : Hid (KeptL (G.blocks ++ F.blocks) W0 w1) := kk1; have d1 := HRP1.out.cell 1 _ rfl; have c1 := HRS1.out.cell 1 _ HV.out.2.1; have c2 := HRS1.out.cell 2 _ HV.out.2.2.1; clear kk1 kl1 hc1) | (refine (HR.out _ HR1.out).mono ?_; rintro e w2 ⟨rfl, hr2, kl2⟩))
    go_ret
    refine HGO.out w2 s' ?_ hr2 HGG.out.1 HGG.out.2 (KK1.out.trans (kl2.sub (fun B hB => List.mem_append.2 (.inr hB))))
    obtain ⟨S1, c1'⟩ := HC1.out
    exact ⟨S1, c1'.keep fun B hB => kl2.block B (c1'.blt B hB) (HSEP.out B hB)⟩
  by_cases h5 : k = 5
  · subst h5
    have HC : Hid (∀ W, PR W G F s → Calls Try.prog 27 #[.pointer (some ⟨G.g, 0, none⟩), .int .i64 a] W fun e w' => e = .returned (.tuple #[.bool (if s.fuse a = 0 then s.blown.getD a.toNat false else false), .int .i64 (s.fuse a)]) ∧ w' = W) := fun W hW => by
      obtain ⟨S, c⟩ := hW.c
      exact cblown_any G s S a W c
    have HR : Hid (∀ W, RAt W F s → Calls Try.prog 54 #[.pointer (some ⟨F.g, 0, none⟩), .int .i64 a] W fun e w' => e = .returned (.tuple #[.bool (if s.fuse a = 0 then s.blown.getD a.toNat false else false), .int .i64 (s.fuse a)]) ∧ w' = W) := fun W hW => blown_any F s a W hW
    generalize (if s.fuse a = 0 then s.blown.getD a.toNat false else false) = V at *
    generalize s.fuse a = E at *
    go_enter Try.func33, Try.ntmps33
    go_upto_region 1 with fail
    rw [← hW0]
    clear hW0
    have HP1 : Hid (PR W0 G F s) := HP0.out
    go_wp2_with (first | (refine (HC.out _ HP0.out).mono ?_; rintro e w1 ⟨rfl, hw1⟩; subst hw1) | (refine (HR.out _ HP0.out.r).mono ?_; rintro e w2 ⟨rfl, hw2⟩; subst hw2))
    go_ret
    exact HSTAY.out _ HP0.out HK0.out
  by_cases h6 : k = 6
  · subst h6
    have HC : Hid (∀ W, PR W G F s → Calls Try.prog 55 #[.pointer (some ⟨G.g, 0, none⟩), .int .i64 a] W fun e w' => e = .returned (.tuple #[.int .i64 (if s.at a 0 = 0 then s.erases.getD a.toNat 0 else 0), .int .i64 (s.at a 0)]) ∧ w' = W) := fun W hW => by
      obtain ⟨S, c⟩ := hW.c
      exact cerases_any G s S a W c
    have HR : Hid (∀ W, RAt W F s → Calls Try.prog 56 #[.pointer (some ⟨F.g, 0, none⟩), .int .i64 a] W fun e w' => e = .returned (.tuple #[.int .i64 (if s.at a 0 = 0 then s.erases.getD a.toNat 0 else 0), .int .i64 (s.at a 0)]) ∧ w' = W) := fun W hW => erases_any F s a W hW
    generalize (if s.at a 0 = 0 then s.erases.getD a.toNat 0 else 0) = V at *
    generalize s.at a 0 = E at *
    go_enter Try.func33, Try.ntmps33
    go_upto_region 1 with fail
    rw [← hW0]
    clear hW0
    have HP1 : Hid (PR W0 G F s) := HP0.out
    go_wp2_with (first | (refine (HC.out _ HP0.out).mono ?_; rintro e w1 ⟨rfl, hw1⟩; subst hw1) | (refine (HR.out _ HP0.out.r).mono ?_; rintro e w2 ⟨rfl, hw2⟩; subst hw2))
    go_ret
    exact HSTAY.out _ HP0.out HK0.out
  by_cases h8 : k = 8
  · subst h8
    have HC : Hid (∀ W, PR W G F s → Calls Try.prog 26 #[.pointer (some ⟨G.g, 0, none⟩)] W fun e w' => e = .returned (.tuple #[]) ∧ (∃ S, CAt w' G { s with gone := false } S) ∧ SameBut G.g W w') := fun W hW => by
      obtain ⟨S, c⟩ := hW.c
      exact (crestore_any G s S W c).mono fun e w' h => ⟨h.1, ⟨S, h.2.1⟩, h.2.2⟩
    have HR : Hid (∀ W, RAt W F s → Calls Try.prog 58 #[.pointer (some ⟨F.g, 0, none⟩)] W fun e w' => e = .returned (.tuple #[]) ∧ RAt w' F { s with gone := false } ∧ SameBut F.g W w') := fun W hW => restore_any F s W hW
    have HGG : Hid (({ s with gone := false } : RS).Good ∧ ({ s with gone := false } : RS).n ≤ s.n + 1) := ⟨⟨hgood.n0, hgood.wt, hgood.ce, hgood.e0, hgood.ml, hgood.pos⟩, by show s.n ≤ _; omega⟩
    generalize ({ s with gone := false } : RS) = s' at *
    go_enter Try.func33, Try.ntmps33
    go_upto_region 1 with fail
    rw [← hW0]
    clear hW0
    go_wp2_with (first
      | (refine (HC.out _ HP0.out).mono ?_; rintro e w1 ⟨rfl, hc1, sb1⟩; have kk1 : KeptL (G.blocks ++ F.blocks) W0 w1 := HK0.out.but sb1 (.inl (List.mem_append.2 (.inl hGg))); have HRP1 : Hid (Row w1 w.heap.size 76 [.pointer (some ⟨G.g, 0, none⟩), .pointer (some ⟨F.g, 0, none⟩)]) := (HK.out w1 kk1).2.1; have HR1 : Hid (RAt w1 F s) := HP0.out.r.keep (fun B hB => sb1.block B (fun e => HSEP.out G.g hGg (e ▸ hB))); have HC1 : Hid (∃ S, CAt w1 G s' S) := hc1; have KK1 : Hid (KeptL (G.blocks ++ F.blocks) W0 w1) := kk1; have d1 := HRP1.out.cell 1 _ rfl; clear kk1 sb1 hc1)
      | (refine (HR.out _ HR1.out).mono ?_; rintro e w2 ⟨rfl, hr2, sb2⟩))
    go_ret
    refine HGO.out w2 s' ?_ hr2 HGG.out.1 HGG.out.2 (KK1.out.but sb2 (.inl (List.mem_append.2 (.inr hFg))))
    obtain ⟨S1, c1'⟩ := HC1.out
    exact ⟨S1, c1'.keep fun B hB => sb2.block B (fun e => HSEP.out B hB (e ▸ hFg))⟩
  by_cases h1 : k = 1
  · subst h1
    have hxl : (if s.at a b = 0 then s.cell a.toNat b.toNat else List.replicate 32 0).length = 32 := by
      split
      · rename_i h0
        obtain ⟨_, i1, i2, i3, i4⟩ := at_zero h0
        have hpl : a.toNat < s.pages.length := by omega
        obtain ⟨k1, k2⟩ := HP.out.r.ok.pgLen a.toNat hpl
        unfold RS.cell
        exact getD32 k2 (by omega)
      · simp
    have HC : Hid (∀ W, PR W G F s → Calls Try.prog 24 #[.pointer (some ⟨G.g, 0, none⟩), .int .i64 a, .int .i64 b] W fun e w' => e = .returned (.tuple #[.agg ((if s.at a b = 0 then s.cell a.toNat b.toNat else List.replicate 32 0).map B8).toArray, .int .i64 (s.at a b)]) ∧ Below W.heap.size W w') := fun W hW => by
      obtain ⟨S, c⟩ := hW.c
      exact cread_any G s S a b W c
    have HR : Hid (∀ W, RAt W F s → Calls Try.prog 50 #[.pointer (some ⟨F.g, 0, none⟩), .int .i64 a, .int .i64 b] W fun e w' => e = .returned (.tuple #[.agg ((if s.at a b = 0 then s.cell a.toNat b.toNat else List.replicate 32 0).map B8).toArray, .int .i64 (s.at a b)]) ∧ Below W.heap.size W w') := fun W hW => read_any F s a b W hW
    generalize (if s.at a b = 0 then s.cell a.toNat b.toNat else List.replicate 32 0) = X at *
    generalize s.at a b = E at *
    have hq : ∀ W : World, (Op.equalIn 10000 49 (.agg (X.map B8).toArray) (.agg (X.map B8).toArray)).run Try.prog W = .ok true W := fun W => by have := eq_cell X X hxl hxl W; simpa using this
    have HQ : Hid (∀ W, Below W0.heap.size W0 W → PR W G F s ∧ KeptL (G.blocks ++ F.blocks) W0 W) := fun W hW => ⟨HP0.out.below hW (Nat.le_refl _), HK0.out.below hW (Nat.le_refl _)⟩
    go_enter Try.func33, Try.ntmps33
    go_upto_region 1 with fail
    rw [← hW0]
    clear hW0
    go_wp2_with fail
    refine (HC.out _ HP0.out).mono ?_
    rintro e w1 ⟨rfl, hb1⟩
    generalize hLA : w1.heap.size = LA at *
    go_wp2_with (refine wpList_store_Row rfl 49 _ _ rfl LA 49 0 ((List.replicate 32 (0 : By)).map B8) (X.map B8) (Row.at _ _ _ _ _ hLA.symm rfl) (by simp [hxl]) rfl rfl (by rw [List.length_map, hxl]; kernel_rfl) (B8_one _) ?_; intro w2 hr2 hs2; have rl2 := row_whole hr2 (by simp [hxl]); have bl2 : Below w1.heap.size w1 w2 := hs2.below ((Below.refl _ _).alloc (Nat.le_refl _) _) (by omega); have bb2 : Below W0.heap.size W0 w2 := hb1.trans (bl2.mono hb1.size); have HRL2 : Hid (Row w2 LA 49 (X.map B8)) := rl2; have hrs2 := (HK.out w2 (HQ.out w2 bb2).2); have d1 := hrs2.2.1.cell 1 _ rfl; have c1 := hrs2.2.2.cell 1 _ HV.out.2.1; have c2 := hrs2.2.2.cell 2 _ HV.out.2.2.1; clear hr2 hs2 rl2 hrs2)
    refine (HR.out _ (HQ.out w2 bb2).1.r).mono ?_
    rintro e w3 ⟨rfl, hb3⟩
    have rl3 : Row w3 LA 49 (X.map B8) := (hb3.block _ HRL2.out.lt).trans HRL2.out
    have bb3 := bb2.trans (hb3.mono bb2.size)
    clear HRL2 d1 c1 c2 hb3 bl2 bb2 hb1 hLA
    generalize hLB : w3.heap.size = LB at *
    have hne : LA ≠ LB := by have := rl3.lt; omega
    go_wp2_with (first
      | (refine wpList_store_Row rfl 49 _ _ rfl LB 49 0 ((List.replicate 32 (0 : By)).map B8) (X.map B8) (Row.at _ _ _ _ _ hLB.symm rfl) (by simp [hxl]) rfl rfl (by rw [List.length_map, hxl]; kernel_rfl) (B8_one _) ?_; intro w4 hr4 hs4; have rl4 := row_whole hr4 (by simp [hxl]); have rk4 : Row w4 LA 49 (X.map B8) := (rl3.alloc _).but hs4 hne; have bl4 : Below w3.heap.size w3 w4 := hs4.below ((Below.refl _ _).alloc (Nat.le_refl _) _) (by omega); have bb4 := bb3.trans (bl4.mono bb3.size); clear hr4 hs4)
      | (refine wpList_load_Row rfl 49 _ rfl _ _ _ rk4 rfl _ Try.underlying49 rfl (by rw [List.length_map, hxl]; kernel_rfl) ?_)
      | (refine wpList_load_Row rfl 49 _ rfl _ _ _ rl4 rfl _ Try.underlying49 rfl (by rw [List.length_map, hxl]; kernel_rfl) ?_))
    go_ret
    exact HSTAY.out _ (HQ.out w4 bb4).1 (HQ.out w4 bb4).2
  by_cases h7 : k = 7
  · subst h7
    have HCU : Hid (∀ W ao cap, PR W G F s → IsB W ao m → (m = [] ∨ ∀ B off, ao = some ⟨B, off, none⟩ → B ≠ G.g) → m.length ≤ cap → Calls Try.prog 18 #[.pointer (some ⟨G.g, 0, none⟩), .int .i64 a, .slice ao m.length cap] W fun e w' => e = .returned (.tuple #[]) ∧ (∃ S', CAt w' G { s with wait := max (-1) a, mask := m } S') ∧ SameBut G.g W w') := fun W ao cap hW h1 h2 h3 => by
      obtain ⟨S, c⟩ := hW.c
      exact ccut_any G s S a ao m.length cap m rfl W c h1 h2 h3 (by omega) ha
    have HCR : Hid (∀ W, RAt W F s → IsB W mo m → Calls Try.prog 57 #[.pointer (some ⟨F.g, 0, none⟩), .int .i64 a, .slice mo m.length mc] W fun e w' => e = .returned (.tuple #[]) ∧ ∃ mo mc mb, (∀ B, mb = some B → W.heap.size ≤ B) ∧ (mo = none → mc = 0) ∧ RAt w' { F with mo := mo, mcap := mc, mb := mb } { s with wait := max (-1) a, mask := m } ∧ KeptL [F.g] W w') := fun W hW h1 => by
      refine cut2_any F s a mo m.length mc m rfl W hW h1 ?_ hmn (by omega)
      rcases hmF with e | e
      · exact .inl e
      · exact .inr fun B off h => (e B off h).2.2
    have HGG : Hid (({ s with wait := max (-1) a, mask := m } : RS).Good ∧ ({ s with wait := max (-1) a, mask := m } : RS).n ≤ s.n + 1) := ⟨⟨hgood.n0, by show max (-1) a < _; omega, hgood.ce, hgood.e0, hml, hgood.pos⟩, by show s.n ≤ _; omega⟩
    generalize ({ s with wait := max (-1) a, mask := m } : RS) = s' at *
    have IB0 : Hid (∀ W, Below w.heap.size w W → IsB W mo m) := fun W hW => hib.below hW (Nat.le_refl _)
    have HMF : Hid (m = [] ∨ ∀ B off, mo = some ⟨B, off, none⟩ → B < w.heap.size ∧ B ≠ G.g ∧ B ≠ F.g) := hmF
    have oe := own_empty W0.heap.size W0 (Nat.le_refl _) #[] rfl
    have b1 : ∀ o1, Below W0.heap.size W0 (W0.alloc o1) := fun o1 => (Below.refl _ _).alloc (Nat.le_refl _) _
    have IB1 : Hid (∀ o1, IsB (W0.alloc o1) mo m) := fun o1 => IB0.out _ (bb0.trans ((b1 o1).mono bb0.size))
    have c35 := HRS0.out.cell 35 _ HV.out.2.2.2
    have hz0 : w.heap.size + 1 < W0.heap.size := HRS0.out.lt
    obtain ⟨ML, hML⟩ : ∃ n, n = m.length := ⟨_, rfl⟩
    rw [← hML] at c35 HCU HCR
    have HMLe : Hid (ML = m.length) := hML
    have hMLb : ML ≤ 140737488351232 := by omega
    clear hML hib hmF hml hmc
    go_enter Try.func33, Try.ntmps33
    go_upto_region 1 with fail
    rw [← hW0]
    clear hW0
    go_wp2_with (at_builtin; (refine wpList_append_more rfl (.tmp 159) (.tmp 161) rfl W0.heap.size W0 _ 0 0 [] rfl rfl oe (b1 _) mo ML mc m rfl HMLe.out.symm (IB1.out _) hmn (by omega) ?_); intro oo oc w2 ho2 hb2; rw [Nat.zero_add, List.nil_append] at ho2; have hrs2 := (HK.out w2 (HK0.out.below hb2 (Nat.le_refl _))); have HRP2 : Hid (Row w2 w.heap.size 76 [.pointer (some ⟨G.g, 0, none⟩), .pointer (some ⟨F.g, 0, none⟩)]) := hrs2.2.1; have HRS2 : Hid (Row w2 (w.heap.size + 1) 52 VS) := hrs2.2.2; have d0 := hrs2.2.1.cell 0 _ rfl; have c1 := hrs2.2.2.cell 1 _ HV.out.2.1; clear hrs2)
    have HOB : Hid (m = [] ∨ ∃ OB, oo = some ⟨OB, 0, none⟩ ∧ W0.heap.size ≤ OB ∧ OB < w2.heap.size ∧ Pre w2 OB 5 (m.map B8)) := by
      by_cases he : m = []
      · exact .inl he
      · exact .inr (own_pre ho2 he)
    have HOI : Hid (IsB w2 oo m) := own_IsB ho2
    have hoc : ML ≤ oc := by have := own_cap ho2; omega
    have hGl : G.g < w.heap.size := HPL.out G.g (.inl hGg)
    have hFl : F.g < w.heap.size := HPL.out F.g (.inr hFg)
    refine (HCU.out w2 oo oc (HP0.out.below hb2 (Nat.le_refl _)) HOI.out (by
      rcases HOB.out with e | ⟨OB, e1, e2, _⟩
      · exact .inl e
      · refine .inr fun B off h => ?_
        rw [e1] at h
        injection h with h
        injection h with h
        omega) hoc).mono ?_
    rintro e w3 ⟨rfl, hc3, sb3⟩
    have kk3 : KeptL (G.blocks ++ F.blocks) W0 w3 := (HK0.out.below hb2 (Nat.le_refl _)).but sb3 (.inl (List.mem_append.2 (.inl hGg)))
    have hrs3 := HK.out w3 kk3
    have d1 := hrs3.2.1.cell 1 _ rfl
    have c1 := hrs3.2.2.cell 1 _ HV.out.2.1
    have c35 := hrs3.2.2.cell 35 _ HV.out.2.2.2
    have HR3 : Hid (RAt w3 F s) := (HP0.out.r.keep (fun B hB => hb2.block B (HP0.out.r.blt B hB))).keep (fun B hB => sb3.block B (fun e => HSEP.out G.g hGg (e ▸ hB)))
    have HC3 : Hid (∃ S', CAt w3 G s' S') := hc3
    have HI3 : Hid (IsB w3 mo m) := isb_keep (IB0.out w2 (bb0.trans (hb2.mono bb0.size))) (fun B off he h => sb3.block B (by
      rcases HMF.out with e | e
      · exact absurd e he
      · exact (e B off h).2.1))
    have HO3 : Hid (IsB w3 oo m ∧ (m = [] ∨ ∃ OB, oo = some ⟨OB, 0, none⟩ ∧ W0.heap.size ≤ OB ∧ OB < w3.heap.size ∧ Pre w3 OB 5 (m.map B8))) := by
      have hne : ∀ B off, m ≠ [] → oo = some ⟨B, off, none⟩ → B ≠ G.g := fun B off he h => by
        rcases HOB.out with e | ⟨OB, e1, e2, _⟩
        · exact absurd e he
        · rw [e1] at h; injection h with h; injection h with h; omega
      refine ⟨isb_keep HOI.out (fun B off he h => sb3.block B (hne B off he h)), ?_⟩
      rcases HOB.out with e | ⟨OB, e1, e2, e3, e4⟩
      · exact .inl e
      · exact .inr ⟨OB, e1, e2, by rw [sb3.size]; exact e3, e4.of_block (sb3.block OB (by omega))⟩
    have KK3 : Hid (KeptL (G.blocks ++ F.blocks) W0 w3) := kk3
    rw [← HMLe.out] at c35
    clear kk3 hrs3 hc3 sb3 ho2 hb2 HOB HOI oe b1 d0 HRP2 HRS2
    go_wp2_with fail
    refine (HCR.out w3 HR3.out HI3.out).mono ?_
    rintro e w4 ⟨rfl, mo', mc', mb', hmb, hmn', hr4, kl4⟩
    have kk4 : KeptL (G.blocks ++ F.blocks) W0 w4 := KK3.out.trans (kl4.sub (fun B hB => by simp at hB; subst hB; exact List.mem_append.2 (.inr hFg)))
    have hrs4 := HK.out w4 kk4
    have c35 := hrs4.2.2.cell 35 _ HV.out.2.2.2
    have HR4 : Hid (RAt w4 { F with mo := mo', mcap := mc', mb := mb' } s') := hr4
    have HC4 : Hid (∃ S', CAt w4 G s' S') := by
      obtain ⟨S, c⟩ := HC3.out
      exact ⟨S, c.keep fun B hB => kl4.block B (c.blt B hB) (by simp; intro e; exact HSEP.out B hB (e ▸ hFg))⟩
    have hcv1 := conv_string w4 mo ML mc m HMLe.out.symm (isb_keep HI3.out (fun B off he h => kl4.block B (by
      rcases HMF.out with e | e
      · exact absurd e he
      · have := (e B off h).1; have := KK3.out.size; omega) (by
      rcases HMF.out with e | e
      · exact absurd e he
      · simpa using (e B off h).2.2)))
    have hob : ∀ B off, m ≠ [] → oo = some ⟨B, off, none⟩ → B < w3.heap.size ∧ B ≠ F.g := fun B off he h => by
      rcases HO3.out.2 with e | ⟨OB, e1, e2, e3, _⟩
      · exact absurd e he
      · rw [e1] at h; injection h with h; injection h with h; omega
    have hcv2 := conv_string w4 oo ML oc m HMLe.out.symm (isb_keep HO3.out.1 (fun B off he h => kl4.block B (hob B off he h).1 (by simpa using (hob B off he h).2)))
    have HO4 : Hid (m = [] ∨ ∃ OB, oo = some ⟨OB, 0, none⟩ ∧ W0.heap.size ≤ OB ∧ OB < w3.heap.size ∧ Pre w4 OB 5 (m.map B8)) := by
      rcases HO3.out.2 with e | ⟨OB, e1, e2, e3, e4⟩
      · exact .inl e
      · exact .inr ⟨OB, e1, e2, e3, e4.of_block (kl4.block OB e3 (by simp; omega))⟩
    have HMB : Hid ((∀ B, mb' = some B → w3.heap.size ≤ B) ∧ (mo' = none → mc' = 0)) := ⟨hmb, hmn'⟩
    have KK4 : Hid (KeptL (G.blocks ++ F.blocks) W0 w4) := kk4
    have hz3 : W0.heap.size ≤ w3.heap.size := KK3.out.size
    have HZ3 : Hid (W0.heap.size ≤ w3.heap.size) := hz3
    rw [← HMLe.out] at c35
    generalize strOf m = SM at *
    obtain ⟨OB, hOB⟩ : ∃ OB, m = [] ∨ (oo = some ⟨OB, 0, none⟩ ∧ W0.heap.size ≤ OB ∧ OB < w3.heap.size ∧ Pre w4 OB 5 (m.map B8)) := by
      rcases HO4.out with e | ⟨OB, e⟩
      · exact ⟨0, .inl e⟩
      · exact ⟨OB, .inr e⟩
    have HOBH : Hid (m = [] ∨ (oo = some ⟨OB, 0, none⟩ ∧ W0.heap.size ≤ OB ∧ OB < w3.heap.size ∧ Pre w4 OB 5 (m.map B8))) := hOB
    clear kk4 hrs4 hr4 kl4 hmb hmn' hob HC3 HI3 HO3 HR3 KK3 HO4 hOB hz3 d1 c1
    go_wp2
    go_loopw [22] (fun iv wr => ∃ i : Nat, i ≤ ML ∧ iv = .int .i64 i ∧ Hid (m = [] → wr = w4) ∧ Hid (KeptL [OB] w4 wr) ∧ Hid (m ≠ [] → ∃ bs : List By, bs.length = ML ∧ Pre wr OB 5 (bs.map B8))) (fun iv _ => ML - (intOf iv).toNat)
    case atStart =>
      refine ⟨0, by omega, rfl, (fun _ => rfl : m = [] → w4 = w4), KeptL.refl _ _, (fun he => ?_ : m ≠ [] → ∃ bs : List By, bs.length = ML ∧ Pre w4 OB 5 (bs.map B8))⟩
      rcases HOBH.out with e | ⟨_, _, _, e4⟩
      · exact absurd e he
      · exact ⟨m, HMLe.out.symm, e4⟩
    case round =>
      clear c35 hcv1 hcv2
      obtain ⟨i, hi, rfl, hm0, hkl, hbs⟩ := hrel
      by_cases hlt : i < ML
      · have y0 : (0 : Int) ≤ (i : Int) := by omega
        have y1 : (i : Int) < (ML : Int) := by omega
        have hme : m ≠ [] := fun e => by have := HMLe.out; rw [e] at this; simp at this; omega
        obtain ⟨hoo, _⟩ : oo = some ⟨OB, 0, none⟩ ∧ True := by
          rcases HOBH.out with e | e
          · exact absurd e hme
          · exact ⟨e.1, trivial⟩
        obtain ⟨bs, hb1, hb2⟩ := hbs.out hme
        have cb : wr.cell? ⟨OB, i, none⟩ = some (.int .u8 ((bs.getD i 0).toNat : Int)) := hb2.cell i _ (by rw [List.getElem?_map, List.getD_eq_getElem?_getD, List.getElem?_eq_getElem (by omega)]; rfl)
        have fb := hb2.frozen i
        have hx90 := xor90 (bs.getD i 0)
        have hnx : Hid (∀ y : By, KeptL [OB] w4 (wr.setCell ⟨OB, i, none⟩ (.int .u8 (y.toNat : Int))) ∧ (m ≠ [] → ∃ bs : List By, bs.length = ML ∧ Pre (wr.setCell ⟨OB, i, none⟩ (.int .u8 (y.toNat : Int))) OB 5 (bs.map B8))) := fun y => by
          refine ⟨hkl.out.but (SameBut.setCell OB i _ wr) (.inl (by simp)), fun _ => ⟨bs.set i y, by rw [List.length_set]; exact hb1, ?_⟩⟩
          have := hb2.set i (B8 y) (by rw [List.length_map]; omega)
          rw [List.map_set]; exact this
        generalize bs.getD i 0 = xb at *
        generalize hyb : xb ^^^ 90#8 = yb at *
        have HX90 : Hid (bits .xor .u8 (xb.toNat : Int) 90 = (yb.toNat : Int)) := hx90
        have hn1 := (hnx.out yb).1
        have hn2 := (hnx.out yb).2
        have HN1 := (show Hid _ from hn1)
        have HN2 := (show Hid _ from hn2)
        have HN0 : Hid (m = [] → wr.setCell ⟨OB, i, none⟩ (.int .u8 (yb.toNat : Int)) = w4) := fun e => absurd e hme
        rw [hoo]
        clear hm0 hkl hbs hb1 hb2 hnx hn1 hn2 hyb
        go_wp2
        exact ⟨⟨i + 1, by omega, by go_num, HN0, HN1, HN2⟩, by simp [intOf]; omega⟩
      · obtain rfl : i = ML := by omega
        have y1 : ¬ (i : Int) < (i : Int) := by omega
        have hfin : StepPost G F s w (.returned (.bool true)) wr := by
          have hOBn : m ≠ [] → W0.heap.size ≤ OB ∧ OB < w3.heap.size := fun he => by
            rcases HOBH.out with e | e
            · exact absurd e he
            · exact ⟨e.2.1, e.2.2.1⟩
          have keep : ∀ B, B < w4.heap.size → (B < W0.heap.size ∨ w3.heap.size ≤ B) → wr.heap[B]? = w4.heap[B]? := fun B hB h2 => by
            by_cases he : m = []
            · rw [hm0.out he]
            · have := hOBn he
              exact hkl.out.block B hB (by simp; omega)
          have hbl0 : ∀ B, B ∈ G.blocks ∨ B ∈ F.blocks → B < W0.heap.size := fun B hB => by have := HPL.out B hB; omega
          refine ⟨rfl, { F with mo := mo', mcap := mc', mb := mb' }, s', ⟨?_, ?_, ?_, HGG.out.1, HMB.out.2⟩, rfl, ?_, HGG.out.2, ?_⟩
          · obtain ⟨S, c⟩ := HC4.out
            exact ⟨S, c.keep fun B hB => keep B (c.blt B hB) (.inl (hbl0 B (.inl hB)))⟩
          · refine HR4.out.keep fun B hB => keep B (HR4.out.blt B hB) ?_
            rcases blocks_mask hB with h | h
            · exact .inl (hbl0 B (.inr h))
            · exact .inr (HMB.out.1 B h)
          · intro B hB hB2
            rcases blocks_mask hB2 with h | h
            · exact HSEP.out B hB h
            · have h1 := HMB.out.1 B h
              have h2 := hbl0 B (.inl hB)
              have h3 := HZ3.out
              omega
          · intro B hB
            rcases blocks_mask hB with h | h
            · exact .inl h
            · right
              have h1 := HMB.out.1 B h
              have h3 := HZ3.out
              omega
          · have k4 := (HK.out w4 KK4.out).1
            refine ⟨hkl.out.os.trans k4.os, hkl.out.tape.trans k4.tape, hkl.out.output.trans k4.output, Nat.le_trans k4.size hkl.out.size, fun B hB hn => ?_⟩
            exact (keep B (Nat.lt_of_lt_of_le hB k4.size) (.inl (by omega))).trans (k4.block B hB hn)
        clear hm0 hkl hbs hlt hi
        go_wp2
        go_ret
        exact hfin
  · have g1 : (k == 1) = false := by rw [beq_eq_false_iff_ne]; exact h1
    have g2 : (k == 2) = false := by rw [beq_eq_false_iff_ne]; exact h2
    have g3 : (k == 3) = false := by rw [beq_eq_false_iff_ne]; exact h3
    have g4 : (k == 4) = false := by rw [beq_eq_false_iff_ne]; exact h4
    have g5 : (k == 5) = false := by rw [beq_eq_false_iff_ne]; exact h5
    have g6 : (k == 6) = false := by rw [beq_eq_false_iff_ne]; exact h6
    have g7 : (k == 7) = false := by rw [beq_eq_false_iff_ne]; exact h7
    have g8 : (k == 8) = false := by rw [beq_eq_false_iff_ne]; exact h8
    have HS : Hid (Calls Try.prog 34 #[.agg #[.pointer (some ⟨G.g, 0, none⟩), .pointer (some ⟨F.g, 0, none⟩)]] W0 fun e w' => e = .returned (.bool true) ∧ Below W0.heap.size W0 w') := by
      obtain ⟨S, c⟩ := HP0.out.c
      exact lsame_any W0 G F s S c HP0.out.r
    have HQ : Hid (∀ W, Below W0.heap.size W0 W → PR W G F s ∧ KeptL (G.blocks ++ F.blocks) W0 W) := fun W hW => ⟨HP0.out.below hW (Nat.le_refl _), HK0.out.below hW (Nat.le_refl _)⟩
    clear h1 h2 h3 h4 h5 h6 h7 h8
    go_enter Try.func33, Try.ntmps33
    go_upto_region 1 with fail
    rw [← hW0]
    clear hW0
    go_wp2_with (refine HS.out.mono ?_; rintro e w1 ⟨rfl, hb1⟩)
    go_ret
    exact HSTAY.out _ (HQ.out w1 hb1).1 (HQ.out w1 hb1).2
end Go.Proofs.Ythjndaeibbfgaaa
