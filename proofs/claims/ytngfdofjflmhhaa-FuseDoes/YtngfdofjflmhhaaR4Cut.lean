
import Derived.Test.YtngfdofjflmhhaaR4App
import Derived.Deep.CutBlock
/-! The reference's Cut; within, May, Blank. -/
namespace Go.Proofs.Ytngfdofjflmhhaa
open Go.RowKit

theorem cells_mask (s : RS) (F : RF) (m : List By) (mo : Option Addr) (mc : Nat) (mb : Option Nat) : (s.cellsOf F).set 13 (.slice mo m.length mc) = ({ s with mask := m } : RS).cellsOf { F with mo := mo, mcap := mc, mb := mb } := rfl

theorem RAt.setMask {w : World} {F : RF} {s : RS} (h : RAt w F s) (m : List By) (mo : Option Addr) (mc : Nat) (mb : Option Nat) (hb : ∀ B, mb = some B → B < w.heap.size ∧ B ∉ F.blocks) (hm : m = [] ∨ ∃ B, mb = some B ∧ mo = some ⟨B, 0, none⟩ ∧ Pre w B 5 (m.map B8)) :
    RAt (w.setCell ⟨F.g, 13, none⟩ (.slice mo m.length mc)) { F with mo := mo, mcap := mc, mb := mb } { s with mask := m } := by
  have sb := SameBut.setCell F.g 13 (.slice mo m.length mc) w
  have hnd := h.nd
  simp only [RF.blocks, List.nodup_cons, List.mem_cons, List.mem_append, not_or] at hnd
  obtain ⟨⟨n1, n2, n3, n4, n5⟩, ⟨m1, m2, m3, m4⟩, ⟨o1, o2, o3⟩, ⟨u1, u2⟩, hnd2⟩ := hnd
  have k := h.ok
  have hr := h.row.set 13 (.slice mo m.length mc)
  rw [cells_mask s F m mo mc mb] at hr
  have hbB : ∀ B, mb = some B → B ≠ F.g ∧ B ≠ F.pB ∧ B ≠ F.eB ∧ B ≠ F.bB ∧ B ∉ F.ps.map (·.1) := fun B hB => by
    have := (hb B hB).2
    simp only [RF.blocks, List.mem_cons, List.mem_append, not_or] at this
    exact ⟨this.1, this.2.1, this.2.2.1, this.2.2.2.1, this.2.2.2.2.1⟩
  refine ⟨hr, h.len, h.pg.of_block (sb.block _ (Ne.symm n1)), fun j q p hq hp => (h.page j q p hq hp).of_block (sb.block _ ?_), h.er.of_block (sb.block _ (Ne.symm n2)), h.bl.of_block (sb.block _ (Ne.symm n3)), ?_, fun B hB => by rw [sb.size]; exact (hb B hB).1, ?_, ⟨k.er, k.pg, k.bl, k.cl, k.c1, k.c2, k.by8⟩⟩
  · rintro e
    exact n4 (e ▸ List.mem_map_of_mem (List.mem_of_getElem? hq))
  · rcases hm with h1 | ⟨B, h1, h2, h3⟩
    · exact .inl h1
    · exact .inr ⟨B, h1, h2, h3.of_block (sb.block B (hbB B h1).1)⟩
  · have hmm : ∀ B, B ∈ mb.toList → mb = some B := fun B hB => by simpa using hB
    simp only [RF.blocks, List.nodup_cons, List.mem_cons, List.mem_append, not_or]
    refine ⟨⟨n1, n2, n3, n4, fun hB => (hbB _ (hmm _ hB)).1 rfl⟩, ⟨m1, m2, m3, fun hB => (hbB _ (hmm _ hB)).2.1 rfl⟩, ⟨o1, o2, fun hB => (hbB _ (hmm _ hB)).2.2.1 rfl⟩, ⟨u1, fun hB => (hbB _ (hmm _ hB)).2.2.2.1 rfl⟩, ?_⟩
    refine List.nodup_append.2 ⟨(List.nodup_append.1 hnd2).1, ?_, ?_⟩
    · cases mb <;> simp
    · intro a ha B hB e
      exact (hbB B (hmm B hB)).2.2.2.2 (e ▸ ha)

theorem own_pre {N : Nat} {w : World} {ao : Option Addr} {n c : Nat} {m : List By} (h : Own N w (.slice ao n c) m) (hm : m ≠ []) : ∃ B, ao = some ⟨B, 0, none⟩ ∧ N ≤ B ∧ B < w.heap.size ∧ Pre w B 5 (m.map B8) := by
  rcases h.1.2 with ⟨_, e2⟩ | ⟨g, cap, cur, e, h2, h3, h4, h5, h6, h7⟩
  · exact absurd (List.length_eq_zero_iff.1 e2) hm
  · injection e with e1 e3 e4
    subst e1
    have hl : g < w.heap.size := (Array.getElem?_eq_some_iff.1 h3).1
    refine ⟨g, rfl, h2, hl, cur.toList.drop (m.map B8).length, ?_⟩
    unfold Row
    rw [h3]
    have : m.map B8 ++ cur.toList.drop (m.map B8).length = cur.toList := by
      have h8 : cur.toList.take (m.map B8).length = m.map B8 := by rw [List.length_map]; simpa using h7
      conv => lhs; lhs; rw [← h8]
      exact List.take_append_drop _ _
    rw [this]

set_option maxHeartbeats 1000000 in
set_option maxRecDepth 100000 in
theorem cut_any (F : RF) (s : RS) (n : Int) (ao : Option Addr) (len cap : Nat) (m : List By) (hm : m.length = len) (w : World) (h : RAt w F s) (hb : IsB w ao m) (hbg : m = [] ∨ ∀ B off, ao = some ⟨B, off, none⟩ → B ≠ F.g) (hnil : ao = none → cap = 0) (hl : len ≤ 140737488353280) :
    Calls Try.prog 30 #[.pointer (some ⟨F.g, 0, none⟩), .int .i64 n, .slice ao len cap] w fun e w' => e = .returned (.tuple #[]) ∧ ∃ mo mc mb, (∀ B, mb = some B → w.heap.size ≤ B) ∧ RAt w' { F with mo := mo, mcap := mc, mb := mb } { s with wait := max (-1) n, mask := m } ∧ KeptL [F.g] w w' := by
  have HM : Hid (m.length = len) := hm
  have c12 := h.cWait
  have f12 := h.row.frozen 12
  obtain ⟨mx, hmx⟩ : ∃ mx, mx = max (-1) n := ⟨_, rfl⟩
  rw [← hmx]
  have HMX : Hid (mx = max (-1) n) := hmx
  have r1 := h.row.set 12 (.int .i64 mx)
  rw [cells_wait] at r1
  have s1 := SameBut.setCell F.g 12 (.int .i64 mx) w
  have ra1 : RAt (w.setCell ⟨F.g, 12, none⟩ (.int .i64 mx)) F { s with wait := mx } := h.struct s1 r1 rfl rfl rfl rfl rfl
  have hgl := h.row.lt
  have HBL : Hid (∀ B ∈ F.blocks, B < w.heap.size) := h.blt
  have ib1 : IsB (w.setCell ⟨F.g, 12, none⟩ (.int .i64 mx)) ao m := by
    rcases hb with h0 | ⟨B, off, h1, hc⟩
    · exact .inl h0
    · rcases hbg with h0 | h0
      · exact .inl h0
      · exact .inr ⟨B, off, h1, fun j v hj => (World.cell?_of_block (w := w) (s1.block B (h0 B off h1))).trans (hc j v hj)⟩
  have HW : Hid (∀ w1, w.setCell ⟨F.g, 12, none⟩ (.int .i64 mx) = w1 → RAt w1 F { s with wait := mx } ∧ IsB w1 ao m ∧ SameBut F.g w w1) := by
    rintro w1 rfl; exact ⟨ra1, ib1, s1⟩
  clear ra1 ib1 s1 r1 hmx hb hbg hm
  have key : (mx = -1 ∧ ¬ -1 < n) ∨ (mx = n ∧ -1 < n) := by have := HMX.out; omega
  rcases key with ⟨rfl, hlt⟩ | ⟨rfl, hlt⟩
  all_goals
    go_enter Try.func30, Try.ntmps30
    go_upto_region 1 with fail
    generalize hw1 : World.setCell w ⟨F.g, 12, none⟩ _ = w1
    obtain ⟨ra1, ib1, s1⟩ := HW.out w1 hw1
    clear hw1 HW
    have HZ1 : Hid (w1.heap.size = w.heap.size) := s1.size
    have oe := own_empty w1.heap.size w1 (Nat.le_refl _) #[] rfl
    have b1 : ∀ o1, Below w1.heap.size w1 (w1.alloc o1) := fun o1 => (Below.refl _ _).alloc (Nat.le_refl _) _
    have IB1 : Hid (∀ o1, IsB (w1.alloc o1) ao m) := fun o1 => ib1.below (b1 o1) (Nat.le_refl _)
    have HC : Hid (∀ w2, Below w1.heap.size w1 w2 → w2.cell? ⟨F.g, 13, none⟩ = some (.slice F.mo s.mask.length F.mcap) ∧ w2.frozen? ⟨F.g, 13, none⟩ = false ∧ RAt w2 F { s with wait := _ }) := fun w2 b2 => by
      have r2 := ra1.keep (w' := w2) (fun B hB => b2.block B (by rw [HZ1.out]; exact HBL.out B hB))
      exact ⟨r2.cMask, r2.row.frozen 13, r2⟩
    go_wp2_with (at_builtin; (refine wpList_append_more rfl (.tmp 12) (.tmp 13) rfl w1.heap.size w1 _ 0 0 [] rfl rfl oe (b1 _) ao len cap m rfl HM.out (IB1.out _) hnil (by omega) ?_); intro mo mc w2 ho2 hb2; rw [Nat.zero_add, List.nil_append] at ho2; obtain ⟨c13, f13, ra2⟩ := HC.out w2 hb2)
    go_end0
    have hz1 := HZ1.out
    have kl2 : KeptL [F.g] w w2 := ((KeptL.refl _ _).but s1 (.inl (by simp))).below hb2 (by omega)
    have kl3 : ∀ v, KeptL [F.g] w (w2.setCell ⟨F.g, 13, none⟩ v) := fun v => kl2.but (SameBut.setCell F.g 13 v w2) (.inl (by simp))
    by_cases hme : m = []
    · refine ⟨rfl, mo, mc, none, (fun B hB => by cases hB), ?_, kl3 _⟩
      have := ra2.setMask m mo mc none (fun B hB => by cases hB) (.inl hme)
      rw [HM.out] at this
      simpa using this
    · obtain ⟨B, hB1, hB2, hB3, hB4⟩ := own_pre ho2 hme
      refine ⟨rfl, mo, mc, some B, (fun B' hB' => by injection hB' with e; omega), ?_, kl3 _⟩
      have := ra2.setMask m mo mc (some B) (fun B' hB' => by injection hB' with e; subst e; exact ⟨hB3, fun hmem => by have := HBL.out _ hmem; omega⟩) (.inr ⟨B, rfl, hB1, hB4⟩)
      rw [HM.out] at this
      simpa using this
end Go.Proofs.Ytngfdofjflmhhaa
