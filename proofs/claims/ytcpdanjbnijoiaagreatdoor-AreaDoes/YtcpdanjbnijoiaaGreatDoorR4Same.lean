import Derived.Test.YtcpdanjbnijoiaaGreatDoorR4App
import Derived.Deep.CutBlock
import Derived.Deep.DeepCutAuto
import Derived.DeepKeys
import Derived.StillTactics

/-! The reference's Cut; within, May, Blank. -/
namespace Go.Proofs.YtcpdanjbnijoiaaGreatDoor
open Go.RowKit

theorem cells_mask (s : RS) (F : RF) (m : List By) (mo : Option Addr) (mc : Nat) (mb : Option Nat) : (s.cellsOf F).set 13 (.slice mo m.length mc) = ({ s with mask := m } : RS).cellsOf { F with mo := mo, mcap := mc, mb := mb } := rfl

theorem RAt.setMask {w : World} {F : RF} {s : RS} (h : RAt w F s) (m : List By) (mo : Option Addr) (mc : Nat) (mb : Option Nat) (hb : ∀ B, mb = some B → B < w.heap.size ∧ B ∉ F.blocks) (hm : m = [] ∨ ∃ B, mb = some B ∧ mo = some ⟨B, 0, none⟩ ∧ Pre w B 5 (m.map B8)) :
    RAt (w.setCell ⟨F.g, 13, none⟩ (.slice mo m.length mc)) { F with mo := mo, mcap := mc, mb := mb } { s with mask := m } := by
  have sb := SameBut.setCell F.g 13 (.slice mo m.length mc) w
  have hnd := h.nd
  simp only [RF.blocks, List.nodup_cons, List.mem_cons, List.mem_append, not_or] at hnd
  obtain ⟨⟨n1, n2, n3, n4, n5⟩, ⟨m1, m2, m3, m4⟩, ⟨o1, o2, o3⟩, ⟨u1, u2⟩, hnd2⟩ := hnd
  have k := h.ok
  have hr := h.row.set 13 (.slice mo m.length mc)
  rw [cells_mask s F m mo mc mb] at hr
  have hbB : ∀ B, mb = some B → B ≠ F.g ∧ B ≠ F.pB ∧ B ≠ F.eB ∧ B ≠ F.bB ∧ B ∉ F.ps.map (·.1) := fun B hB => by
    have := (hb B hB).2
    simp only [RF.blocks, List.mem_cons, List.mem_append, not_or] at this
    exact ⟨this.1, this.2.1, this.2.2.1, this.2.2.2.1, this.2.2.2.2.1⟩
  refine ⟨hr, h.len, h.pg.of_block (sb.block _ (Ne.symm n1)), fun j q p hq hp => (h.page j q p hq hp).of_block (sb.block _ ?_), h.er.of_block (sb.block _ (Ne.symm n2)), h.bl.of_block (sb.block _ (Ne.symm n3)), ?_, fun B hB => by rw [sb.size]; exact (hb B hB).1, ?_, ⟨k.er, k.pg, k.bl, k.cl, k.c1, k.c2, k.by8⟩⟩
  · rintro e
    exact n4 (e ▸ List.mem_map_of_mem (List.mem_of_getElem? hq))
  · rcases hm with h1 | ⟨B, h1, h2, h3⟩
    · exact .inl h1
    · exact .inr ⟨B, h1, h2, h3.of_block (sb.block B (hbB B h1).1)⟩
  · have hmm : ∀ B, B ∈ mb.toList → mb = some B := fun B hB => by simpa using hB
    simp only [RF.blocks, List.nodup_cons, List.mem_cons, List.mem_append, not_or]
    refine ⟨⟨n1, n2, n3, n4, fun hB => (hbB _ (hmm _ hB)).1 rfl⟩, ⟨m1, m2, m3, fun hB => (hbB _ (hmm _ hB)).2.1 rfl⟩, ⟨o1, o2, fun hB => (hbB _ (hmm _ hB)).2.2.1 rfl⟩, ⟨u1, fun hB => (hbB _ (hmm _ hB)).2.2.2.1 rfl⟩, ?_⟩
    refine List.nodup_append.2 ⟨(List.nodup_append.1 hnd2).1, ?_, ?_⟩
    · cases mb <;> simp
    · intro a ha B hB e
      exact (hbB B (hmm B hB)).2.2.2.2 (e ▸ ha)

theorem own_pre {N : Nat} {w : World} {ao : Option Addr} {n c : Nat} {m : List By} (h : Own N w (.slice ao n c) m) (hm : m ≠ []) : ∃ B, ao = some ⟨B, 0, none⟩ ∧ N ≤ B ∧ B < w.heap.size ∧ Pre w B 5 (m.map B8) := by
  rcases h.1.2 with ⟨_, e2⟩ | ⟨g, cap, cur, e, h2, h3, h4, h5, h6, h7⟩
  · exact absurd (List.length_eq_zero_iff.1 e2) hm
  · injection e with e1 e3 e4
    subst e1
    have hl : g < w.heap.size := (Array.getElem?_eq_some_iff.1 h3).1
    refine ⟨g, rfl, h2, hl, cur.toList.drop (m.map B8).length, ?_⟩
    unfold Row
    rw [h3]
    have : m.map B8 ++ cur.toList.drop (m.map B8).length = cur.toList := by
      have h8 : cur.toList.take (m.map B8).length = m.map B8 := by rw [List.length_map]; simpa using h7
      conv => lhs; lhs; rw [← h8]
      exact List.take_append_drop _ _
    rw [this]

set_option maxHeartbeats 1000000 in
set_option maxRecDepth 100000 in
theorem cut_any (F : RF) (s : RS) (n : Int) (ao : Option Addr) (len cap : Nat) (m : List By) (hm : m.length = len) (w : World) (h : RAt w F s) (hb : IsB w ao m) (hbg : m = [] ∨ ∀ B off, ao = some ⟨B, off, none⟩ → B ≠ F.g) (hnil : ao = none → cap = 0) (hl : len ≤ 140737488353280) :
    Calls Tryz.prog 32 #[.pointer (some ⟨F.g, 0, none⟩), .int .i64 n, .slice ao len cap] w fun e w' => e = .returned (.tuple #[]) ∧ ∃ mo mc mb, (∀ B, mb = some B → w.heap.size ≤ B) ∧ RAt w' { F with mo := mo, mcap := mc, mb := mb } { s with wait := max (-1) n, mask := m } ∧ KeptL [F.g] w w' := by
  have HM : Hid (m.length = len) := hm
  have c12 := h.cWait
  have f12 := h.row.frozen 12
  obtain ⟨mx, hmx⟩ : ∃ mx, mx = max (-1) n := ⟨_, rfl⟩
  rw [← hmx]
  have HMX : Hid (mx = max (-1) n) := hmx
  have r1 := h.row.set 12 (.int .i64 mx)
  rw [cells_wait] at r1
  have s1 := SameBut.setCell F.g 12 (.int .i64 mx) w
  have ra1 : RAt (w.setCell ⟨F.g, 12, none⟩ (.int .i64 mx)) F { s with wait := mx } := h.struct s1 r1 rfl rfl rfl rfl rfl
  have hgl := h.row.lt
  have HBL : Hid (∀ B ∈ F.blocks, B < w.heap.size) := h.blt
  have ib1 : IsB (w.setCell ⟨F.g, 12, none⟩ (.int .i64 mx)) ao m := by
    rcases hb with h0 | ⟨B, off, h1, hc⟩
    · exact .inl h0
    · rcases hbg with h0 | h0
      · exact .inl h0
      · exact .inr ⟨B, off, h1, fun j v hj => (World.cell?_of_block (w := w) (s1.block B (h0 B off h1))).trans (hc j v hj)⟩
  have HW : Hid (∀ w1, w.setCell ⟨F.g, 12, none⟩ (.int .i64 mx) = w1 → RAt w1 F { s with wait := mx } ∧ IsB w1 ao m ∧ SameBut F.g w w1) := by
    rintro w1 rfl; exact ⟨ra1, ib1, s1⟩
  clear ra1 ib1 s1 r1 hmx hb hbg hm
  have key : (mx = -1 ∧ ¬ -1 < n) ∨ (mx = n ∧ -1 < n) := by have := HMX.out; omega
  rcases key with ⟨rfl, hlt⟩ | ⟨rfl, hlt⟩
  all_goals
    go_enter Tryz.func32, Tryz.ntmps32
    go_upto_region 1 with fail
    generalize hw1 : World.setCell w ⟨F.g, 12, none⟩ _ = w1
    obtain ⟨ra1, ib1, s1⟩ := HW.out w1 hw1
    clear hw1 HW
    have HZ1 : Hid (w1.heap.size = w.heap.size) := s1.size
    have oe := own_empty w1.heap.size w1 (Nat.le_refl _) #[] rfl
    have b1 : ∀ o1, Below w1.heap.size w1 (w1.alloc o1) := fun o1 => (Below.refl _ _).alloc (Nat.le_refl _) _
    have IB1 : Hid (∀ o1, IsB (w1.alloc o1) ao m) := fun o1 => ib1.below (b1 o1) (Nat.le_refl _)
    have HC : Hid (∀ w2, Below w1.heap.size w1 w2 → w2.cell? ⟨F.g, 13, none⟩ = some (.slice F.mo s.mask.length F.mcap) ∧ w2.frozen? ⟨F.g, 13, none⟩ = false ∧ RAt w2 F { s with wait := _ }) := fun w2 b2 => by
      have r2 := ra1.keep (w' := w2) (fun B hB => b2.block B (by rw [HZ1.out]; exact HBL.out B hB))
      exact ⟨r2.cMask, r2.row.frozen 13, r2⟩
    go_wp2_with (at_builtin; (refine wpList_append_more rfl (.tmp 12) (.tmp 13) rfl w1.heap.size w1 _ 0 0 [] rfl rfl oe (b1 _) ao len cap m rfl HM.out (IB1.out _) hnil (by omega) ?_); intro mo mc w2 ho2 hb2; rw [Nat.zero_add, List.nil_append] at ho2; obtain ⟨c13, f13, ra2⟩ := HC.out w2 hb2)
    go_end0
    have hz1 := HZ1.out
    have kl2 : KeptL [F.g] w w2 := ((KeptL.refl _ _).but s1 (.inl (by simp))).below hb2 (by omega)
    have kl3 : ∀ v, KeptL [F.g] w (w2.setCell ⟨F.g, 13, none⟩ v) := fun v => kl2.but (SameBut.setCell F.g 13 v w2) (.inl (by simp))
    by_cases hme : m = []
    · refine ⟨rfl, mo, mc, none, (fun B hB => by cases hB), ?_, kl3 _⟩
      have := ra2.setMask m mo mc none (fun B hB => by cases hB) (.inl hme)
      rw [HM.out] at this
      simpa using this
    · obtain ⟨B, hB1, hB2, hB3, hB4⟩ := own_pre ho2 hme
      refine ⟨rfl, mo, mc, some B, (fun B' hB' => by injection hB' with e; omega), ?_, kl3 _⟩
      have := ra2.setMask m mo mc (some B) (fun B' hB' => by injection hB' with e; subst e; exact ⟨hB3, fun hmem => by have := HBL.out _ hmem; omega⟩) (.inr ⟨B, rfl, hB1, hB4⟩)
      rw [HM.out] at this
      simpa using this
end Go.Proofs.YtcpdanjbnijoiaaGreatDoor


/-! The reference's within, May, Blank. -/
namespace Go.Proofs.YtcpdanjbnijoiaaGreatDoor
open Go.RowKit

set_option maxRecDepth 100000 in
theorem within_any (n lo hi : Int) (b : Bool) (hb : decide (lo ≤ n ∧ n ≤ hi) = b) (w : World) :
    Calls Tryz.prog 48 #[.int .i64 n, .int .i64 lo, .int .i64 hi] w fun e w' => e = .returned (.bool b) ∧ w' = w := by
  have HB : Hid (decide (lo ≤ n ∧ n ≤ hi) = b) := hb
  clear hb
  by_cases h1 : lo ≤ n
  · have b1 : decide (lo ≤ n) = true := by simpa using h1
    by_cases h2 : n ≤ hi
    · have b2 : decide (n ≤ hi) = true := by simpa using h2
      go_enter Tryz.func48, Tryz.ntmps48
      go_wp2
      go_ret
      exact ⟨by rw [← HB.out]; simp [h1, h2], rfl⟩
    · have b2 : decide (n ≤ hi) = false := by simpa using h2
      go_enter Tryz.func48, Tryz.ntmps48
      go_wp2
      go_ret
      exact ⟨by rw [← HB.out]; simp [h2], rfl⟩
  · have b1 : decide (lo ≤ n) = false := by simpa using h1
    go_enter Tryz.func48, Tryz.ntmps48
    go_wp2
    go_ret
    exact ⟨by rw [← HB.out]; simp; omega, rfl⟩

/-- May a config be? -/
def Cfg.a (c : Cfg) : Bool := decide (1 ≤ c.slots ∧ c.slots ≤ 8) && (decide (c.slots + 3 ≤ c.cells ∧ c.cells ≤ 256) && (decide (1 ≤ c.fuses ∧ c.fuses ≤ 64) && decide (1 ≤ c.step ∧ c.step ≤ 65536)))
def Cfg.b (c : Cfg) : Bool := decide (1 ≤ c.keys ∧ c.keys ≤ 64) && (decide (0 ≤ c.erases ∧ c.erases ≤ 65536) && decide (0 ≤ c.area ∧ c.area ≤ 64))
def Cfg.may (c : Cfg) : Int := if c.a && c.b then 0 else 1

set_option maxHeartbeats 2000000 in
set_option maxRecDepth 100000 in
theorem may_any (c : Cfg) (w : World) :
    Calls Tryz.prog 22 #[.agg c.vals.toArray] w fun e w' => e = .returned (.int .i64 c.may) ∧ Below w.heap.size w w' := by
  obtain ⟨b1, h1⟩ : ∃ b, decide (1 ≤ c.slots ∧ c.slots ≤ 8) = b := ⟨_, rfl⟩
  obtain ⟨b2, h2⟩ : ∃ b, decide (c.slots + 3 ≤ c.cells ∧ c.cells ≤ 256) = b := ⟨_, rfl⟩
  obtain ⟨b3, h3⟩ : ∃ b, decide (1 ≤ c.fuses ∧ c.fuses ≤ 64) = b := ⟨_, rfl⟩
  obtain ⟨b4, h4⟩ : ∃ b, decide (1 ≤ c.step ∧ c.step ≤ 65536) = b := ⟨_, rfl⟩
  obtain ⟨b5, h5⟩ : ∃ b, decide (1 ≤ c.keys ∧ c.keys ≤ 64) = b := ⟨_, rfl⟩
  obtain ⟨b6, h6⟩ : ∃ b, decide (0 ≤ c.erases ∧ c.erases ≤ 65536) = b := ⟨_, rfl⟩
  obtain ⟨b7, h7⟩ : ∃ b, decide (0 ≤ c.area ∧ c.area ≤ 64) = b := ⟨_, rfl⟩
  have HM : Hid (c.may = (if (b1 && (b2 && (b3 && b4))) && (b5 && (b6 && b7)) then 0 else 1)) := by show _ = _; simp only [Cfg.may, Cfg.a, Cfg.b, h1, h2, h3, h4, h5, h6, h7]
  have W1 := fun w => within_any c.slots 1 8 b1 h1 w
  have W2 := fun w => within_any c.cells (c.slots + 3) 256 b2 h2 w
  have W3 := fun w => within_any c.fuses 1 64 b3 h3 w
  have W4 := fun w => within_any c.step 1 65536 b4 h4 w
  have W5 := fun w => within_any c.keys 1 64 b5 h5 w
  have W6 := fun w => within_any c.erases 0 65536 b6 h6 w
  have W7 := fun w => within_any c.area 0 64 b7 h7 w
  have hsl : b1 = true → 1 ≤ c.slots ∧ c.slots ≤ 8 := fun e => by rw [e] at h1; simpa using h1
  have HSL : Hid (b1 = true → 1 ≤ c.slots ∧ c.slots ≤ 8) := hsl
  have b0 : ∀ o1, Below w.heap.size w (w.alloc o1) := fun o1 => (Below.refl _ _).alloc (Nat.le_refl _) _
  clear h1 h2 h3 h4 h5 h6 h7 hsl
  obtain ⟨cells, slots, fuses, step, keys, erases, area⟩ := c
  simp only [Cfg.vals] at *
  go_enter Tryz.func22, Tryz.ntmps22
  go_upto_region 1 with fail
  have r0 : Row (w.alloc (.cells #[.int .i64 cells, .int .i64 slots, .int .i64 fuses, .int .i64 step, .int .i64 keys, .int .i64 erases, .int .i64 area] 23)) w.heap.size 23 [.int .i64 cells, .int .i64 slots, .int .i64 fuses, .int .i64 step, .int .i64 keys, .int .i64 erases, .int .i64 area] := Row.at _ _ _ _ _ rfl rfl
  have hb0 := b0 (.cells #[.int .i64 cells, .int .i64 slots, .int .i64 fuses, .int .i64 step, .int .i64 keys, .int .i64 erases, .int .i64 area] 23)
  generalize hW0 : w.alloc (.cells #[.int .i64 cells, .int .i64 slots, .int .i64 fuses, .int .i64 step, .int .i64 keys, .int .i64 erases, .int .i64 area] 23) = W0 at *
  have c0 := r0.cell 0 _ rfl
  have c1 := r0.cell 1 _ rfl
  have c2 := r0.cell 2 _ rfl
  have c3 := r0.cell 3 _ rfl
  have c4 := r0.cell 4 _ rfl
  have c5 := r0.cell 5 _ rfl
  have c6 := r0.cell 6 _ rfl
  clear r0 hW0 b0
  go_cut [3] (fun v wx => v = .bool (b1 && (b2 && (b3 && b4))) ∧ wx = W0)
  case first =>
    go_wp2_with fail
    refine (W1 _).mono ?_
    rintro e w1 ⟨rfl, hw1⟩
    obtain rfl := hw1.symm
    cases b1
    · go_wp2
      go_meet
      case rel => exact ⟨rfl, rfl⟩
    · obtain ⟨q1, q2⟩ := HSL.out rfl
      go_wp2_with fail
      refine (W2 _).mono ?_
      rintro e w2 ⟨rfl, hw2⟩
      obtain rfl := hw2.symm
      cases b2
      · go_wp2
        go_meet
        case rel => exact ⟨rfl, rfl⟩
      · go_wp2_with fail
        refine (W3 _).mono ?_
        rintro e w3 ⟨rfl, hw3⟩
        obtain rfl := hw3.symm
        cases b3
        · go_wp2
          go_meet
          case rel => exact ⟨rfl, rfl⟩
        · go_wp2_with fail
          refine (W4 _).mono ?_
          rintro e w4 ⟨rfl, hw4⟩
          obtain rfl := hw4.symm
          cases b4
          all_goals
            go_wp2
            go_meet
            case rel => exact ⟨rfl, rfl⟩
  case rest =>
    obtain ⟨rfl, rfl⟩ := hcut
    generalize (b1 && (b2 && (b3 && b4))) = A at *
    go_upto_region 2 with fail
    go_cut [4] (fun v wx => v = .bool (b5 && (b6 && b7)) ∧ wx = wc)
    case first =>
      go_wp2_with fail
      refine (W5 _).mono ?_
      rintro e w1 ⟨rfl, hw1⟩
      obtain rfl := hw1.symm
      cases b5
      · go_wp2
        go_meet
        case rel => exact ⟨rfl, rfl⟩
      · go_wp2_with fail
        refine (W6 _).mono ?_
        rintro e w2 ⟨rfl, hw2⟩
        obtain rfl := hw2.symm
        cases b6
        · go_wp2
          go_meet
          case rel => exact ⟨rfl, rfl⟩
        · go_wp2_with fail
          refine (W7 _).mono ?_
          rintro e w3 ⟨rfl, hw3⟩
          obtain rfl := hw3.symm
          cases b7
          all_goals
            go_wp2
            go_meet
            case rel => exact ⟨rfl, rfl⟩
    case rest =>
      obtain ⟨rfl, rfl⟩ := hcut
      generalize (b5 && (b6 && b7)) = B at *
      cases A
      · go_wp2
        go_ret
        exact ⟨by rw [HM.out]; rfl, hb0⟩
      · cases B
        all_goals
          go_wp2
          go_ret
          exact ⟨by rw [HM.out]; rfl, hb0⟩
end Go.Proofs.YtcpdanjbnijoiaaGreatDoor


/-! What a chip holds, read; the reference's SameState. -/
namespace Go.Proofs.YtcpdanjbnijoiaaGreatDoor
open Go.RowKit

/-- Values that lie in a row, one a cell. -/
def IsL (w : World) (ao : Option Addr) (vs : List Value) : Prop := vs = [] ∨ ∃ B off, ao = some ⟨B, off, none⟩ ∧ ∀ j v, vs[j]? = some v → w.cell? ⟨B, off + j, none⟩ = some v
theorem IsL.below {w w' : World} {ao : Option Addr} {vs : List Value} {N : Nat} (h : IsL w ao vs) (hb : Below N w w') (hN : w.heap.size ≤ N) : IsL w' ao vs := by
  rcases h with h | ⟨B, off, rfl, hc⟩
  · exact .inl h
  · refine .inr ⟨B, off, rfl, fun j v hj => ?_⟩
    have h1 := hc j v hj
    rw [hb.cell (p := ⟨B, off + j, none⟩) (by have := block_lt_of_cell h1; simp at this ⊢; omega)]
    exact h1
theorem IsL.dr {w w' : World} {ao : Option Addr} {vs : List Value} (h : IsL w ao vs) (d : Dr w w') : IsL w' ao vs := by
  rcases h with h | ⟨B, off, rfl, hc⟩
  · exact .inl h
  · exact .inr ⟨B, off, rfl, fun j v hj => d.cell (hc j v hj)⟩
theorem IsL.cell {w : World} {ao : Option Addr} {vs : List Value} (h : IsL w ao vs) (j : Nat) (v : Value) (hv : vs[j]? = some v) : ∃ B off, ao = some ⟨B, off, none⟩ ∧ w.cell? ⟨B, off + j, none⟩ = some v := by
  rcases h with rfl | ⟨B, off, rfl, hc⟩
  · simp at hv
  · exact ⟨B, off, rfl, hc j v hv⟩
theorem IsL.range {w : World} {ao : Option Addr} {vs : List Value} (h : IsL w ao vs) (o n : Nat) (hn : 0 < n) (ho : o + n ≤ vs.length) : ∃ B off, ao = some ⟨B, off, none⟩ ∧ w.rangeAt B (off + o) ((vs.drop o).take n) := by
  rcases h with rfl | ⟨B, off, rfl, hc⟩
  · simp at ho; omega
  · refine ⟨B, off, rfl, fun j v hv => ?_⟩
    rw [List.getElem?_take] at hv
    split at hv
    · rw [List.getElem?_drop] at hv
      have := hc (o + j) v hv
      rwa [← Nat.add_assoc] at this
    · cases hv

/-- What a chip holds. -/
structure St where
  pages : List (List (List By))
  erases : List Int
  blown : List Bool
def RS.st (s : RS) : St := ⟨s.pages, s.erases, s.blown⟩

/-- The three slices of an api.Chip. -/
structure SV where
  po : Option Addr
  pc : Nat
  eo : Option Addr
  ec : Nat
  bo : Option Addr
  bc : Nat
def SV.vals (v : SV) (t : St) : List Value := [.slice v.po t.pages.length v.pc, .slice v.eo t.erases.length v.ec, .slice v.bo t.blown.length v.bc]
structure StV (w : World) (v : SV) (t : St) : Prop where
  pg : ∃ pvs : List (Option Addr × Nat), pvs.length = t.pages.length ∧ IsL w v.po (List.zipWith (fun q p => Value.slice q.1 (List.length p) q.2) pvs t.pages) ∧ ∀ (i : Nat) (q : Option Addr × Nat) (p : List (List By)), pvs[i]? = some q → t.pages[i]? = some p → IsL w q.1 (p.flatten.map B8)
  er : IsL w v.eo (t.erases.map (Value.int .i64))
  bl : IsL w v.bo (t.blown.map Value.bool)
  by8 : ∀ p ∈ t.pages, ∀ x ∈ p, x.length = 32
theorem StV.below {w w' : World} {v : SV} {t : St} {N : Nat} (h : StV w v t) (hb : Below N w w') (hN : w.heap.size ≤ N) : StV w' v t := by
  obtain ⟨pvs, h1, h2, h3⟩ := h.pg
  exact ⟨⟨pvs, h1, h2.below hb hN, fun i q p hq hp => (h3 i q p hq hp).below hb hN⟩, h.er.below hb hN, h.bl.below hb hN, h.by8⟩
theorem StV.dr {w w' : World} {v : SV} {t : St} (h : StV w v t) (d : Dr w w') : StV w' v t := by
  obtain ⟨pvs, h1, h2, h3⟩ := h.pg
  exact ⟨⟨pvs, h1, h2.dr d, fun i q p hq hp => (h3 i q p hq hp).dr d⟩, h.er.dr d, h.bl.dr d, h.by8⟩
theorem StV.page {w : World} {v : SV} {t : St} (h : StV w v t) (p : Nat) (hp : p < t.pages.length) : ∃ B off qo qc, v.po = some ⟨B, off, none⟩ ∧ w.cell? ⟨B, off + p, none⟩ = some (.slice qo (t.pages.getD p []).length qc) ∧ IsL w qo ((t.pages.getD p []).flatten.map B8) ∧ ∀ x ∈ t.pages.getD p [], x.length = 32 := by
  obtain ⟨pvs, h1, h2, h3⟩ := h.pg
  have hq : pvs[p]? = some (pvs[p]'(by omega)) := List.getElem?_eq_getElem _
  have hpp : t.pages[p]? = some t.pages[p] := List.getElem?_eq_getElem hp
  have hd : t.pages.getD p [] = t.pages[p] := by rw [List.getD_eq_getElem?_getD, hpp]; rfl
  obtain ⟨B, off, e1, e2⟩ := h2.cell p _ (by rw [List.getElem?_zipWith, hq, hpp])
  rw [hd]
  exact ⟨B, off, _, _, e1, e2, h3 p _ _ hq hpp, h.by8 _ (List.getElem_mem hp)⟩

theorem mapM_some {α β : Type} {f : α → Option β} (g : α → β) : ∀ (l : List α), (∀ x ∈ l, f x = some (g x)) → l.mapM f = some (l.map g)
  | [], _ => rfl
  | x :: l, h => by
    rw [List.mapM_cons, h x (by simp), mapM_some g l (fun y hy => h y (by simp [hy]))]
    rfl
theorem Tryz.cellsCell : Tryz.prog.cellsOf 55 = 32 := by kernel_rfl
theorem Tryz.cellsU8 : Tryz.prog.cellsOf 5 = 1 := by kernel_rfl
def keyOf (bs : List By) : List Lit := ((List.range 32).map fun i => [Lit.int .u8 ((bs.getD i 0).toNat : Int)]).flatten
theorem cell_key (bs : List By) (hl : bs.length = 32) : Tryz.prog.keyLits 2 55 (bs.map B8) = some (keyOf bs) := by
  have hu : Tryz.prog.underlying 55 = some (.array 32 5) := Tryz.underlying55
  unfold Program.keyLits
  simp only [hu]
  rw [if_pos (by rw [Tryz.cellsCell, List.length_map, hl])]
  rw [mapM_some (fun i => [Lit.int .u8 ((bs.getD i 0).toNat : Int)])]
  · rfl
  · intro i hi
    rw [List.mem_range] at hi
    have e : ((bs.map B8).drop (i * Tryz.prog.cellsOf 5)).take (Tryz.prog.cellsOf 5) = [.int .u8 ((bs.getD i 0).toNat : Int)] := by
      rw [Tryz.cellsU8, Nat.mul_one, List.drop_eq_getElem_cons (by rw [List.length_map, hl]; exact hi)]
      simp [B8, hl, hi]
    rw [e]
    unfold Program.keyLits
    have h8 := b8_lt (bs.getD i 0)
    simp only [Tryz.underlying5]
    rw [if_pos ⟨trivial, WalkArith.wf_u8 (by omega)⟩]
theorem flat_one {α : Type} : ∀ l : List α, (l.map fun x => [x]).flatten = l
  | [] => rfl
  | x :: l => by rw [List.map_cons, List.flatten_cons, flat_one l]; rfl
theorem eq_cell (x y : List By) (hx : x.length = 32) (hy : y.length = 32) (w : World) : (Op.equalIn 10000 55 (.agg (x.map B8).toArray) (.agg (y.map B8).toArray)).run Tryz.prog w = .ok (decide (x = y)) w := by
  have hf : ∀ z : List By, z.length = 32 → (Value.agg (z.map B8).toArray).formed Tryz.prog 55 = true := fun z hz => by
    simp [Value.formed, Tryz.underlying55, Tryz.cellsCell, hz]
  have kz : ∀ z : List By, z.length = 32 → Tryz.prog.keyLits 2 55 (Value.agg (z.map B8).toArray).cells.toList = some (keyOf z) := fun z hz => by
    have e : (Value.agg (z.map B8).toArray).cells.toList = z.map B8 := by simp [Value.cells]
    rw [e]; exact cell_key z hz
  obtain ⟨r, hr, hiff⟩ := run_equalIn_deep (P := Tryz.prog) 9998 2 55 (by kernel_rfl) w 2 2 _ _ _ _ (hf x hx) (hf y hy) (kz x hx) (kz y hy)
  rw [hr]
  have : r = decide (x = y) := by
    by_cases hxy : x = y
    · rw [decide_eq_true hxy]
      refine hiff.2 ?_
      subst hxy; rfl
    · rw [decide_eq_false hxy]
      cases hb : r with
      | false => rfl
      | true =>
        exfalso
        have he := hiff.1 hb
        have f1 : ∀ z : List By, keyOf z = (List.range 32).map fun i => Lit.int .u8 ((z.getD i 0).toNat : Int) := fun z => by
          have := flat_one ((List.range 32).map fun i => Lit.int .u8 ((z.getD i 0).toNat : Int))
          rw [List.map_map] at this
          exact this
        rw [f1, f1] at he
        apply hxy
        apply List.ext_getElem (by omega)
        intro i hi hi'
        have h1 := congrArg (fun l => l[i]?) he
        simp only [List.getElem?_map, List.getElem?_range (show i < 32 by omega), Option.map_some, Option.some.injEq, Lit.int.injEq, true_and] at h1
        have h2 : (x.getD i 0).toNat = (y.getD i 0).toNat := by omega
        have h3 := BitVec.eq_of_toNat_eq h2
        simpa [List.getD_eq_getElem?_getD, hi, hi'] using h3
  rw [this]
end Go.Proofs.YtcpdanjbnijoiaaGreatDoor
