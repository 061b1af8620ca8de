
import Derived.Test.YtngfdofjflmhhaaR4Prog
import Derived.Deep.RegionHeld3
import Derived.Deep.RegionLaw
import Derived.BigRegion
/-! The reference's Blow. -/
namespace Go.Proofs.Ytngfdofjflmhhaa
open Go.RowKit

theorem RAt.setBlown {w : World} {F : RF} {s : RS} (h : RAt w F s) (i : Nat) (hi : i < s.blown.length) (v : Bool) : RAt (w.setCell ⟨F.bB, i, none⟩ (.bool v)) F { s with blown := s.blown.set i v } := by
  have sb := SameBut.setCell F.bB i (.bool v) w
  have hnd := h.nd
  simp only [RF.blocks, List.nodup_cons, List.mem_cons, List.mem_append, not_or] at hnd
  obtain ⟨⟨n1, n2, n3, n4, n5⟩, ⟨m1, m2, m3, m4⟩, ⟨o1, o2, o3⟩, ⟨u1, u2⟩, hnd2⟩ := hnd
  have k := h.ok
  refine ⟨?_, h.len, h.pg.of_block (sb.block _ m2), fun j q p hq hp => (h.page j q p hq hp).of_block (sb.block _ ?_), h.er.of_block (sb.block _ o1), ?_, ?_, fun B hB => by rw [sb.size]; exact h.mbl B hB, h.nd, ⟨k.er, k.pg, by show (s.blown.set i v).length ≤ 576; rw [List.length_set]; exact k.bl, k.cl, k.c1, k.c2, k.by8⟩⟩
  · have : ({ s with blown := s.blown.set i v } : RS).cellsOf F = s.cellsOf F := by simp [RS.cellsOf]
    rw [this]
    exact h.row.but sb n3
  · rintro e
    exact u1 (e ▸ List.mem_map_of_mem (List.mem_of_getElem? hq))
  · have h1 := h.bl.set i (.bool v) (by rw [List.length_map]; exact hi)
    show Pre _ _ _ ((s.blown.set i v).map Value.bool)
    rw [List.map_set]; exact h1
  · rcases h.msk with h1 | ⟨B, h1, h2, h3⟩
    · exact .inl h1
    · exact .inr ⟨B, h1, h2, h3.of_block (sb.block B (fun e => u2 (by simp [h1, e])))⟩
theorem RAt.setErase {w : World} {F : RF} {s : RS} (h : RAt w F s) (i : Nat) (hi : i < s.erases.length) (v : Int) : RAt (w.setCell ⟨F.eB, i, none⟩ (.int .i64 v)) F { s with erases := s.erases.set i v } := by
  have sb := SameBut.setCell F.eB i (.int .i64 v) w
  have hnd := h.nd
  simp only [RF.blocks, List.nodup_cons, List.mem_cons, List.mem_append, not_or] at hnd
  obtain ⟨⟨n1, n2, n3, n4, n5⟩, ⟨m1, m2, m3, m4⟩, ⟨o1, o2, o3⟩, ⟨u1, u2⟩, hnd2⟩ := hnd
  have k := h.ok
  refine ⟨?_, h.len, h.pg.of_block (sb.block _ m1), fun j q p hq hp => (h.page j q p hq hp).of_block (sb.block _ ?_), ?_, h.bl.of_block (sb.block _ (Ne.symm o1)), ?_, fun B hB => by rw [sb.size]; exact h.mbl B hB, h.nd, ⟨by show (s.erases.set i v).length = _; rw [List.length_set]; exact k.er, k.pg, k.bl, k.cl, k.c1, k.c2, k.by8⟩⟩
  · have : ({ s with erases := s.erases.set i v } : RS).cellsOf F = s.cellsOf F := by simp [RS.cellsOf]
    rw [this]
    exact h.row.but sb n2
  · rintro e
    exact o2 (e ▸ List.mem_map_of_mem (List.mem_of_getElem? hq))
  · have h1 := h.er.set i (.int .i64 v) (by rw [List.length_map]; exact hi)
    show Pre _ _ _ ((s.erases.set i v).map (Value.int .i64))
    rw [List.map_set]; exact h1
  · rcases h.msk with h1 | ⟨B, h1, h2, h3⟩
    · exact .inl h1
    · exact .inr ⟨B, h1, h2, h3.of_block (sb.block B (fun e => o3 (by simp [h1, e])))⟩

def RS.blowB (s : RS) (i : Nat) : Bool := s.blown.getD i false || (!s.cut || decide (bitsAt s.mask 0 &&& 1#8 = 1#8))
def RS.blow (s : RS) (i : Int) : RS := if s.fuse i = 0 then { s.act with blown := s.blown.set i.toNat (s.blowB i.toNat) } else s
def RS.blowE (s : RS) (i : Int) : Int := if s.fuse i = 0 then (if s.cut then 8 else 0) else s.fuse i
theorem fuse_zero {s : RS} {i : Int} (h : s.fuse i = 0) : s.gone = false ∧ 0 ≤ i ∧ i < (s.blown.length : Int) := by
  unfold RS.fuse at h
  split at h
  · omega
  · rename_i hg
    split at h
    · omega
    · exact ⟨by simpa using hg, by omega, by omega⟩

set_option maxHeartbeats 2000000 in
set_option maxRecDepth 100000 in
theorem blow_any (F : RF) (s : RS) (i : Int) (w : World) (h : RAt w F s) (hn0 : 0 ≤ s.n) (hn : s.n < 4611686018427387904) (hw : s.wait < 9223372036854775808) :
    Calls Try.prog 32 #[.pointer (some ⟨F.g, 0, none⟩), .int .i64 i] w fun e w' => e = .returned (.int .i64 (s.blowE i)) ∧ RAt w' F (s.blow i) ∧ KeptL F.blocks w w' := by
  obtain ⟨res, hres⟩ : ∃ r, r = s.blowE i := ⟨_, rfl⟩
  rw [← hres]
  have HR : Hid (res = s.blowE i) := hres
  clear hres
  by_cases h0 : s.fuse i = 0
  · obtain ⟨_, i1, i2⟩ := fuse_zero h0
    obtain ⟨k, rfl⟩ := Int.eq_ofNat_of_zero_le i1
    have hkl : k < s.blown.length := by omega
    have HP : Hid (s.blow k = { s.act with blown := s.blown.set k (s.blowB k) }) := by show _ = _; simp [RS.blow, h0]
    have HCUT : Hid (res = (if s.cut = true then 8 else 0)) := by show _ = _; rw [HR.out]; simp [RS.blowE, h0]
    go_enter Try.func32, Try.ntmps32
    go_wp2_with fail
    refine (fuse_any F s k w h).mono ?_
    rw [h0]
    rintro e w1 ⟨rfl, rfl⟩
    go_wp2_with fail
    refine (act_any F s _ h hn0 hn hw).mono ?_
    rintro e w2 ⟨rfl, ra2, sb2⟩
    have kl2 : KeptL F.blocks w1 w2 := (KeptL.refl _ _).but sb2 (.inl (by simp [RF.blocks]))
    have c9 : w2.cell? ⟨F.g, 9, none⟩ = some (.slice (some ⟨F.bB, 0, none⟩) s.blown.length F.bcap) := ra2.cBl
    have ck : w2.cell? ⟨F.bB, k, none⟩ = some (.bool (s.blown.getD k false)) := ra2.bl.cell _ _ (by
      show (s.blown.map Value.bool)[k]? = _
      rw [List.getElem?_map, List.getD_eq_getElem?_getD, List.getElem?_eq_getElem hkl]; rfl)
    have fk : w2.frozen? ⟨F.bB, k, none⟩ = false := ra2.bl.frozen k
    have HB : Hid (s.blowB k = (s.blown.getD k false || (!s.cut || decide (bitsAt s.mask 0 &&& 1#8 = 1#8)))) := rfl
    have HBI : Hid (∀ W, Dr w2 W → Calls Try.prog 50 #[.pointer (some ⟨F.g, 0, none⟩), .int .i64 0] W fun e w' => e = .returned (.int .u8 ((bitsAt s.mask 0).toNat : Int)) ∧ Dr W w') := fun W d => bits_any F s.act 0 W (ra2.dr d)
    have HST : Hid (∀ W, Dr w2 W → RAt (W.setCell ⟨F.bB, k, none⟩ (.bool (s.blowB k))) F (s.blow k) ∧ KeptL F.blocks w1 (W.setCell ⟨F.bB, k, none⟩ (.bool (s.blowB k)))) := fun W d => by
      refine ⟨?_, (kl2.dr d).but (SameBut.setCell _ _ _ _) (.inl (by simp [RF.blocks]))⟩
      rw [HP.out]; exact (ra2.dr d).setBlown k hkl _
    generalize s.cut = cut at *
    generalize s.blown.getD k false = b0 at *
    generalize bitsAt s.mask 0 = mb at *
    generalize s.blowB k = nb at *
    generalize s.blown.length = BL at *
    clear sb2 ra2 kl2 h hn0 hn hw HP hkl
    have d1 : Dr w2 w2.drew := ⟨1, rfl⟩
    cases b0
    · cases cut
      · have hb : nb = true := by rw [HB.out]; rfl
        go_wp2
        go_region
        all_goals
          go_wp2
          go_ret
          subst hb
          exact ⟨by rw [HCUT.out]; rfl, HST.out _ d1⟩
      · have hv : (bits .and .u8 (mb.toNat : Int) 1 == 1) = nb := by
          have e1 := bits8_and mb 1#8
          have e2 : ((1#8 : By).toNat : Int) = 1 := by decide
          rw [e2] at e1
          rw [e1, HB.out]
          by_cases hm : mb &&& 1#8 = 1#8
          · rw [hm]; decide
          · have : (mb &&& 1#8).toNat ≠ 1 := fun h => hm (BitVec.eq_of_toNat_eq (by simpa using h))
            rw [decide_eq_false hm]
            show (((mb &&& 1#8).toNat : Int) == 1) = false
            rw [beq_eq_false_iff_ne]; omega
        go_wp2
        go_region_with ((go_at_call 50; refine (HBI.out _ d1).mono ?_; rintro e w3 ⟨rfl, d3⟩; have c93 := (d1.trans d3).cell c9; have ck3 := (d1.trans d3).cell ck; have fk3 : w3.frozen? ⟨F.bB, k, none⟩ = false := by (obtain ⟨n3, rfl⟩ := d3; exact fk)))
        all_goals
          go_wp2
          go_ret
          try rw [hv]
          exact ⟨by rw [HCUT.out]; rfl, HST.out _ (d1.trans d3)⟩
    · have hb : nb = true := by rw [HB.out]; rfl
      cases cut
      all_goals
        go_wp2
        go_region
        all_goals
          go_wp2
          go_ret
          subst hb
          exact ⟨by rw [HCUT.out]; rfl, HST.out _ d1⟩
  · have HP : Hid (s.blow i = s) := by show _ = _; simp [RS.blow, h0]
    generalize hf : s.fuse i = f at *
    have HF : Hid (s.fuse i = f) := hf
    have e1 : (f != 0) = true := by rw [bne_iff_ne]; exact h0
    clear hf
    go_enter Try.func32, Try.ntmps32
    go_wp2_with fail
    refine (fuse_any F s i w h).mono ?_
    rw [HF.out]
    rintro e w1 ⟨rfl, rfl⟩
    go_wp2
    go_ret
    exact ⟨by rw [HR.out]; simp [RS.blowE, HF.out, h0], by rw [HP.out]; exact h, KeptL.refl _ _⟩
end Go.Proofs.Ytngfdofjflmhhaa
