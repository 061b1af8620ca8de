import Derived.Test.YtplpoehfdhkhmaaDoorWords
import Derived.Deep.DeepCutAuto
import Derived.Deep.AppendLies
import Derived.Laws.AppendOwnNone

namespace Go.Proofs.YtplpoehfdhkhmaaDoor
open Go.RowKit

set_option maxHeartbeats 400000 in
set_option maxRecDepth 100000 in
theorem firstState_any (w : World) : Calls Tryd.prog 51 #[] w fun e w' => e = .returned (.agg (init8.list.map U).toArray) /\ Below w.heap.size w w' := by
  go_enter Tryd.func51, Tryd.ntmps51
  go_wp2_with (refine wpList_store_Row rfl 96 _ _ rfl w.heap.size 96 0 ((List.replicate 8 (0 : Wd)).map U) (init8.list.map U) (Row.at _ _ _ _ _ rfl rfl) (by simp [S8.list]) rfl rfl (by kernel_rfl) (U_one _) ?_; intro w1 hr hs)
  exact bodyPost_ret_by (results_Row Tryd.results51 _ w1 w.heap.size 96 _ _ rfl (by simpa [S8.list] using hr) Tryd.underlying96 rfl (by kernel_rfl)) rfl ⟨rfl, hs.below ((Below.refl _ _).alloc (Nat.le_refl _) _) (Nat.le_refl _)⟩

set_option maxHeartbeats 400000 in
set_option maxRecDepth 100000 in
theorem begins_any (w : World) : Calls Tryd.prog 43 #[] w fun e w' => e = .returned (.agg (init8.list.map U).toArray) /\ Below w.heap.size w w' := by
  go_enter Tryd.func43, Tryd.ntmps43
  go_wp2_with (refine wpList_store_Row rfl 96 _ _ rfl w.heap.size 96 0 ((List.replicate 8 (0 : Wd)).map U) (init8.list.map U) (Row.at _ _ _ _ _ rfl rfl) (by simp [S8.list]) rfl rfl (by kernel_rfl) (U_one _) ?_; intro w1 hr hs)
  exact bodyPost_ret_by (results_Row Tryd.results43 _ w1 w.heap.size 96 _ _ rfl (by simpa [S8.list] using hr) Tryd.underlying96 rfl (by kernel_rfl)) rfl ⟨rfl, hs.below ((Below.refl _ _).alloc (Nat.le_refl _) _) (Nat.le_refl _)⟩

theorem row64 {w : World} {g : Nat} {l : List Wd} (hl : l.length = 64) (h : Row w g 98 (((List.replicate 64 (0 : Wd)).map U).take 0 ++ l.map U ++ ((List.replicate 64 (0 : Wd)).map U).drop (0 + (l.map U).length))) : Row w g 98 (l.map U) := by
  rw [List.take_zero, List.nil_append, List.drop_eq_nil_of_le (by simp [hl]), List.append_nil] at h
  exact h

set_option maxHeartbeats 400000 in
set_option maxRecDepth 100000 in
theorem roundWords_any (w : World) : Calls Tryd.prog 52 #[] w fun e w' => e = .returned (.agg (Kt.map U).toArray) /\ Below w.heap.size w w' := by
  go_enter Tryd.func52, Tryd.ntmps52
  go_wp2_with (refine wpList_store_Row rfl 98 _ _ rfl w.heap.size 98 0 ((List.replicate 64 (0 : Wd)).map U) (Kt.map U) (Row.at _ _ _ _ _ rfl rfl) (by rw [List.length_map, Kt_len, List.length_map, List.length_replicate]; decide) rfl rfl (by kernel_rfl) (U_one _) ?_; intro w1 hr0 hs; have hr := row64 Kt_len hr0; clear hr0)
  exact bodyPost_ret_by (results_Row Tryd.results52 _ w1 w.heap.size 98 _ _ rfl hr Tryd.underlying98 rfl (by kernel_rfl)) rfl ⟨rfl, hs.below ((Below.refl _ _).alloc (Nat.le_refl _) _) (Nat.le_refl _)⟩

set_option maxHeartbeats 400000 in
set_option maxRecDepth 100000 in
theorem rounds_any (w : World) : Calls Tryd.prog 44 #[] w fun e w' => e = .returned (.agg (Kt.map U).toArray) /\ Below w.heap.size w w' := by
  go_enter Tryd.func44, Tryd.ntmps44
  go_wp2_with (refine wpList_store_Row rfl 98 _ _ rfl w.heap.size 98 0 ((List.replicate 64 (0 : Wd)).map U) (Kt.map U) (Row.at _ _ _ _ _ rfl rfl) (by rw [List.length_map, Kt_len, List.length_map, List.length_replicate]; decide) rfl rfl (by kernel_rfl) (U_one _) ?_; intro w1 hr0 hs; have hr := row64 Kt_len hr0; clear hr0)
  exact bodyPost_ret_by (results_Row Tryd.results44 _ w1 w.heap.size 98 _ _ rfl hr Tryd.underlying98 rfl (by kernel_rfl)) rfl ⟨rfl, hs.below ((Below.refl _ _).alloc (Nat.le_refl _) _) (Nat.le_refl _)⟩

end Go.Proofs.YtplpoehfdhkhmaaDoor


namespace Go.Proofs.YtplpoehfdhkhmaaDoor
open Go.RowKit

theorem turned_quiet (x : Wd) (n : Int) (w : World) (q : Nat) (h1 : 1 <= n) (h2 : n <= 31) :
    Calls Tryd.prog 63 #[.int .u32 (x.toNat : Int), .int .i64 n] (w.drewN q) fun e w' => e = .returned (.int .u32 ((rr x n.toNat).toNat : Int)) /\ ∃ m, w' = w.drewN m :=
  (turned_at x n (w.drewN q) h1 h2).mono fun _ _ ⟨he, m, hm⟩ => ⟨he, q + m, by rw [hm, World.drewN_drewN]⟩

theorem row_whole {w : World} {g t : Nat} {old new : List Value} (h : Row w g t (old.take 0 ++ new ++ old.drop (0 + new.length))) (hl : old.length <= new.length) : Row w g t new := by
  rw [List.take_zero, List.nil_append, List.drop_eq_nil_of_le (by omega), List.append_nil] at h
  exact h
theorem Dr.cell {w w' : World} (h : Dr w w') {a : Addr} {v : Value} (c : w.cell? a = some v) : w'.cell? a = some v := by
  obtain ⟨n, rfl⟩ := h; exact c

set_option maxHeartbeats 1000000 in
set_option maxRecDepth 100000 in
theorem piece_any (s : S8) (D o cap : Nat) (bs : List By) (w : World) (hp : ∀ j, j < 64 -> w.cell? ⟨D, o + j, none⟩ = some (B8 (bs.getD j 0))) :
    Calls Tryd.prog 45 #[.agg (s.list.map U).toArray, .slice (some ⟨D, o, none⟩) 64 cap, .agg (Kt.map U).toArray] w fun e w' => e = .returned (.agg ((comp s bs).list.map U).toArray) /\ Below w.heap.size w w' := by
  have hD : D < w.heap.size := block_lt_of_cell (hp 0 (by omega))
  have e0 : (s.list.map U).toArray = #[.int .u32 (s.a.toNat : Int), .int .u32 (s.b.toNat : Int), .int .u32 (s.c.toNat : Int), .int .u32 (s.d.toNat : Int), .int .u32 (s.e.toNat : Int), .int .u32 (s.f.toNat : Int), .int .u32 (s.g.toNat : Int), .int .u32 (s.h.toNat : Int)] := rfl
  obtain ⟨KK, hKK⟩ : ∃ K, K = Kt := ⟨_, rfl⟩
  have hKl : KK.length = 64 := by rw [hKK]; rfl
  rw [e0, <- hKK]
  clear e0
  have H : Hid (KK = Kt) := hKK
  clear hKK
  go_enter Tryd.func45, Tryd.ntmps45
  go_wp2_with fail
  have b0 : ∀ o1 o2 o3, Below w.heap.size w (((w.alloc o1).alloc o2).alloc o3) := fun o1 o2 o3 => (((Below.refl _ _).alloc (Nat.le_refl _) _).alloc (by simp) _).alloc (by simp; omega) _
  refine (words_any D o cap bs _ (fun j hj => ((b0 _ _ _).cell (p := ⟨D, o + j, none⟩) hD).trans (hp j hj))).mono ?_
  rintro e w1 ⟨rfl, hb1⟩
  have r0 : Row w1 w.heap.size 96 (s.list.map U) := Row.below (((Row.at w 96 (s.list.map U) _ _ rfl rfl).alloc _).alloc _) hb1 (by simp; omega)
  have rk : Row w1 (w.heap.size + 1) 98 (KK.map U) := Row.below ((Row.at (w.alloc _) 98 (KK.map U) _ _ (by simp) rfl).alloc _) hb1 (by simp)
  have rz : Row w1 (w.heap.size + 1 + 1) 96 ((List.replicate 8 (0 : Wd)).map U) := Row.below (Row.at ((w.alloc _).alloc _) 96 ((List.replicate 8 (0 : Wd)).map U) _ _ (by simp) rfl) hb1 (by simp)
  have bb : Below w.heap.size w w1 := (b0 _ _ _).trans (hb1.mono (by simp; omega))
  have hsz : w.heap.size + 1 + 1 < w1.heap.size := rz.lt
  clear hb1 b0 hp
  generalize hNN : w.heap.size = N at *
  generalize hSB : w1.heap.size = SB at *
  go_wp2_with (first | (refine wpList_store_Row rfl 98 _ _ rfl SB 98 0 ((List.replicate 64 (0 : Wd)).map U) ((sched bs).map U) (Row.at _ _ _ _ _ hSB.symm rfl) (by rw [List.length_map, sched_len, List.length_map, List.length_replicate]; decide) rfl rfl (by rw [List.length_map, sched_len]; kernel_rfl) (U_one _) ?_; intro w2 hr0 hs; have r3 := row64 (sched_len bs) hr0; have r0a : Row w2 N 96 (s.list.map U) := (r0.alloc _).but hs (by omega); have hz2 : w2.heap.size = SB + 1 := by rw [hs.size]; simp [hSB]) | (refine wpList_load_Row rfl 96 _ rfl _ _ _ r0a rfl _ Tryd.underlying96 rfl (by kernel_rfl) ?_) | (refine wpList_store_Row rfl 96 _ _ rfl (SB + 1) 96 0 ((List.replicate 8 (0 : Wd)).map U) (s.list.map U) (Row.at _ _ _ _ _ hz2.symm rfl) (by simp [S8.list_len]) rfl rfl (by kernel_rfl) (U_one _) ?_; intro w3 hr4 hs4))
  have rv : Row w3 (SB + 1) 96 (s.list.map U) := by simpa [S8.list_len] using hr4
  replace rk : Row w3 (N + 1) 98 (KK.map U) := (((rk.alloc _).but hs (by omega)).alloc _).but hs4 (by omega)
  replace rz : Row w3 (N + 1 + 1) 96 ((List.replicate 8 (0 : Wd)).map U) := (((rz.alloc _).but hs (by omega)).alloc _).but hs4 (by omega)
  replace r0 : Row w3 N 96 (s.list.map U) := (r0a.alloc _).but hs4 (by omega)
  replace r3 : Row w3 SB 98 ((sched bs).map U) := (r3.alloc _).but hs4 (by omega)
  replace bb : Below N w w3 := hs4.below ((hs.below (bb.alloc (by omega) _) (by omega)).alloc (by omega) _) (by omega)
  clear hr4 hs4 r0a hr0 hs hz2 hSB
  generalize hws : sched bs = ws at r3
  have hwl : ws.length = 64 := by rw [<- hws, sched_len]
  have HW : Hid (sched bs = ws) := hws
  clear hws
  go_loopw [9] (fun i wr => ∃ t : Nat, t <= 64 /\ i = .int .i64 t /\ (∃ v : S8, Hid (v = rnds s KK ws t) /\ Row wr (SB + 1) 96 (v.list.map U)) /\ Row wr N 96 (s.list.map U) /\ Row wr (N + 1) 98 (KK.map U) /\ Row wr (N + 1 + 1) 96 ((List.replicate 8 (0 : Wd)).map U) /\ Row wr SB 98 (ws.map U) /\ Below N w wr)
    (fun i _ => 64 - (intOf i).toNat)
  case atStart => exact ⟨0, by omega, rfl, ⟨s, rfl, rv⟩, r0, rk, rz, r3, bb⟩
  case round =>
    clear r0 rk rz r3 bb rv
    obtain ⟨t, ht, rfl, ⟨v, hv, rv⟩, r0, rk, rz, r3, bb⟩ := hrel
    by_cases hlt : t < 64
    · have i1 : (0 : Int) <= (t : Int) := by omega
      have i2 : (t : Int) < 64 := by omega
      have x1 := r3.word t (by omega)
      have k1 := rk.word t (by omega)
      have E : Hid (rnds s KK ws (t + 1) = rnd v (KK.getD t 0) (ws.getD t 0)) := by
        rw [hv.out]; rfl
      generalize ws.getD t 0 = y at x1 E
      generalize KK.getD t 0 = kt at k1 E
      have a0 := rv.word 0 (by simp [S8.list])
      have a1 := rv.word 1 (by simp [S8.list])
      have a2 := rv.word 2 (by simp [S8.list])
      have a3 := rv.word 3 (by simp [S8.list])
      have a4 := rv.word 4 (by simp [S8.list])
      have a5 := rv.word 5 (by simp [S8.list])
      have a6 := rv.word 6 (by simp [S8.list])
      have a7 := rv.word 7 (by simp [S8.list])
      simp only [S8.list, List.getD_cons_zero, List.getD_cons_succ] at a0 a1 a2 a3 a4 a5 a6 a7
      go_wp2
      go_quiet (fail)
      go_wp2
      have hd1 : Dr wr (wr.drewN nq) := ⟨nq, rfl⟩
      generalize wr.drewN nq = wq1 at hd1 ⊢
      clear nq
      replace a0 := hd1.cell a0
      replace a1 := hd1.cell a1
      replace a2 := hd1.cell a2
      replace a3 := hd1.cell a3
      replace a4 := hd1.cell a4
      replace a5 := hd1.cell a5
      replace a6 := hd1.cell a6
      replace a7 := hd1.cell a7
      replace x1 := hd1.cell x1
      replace k1 := hd1.cell k1
      go_cut [12] (fun u w' => u = .int .u32 ((rndU v kt y).toNat : Int) /\ Dr wr w')
      case first =>
        rename_i J K' hJ hK
        go_quiet ((go_at_call 63; exact turned_quiet _ _ _ _ (by decide) (by decide)))
        refine hK _ _ ?_
        go_meet
        case rel =>
          refine ⟨val_int ?_, hd1.drewN nq⟩
          rw [Int.emod_add_emod, rndU_form]
      case rest =>
        obtain ⟨rfl, hd2⟩ := hcut
        have E2 : Hid (rnds s KK ws (t + 1) = ⟨rndU v kt y + rndV v, v.a, v.b, v.c, v.d + rndU v kt y, v.e, v.f, v.g⟩) := E
        clear E x1 k1 a0 a1 a2 a3 a4 a5 a6 a7
        generalize rndU v kt y = uu at E2 ⊢
        go_wp2
        have a1 := hd2.cell (rv.word 1 (by simp [S8.list]))
        have a2 := hd2.cell (rv.word 2 (by simp [S8.list]))
        simp only [S8.list, List.getD_cons_zero, List.getD_cons_succ] at a1 a2
        go_cut [13] (fun u w' => u = .int .u32 ((rndV v).toNat : Int) /\ Dr wr w')
        case first =>
          rename_i J K' hJ hK
          go_quiet ((go_at_call 63; exact turned_quiet _ _ _ _ (by decide) (by decide)))
          refine hK _ _ ?_
          go_meet
          case rel =>
            refine ⟨val_int ?_, hd2.drewN nq⟩
            rw [rndV_form]
        case rest =>
          clear a1 a2 hd2
          obtain ⟨rfl, hd3⟩ := hcut
          generalize rndV v = vv at E2 ⊢
          replace rv := rv.dr hd3
          replace r0 := r0.dr hd3
          replace rk := rk.dr hd3
          replace rz := rz.dr hd3
          replace r3 := r3.dr hd3
          replace bb := Below_dr bb hd3
          clear hd3 hd1
          have a0 := rv.word 0 (by simp [S8.list])
          have a1 := rv.word 1 (by simp [S8.list])
          have a2 := rv.word 2 (by simp [S8.list])
          have a3 := rv.word 3 (by simp [S8.list])
          have a4 := rv.word 4 (by simp [S8.list])
          have a5 := rv.word 5 (by simp [S8.list])
          have a6 := rv.word 6 (by simp [S8.list])
          simp only [S8.list, List.getD_cons_zero, List.getD_cons_succ] at a0 a1 a2 a3 a4 a5 a6
          have p1 := add_bv uu vv
          have p2 := add_bv v.d uu
          generalize uu + vv = pp at p1 E2
          generalize v.d + uu = qq at p2 E2
          go_wp2_with (refine wpList_store_Row rfl 96 _ _ rfl _ 96 0 _ ((S8.list ⟨pp, v.a, v.b, v.c, qq, v.e, v.f, v.g⟩).map U) rv (by simp [S8.list_len]) rfl rfl (by kernel_rfl) (U_one _) ?_; intro w4 hr4 hs4)
          have rv2 := row_whole hr4 (by simp [S8.list_len])
          refine ⟨⟨t + 1, by omega, by go_num, ⟨_, E2.out.symm, rv2⟩, r0.but hs4 (by omega), rk.but hs4 (by omega), rz.but hs4 (by omega), r3.but hs4 (by omega), hs4.below bb (by omega)⟩, by simp [intOf]; omega⟩
    · obtain rfl : t = 64 := by omega
      clear hlt ht r3 rk
      go_wp2
      go_loopw [14] (fun i wr => ∃ k : Nat, k <= 8 /\ i = .int .i64 k /\ Row wr N 96 ((addSet s v k).map U) /\ Row wr (SB + 1) 96 (v.list.map U) /\ Row wr (N + 1 + 1) 96 ((List.replicate 8 (0 : Wd)).map U) /\ Below N w wr)
        (fun i _ => 8 - (intOf i).toNat)
      case atStart => exact ⟨0, by omega, rfl, r0, rv, rz, bb⟩
      case round =>
        clear r0 rv rz bb
        obtain ⟨k, hk, rfl, r0, rv, rz, bb⟩ := hrel
        by_cases hlt : k < 8
        · have i1 : (0 : Int) <= (k : Int) := by omega
          have i2 : (k : Int) < 8 := by omega
          have x1 := rv.word k (by rw [S8.list_len]; exact hlt)
          have k1 := r0.word k (by rw [addSet_len]; exact hlt)
          have k2 := r0.frozen k
          have E : Hid (addSet s v (k + 1) = (addSet s v k).set k ((addSet s v k).getD k 0 + v.list.getD k 0)) := rfl
          generalize v.list.getD k 0 = y at x1 E
          generalize (addSet s v k).getD k 0 = z at k1 E
          have p1 := wrap_add_bv z y
          have p2 := add_bv z y
          generalize z + y = zy at p1 p2 E
          go_wp2
          go_region
          all_goals go_wp2
          refine ⟨⟨k + 1, by omega, by go_num, ?_, (rv.setOther _ _ (by simp; omega)).drew, (rz.setOther _ _ (by simp; omega)).drew, (bb.setCell (Nat.le_refl _) _).drew⟩, by simp [intOf]; omega⟩
          have R := r0.set k (.int .u32 (zy.toNat : Int))
          rw [map_set_U, <- E.out] at R
          exact R.drew
        · obtain rfl : k = 8 := by omega
          clear hlt hk
          rw [addSet_all] at r0
          have e9 : s.add v = comp s bs := by rw [hv.out, <- HW.out, H.out]; rfl
          rw [e9] at r0
          clear e9 hv rv
          go_wp2_with (first | (refine wpList_load_Row rfl 96 _ rfl _ _ _ r0 rfl _ Tryd.underlying96 rfl (by kernel_rfl) ?_) | (refine wpList_store_Row rfl 96 _ _ rfl _ _ 0 _ _ rz (by simp [S8.list_len]) rfl rfl (by kernel_rfl) (U_one _) ?_; intro w3 hr2 hs2))
          have hr3 := row_whole hr2 (by simp [S8.list_len])
          exact bodyPost_ret_by (results_Row Tryd.results45 _ w3 (N + 1 + 1) 96 _ _ rfl hr3 Tryd.underlying96 rfl (by kernel_rfl)) rfl ⟨rfl, by rw [hNN]; exact hs2.below bb (by omega)⟩
end Go.Proofs.YtplpoehfdhkhmaaDoor


namespace Go.Proofs.YtplpoehfdhkhmaaDoor
open Go.RowKit

theorem Tryd.info5 : (Tryd.prog.info? 5).map (fun i => (i.zero, i.size, i.bytes)) = some (some (.int .u8 0), 1, 1) := by kernel_rfl

/-- The slice value holds these bytes. -/
def IsB (w : World) (ao : Option Addr) (m : List By) : Prop :=
  m = [] ∨ ∃ B off, ao = some ⟨B, off, none⟩ /\ ∀ j v, m[j]? = some v -> w.cell? ⟨B, off + j, none⟩ = some (B8 v)

theorem map_B8_one (x : By) : ([x].map B8) = [.int .u8 (x.toNat : Int)] := rfl

/-- What the walk knows of the row that it appends to. -/
def Own (N : Nat) (w : World) (v : Value) (m : List By) : Prop := w.ownsRow N 5 1 v m.length (m.map B8) /\ N <= w.heap.size

theorem Own.grow {N : Nat} {w w1 : World} {v : Value} {m : List By} {x : By} (h : Own N w v m) {v' : Value} {n' : Nat} {o : Obj} (hn : n' = m.length + 1)
    (ho : w1.ownsRow N 5 1 v' n' (m.map B8 ++ [.int .u8 (x.toNat : Int)])) (hg : (w.alloc o).grownBy w1 v.ownBlock) : Own N w1 v' (m ++ [x]) := by
  refine ⟨?_, ?_⟩
  · have e : (m ++ [x]).length = n' := by simp [hn]
    rw [e, List.map_append, map_B8_one]
    exact ho
  · have := hg.size; have h2 := h.2; simp at this; omega
theorem Own.below {N : Nat} {a w w1 : World} {v : Value} {m : List By} {o : Obj} (h : Own N w v m) (hb : Below N a w) (hg : (w.alloc o).grownBy w1 v.ownBlock) : Below N a w1 :=
  (hb.alloc h.2 o).grown hg (by have := h.2; simp; omega) (fun k hk => (h.1.lt k hk).1)

set_option maxRecDepth 100000 in
theorem wpList_append_IsB {ops : Array Oper} {rest : List Oper} {o : Oper} {a : Act} {w : World} {Q : Exit -> Act -> World -> Prop} (hgd : o.guard = none) (s x : Operand)
    (ho : o.op = .call { callee := .builtin .append, args := #[s, x], argTypes := #[23, 23] })
    (ao : Option Addr) (cap n : Nat) (m : List By) (hn : n = m.length) (hs : a.eval s = .slice none 0 0) (hx : a.eval x = .slice ao n cap) (hb : IsB w ao m) (hcap : ao = none -> cap = 0) (hm : m.length <= 140737488353280)
    (h : ∀ v' w', Own w.heap.size w' v' m -> Below w.heap.size w w' -> wpList Tryd.prog ops Q rest (a.put o.dst v') w') : wpList Tryd.prog ops Q (o :: rest) a w := by
  obtain ⟨i0, hi, hz0, hz1, hz2⟩ := info_parts Tryd.info5
  subst hn
  rcases hb with rfl | ⟨B, off, rfl, hc⟩
  · cases ao with
    | none =>
      rw [hcap rfl] at hx
      exact wpList_append_own_none hgd s x 23 ho w.heap.size 5 i0 1 Tryd.underlying23 hi _ 0 [] hs (World.ownsRow_nil _ _ _ _) hx (h _ _ ⟨World.ownsRow_nil _ _ _ _, Nat.le_refl _⟩ (Below.refl _ _))
    | some ad =>
      refine wpList_append_own w hgd s x 23 ho w.heap.size 5 i0 (.int .u8 0) 1 1 Tryd.underlying23 hi hz0 hz1 hz2 rfl (by decide) _ 0 [] hs (World.ownsRow_nil _ _ _ _) ad 0 cap [] hx (by simp) (by simp) (by simp) (by unfold maxLen; omega) (by omega) (Nat.le_refl _) ?_
      intro v' w' h1 h2 _
      exact h v' w' ⟨by simpa using h1, h2.size⟩ ((Below.refl _ _).grown h2 (Nat.le_refl _) (fun k hk => by cases hk))
  · refine wpList_append_own w hgd s x 23 ho w.heap.size 5 i0 (.int .u8 0) 1 1 Tryd.underlying23 hi hz0 hz1 hz2 rfl (by decide) _ 0 [] hs (World.ownsRow_nil _ _ _ _) _ m.length cap (m.map B8) hx (by simp) ?_ (B8_one m) ?_ ?_ (Nat.le_refl _) ?_
    · intro j u hu
      rw [Addr.add_mid]
      rw [List.getElem?_map] at hu
      cases hj : m[j]? with
      | none => rw [hj] at hu; cases hu
      | some v => rw [hj] at hu; injection hu with hu; subst hu; exact hc j v hj
    · unfold maxLen; omega
    · omega
    · intro v' w' h1 h2 _
      refine h v' w' ⟨by simpa using h1, ?_⟩ ?_
      · exact h2.size
      · exact (Below.refl _ _).grown h2 (Nat.le_refl _) (fun k hk => by cases hk)

set_option maxRecDepth 100000 in
theorem wpList_append_one {ops : Array Oper} {rest : List Oper} {o : Oper} {a : Act} {w : World} {Q : Exit -> Act -> World -> Prop} (hgd : o.guard = none) (s x : Operand)
    (ho : o.op = .call { callee := .builtin .append, args := #[s, x], argTypes := #[23, 23] })
    (N t : Nat) (a0 : World) (v : Value) (m : List By) (y : By) (yy : Int) (hyy : yy = (y.toNat : Int)) (g0 : Nat) (hg0 : g0 = w.heap.size) (hs : a.eval s = v) (hx : a.eval x = .slice (some ⟨g0, 0, none⟩) 1 1)
    (hown : Own N w v m) (hbel : Below N a0 w) (n : Nat) (hn : m.length = n) (hm : n < 140737488355328)
    (h : ∀ g cap w', Own N w' (.slice (some ⟨g, 0, none⟩) (n + 1) cap) (m ++ [y]) -> Below N a0 w' -> wpList Tryd.prog ops Q rest (a.put o.dst (.slice (some ⟨g, 0, none⟩) (n + 1) cap)) w') :
    wpList Tryd.prog ops Q (o :: rest) a (w.alloc (.cells #[.int .u8 yy] t)) := by
  obtain ⟨i0, hi, hz0, hz1, hz2⟩ := info_parts Tryd.info5
  subst hyy
  subst hg0
  subst hn
  refine wpList_append_lies (P := Tryd.prog) _ hgd s x 23 ho N 5 i0 (.int .u8 0) 1 1 Tryd.underlying23 hi hz0 hz1 hz2 rfl (by decide) v m.length (m.map B8) hs (hown.1.alloc _) ⟨w.heap.size, 0, none⟩ 1 1 [.int .u8 (y.toNat : Int)] hx rfl (cell_one_new _ _ _) ?_ (by decide) ?_ ?_ ?_ (w.heap.size + 1) (by simp) ?_
  · intro u hu; simp at hu; subst hu; rfl
  · unfold maxLen; omega
  · omega
  · have := hown.2; simp; omega
  · intro g cap w' h1 h2 _ _
    exact h g cap w' (hown.grow rfl h1 h2) (hown.below hbel h2)

def slen : Value -> Nat
  | .slice _ n _ => n
  | _ => 0

set_option maxHeartbeats 1000000 in
set_option maxRecDepth 100000 in
theorem padded_any (ao : Option Addr) (cap : Nat) (m : List By) (w : World) (hb : IsB w ao m) (hcap : ao = none -> cap = 0) (hm : m.length <= 140737488353280) :
    Calls Tryd.prog 42 #[.slice ao m.length cap] w fun e w' => ∃ v, e = .returned v /\ Own w.heap.size w' v (pad m) /\ Below w.heap.size w w' := by
  obtain ⟨ml, hml⟩ : ∃ n, n = m.length := ⟨_, rfl⟩
  rw [<- hml]
  have HM : Hid (ml = m.length) := hml
  have hm1 : ml <= 140737488353280 := by omega
  clear hml
  go_enter Tryd.func42, Tryd.ntmps42
  go_wp2_with (first | (at_builtin; refine wpList_append_IsB rfl (.const _) (.tmp 6) rfl ao cap ml m HM.out rfl rfl hb hcap hm ?_; intro v1 w1 ho1 hb1) | (at_builtin; refine wpList_append_one rfl (.tmp 8) (.tmp 9) rfl w.heap.size _ w _ m 128#8 _ rfl _ rfl rfl rfl ho1 hb1 ml HM.out.symm (by omega) ?_; intro g2 c2 w2 ho2 hb2))
  go_loopw [3] (fun v wr => ∃ z g c n : Nat, z <= zerosOf ml /\ Hid (n = ml + 1 + z) /\ v = .slice (some ⟨g, 0, none⟩) n c /\ Own w.heap.size wr (.slice (some ⟨g, 0, none⟩) n c) (m ++ 128#8 :: List.replicate z 0) /\ Below w.heap.size w wr)
    (fun v _ => ml + 65 - slen v)
  case atStart => exact ⟨0, g2, c2, ml + 1, by omega, rfl, rfl, ho2, hb2⟩
  case round =>
    clear ho2 hb2 ho1 hb1
    obtain ⟨z, g, c, n, hz, hn, rfl, ho, hbl⟩ := hrel
    have hzb : zerosOf ml < 64 := by unfold zerosOf; omega
    have hn1 := hn.out
    by_cases hlt : z < zerosOf ml
    · have ht : (((n : Int) % 64) != 56) = true := by
        rw [bne_iff_ne]; unfold zerosOf at hlt; omega
      have hn0 : n < 140737488355328 := by omega
      have hL : (m ++ 128#8 :: List.replicate z 0).length = n := by have := HM.out; simp; omega
      have e : Hid (m ++ 128#8 :: List.replicate (z + 1) 0 = (m ++ 128#8 :: List.replicate z 0) ++ [0#8]) := by
        show _ = _
        rw [List.replicate_succ']; simp
      generalize m ++ 128#8 :: List.replicate z 0 = L at ho e hL
      have hHL : Hid (L.length = n) := hL
      clear hL hn1
      go_wp2_with (at_builtin; refine wpList_append_one rfl (.tmp 15) (.tmp 16) rfl w.heap.size _ w _ L 0#8 _ rfl _ rfl rfl rfl ho hbl n hHL.out hn0 ?_; intro g3 c3 w3 ho3 hb3)
      refine ⟨⟨z + 1, g3, c3, n + 1, by omega, ?_, rfl, ?_, hb3⟩, ?_⟩
      · show _ = _
        rw [hn.out]; omega
      · rw [e.out]; exact ho3
      · have := hn.out; simp [slen]; omega
    · obtain rfl : z = zerosOf ml := by omega
      have ht : (((n : Int) % 64) != 56) = false := by
        rw [bne_eq_false_iff_eq]; unfold zerosOf at hn1; omega
      clear hn1 hlt
      have q1 : 8 * (ml : Int) < 18446744073709551616 := by omega
      go_wp2
      generalize hMM : m ++ 128#8 :: List.replicate (zerosOf ml) 0 = M at ho
      have hML : Hid (M.length = n) := by show _ = _; rw [<- hMM]; have := HM.out; have := hn.out; simp; omega
      have HMM : Hid (m ++ 128#8 :: List.replicate (zerosOf ml) 0 = M) := hMM
      clear hMM
      go_loopw [3, 5] (fun v i wr => ∃ j g c n : Nat, j <= 8 /\ i = .int .i64 ((j : Int) - 1) /\ Hid (n = M.length + (8 - j)) /\ v = .slice (some ⟨g, 0, none⟩) n c /\ Own w.heap.size wr (.slice (some ⟨g, 0, none⟩) n c) (M ++ (lenBytes ml).take (8 - j)) /\ Below w.heap.size w wr)
        (fun _ i _ => (intOf i + 1).toNat)
      case atStart => exact ⟨8, g, c, n, by omega, rfl, hML.out.symm, rfl, by simpa using ho, hbl⟩
      case round =>
        clear ho hbl
        obtain ⟨j, g, c, n', hk, rfl, hn', rfl, ho, hbl⟩ := hrel
        by_cases hlt : 0 < j
        · obtain ⟨k, rfl⟩ : ∃ k, j = k + 1 := ⟨j - 1, by omega⟩
          have ej : ((k + 1 : Nat) : Int) - 1 = (k : Int) := by omega
          rw [ej]
          clear ej hlt
          have hn2 : n' < 140737488355328 := by have := hn'.out; have := hML.out; have := hn.out; omega
          have hLL : Hid ((M ++ (lenBytes ml).take (8 - (k + 1))).length = n') := by
            have := hn'.out
            show _ = _
            simp [lenBytes]; omega
          have hk8 : k = 0 ∨ k = 1 ∨ k = 2 ∨ k = 3 ∨ k = 4 ∨ k = 5 ∨ k = 6 ∨ k = 7 := by omega
          clear hk
          rcases hk8 with rfl | rfl | rfl | rfl | rfl | rfl | rfl | rfl
          · have e : Hid (M ++ (lenBytes ml).take (8 - 0) = (M ++ (lenBytes ml).take (8 - (0 + 1))) ++ [BitVec.ofNat 8 (8 * ml)]) := by
              show _ = _
              simp [lenBytes]
            generalize M ++ (lenBytes ml).take (8 - (0 + 1)) = L at ho hLL e
            go_wp2_with (at_builtin; refine wpList_append_one rfl (.tmp 26) (.tmp 32) rfl w.heap.size _ w _ L (BitVec.ofNat 8 (8 * ml)) _ (by simp only [BitVec.toNat_ofNat]; omega) _ rfl rfl rfl ho hbl n' hLL.out hn2 ?_; intro g3 c3 w3 ho3 hb3)
            refine ⟨⟨0, g3, c3, n' + 1, by omega, rfl, ?_, rfl, ?_, hb3⟩, by simp [intOf]⟩
            · show _ = _
              rw [hn'.out]
            · rw [e.out]; exact ho3
          · have e : Hid (M ++ (lenBytes ml).take (8 - 1) = (M ++ (lenBytes ml).take (8 - (1 + 1))) ++ [BitVec.ofNat 8 (8 * ml / 256)]) := by
              show _ = _
              simp [lenBytes]
            generalize M ++ (lenBytes ml).take (8 - (1 + 1)) = L at ho hLL e
            go_wp2_with (at_builtin; refine wpList_append_one rfl (.tmp 26) (.tmp 32) rfl w.heap.size _ w _ L (BitVec.ofNat 8 (8 * ml / 256)) _ (by simp only [BitVec.toNat_ofNat]; omega) _ rfl rfl rfl ho hbl n' hLL.out hn2 ?_; intro g3 c3 w3 ho3 hb3)
            refine ⟨⟨1, g3, c3, n' + 1, by omega, rfl, ?_, rfl, ?_, hb3⟩, by simp [intOf]⟩
            · show _ = _
              rw [hn'.out]
            · rw [e.out]; exact ho3
          · have e : Hid (M ++ (lenBytes ml).take (8 - 2) = (M ++ (lenBytes ml).take (8 - (2 + 1))) ++ [BitVec.ofNat 8 (8 * ml / 65536)]) := by
              show _ = _
              simp [lenBytes]
            generalize M ++ (lenBytes ml).take (8 - (2 + 1)) = L at ho hLL e
            go_wp2_with (at_builtin; refine wpList_append_one rfl (.tmp 26) (.tmp 32) rfl w.heap.size _ w _ L (BitVec.ofNat 8 (8 * ml / 65536)) _ (by simp only [BitVec.toNat_ofNat]; omega) _ rfl rfl rfl ho hbl n' hLL.out hn2 ?_; intro g3 c3 w3 ho3 hb3)
            refine ⟨⟨2, g3, c3, n' + 1, by omega, rfl, ?_, rfl, ?_, hb3⟩, by simp [intOf]⟩
            · show _ = _
              rw [hn'.out]
            · rw [e.out]; exact ho3
          · have e : Hid (M ++ (lenBytes ml).take (8 - 3) = (M ++ (lenBytes ml).take (8 - (3 + 1))) ++ [BitVec.ofNat 8 (8 * ml / 16777216)]) := by
              show _ = _
              simp [lenBytes]
            generalize M ++ (lenBytes ml).take (8 - (3 + 1)) = L at ho hLL e
            go_wp2_with (at_builtin; refine wpList_append_one rfl (.tmp 26) (.tmp 32) rfl w.heap.size _ w _ L (BitVec.ofNat 8 (8 * ml / 16777216)) _ (by simp only [BitVec.toNat_ofNat]; omega) _ rfl rfl rfl ho hbl n' hLL.out hn2 ?_; intro g3 c3 w3 ho3 hb3)
            refine ⟨⟨3, g3, c3, n' + 1, by omega, rfl, ?_, rfl, ?_, hb3⟩, by simp [intOf]⟩
            · show _ = _
              rw [hn'.out]
            · rw [e.out]; exact ho3
          · have e : Hid (M ++ (lenBytes ml).take (8 - 4) = (M ++ (lenBytes ml).take (8 - (4 + 1))) ++ [BitVec.ofNat 8 (8 * ml / 4294967296)]) := by
              show _ = _
              simp [lenBytes]
            generalize M ++ (lenBytes ml).take (8 - (4 + 1)) = L at ho hLL e
            go_wp2_with (at_builtin; refine wpList_append_one rfl (.tmp 26) (.tmp 32) rfl w.heap.size _ w _ L (BitVec.ofNat 8 (8 * ml / 4294967296)) _ (by simp only [BitVec.toNat_ofNat]; omega) _ rfl rfl rfl ho hbl n' hLL.out hn2 ?_; intro g3 c3 w3 ho3 hb3)
            refine ⟨⟨4, g3, c3, n' + 1, by omega, rfl, ?_, rfl, ?_, hb3⟩, by simp [intOf]⟩
            · show _ = _
              rw [hn'.out]
            · rw [e.out]; exact ho3
          · have e : Hid (M ++ (lenBytes ml).take (8 - 5) = (M ++ (lenBytes ml).take (8 - (5 + 1))) ++ [BitVec.ofNat 8 (8 * ml / 1099511627776)]) := by
              show _ = _
              simp [lenBytes]
            generalize M ++ (lenBytes ml).take (8 - (5 + 1)) = L at ho hLL e
            go_wp2_with (at_builtin; refine wpList_append_one rfl (.tmp 26) (.tmp 32) rfl w.heap.size _ w _ L (BitVec.ofNat 8 (8 * ml / 1099511627776)) _ (by simp only [BitVec.toNat_ofNat]; omega) _ rfl rfl rfl ho hbl n' hLL.out hn2 ?_; intro g3 c3 w3 ho3 hb3)
            refine ⟨⟨5, g3, c3, n' + 1, by omega, rfl, ?_, rfl, ?_, hb3⟩, by simp [intOf]⟩
            · show _ = _
              rw [hn'.out]
            · rw [e.out]; exact ho3
          · have e : Hid (M ++ (lenBytes ml).take (8 - 6) = (M ++ (lenBytes ml).take (8 - (6 + 1))) ++ [BitVec.ofNat 8 (8 * ml / 281474976710656)]) := by
              show _ = _
              simp [lenBytes]
            generalize M ++ (lenBytes ml).take (8 - (6 + 1)) = L at ho hLL e
            go_wp2_with (at_builtin; refine wpList_append_one rfl (.tmp 26) (.tmp 32) rfl w.heap.size _ w _ L (BitVec.ofNat 8 (8 * ml / 281474976710656)) _ (by simp only [BitVec.toNat_ofNat]; omega) _ rfl rfl rfl ho hbl n' hLL.out hn2 ?_; intro g3 c3 w3 ho3 hb3)
            refine ⟨⟨6, g3, c3, n' + 1, by omega, rfl, ?_, rfl, ?_, hb3⟩, by simp [intOf]⟩
            · show _ = _
              rw [hn'.out]
            · rw [e.out]; exact ho3
          · have e : Hid (M ++ (lenBytes ml).take (8 - 7) = (M ++ (lenBytes ml).take (8 - (7 + 1))) ++ [BitVec.ofNat 8 (8 * ml / 72057594037927936)]) := by
              show _ = _
              simp [lenBytes]
            generalize M ++ (lenBytes ml).take (8 - (7 + 1)) = L at ho hLL e
            go_wp2_with (at_builtin; refine wpList_append_one rfl (.tmp 26) (.tmp 32) rfl w.heap.size _ w _ L (BitVec.ofNat 8 (8 * ml / 72057594037927936)) _ (by simp only [BitVec.toNat_ofNat]; omega) _ rfl rfl rfl ho hbl n' hLL.out hn2 ?_; intro g3 c3 w3 ho3 hb3)
            refine ⟨⟨7, g3, c3, n' + 1, by omega, rfl, ?_, rfl, ?_, hb3⟩, by simp [intOf]⟩
            · show _ = _
              rw [hn'.out]
            · rw [e.out]; exact ho3
        · obtain rfl : j = 0 := by omega
          clear hlt hk
          go_wp2
          go_ret
          refine ⟨_, rfl, ?_, hbl⟩
          have e : pad m = M ++ (lenBytes ml).take (8 - 0) := by
            rw [<- HMM.out, HM.out]; simp [pad, ending, lenBytes]
          rw [e]
          exact ho
end Go.Proofs.YtplpoehfdhkhmaaDoor
