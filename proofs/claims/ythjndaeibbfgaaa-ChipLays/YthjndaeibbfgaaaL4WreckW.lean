import Derived.Test.YthjndaeibbfgaaaL4WreckL
/-! wreck: the walk. (Printed by tools/genwreck.py.) -/
namespace Go.Proofs.Ythjndaeibbfgaaa
open Go.RowKit

theorem lens_ok (k g bytes : Nat) (h : (k + 3) * bytes ≤ 140737488355328) (hg : g < 3) (hb : 1 ≤ bytes) : k + g + 1 ≤ maxLen ∧ (k + g + 1) * bytes ≤ 140737488355328 := by
  have h1 : (k + g + 1) * bytes ≤ (k + 3) * bytes := Nat.mul_le_mul_right _ (by omega)
  have h2 : (k + g + 1) * 1 ≤ (k + g + 1) * bytes := Nat.mul_le_mul_left _ hb
  refine ⟨?_, by omega⟩
  unfold maxLen
  omega

def cellN (b : By) : List By := b :: List.replicate 31 0#8

set_option maxHeartbeats 600000 in
set_option maxRecDepth 100000 in
theorem wreck_any (w : World) (L : List Nat) (np ne nb : Nat) (po : Option Addr) (pc : Nat) (qs : List Pg) (eB ec bB bc : Nat) (hs : WS w L np po qs eB bB)
    (op : OS w po np pc 57 1) (hd : ∀ j q B, qs[j]? = some q → po = some ⟨B, 0, none⟩ → w.cell? ⟨B, j, none⟩ = some (pgV q)) (og : ∀ (j : Nat) (q : Pg), qs[j]? = some q → OS w (some ⟨q.1, 0, none⟩) q.2.1 q.2.2 49 32) (oe : OS w (some ⟨eB, 0, none⟩) ne ec 3 1) (ob : ∃ bs : List Bool, bs.length = nb ∧ Pre w bB 4 (bs.map Value.bool)) (obs : OS w (some ⟨bB, 0, none⟩) nb bc 4 1)
    (l0 : (np + 3) * 24 ≤ 140737488355328) (l1 : (ne + 3) * 8 ≤ 140737488355328) (l2 : nb + 3 ≤ 140737488355328) (l3 : ∀ q ∈ qs, (q.2.1 + 3) * 32 ≤ 140737488355328) :
    Calls Try.prog 15 #[.agg #[.slice po np pc, .slice (some ⟨eB, 0, none⟩) ne ec, .slice (some ⟨bB, 0, none⟩) nb bc]] w fun e w' => e = .returned (.tuple #[]) ∧ KeptL L w w' := by
  have HS : Hid (WS w L np po qs eB bB) := hs
  obtain ⟨W1, hW1⟩ : ∃ W1, W1 = w.alloc (.cells #[.slice po np pc, .slice (some ⟨eB, 0, none⟩) ne ec, .slice (some ⟨bB, 0, none⟩) nb bc] 40) := ⟨_, rfl⟩
  have HW1 : Hid (WI w L [.slice po np pc, .slice (some ⟨eB, 0, none⟩) ne ec, .slice (some ⟨bB, 0, none⟩) nb bc] np ne nb po pc qs eB ec bB bc 0 W1) := by
    rw [hW1]
    have bl : Below w.heap.size w (w.alloc (.cells #[.slice po np pc, .slice (some ⟨eB, 0, none⟩) ne ec, .slice (some ⟨bB, 0, none⟩) nb bc] 40)) := (Below.refl _ _).alloc (Nat.le_refl _) _
    refine ⟨(KeptL.refl _ _).below bl (Nat.le_refl _), Row.at _ _ _ _ _ rfl rfl, op.keep fun g hg => bl.block g (op.lt g hg), fun j q B _ hq hB => ?_, fun j q _ hq => (og j q hq).keep fun g hg => bl.block g ((og j q hq).lt g hg), oe.keep fun g hg => bl.block g (oe.lt g hg), ?_, obs.keep fun g hg => bl.block g (obs.lt g hg)⟩
    · rw [bl.cell (World.block_lt_of_cell? _ _ (hd j q B hq hB))]; exact hd j q B hq hB
    · obtain ⟨bs, h1, h2⟩ := ob
      exact ⟨bs, h1, h2.of_block (bl.block _ h2.lt)⟩
  have HL0 : Hid ((np + 3) * 24 ≤ 140737488355328) := l0
  have HL1 : Hid ((ne + 3) * 8 ≤ 140737488355328) := l1
  have HL2 : Hid ((nb + 3) * 1 ≤ 140737488355328) := by show _ ≤ _; omega
  have HL3 : Hid (∀ q ∈ qs, (q.2.1 + 3) * 32 ≤ 140737488355328) := l3
  have hc7 : ∀ b : By, (cellN b).length = 32 := fun b => by simp [cellN]
  have HROW8 : Hid (∀ W : World, Row (W.alloc (.cells #[.int .u8 8, .int .u8 0, .int .u8 0, .int .u8 0, .int .u8 0, .int .u8 0, .int .u8 0, .int .u8 0, .int .u8 0, .int .u8 0, .int .u8 0, .int .u8 0, .int .u8 0, .int .u8 0, .int .u8 0, .int .u8 0, .int .u8 0, .int .u8 0, .int .u8 0, .int .u8 0, .int .u8 0, .int .u8 0, .int .u8 0, .int .u8 0, .int .u8 0, .int .u8 0, .int .u8 0, .int .u8 0, .int .u8 0, .int .u8 0, .int .u8 0, .int .u8 0] 49)) W.heap.size 49 ((cellN 8#8).map B8)) := fun W => by
    have e : (#[.int .u8 8, .int .u8 0, .int .u8 0, .int .u8 0, .int .u8 0, .int .u8 0, .int .u8 0, .int .u8 0, .int .u8 0, .int .u8 0, .int .u8 0, .int .u8 0, .int .u8 0, .int .u8 0, .int .u8 0, .int .u8 0, .int .u8 0, .int .u8 0, .int .u8 0, .int .u8 0, .int .u8 0, .int .u8 0, .int .u8 0, .int .u8 0, .int .u8 0, .int .u8 0, .int .u8 0, .int .u8 0, .int .u8 0, .int .u8 0, .int .u8 0, .int .u8 0] : Array Value) = ((cellN 8#8).map B8).toArray := rfl
    rw [e]
    exact Row.at _ _ _ _ _ rfl rfl
  clear op hd og oe ob obs l0 l1 l2 l3 hs
  go_enter Try.func15, Try.ntmps15
  go_wp2
  rw [← hW1]
  clear hW1
  go_loopw [2] (fun iv wr => ∃ i : Nat, i ≤ np ∧ iv = .int .i64 i ∧ Hid (WI w L [.slice po np pc, .slice (some ⟨eB, 0, none⟩) ne ec, .slice (some ⟨bB, 0, none⟩) nb bc] np ne nb po pc qs eB ec bB bc i wr)) (fun iv _ => np - (intOf iv).toNat)
  case atStart => exact ⟨0, by omega, rfl, HW1⟩
  case round =>
    clear HW1
    obtain ⟨i, hi, rfl, hwi⟩ := hrel
    have c0 := hwi.out.rs.cell 0 _ rfl
    by_cases hlt : i < np
    · have y0 : (0 : Int) ≤ (i : Int) := by omega
      have y1 : (i : Int) < (np : Int) := by omega
      obtain ⟨pB, hpo⟩ : ∃ B, po = some ⟨B, 0, none⟩ := by
        rcases hwi.out.op.form with ⟨_, h2, _⟩ | h
        · omega
        · exact h
      have hiq : i < qs.length := by rw [HS.out.len]; exact hlt
      obtain ⟨q, hq⟩ : ∃ q, qs[i]? = some q := ⟨_, List.getElem?_eq_getElem hiq⟩
      have ch := hwi.out.hd i q pB (Nat.le_refl _) hq hpo
      obtain ⟨Q, n, qc⟩ := q
      have ch' : wr.cell? ⟨pB, i, none⟩ = some (.slice (some ⟨Q, 0, none⟩) n qc) := ch
      have hqL := HL3.out (Q, n, qc) (List.mem_of_getElem? hq)
      have HQL : Hid ((n + 3) * 32 ≤ 140737488355328) := hqL
      have hnb : n ≤ 4398046511104 := by have h1 : (n + 3) * 32 ≤ 140737488355328 := hqL; omega
      have hib : i ≤ 5864062014806 := by have h1 := HL0.out; omega
      have HQ : Hid (qs[i]? = some (Q, n, qc)) := hq
      have HPO : Hid (po = some ⟨pB, 0, none⟩) := hpo
      clear ch hqL hq hiq
      rw [hpo] at c0 ⊢
      clear hpo
      go_wp2
      go_loopw [4] (fun kv wq => ∃ k : Nat, k ≤ n ∧ kv = .int .i64 k ∧ Hid (WI w L [.slice po np pc, .slice (some ⟨eB, 0, none⟩) ne ec, .slice (some ⟨bB, 0, none⟩) nb bc] np ne nb po pc qs eB ec bB bc i wq)) (fun kv _ => n - (intOf kv).toNat)
      case atStart => exact ⟨0, by omega, rfl, hwi⟩
      case round =>
        clear hwi c0 ch'
        obtain ⟨k, hk, rfl, hwi⟩ := hrel
        by_cases hkl : k < n
        · have z0 : (0 : Int) ≤ (k : Int) := by omega
          have z1 : (k : Int) < (n : Int) := by omega
          obtain ⟨cs, hr, hl, hn1, hmx⟩ := (hwi.out.og i (Q, n, qc) (Nat.le_refl _) HQ.out).row
          have hr' : Row wr Q 49 cs := hr
          have hl' : cs.length = qc * 32 := hl
          have hn1' : n ≤ qc := hn1
          have hmx' : qc ≤ maxLen := hmx
          clear hr hl hn1 hmx
          go_wp2_with (refine wpList_store_Row rfl 49 _ _ rfl Q 49 (k * 32) cs ((cellN 7#8).map B8) hr' (by rw [List.length_map, hc7, hl']; omega) rfl rfl (by rw [List.length_map, hc7]; kernel_rfl) (B8_one _) ?_; intro w3 hr3 hs3)
          have hw3 : Hid (WI w L [.slice po np pc, .slice (some ⟨eB, 0, none⟩) ne ec, .slice (some ⟨bB, 0, none⟩) nb bc] np ne nb po pc qs eB ec bB bc i w3) := hwi.out.page HS.out (Q, n, qc) HQ.out hs3 (OS.of_row hr3 (by simp only [List.length_append, List.length_take, List.length_drop, List.length_map, hc7]; omega) hn1' hmx')
          clear hr3 hs3 hr' hwi
          exact ⟨⟨k + 1, by omega, by go_num, hw3⟩, by simp [intOf]; omega⟩
        · obtain rfl : k = n := by omega
          have z1 : ¬ (k : Int) < (k : Int) := by omega
          have hos := hwi.out.og i (Q, k, qc) (Nat.le_refl _) HQ.out
          have HOS : Hid (OS wr (some ⟨Q, 0, none⟩) k qc 49 32) := hos
          have hw2 : Hid (WI w L [.slice po np pc, .slice (some ⟨eB, 0, none⟩) ne ec, .slice (some ⟨bB, 0, none⟩) nb bc] np ne nb po pc qs eB ec bB bc (i + 1) wr) := hwi.out.next
          clear hos hwi hkl hk
          go_wp2
          go_loopw [3, 5] (fun lv gv wq => ∃ (g : Nat) (ao : Option Addr) (c : Nat), g ≤ 3 ∧ gv = .int .i64 g ∧ lv = .slice ao (k + g) c ∧ Hid (OS wq ao (k + g) c 49 32) ∧ Hid (∀ b, ao = some ⟨b, 0, none⟩ → b = Q ∨ w.heap.size < b) ∧ Hid (WI w L [.slice po np pc, .slice (some ⟨eB, 0, none⟩) ne ec, .slice (some ⟨bB, 0, none⟩) nb bc] np ne nb po pc qs eB ec bB bc (i + 1) wq)) (fun _ gv _ => 3 - (intOf gv).toNat)
          case atStart => exact ⟨0, _, _, by omega, rfl, rfl, HOS, (fun b hb => by injection hb with hb; injection hb with hb; exact .inl hb.symm : ∀ b, some (⟨Q, 0, none⟩ : Addr) = some ⟨b, 0, none⟩ → b = Q ∨ w.heap.size < b), hw2⟩
          case round =>
            clear HOS hw2
            obtain ⟨g, ao, c, hg, rfl, rfl, hos, hao, hwi⟩ := hrel
            by_cases hgl : g < 3
            · have x0 : (0 : Int) ≤ (g : Int) := by omega
              have x1 : (g : Int) < 3 := by omega
              have M1 : Hid (k + g + 1 ≤ maxLen) := (lens_ok k g 32 HQL.out hgl (by decide)).1
              have M2 : Hid ((k + g + 1) * 32 ≤ 140737488355328) := (lens_ok k g 32 HQL.out hgl (by decide)).2
              go_wp2_with (at_builtin; refine wpList_append_os el_cells rfl (.tmp 38) (.tmp 40) rfl ao (k + g) c rfl (hos.out.keep fun b hb => (Below.heap_alloc wr _ b (hos.out.lt b hb))) wr.heap.size 1 49 ((cellN 8#8).map B8) rfl (by rw [List.length_map, hc7]) (HROW8.out wr) (B8_one _) M1.out M2.out ?_; intro ao2 c2 w3 q1 q2 q3 q4 q5 q6 q7)
              have hwn : Hid (WI w L [.slice po np pc, .slice (some ⟨eB, 0, none⟩) ne ec, .slice (some ⟨bB, 0, none⟩) nb bc] np ne nb po pc qs eB ec bB bc (i + 1) w3) := by
                have a1 := hwi.out.other HS.out (wr.heap.size) (.inr (by have := hwi.out.rs.lt; omega)) (W' := wr.alloc (.cells #[.int .u8 8, .int .u8 0, .int .u8 0, .int .u8 0, .int .u8 0, .int .u8 0, .int .u8 0, .int .u8 0, .int .u8 0, .int .u8 0, .int .u8 0, .int .u8 0, .int .u8 0, .int .u8 0, .int .u8 0, .int .u8 0, .int .u8 0, .int .u8 0, .int .u8 0, .int .u8 0, .int .u8 0, .int .u8 0, .int .u8 0, .int .u8 0, .int .u8 0, .int .u8 0, .int .u8 0, .int .u8 0, .int .u8 0, .int .u8 0, .int .u8 0, .int .u8 0] 49)) rfl rfl rfl (by simp) (fun b hb _ => Below.heap_alloc wr _ b hb) (fun B hB e => by have := hwi.out.op.lt B hB; omega) (fun e => by have := hwi.out.oe.lt _ rfl; omega) (fun e => by have := hwi.out.obs.lt _ rfl; omega) (fun j q hj hq e => by have := (hwi.out.og j q hj hq).lt _ rfl; omega)
                have hmQ : Q ∈ qs.map (·.1) := List.mem_map_of_mem (List.mem_of_getElem? HQ.out)
                have hQL : Q ∈ L := HS.out.qL _ (List.mem_of_getElem? HQ.out)
                rcases hos.out.form with ⟨rfl, _, _⟩ | ⟨b, rfl⟩
                · exact a1.other HS.out (wr.heap.size + 1) (.inr (by have := hwi.out.rs.lt; omega)) q2 q3 q4 q5 (fun k2 hk2 _ => q6 k2 hk2 (fun g hg => by cases hg)) (fun B hB e => by have := hwi.out.op.lt B hB; omega) (fun e => by have := hwi.out.oe.lt _ rfl; omega) (fun e => by have := hwi.out.obs.lt _ rfl; omega) (fun j q hj hq e => by have := (hwi.out.og j q hj hq).lt _ rfl; omega)
                · have hkeep : ∀ k2, k2 < (wr.alloc (.cells #[.int .u8 8, .int .u8 0, .int .u8 0, .int .u8 0, .int .u8 0, .int .u8 0, .int .u8 0, .int .u8 0, .int .u8 0, .int .u8 0, .int .u8 0, .int .u8 0, .int .u8 0, .int .u8 0, .int .u8 0, .int .u8 0, .int .u8 0, .int .u8 0, .int .u8 0, .int .u8 0, .int .u8 0, .int .u8 0, .int .u8 0, .int .u8 0, .int .u8 0, .int .u8 0, .int .u8 0, .int .u8 0, .int .u8 0, .int .u8 0, .int .u8 0, .int .u8 0] 49)).heap.size → k2 ≠ b → w3.heap[k2]? = (wr.alloc (.cells #[.int .u8 8, .int .u8 0, .int .u8 0, .int .u8 0, .int .u8 0, .int .u8 0, .int .u8 0, .int .u8 0, .int .u8 0, .int .u8 0, .int .u8 0, .int .u8 0, .int .u8 0, .int .u8 0, .int .u8 0, .int .u8 0, .int .u8 0, .int .u8 0, .int .u8 0, .int .u8 0, .int .u8 0, .int .u8 0, .int .u8 0, .int .u8 0, .int .u8 0, .int .u8 0, .int .u8 0, .int .u8 0, .int .u8 0, .int .u8 0, .int .u8 0, .int .u8 0] 49)).heap[k2]? := fun k2 hk2 hne => q6 k2 hk2 (fun g hg => by injection hg with hg; injection hg with hg; omega)
                  rcases hao.out b rfl with rfl | hb
                  · exact a1.other HS.out b (.inl hQL) q2 q3 q4 q5 hkeep (fun B hB e => (HS.out.pL B hB).2.2.2 (e ▸ hmQ)) (fun e => HS.out.eq (e ▸ hmQ)) (fun e => HS.out.bq (e ▸ hmQ)) (fun j q hj hq => nodup_at HS.out.qn hq HQ.out (by omega))
                  · exact a1.other HS.out b (.inr hb) q2 q3 q4 q5 hkeep (fun B hB e => by have := HS.out.lt B (HS.out.pL B hB).1; omega) (fun e => by have := HS.out.lt eB HS.out.eL; omega) (fun e => by have := HS.out.lt bB HS.out.bL; omega) (fun j q hj hq e => by have := HS.out.lt q.1 (HS.out.qL q (List.mem_of_getElem? hq)); omega)
              have ha2 : Hid (∀ b, ao2 = some ⟨b, 0, none⟩ → b = Q ∨ w.heap.size < b) := by
                intro b hb
                rcases q7 with e | e
                · exact hao.out b (by rw [← e]; exact hb)
                · rw [e] at hb
                  injection hb with hb
                  injection hb with hb
                  have := hwi.out.rs.lt
                  simp at hb
                  right; omega
              have hos2 : Hid (OS w3 ao2 (k + (g + 1)) c2 49 32) := q1
              clear q1 q2 q3 q4 q5 q6 q7 hos hao hwi
              exact ⟨⟨g + 1, ao2, c2, by omega, by go_num, rfl, hos2, ha2, hwn⟩, by simp [intOf]; omega⟩
            · obtain rfl : g = 3 := by omega
              have x1 : ¬ ((3 : Nat) : Int) < 3 := by omega
              have c0 := hwi.out.rs.cell 0 _ rfl
              rw [HPO.out] at c0
              have hop := hwi.out.op
              rw [HPO.out] at hop
              obtain ⟨cs, hr, hl, hn1, hmx⟩ := hop.row
              have cp : ∃ v, wr.cell? ⟨pB, i, none⟩ = some v := ⟨_, hr.cell i _ (List.getElem?_eq_getElem (by omega))⟩
              obtain ⟨v0, cp⟩ := cp
              have fp := hr.frozen i
              have hnx : Hid (WI w L [.slice po np pc, .slice (some ⟨eB, 0, none⟩) ne ec, .slice (some ⟨bB, 0, none⟩) nb bc] np ne nb po pc qs eB ec bB bc (i + 1) (wr.setCell ⟨pB, i, none⟩ (.slice none 0 0))) := hwi.out.header HS.out pB HPO.out _
              clear hr hl hn1 hmx hop hwi hos hao hgl hg
              rw [HPO.out] at hnx
              go_wp2
              exact ⟨⟨i + 1, by omega, by go_num, hnx⟩, by simp [intOf]; omega⟩
    · obtain rfl : i = np := by omega
      have y1 : ¬ (i : Int) < (i : Int) := by omega
      clear hlt hi
      have heb : ne ≤ 17592186044416 := by have h1 := HL1.out; omega
      have hbb : nb ≤ 140737488355328 := by have h1 := HL2.out; omega
      go_wp2
      clear c0
      go_loopw [6] (fun jv wq => ∃ j : Nat, j ≤ ne ∧ jv = .int .i64 j ∧ Hid (WI w L [.slice po i pc, .slice (some ⟨eB, 0, none⟩) ne ec, .slice (some ⟨bB, 0, none⟩) nb bc] i ne nb po pc qs eB ec bB bc i wq)) (fun jv _ => ne - (intOf jv).toNat)
      case atStart => exact ⟨0, by omega, rfl, hwi⟩
      case round =>
        clear hwi
        obtain ⟨j, hj, rfl, hwi⟩ := hrel
        have c1 := hwi.out.rs.cell 1 _ rfl
        by_cases hjl : j < ne
        · have z0 : (0 : Int) ≤ (j : Int) := by omega
          have z1 : (j : Int) < (ne : Int) := by omega
          obtain ⟨cs, hr, hl, hn1, hmx⟩ := hwi.out.oe.row
          have cp : ∃ v, wr.cell? ⟨eB, j, none⟩ = some v := ⟨_, hr.cell j _ (List.getElem?_eq_getElem (by omega))⟩
          obtain ⟨v0, cp⟩ := cp
          have fp := hr.frozen j
          have hnx : Hid (WI w L [.slice po i pc, .slice (some ⟨eB, 0, none⟩) ne ec, .slice (some ⟨bB, 0, none⟩) nb bc] i ne nb po pc qs eB ec bB bc i (wr.setCell ⟨eB, j, none⟩ (.int .i64 (-7)))) := hwi.out.erase HS.out j _
          clear hr hl hn1 hmx hwi
          go_wp2
          exact ⟨⟨j + 1, by omega, by go_num, hnx⟩, by simp [intOf]; omega⟩
        · obtain rfl : j = ne := by omega
          have z1 : ¬ (j : Int) < (j : Int) := by omega
          clear hjl hj
          go_wp2
          clear c1
          go_loopw [7] (fun bv wq => ∃ b : Nat, b ≤ nb ∧ bv = .int .i64 b ∧ Hid (WI w L [.slice po i pc, .slice (some ⟨eB, 0, none⟩) j ec, .slice (some ⟨bB, 0, none⟩) nb bc] i j nb po pc qs eB ec bB bc i wq)) (fun bv _ => nb - (intOf bv).toNat)
          case atStart => exact ⟨0, by omega, rfl, hwi⟩
          case round =>
            clear hwi
            obtain ⟨b, hb, rfl, hwi⟩ := hrel
            have c2 := hwi.out.rs.cell 2 _ rfl
            by_cases hbl : b < nb
            · have x0 : (0 : Int) ≤ (b : Int) := by omega
              have x1 : (b : Int) < (nb : Int) := by omega
              obtain ⟨bs, hbs1, hbs2⟩ := hwi.out.ob
              have cb : wr.cell? ⟨bB, b, none⟩ = some (.bool (bs.getD b false)) := hbs2.cell b _ (by rw [List.getElem?_map, List.getD_eq_getElem?_getD, List.getElem?_eq_getElem (by omega)]; rfl)
              have fb := hbs2.frozen b
              have HRS : Hid (Row wr w.heap.size 40 [.slice po i pc, .slice (some ⟨eB, 0, none⟩) j ec, .slice (some ⟨bB, 0, none⟩) nb bc]) := hwi.out.rs
              have hnx : Hid (∀ v : Bool, WI w L [.slice po i pc, .slice (some ⟨eB, 0, none⟩) j ec, .slice (some ⟨bB, 0, none⟩) nb bc] i j nb po pc qs eB ec bB bc i (wr.drew.setCell ⟨bB, b, none⟩ (.bool v))) := fun v => (hwi.out.dr ⟨1, rfl⟩).blow HS.out b hbl v
              generalize bs.getD b false = v at *
              clear hbs1 hbs2 hwi
              go_wp2
              refine wp_region_inv (IWrI wr.drew w.heap.size bB nb bc b v _ _ _ _ _ _ _ _ _ _ _ _ _ _ _ _ _ _ _ _ _ _ _ _ _ _ _ _ _ _ _ _ _ _ _ _ _ _ _ _ _ _ _ _ _ _ _ _ _ _ _ _ _ _ _ _ _ _ _ _ _ _ _ _ _ _ _ _ _ _ _ _ _ _ _ _ _ _ _ _ _ _ _) (by kernel_rfl) (by kernel_rfl) ⟨_, _, _, _, _, _, _, _, _, _, rfl, WrI.zero wr.drew w.heap.size bB nb bc b v _ _ _ _ _ _ _ _ _ _⟩ ?_ ?_
              · refine .cons ?_ (.cons ?_ (.cons ?_ (.cons ?_ (.cons ?_ (.cons ?_ (.cons ?_ (.cons ?_ (.cons ?_ (.cons ?_ (.cons ?_ .nil))))))))))
                all_goals (rintro L a W ⟨x64, x65, x66, x67, x68, x69, x70, x71, x72, x73, rfl, hI⟩ hL hd K hK)
                · rw [if_pos (by rfl)]
                  go_simp
                  exact hK.out _ _ ⟨_, _, _, _, _, _, _, _, _, _, rfl, hI.s0⟩
                · have hx0 := hI.p0 (hd 0 (by decide))
                  subst hx0
                  have hW := hI.w1 hL
                  subst hW
                  have c2 := HRS.out.cell 2 _ rfl
                  rw [if_pos (by rfl)]
                  go_simp
                  exact hK.out _ _ ⟨_, _, _, _, _, _, _, _, _, _, rfl, hI.s1⟩
                · rw [if_pos (by rfl)]
                  go_simp
                  exact hK.out _ _ ⟨_, _, _, _, _, _, _, _, _, _, rfl, hI.s2⟩
                · rw [if_pos (by rfl)]
                  go_simp
                  exact hK.out _ _ ⟨_, _, _, _, _, _, _, _, _, _, rfl, hI.s3⟩
                · have hx3 := hI.p3 (hd 3 (by decide))
                  subst hx3
                  have hW := hI.w4 hL
                  subst hW
                  have c2 := HRS.out.cell 2 _ rfl
                  rw [if_pos (by rfl)]
                  go_simp
                  exact hK.out _ _ ⟨_, _, _, _, _, _, _, _, _, _, rfl, hI.s4⟩
                · rw [if_pos (by rfl)]
                  go_simp
                  exact hK.out _ _ ⟨_, _, _, _, _, _, _, _, _, _, rfl, hI.s5⟩
                · have hx4 := hI.p4 (hd 4 (by decide))
                  subst hx4
                  have hx5 := hI.p5 (hd 5 (by decide))
                  subst hx5
                  rw [if_pos (by rfl)]
                  go_simp
                  exact hK.out _ _ ⟨_, _, _, _, _, _, _, _, _, _, rfl, hI.s6 (hd 4 (by decide))⟩
                · have hx6 := hI.p6 (hd 6 (by decide))
                  subst hx6
                  have hW := hI.w7 hL
                  subst hW
                  rw [if_pos (by rfl)]
                  go_simp
                  exact hK.out _ _ ⟨_, _, _, _, _, _, _, _, _, _, rfl, hI.s7 (hd 6 (by decide))⟩
                · have hx7 := hI.p7 (hd 7 (by decide))
                  subst hx7
                  rw [if_pos (by rfl)]
                  go_simp
                  exact hK.out _ _ ⟨_, _, _, _, _, _, _, _, _, _, rfl, hI.s8 (hd 7 (by decide))⟩
                · have hx1 := hI.p1 (hd 1 (by decide))
                  subst hx1
                  have hx2 := hI.p2 (hd 2 (by decide))
                  subst hx2
                  rw [if_pos (by rfl)]
                  go_simp
                  exact hK.out _ _ ⟨_, _, _, _, _, _, _, _, _, _, rfl, hI.s9 (hd 1 (by decide))⟩
                · have hx9 := hI.p9 (hd 9 (by decide))
                  subst hx9
                  have hx8 := hI.p8 (hd 8 (by decide))
                  subst hx8
                  have hW := hI.wz hL
                  subst hW
                  rw [if_pos (by rfl)]
                  go_simp
                  exact hK.out _ _ ⟨_, _, _, _, _, _, _, _, _, _, rfl, hI.s10 (hd 9 (by decide)) (hd 8 (by decide))⟩
              · rintro L a W hall ⟨x64, x65, x66, x67, x68, x69, x70, x71, x72, x73, rfl, hI⟩
                have hW := hI.wo (hall 10 (by decide))
                subst hW
                have hx0 := hI.p0 (hall 0 (by decide))
                have hx1 := hI.p1 (hall 1 (by decide))
                have hx2 := hI.p2 (hall 2 (by decide))
                have hx3 := hI.p3 (hall 3 (by decide))
                have hx4 := hI.p4 (hall 4 (by decide))
                have hx5 := hI.p5 (hall 5 (by decide))
                have hx6 := hI.p6 (hall 6 (by decide))
                have hx7 := hI.p7 (hall 7 (by decide))
                have hx8 := hI.p8 (hall 8 (by decide))
                have hx9 := hI.p9 (hall 9 (by decide))
                subst hx0 hx1 hx2 hx3 hx4 hx5 hx6 hx7 hx8 hx9
                clear hI hall
                try dsimp only
                have hn2 := (show Hid _ from hnx.out (!v))
                go_wp2
                exact ⟨⟨b + 1, by omega, by go_num, hn2⟩, by simp [intOf]; omega⟩
            · obtain rfl : b = nb := by omega
              have x1 : ¬ (b : Int) < (b : Int) := by omega
              have c0 := hwi.out.rs.cell 0 _ rfl
              have c1 := hwi.out.rs.cell 1 _ rfl
              clear hbl hb
              go_wp2
              have h6 : Hid (W6 w L (po, i, pc, 57) (some ⟨eB, 0, none⟩, j, ec, 3) (some ⟨bB, 0, none⟩, b, bc, 4) wr) := by
                have h := hwi.out
                refine ⟨h.kp, h.rs.lt, h.op, h.oe, h.obs, fun g hg => .inl (HS.out.pL g hg).1, fun g hg => ?_, fun g hg => ?_, fun g g' hg hg' => ?_, fun g g' hg hg' => ?_, fun g g' hg hg' => ?_⟩
                · injection hg with hg; injection hg with hg; subst hg; exact .inl HS.out.eL
                · injection hg with hg; injection hg with hg; subst hg; exact .inl HS.out.bL
                · injection hg' with hg'; injection hg' with hg'; subst hg'; exact (HS.out.pL g hg).2.1
                · injection hg with hg; injection hg with hg; injection hg' with hg'; injection hg' with hg'; subst hg hg'; exact HS.out.eb
                · injection hg with hg; injection hg with hg; subst hg; exact Ne.symm (HS.out.pL g' hg').2.2.1
              clear c0 c1 c2 hwi
              go_loopw [8, 9, 10, 11] (fun pv ev bv gv wq => ∃ (g : Nat) (a1 : Option Addr) (c1 : Nat) (a2 : Option Addr) (c2 : Nat) (a3 : Option Addr) (c3 : Nat), g ≤ 3 ∧ gv = .int .i64 g ∧ pv = .slice a1 (i + g) c1 ∧ ev = .slice a2 (j + g) c2 ∧ bv = .slice a3 (b + g) c3 ∧ Hid (W6 w L (a1, i + g, c1, 57) (a2, j + g, c2, 3) (a3, b + g, c3, 4) wq)) (fun _ _ _ gv _ => 3 - (intOf gv).toNat)
              case atStart => exact ⟨0, _, _, _, _, _, _, by omega, rfl, rfl, rfl, rfl, h6⟩
              case round =>
                clear h6
                obtain ⟨g, a1, c1, a2, c2, a3, c3, hg, rfl, rfl, rfl, rfl, h6⟩ := hrel
                by_cases hgl : g < 3
                · have u0 : (0 : Int) ≤ (g : Int) := by omega
                  have u1 : (g : Int) < 3 := by omega
                  have M1 : Hid (i + g + 1 ≤ maxLen ∧ (i + g + 1) * 24 ≤ 140737488355328) := lens_ok i g 24 HL0.out hgl (by decide)
                  have M2 : Hid (j + g + 1 ≤ maxLen ∧ (j + g + 1) * 8 ≤ 140737488355328) := lens_ok j g 8 HL1.out hgl (by decide)
                  have M3 : Hid (b + g + 1 ≤ maxLen ∧ (b + g + 1) * 1 ≤ 140737488355328) := lens_ok b g 1 HL2.out hgl (by decide)
                  go_wp2_with (first
                    | (at_builtin; refine wpList_append_os el_pages rfl (.tmp 84) (.tmp 85) rfl a1 (i + g) c1 rfl (h6.out.o1.keep fun q hq => (Below.heap_alloc wr _ q (h6.out.o1.lt q hq))) wr.heap.size 1 57 [.slice none 0 0] rfl rfl (Row.at _ _ _ _ _ rfl rfl) (by simp [Value.oneCell']) M1.out.1 M1.out.2 ?_; intro b1 d1 w3 q1 q2 q3 q4 q5 q6 q7; have h7 : Hid (W6 w L (b1, i + g + 1, d1, 57) (a2, j + g, c2, 3) (a3, b + g, c3, 4) w3) := h6.out.app _ q1 q2 q3 q4 q5 q6 q7; clear q1 q2 q3 q4 q5 q6 q7)
                    | (at_builtin; refine wpList_append_os el_ints rfl (.tmp 87) (.tmp 88) rfl a2 (j + g) c2 rfl (h7.out.o2.keep fun q hq => (Below.heap_alloc w3 _ q (h7.out.o2.lt q hq))) w3.heap.size 1 3 [.int .i64 (-8)] rfl rfl (Row.at _ _ _ _ _ rfl rfl) (by simp [Value.oneCell']) M2.out.1 M2.out.2 ?_; intro b2 d2 w4 q1 q2 q3 q4 q5 q6 q7; have h8 : Hid (W6 w L (b2, j + g + 1, d2, 3) (a3, b + g, c3, 4) (b1, i + g + 1, d1, 57) w4) := h7.out.rot.app _ q1 q2 q3 q4 q5 q6 q7; clear q1 q2 q3 q4 q5 q6 q7)
                    | (at_builtin; refine wpList_append_os el_bools rfl (.tmp 90) (.tmp 91) rfl a3 (b + g) c3 rfl (h8.out.o2.keep fun q hq => (Below.heap_alloc w4 _ q (h8.out.o2.lt q hq))) w4.heap.size 1 4 [.bool true] rfl rfl (Row.at _ _ _ _ _ rfl rfl) (by simp [Value.oneCell']) M3.out.1 M3.out.2 ?_; intro b3 d3 w5 q1 q2 q3 q4 q5 q6 q7; have h9 : Hid (W6 w L (b3, b + g + 1, d3, 4) (b1, i + g + 1, d1, 57) (b2, j + g + 1, d2, 3) w5) := h8.out.rot.app _ q1 q2 q3 q4 q5 q6 q7; clear q1 q2 q3 q4 q5 q6 q7))
                  have h10 : Hid (W6 w L (b1, i + (g + 1), d1, 57) (b2, j + (g + 1), d2, 3) (b3, b + (g + 1), d3, 4) w5) := h9.out.rot
                  exact ⟨⟨g + 1, _, _, _, _, _, _, by omega, by go_num, rfl, rfl, rfl, h10⟩, by simp [intOf]; omega⟩
                · obtain rfl : g = 3 := by omega
                  have u1 : ¬ ((3 : Nat) : Int) < 3 := by omega
                  have hfin := h6.out.kp
                  clear h6 hgl hg
                  go_wp2
                  go_end0
                  exact ⟨rfl, hfin⟩
end Go.Proofs.Ythjndaeibbfgaaa
