
import Derived.Test.YtpcgkjngpdplmaaGreatDoorN19St
/-! The code's model: asked, deed. (Printed by tools/genn19.py.) -/
namespace Go.Proofs.YtpcgkjngpdplmaaGreatDoor
open Go.RowKit Go.Maps
set_option linter.unusedVariables false
set_option linter.unusedSimpArgs false

/-- What a step's deed is made of. -/
structure AskIn (N : Nat) (w : World) (mg rg nb so cap : Nat) (c : Cfg) (l : Secs) (B : List (List By)) (o : SP) (bo : Option Addr) (bc : Nat) : Prop where
  md : MdM N w mg rg nb so cap c l B
  hg : HG w
  n0 : 0 < N
  s8 : c.slots ≤ 8
  k64 : c.keys ≤ 64
  la : c.last ≤ 1000000000
  bb : B.length ≤ 2932031007402
  isb : ∀ W, Below N w W → IsB W bo o.b
  nil : bo = none → bc = 0
  cap : o.b.length ≤ bc
  len : o.b.length ≤ 140737488351232
theorem AskIn.keep {N : Nat} {w W : World} {mg rg nb so cap : Nat} {c : Cfg} {l : Secs} {B : List (List By)} {o : SP} {bo : Option Addr} {bc : Nat} (h : AskIn N w mg rg nb so cap c l B o bo bc) (hb : Below w.heap.size w W) : AskIn N W mg rg nb so cap c l B o bo bc :=
  have hN := h.md.ne.2.2.2.2
  ⟨h.md.keep hb, h.hg.below hb h.hg.lt, h.n0, h.s8, h.k64, h.la, h.bb, fun W2 h2 => h.isb W2 ((hb.mono hN).trans h2), h.nil, h.cap, h.len⟩
theorem DeedM.from {N mg rg nb so0 : Nat} {c : Cfg} {l : Secs} {B2 : List (List By)} {D : CS → TL} {w w1 : World} {e : Ending} {w' : World} (h : DeedM N mg rg nb so0 c l B2 D w1 e w') (hb : Below w.heap.size w w1) : DeedM N mg rg nb so0 c l B2 D w e w' := by
  obtain ⟨k, fs, bs, so, cap, h1, h2, h3, h4, h5⟩ := h
  exact ⟨k, fs, bs, so, cap, h1, h2, h3, h4, LyB.after hb h5⟩

set_option maxHeartbeats 4000000 in
set_option maxRecDepth 100000 in
theorem asked_any {N : Nat} {w : World} {mg rg nb so cap : Nat} {c : Cfg} {l : Secs} {B : List (List By)} {o : SP} {bo : Option Addr} {bc : Nat} (h : AskIn N w mg rg nb so cap c l B o bo bc) (hr : 1 ≤ o.kind ∧ o.kind ≤ 9) :
    Calls Tryz.prog 31 #[.pointer (some ⟨mg, 0, none⟩), .agg (spC o bo bc).toArray] w (DeedM N mg rg nb so c l (staC c l B o) (askedC c l (staC c l B o) (layC c l B o.b).1 o) w) := by
  obtain ⟨w1, hw1⟩ : ∃ w1, w1 = w.alloc (.cells (spC o bo bc).toArray 34) := ⟨_, rfl⟩
  have hb1 : Below w.heap.size w w1 := by rw [hw1]; exact (Below.refl _ _).alloc (Nat.le_refl _) _
  have r1 : Row w1 w.heap.size 34 (spC o bo bc) := by rw [hw1]; exact Row.at _ _ _ _ _ rfl rfl
  have c0 : w1.cell? ⟨w.heap.size, 0, none⟩ = some (.int .i64 o.kind) := r1.cell 0 _ rfl
  have c1 : w1.cell? ⟨w.heap.size, 1, none⟩ = some (.int .i64 o.n) := r1.cell 1 _ rfl
  have c2 : w1.cell? ⟨w.heap.size, 2, none⟩ = some (.int .i64 o.v) := r1.cell 2 _ rfl
  have c3 : w1.cell? ⟨w.heap.size, 3, none⟩ = some (.slice bo o.b.length bc) := r1.cell 3 _ rfl
  have h1 := h.keep hb1
  have hbN : Below N w w1 := hb1.mono h.md.ne.2.2.2.2
  obtain ⟨DD, hDD⟩ : ∃ DD, DD = askedC c l (staC c l B o) (layC c l B o.b).1 o := ⟨_, rfl⟩
  rw [← hDD]
  obtain ⟨BB, hBB⟩ : ∃ BB, BB = staC c l B o := ⟨_, rfl⟩
  rw [← hBB]
  have st0 : ¬ o.kind = 8 → BB = B := fun q => by rw [hBB]; unfold staC; rw [if_neg q]
  rcases (by omega : o.kind = 1 ∨ o.kind = 2 ∨ o.kind = 3 ∨ o.kind = 4 ∨ o.kind = 5 ∨ o.kind = 6 ∨ o.kind = 7 ∨ o.kind = 8 ∨ o.kind = 9) with hk | hk | hk | hk | hk | hk | hk | hk | hk
  · rw [hk] at c0
    have hB := st0 (by rw [hk]; decide)
    have X := read_any (g := B.length + 1) h.s8 mg o.n w1 h1.md.fd.sl
    have HF : Hid (∀ e w2, DeedR c (B.length + 1) DD w1 e w2 → DeedM N mg rg nb so c l BB DD w e w2) := fun e w2 hd => by rw [hB]; exact (hd.m h1.md).from hb1
    have eD : DD = fun s => askedC c l (staC c l B o) (layC c l B o.b).1 o s := hDD
    have eE : (fun s => askedC c l (staC c l B o) (layC c l B o.b).1 o s) = (fun (s : CS) => if 0 ≤ o.n ∧ o.n < c.slots then (fun (s : CS) => [(⟨0, s.num.getD o.n.toNat 0, false, zH⟩, s)]) s else [(an0 2, s)]) := by funext s; unfold askedC; rw [if_pos hk]
    rw [eE] at eD
    rw [← eD] at X
    clear eD eE hDD hBB st0 hB h1 h hr hb1 r1 hbN
    generalize hPP : DeedM N mg rg nb so c l BB DD w = PP at *
    clear hPP
    clear hk
    go_enter Tryz.func31, Tryz.ntmps31
    go_wp2_with (rw [← hw1]; have hz := hw1; clear hz hw1)
    refine X.mono ?_
    rintro e w2 ⟨k, fs, bs, rfl, hk2, hD2, hb2⟩
    dsimp only
    have HQ : Hid _ := HF.out _ _ ⟨k, fs, bs, rfl, hk2, hD2, hb2⟩
    clear HF hk2 hD2 hb2
    go_wp2
    exact HQ.out
  · rw [hk] at c0
    have hB := st0 (by rw [hk]; decide)
    have X := bump_any (g := B.length + 1) h.s8 h.la mg o.n w1 h1.md.sg.la h1.md.fd.sl
    have HF : Hid (∀ e w2, DeedR c (B.length + 1) DD w1 e w2 → DeedM N mg rg nb so c l BB DD w e w2) := fun e w2 hd => by rw [hB]; exact (hd.m h1.md).from hb1
    have eD : DD = fun s => askedC c l (staC c l B o) (layC c l B o.b).1 o s := hDD
    have eE : (fun s => askedC c l (staC c l B o) (layC c l B o.b).1 o s) = (fun (s : CS) => if 0 ≤ o.n ∧ o.n < c.slots then (fun (s : CS) => raiseC c o.n.toNat (s.num.getD o.n.toNat 0 + 1) ⟨0, s.num.getD o.n.toNat 0 + 1, false, zH⟩ s) s else [(an0 2, s)]) := by funext s; unfold askedC; rw [if_neg (by rw [hk]; decide)]; rw [if_pos hk]
    rw [eE] at eD
    rw [← eD] at X
    clear eD eE hDD hBB st0 hB h1 h hr hb1 r1 hbN
    generalize hPP : DeedM N mg rg nb so c l BB DD w = PP at *
    clear hPP
    clear hk
    go_enter Tryz.func31, Tryz.ntmps31
    go_wp2_with (rw [← hw1]; have hz := hw1; clear hz hw1)
    refine X.mono ?_
    rintro e w2 ⟨k, fs, bs, rfl, hk2, hD2, hb2⟩
    dsimp only
    have HQ : Hid _ := HF.out _ _ ⟨k, fs, bs, rfl, hk2, hD2, hb2⟩
    clear HF hk2 hD2 hb2
    go_wp2
    exact HQ.out
  · rw [hk] at c0
    have hB := st0 (by rw [hk]; decide)
    have X := bumpTo_any (g := B.length + 1) h.s8 h.la mg o.n o.v w1 h1.md.sg.la h1.md.fd.sl
    have HF : Hid (∀ e w2, DeedR c (B.length + 1) DD w1 e w2 → DeedM N mg rg nb so c l BB DD w e w2) := fun e w2 hd => by rw [hB]; exact (hd.m h1.md).from hb1
    have eD : DD = fun s => askedC c l (staC c l B o) (layC c l B o.b).1 o s := hDD
    have eE : (fun s => askedC c l (staC c l B o) (layC c l B o.b).1 o s) = (fun (s : CS) => if (0 ≤ o.n ∧ o.n < c.slots) ∧ 0 ≤ o.v then raiseC c o.n.toNat o.v (an0 0) s else [(an0 2, s)]) := by funext s; unfold askedC; rw [if_neg (by rw [hk]; decide)]; rw [if_neg (by rw [hk]; decide)]; rw [if_pos hk]
    rw [eE] at eD
    rw [← eD] at X
    clear eD eE hDD hBB st0 hB h1 h hr hb1 r1 hbN
    generalize hPP : DeedM N mg rg nb so c l BB DD w = PP at *
    clear hPP
    clear hk
    go_enter Tryz.func31, Tryz.ntmps31
    go_wp2_with (rw [← hw1]; have hz := hw1; clear hz hw1)
    refine X.mono ?_
    rintro e w2 ⟨k, fs, bs, rfl, hk2, hD2, hb2⟩
    dsimp only
    have HQ : Hid _ := HF.out _ _ ⟨k, fs, bs, rfl, hk2, hD2, hb2⟩
    clear HF hk2 hD2 hb2
    go_wp2
    exact HQ.out
  · rw [hk] at c0
    have hB := st0 (by rw [hk]; decide)
    have X := revoke_any (g := B.length + 1) h.k64 mg o.n w1 h1.md.fd.ky
    have HF : Hid (∀ e w2, DeedR c (B.length + 1) DD w1 e w2 → DeedM N mg rg nb so c l BB DD w e w2) := fun e w2 hd => by rw [hB]; exact (hd.m h1.md).from hb1
    have eD : DD = fun s => askedC c l (staC c l B o) (layC c l B o.b).1 o s := hDD
    have eE : (fun s => askedC c l (staC c l B o) (layC c l B o.b).1 o s) = (fun (s : CS) => if 0 ≤ o.n ∧ o.n < c.keys then (revokeC o.n.toNat) s else [(an0 2, s)]) := by funext s; unfold askedC; rw [if_neg (by rw [hk]; decide)]; rw [if_neg (by rw [hk]; decide)]; rw [if_neg (by rw [hk]; decide)]; rw [if_pos hk]
    rw [eE] at eD
    rw [← eD] at X
    clear eD eE hDD hBB st0 hB h1 h hr hb1 r1 hbN
    generalize hPP : DeedM N mg rg nb so c l BB DD w = PP at *
    clear hPP
    clear hk
    go_enter Tryz.func31, Tryz.ntmps31
    go_wp2_with (rw [← hw1]; have hz := hw1; clear hz hw1)
    refine X.mono ?_
    rintro e w2 ⟨k, fs, bs, rfl, hk2, hD2, hb2⟩
    dsimp only
    have HQ : Hid _ := HF.out _ _ ⟨k, fs, bs, rfl, hk2, hD2, hb2⟩
    clear HF hk2 hD2 hb2
    go_wp2
    exact HQ.out
  · rw [hk] at c0
    have hB := st0 (by rw [hk]; decide)
    have X := revoked_any (g := B.length + 1) h.k64 mg o.n w1 h1.md.fd.ky
    have HF : Hid (∀ e w2, DeedR c (B.length + 1) DD w1 e w2 → DeedM N mg rg nb so c l BB DD w e w2) := fun e w2 hd => by rw [hB]; exact (hd.m h1.md).from hb1
    have eD : DD = fun s => askedC c l (staC c l B o) (layC c l B o.b).1 o s := hDD
    have eE : (fun s => askedC c l (staC c l B o) (layC c l B o.b).1 o s) = (fun (s : CS) => if 0 ≤ o.n ∧ o.n < c.keys then (fun (s : CS) => [(⟨0, 0, s.rev.testBit o.n.toNat, zH⟩, s)]) s else [(an0 2, s)]) := by funext s; unfold askedC; rw [if_neg (by rw [hk]; decide)]; rw [if_neg (by rw [hk]; decide)]; rw [if_neg (by rw [hk]; decide)]; rw [if_neg (by rw [hk]; decide)]; rw [if_pos hk]
    rw [eE] at eD
    rw [← eD] at X
    clear eD eE hDD hBB st0 hB h1 h hr hb1 r1 hbN
    generalize hPP : DeedM N mg rg nb so c l BB DD w = PP at *
    clear hPP
    clear hk
    go_enter Tryz.func31, Tryz.ntmps31
    go_wp2_with (rw [← hw1]; have hz := hw1; clear hz hw1)
    refine X.mono ?_
    rintro e w2 ⟨k, fs, bs, rfl, hk2, hD2, hb2⟩
    dsimp only
    have HQ : Hid _ := HF.out _ _ ⟨k, fs, bs, rfl, hk2, hD2, hb2⟩
    clear HF hk2 hD2 hb2
    go_wp2
    exact HQ.out
  · rw [hk] at c0
    have hB := st0 (by rw [hk]; decide)
    have X := boot_any (g := B.length + 1) h.s8 h.k64 l mg rg bo bc o.b w1 h1.hg h1.md.fd h1.md.sg.la (h1.isb w1 (Below.refl _ _)) h.nil h.cap h.len
    have HF : Hid (∀ e w2, DeedR c (B.length + 1) DD w1 e w2 → DeedM N mg rg nb so c l BB DD w e w2) := fun e w2 hd => by rw [hB]; exact (hd.m h1.md).from hb1
    have eD : DD = fun s => askedC c l (staC c l B o) (layC c l B o.b).1 o s := hDD
    have eE : (fun s => askedC c l (staC c l B o) (layC c l B o.b).1 o s) = (fun (s : CS) => triedC (findC c l o.b) (checkC c (findC c l o.b) s) zH s) := by funext s; unfold askedC; rw [if_neg (by rw [hk]; decide)]; rw [if_neg (by rw [hk]; decide)]; rw [if_neg (by rw [hk]; decide)]; rw [if_neg (by rw [hk]; decide)]; rw [if_neg (by rw [hk]; decide)]; rw [if_pos hk]
    rw [eE] at eD
    rw [← eD] at X
    clear eD eE hDD hBB st0 hB h1 h hr hb1 r1 hbN
    generalize hPP : DeedM N mg rg nb so c l BB DD w = PP at *
    clear hPP
    clear hk
    go_enter Tryz.func31, Tryz.ntmps31
    go_wp2_with (rw [← hw1]; have hz := hw1; clear hz hw1)
    refine X.mono ?_
    rintro e w2 ⟨k, fs, bs, rfl, hk2, hD2, hb2⟩
    dsimp only
    have HQ : Hid _ := HF.out _ _ ⟨k, fs, bs, rfl, hk2, hD2, hb2⟩
    clear HF hk2 hD2 hb2
    go_wp2
    exact HQ.out
  · rw [hk] at c0
    have hB := st0 (by rw [hk]; decide)
    have eD : DD = fun s => askedC c l (staC c l B o) (layC c l B o.b).1 o s := hDD
    have eE : (fun s => askedC c l (staC c l B o) (layC c l B o.b).1 o s) = confirmC c := by funext s; unfold askedC; rw [if_neg (by rw [hk]; decide)]; rw [if_neg (by rw [hk]; decide)]; rw [if_neg (by rw [hk]; decide)]; rw [if_neg (by rw [hk]; decide)]; rw [if_neg (by rw [hk]; decide)]; rw [if_neg (by rw [hk]; decide)]; rw [if_pos hk]
    rw [eE] at eD
    have HQ : Hid (DeedM N mg rg nb so c l BB DD w (.returned (.func (.func 50) #[.pointer (some ⟨mg, 0, none⟩)] #[])) w1) := by rw [hB, eD]; exact ⟨_, _, _, so, cap, rfl, ent_confirm, confirm_deed (c := c) (g := B.length + 1) h1.md.sg.la h.la, h1.md, (LyB.refl w).keep hb1⟩
    clear eD eE hDD hBB st0 hB h1 h hr hb1 r1 hbN hk
    generalize hPP : DeedM N mg rg nb so c l BB DD w = PP at *
    clear hPP
    go_enter Tryz.func31, Tryz.ntmps31
    go_wp2_with (rw [← hw1]; have hz := hw1; clear hz hw1)
    exact HQ.out
  · rw [hk] at c0
    have X := stage_any h.s8 h.k64 (by have := h.la; omega) h1.md h1.hg h1.n0 h.bb bo bc o.b h1.isb h.nil h.cap h.len
    have eD : DD = fun s => askedC c l (staC c l B o) (layC c l B o.b).1 o s := hDD
    have eE : (fun s => askedC c l (staC c l B o) (layC c l B o.b).1 o s) = stageC c l (layC c l B o.b).2 o.b (layC c l B o.b).1 := by funext s; unfold askedC; rw [if_neg (by rw [hk]; decide)]; rw [if_neg (by rw [hk]; decide)]; rw [if_neg (by rw [hk]; decide)]; rw [if_neg (by rw [hk]; decide)]; rw [if_neg (by rw [hk]; decide)]; rw [if_neg (by rw [hk]; decide)]; rw [if_neg (by rw [hk]; decide)]; rw [if_pos hk]; unfold staC; rw [if_pos hk]
    have eB : BB = (layC c l B o.b).2 := by rw [hBB]; unfold staC; rw [if_pos hk]
    rw [eE] at eD
    rw [← eD, ← eB] at X
    have HF : Hid (∀ e w2, DeedM N mg rg nb so c l BB DD w1 e w2 → DeedM N mg rg nb so c l BB DD w e w2) := fun e w2 hd => hd.from hb1
    clear eD eE eB hDD hBB st0 h1 h hr hb1 r1 hbN
    generalize hPP : DeedM N mg rg nb so c l BB DD w = PP at *
    clear hPP
    clear hk
    go_enter Tryz.func31, Tryz.ntmps31
    go_wp2_with (rw [← hw1]; have hz := hw1; clear hz hw1)
    refine X.mono ?_
    rintro e w2 ⟨k, fs, bs, so2, cap2, rfl, hk2, hD2, hM2, hb2⟩
    dsimp only
    have HQ : Hid _ := HF.out _ _ ⟨k, fs, bs, so2, cap2, rfl, hk2, hD2, hM2, hb2⟩
    clear HF hk2 hD2 hM2 hb2
    go_wp2
    exact HQ.out
  · rw [hk] at c0
    have hB := st0 (by rw [hk]; decide)
    have eD : DD = fun s => askedC c l (staC c l B o) (layC c l B o.b).1 o s := hDD
    have eE : (fun s => askedC c l (staC c l B o) (layC c l B o.b).1 o s) = startC c l B := by funext s; unfold askedC; rw [if_neg (by rw [hk]; decide)]; rw [if_neg (by rw [hk]; decide)]; rw [if_neg (by rw [hk]; decide)]; rw [if_neg (by rw [hk]; decide)]; rw [if_neg (by rw [hk]; decide)]; rw [if_neg (by rw [hk]; decide)]; rw [if_neg (by rw [hk]; decide)]; rw [if_neg (by rw [hk]; decide)]; rw [← hBB, hB]
    rw [eE] at eD
    have HQ : Hid (DeedM N mg rg nb so c l BB DD w (.returned (.func (.func 52) #[.pointer (some ⟨mg, 0, none⟩)] #[])) w1) := by rw [hB, eD]; exact ⟨_, _, _, so, cap, rfl, ent_start, start_deed (c := c) h.s8 h.k64 (by have := h.bb; omega) h1.md.sg, h1.md, (LyB.refl w).keep hb1⟩
    clear eD eE hDD hBB st0 hB h1 h hr hb1 r1 hbN hk
    generalize hPP : DeedM N mg rg nb so c l BB DD w = PP at *
    clear hPP
    go_enter Tryz.func31, Tryz.ntmps31
    go_wp2_with (rw [← hw1]; have hz := hw1; clear hz hw1)
    exact HQ.out

set_option maxHeartbeats 4000000 in
set_option maxRecDepth 100000 in
theorem asked_none (mg : Nat) (o : SP) (bo : Option Addr) (bc : Nat) (w : World) (hr : ¬ (1 ≤ o.kind ∧ o.kind ≤ 9)) :
    Calls Tryz.prog 31 #[.pointer (some ⟨mg, 0, none⟩), .agg (spC o bo bc).toArray] w fun e w' => e = .returned .nilFunc ∧ Below w.heap.size w w' := by
  obtain ⟨w1, hw1⟩ : ∃ w1, w1 = w.alloc (.cells (spC o bo bc).toArray 34) := ⟨_, rfl⟩
  have hb1 : Hid (Below w.heap.size w w1) := by rw [hw1]; exact (Below.refl _ _).alloc (Nat.le_refl _) _
  have r1 : Row w1 w.heap.size 34 (spC o bo bc) := by rw [hw1]; exact Row.at _ _ _ _ _ rfl rfl
  have c0 : w1.cell? ⟨w.heap.size, 0, none⟩ = some (.int .i64 o.kind) := r1.cell 0 _ rfl
  clear r1
  have d1 : (o.kind == 1) = false := beq_false_of_ne (by omega)
  have e1 : ¬ o.kind = 1 := by omega
  have d2 : (o.kind == 2) = false := beq_false_of_ne (by omega)
  have e2 : ¬ o.kind = 2 := by omega
  have d3 : (o.kind == 3) = false := beq_false_of_ne (by omega)
  have e3 : ¬ o.kind = 3 := by omega
  have d4 : (o.kind == 4) = false := beq_false_of_ne (by omega)
  have e4 : ¬ o.kind = 4 := by omega
  have d5 : (o.kind == 5) = false := beq_false_of_ne (by omega)
  have e5 : ¬ o.kind = 5 := by omega
  have d6 : (o.kind == 6) = false := beq_false_of_ne (by omega)
  have e6 : ¬ o.kind = 6 := by omega
  have d7 : (o.kind == 7) = false := beq_false_of_ne (by omega)
  have e7 : ¬ o.kind = 7 := by omega
  have d8 : (o.kind == 8) = false := beq_false_of_ne (by omega)
  have e8 : ¬ o.kind = 8 := by omega
  have d9 : (o.kind == 9) = false := beq_false_of_ne (by omega)
  have e9 : ¬ o.kind = 9 := by omega
  clear hr
  generalize o.kind = kk at *
  go_enter Tryz.func31, Tryz.ntmps31
  go_wp2_with (rw [← hw1]; have hz := hw1; clear hz hw1)
  go_ret
  exact ⟨rfl, hb1.out⟩
end Go.Proofs.YtpcgkjngpdplmaaGreatDoor
