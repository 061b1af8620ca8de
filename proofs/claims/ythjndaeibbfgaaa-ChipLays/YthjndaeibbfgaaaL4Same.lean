import Derived.Test.YthjndaeibbfgaaaL4WreckW
/-! The statements' own functions: same. (Printed by tools/gensame.py.) -/
namespace Go.Proofs.Ythjndaeibbfgaaa
open Go.RowKit

theorem KeptL.belowN {L : List Nat} {w w' : World} {N : Nat} (h : KeptL L w w') (hL : ∀ b ∈ L, N ≤ b) (hN : N ≤ w.heap.size) : Below N w w' :=
  ⟨h.os, h.tape, h.output, h.size, fun k hk => h.block k (by omega) (fun hm => by have := hL k hm; omega)⟩

/-- A state that State told, written over. -/
theorem wreck_own (w : World) (N : Nat) (t : St) (pB eB bB : Nat) (ps : List (Nat × Nat)) (h : OwnX w N t pB eB bB ps) (h8 : ∀ p ∈ t.pages, ∀ x ∈ p, x.length = 32) (l0 : t.pages.length ≤ 4096) (l1 : t.erases.length ≤ 4096) (l2 : t.blown.length ≤ 4096) (l3 : ∀ p ∈ t.pages, p.length ≤ 4096) :
    Calls Try.prog 15 #[.agg (ownVals t pB eB bB).toArray] w fun e w' => e = .returned (.tuple #[]) ∧ KeptL (pB :: eB :: bB :: ps.map (·.1)) w w' := by
  have hq : ∀ (j : Nat) (q : Pg), (List.zipWith (fun (q : Nat × Nat) (p : List (List By)) => ((q.1, p.length, q.2) : Pg)) ps t.pages)[j]? = some q → ∃ q0 p0, ps[j]? = some q0 ∧ t.pages[j]? = some p0 ∧ q = (q0.1, p0.length, q0.2) := by
    intro j q hj
    rw [List.getElem?_zipWith] at hj
    cases h1 : ps[j]? with
    | none => rw [h1] at hj; simp at hj
    | some q0 =>
      cases h2 : t.pages[j]? with
      | none => rw [h1, h2] at hj; simp at hj
      | some p0 =>
        rw [h1, h2] at hj
        injection hj with hj
        exact ⟨q0, p0, rfl, rfl, hj.symm⟩
  have hmap : (List.zipWith (fun (q : Nat × Nat) (p : List (List By)) => ((q.1, p.length, q.2) : Pg)) ps t.pages).map (·.1) = ps.map (·.1) := by
    have key : ∀ (a : List (Nat × Nat)) (b : List (List (List By))), a.length = b.length → (List.zipWith (fun (q : Nat × Nat) (p : List (List By)) => ((q.1, p.length, q.2) : Pg)) a b).map (·.1) = a.map (·.1) := by
      intro a
      induction a with
      | nil => intro b _; simp
      | cons x a ih =>
        intro b hb
        cases b with
        | nil => simp at hb
        | cons y b => simp [ih b (by simpa using hb)]
    exact key ps t.pages h.len
  have hnd := h.nd
  simp only [List.nodup_cons, List.mem_cons, not_or] at hnd
  obtain ⟨⟨n1, n2, n3⟩, ⟨m1, m2⟩, k1, hps⟩ := hnd
  have hml : ∀ n, n ≤ 4096 → n ≤ maxLen := fun n hn => by unfold maxLen; omega
  refine wreck_any w (pB :: eB :: bB :: ps.map (·.1)) t.pages.length t.erases.length t.blown.length (some ⟨pB, 0, none⟩) t.pages.length (List.zipWith (fun (q : Nat × Nat) (p : List (List By)) => ((q.1, p.length, q.2) : Pg)) ps t.pages) eB t.erases.length bB t.blown.length ?_ ?_ ?_ ?_ ?_ ?_ ?_ (by omega) (by omega) (by omega) ?_
  · refine ⟨by rw [List.length_zipWith, h.len]; omega, fun b hb => h.lt b hb, ?_, by simp, by simp, ?_, m1, by rw [hmap]; exact m2, by rw [hmap]; exact k1, by rw [hmap]; exact hps⟩
    · intro B hB
      injection hB with hB
      injection hB with hB
      subst hB
      exact ⟨by simp, n1, n2, by rw [hmap]; exact n3⟩
    · intro q hm
      have : q.1 ∈ (List.zipWith (fun (q : Nat × Nat) (p : List (List By)) => ((q.1, p.length, q.2) : Pg)) ps t.pages).map (·.1) := List.mem_map_of_mem hm
      rw [hmap] at this
      simp only [List.mem_cons]
      exact .inr (.inr (.inr this))
  · refine OS.of_row h.pg ?_ (Nat.le_refl _) (hml _ l0)
    rw [List.length_zipWith, h.len]; omega
  · intro j q B hj hB
    injection hB with hB
    injection hB with hB
    subst hB
    obtain ⟨q0, p0, h1, h2, rfl⟩ := hq j q hj
    exact h.pg.cell j _ (by rw [List.getElem?_zipWith, h1, h2]; rfl)
  · intro j q hj
    obtain ⟨q0, p0, h1, h2, rfl⟩ := hq j q hj
    have hp0 := List.mem_of_getElem? h2
    have hc := h.cap j q0 p0 h1 h2
    refine OS.of_row (h.page j q0 p0 h1 h2) ?_ ?_ ?_
    · show ((p0.flatten.map B8).length = q0.2 * 32)
      rw [List.length_map, flat_len p0 (h8 p0 hp0), hc]; omega
    · show p0.length ≤ q0.2
      omega
    · show q0.2 ≤ maxLen
      rw [hc]; exact hml _ (l3 p0 hp0)
  · exact OS.of_row h.er (by simp) (Nat.le_refl _) (hml _ l1)
  · exact ⟨t.blown, rfl, ⟨[], by rw [List.append_nil]; exact h.bl⟩⟩
  · exact OS.of_row h.bl (by simp) (Nat.le_refl _) (hml _ l2)
  · intro q hm
    obtain ⟨j, hj⟩ := List.mem_iff_getElem?.1 hm
    obtain ⟨q0, p0, h1, h2, rfl⟩ := hq j q hj
    have := l3 p0 (List.mem_of_getElem? h2)
    show (p0.length + 3) * 32 ≤ _
    omega

structure SaI (W1 : World) (N : Nat) (F : RF) (s : RS) (p1 e1 b1 : Nat) (L : Nat → Bool) (x14 x15 x16 x17 x18 x19 x20 x5 : Value) (W : World) : Prop where
  bel : KeptL [] W1 W
  p0 : L 0 = true → x14 = .agg #[.slice (some ⟨p1, 0, none⟩) s.pages.length s.pages.length, .slice (some ⟨e1, 0, none⟩) s.erases.length s.erases.length, .slice (some ⟨b1, 0, none⟩) s.blown.length s.blown.length]
  p1 : L 1 = true → x15 = .pointer (some ⟨N, 1, none⟩)
  p2 : L 2 = true → x16 = .pointer (some ⟨F.g, 0, none⟩)
  p3 : L 3 = true → x17 = .pointer (some ⟨F.g, 0, none⟩)
  p4 : L 4 = true → x18 = .pointer (some ⟨F.g, 7, none⟩)
  p5 : L 5 = true → x19 = .agg #[.slice (some ⟨F.pB, 0, none⟩) s.pages.length F.pcap, .slice (some ⟨F.eB, 0, none⟩) s.erases.length F.ecap, .slice (some ⟨F.bB, 0, none⟩) s.blown.length F.bcap]
  p6 : L 6 = true → x20 = .bool true
  p7 : L 7 = true → x5 = .bool true
section
variable {W1 : World} {N : Nat} {F : RF} {s : RS} {p1 e1 b1 : Nat} {L : Nat → Bool} {x14 x15 x16 x17 x18 x19 x20 x5 : Value} {W W2 : World}
theorem SaI.zero (W1 : World) (N : Nat) (F : RF) (s : RS) (p1 e1 b1 : Nat) (x14 x15 x16 x17 x18 x19 x20 x5 : Value) : SaI W1 N F s p1 e1 b1 (fun _ => false) x14 x15 x16 x17 x18 x19 x20 x5  W1.drew :=
  ⟨(KeptL.refl _ _).dr ⟨1, rfl⟩, fun k => (by cases k), fun k => (by cases k), fun k => (by cases k), fun k => (by cases k), fun k => (by cases k), fun k => (by cases k), fun k => (by cases k), fun k => (by cases k)⟩
theorem SaI.mono (h : SaI W1 N F s p1 e1 b1 L x14 x15 x16 x17 x18 x19 x20 x5  W) (hb : Below W.heap.size W W2) : SaI W1 N F s p1 e1 b1 L x14 x15 x16 x17 x18 x19 x20 x5  W2 :=
  ⟨h.bel.below hb h.bel.size, h.p0, h.p1, h.p2, h.p3, h.p4, h.p5, h.p6, h.p7⟩
theorem SaI.s0 (h : SaI W1 N F s p1 e1 b1 L x14 x15 x16 x17 x18 x19 x20 x5  W) : SaI W1 N F s p1 e1 b1 (upd L 0) (.agg #[.slice (some ⟨p1, 0, none⟩) s.pages.length s.pages.length, .slice (some ⟨e1, 0, none⟩) s.erases.length s.erases.length, .slice (some ⟨b1, 0, none⟩) s.blown.length s.blown.length]) x15 x16 x17 x18 x19 x20 x5  W :=
  ⟨h.bel, fun _ => rfl, h.p1, h.p2, h.p3, h.p4, h.p5, h.p6, h.p7⟩
theorem SaI.s1 (h : SaI W1 N F s p1 e1 b1 L x14 x15 x16 x17 x18 x19 x20 x5  W) : SaI W1 N F s p1 e1 b1 (upd L 1) x14 (.pointer (some ⟨N, 1, none⟩)) x16 x17 x18 x19 x20 x5  W :=
  ⟨h.bel, h.p0, fun _ => rfl, h.p2, h.p3, h.p4, h.p5, h.p6, h.p7⟩
theorem SaI.s2 (h : SaI W1 N F s p1 e1 b1 L x14 x15 x16 x17 x18 x19 x20 x5  W) : SaI W1 N F s p1 e1 b1 (upd L 2) x14 x15 (.pointer (some ⟨F.g, 0, none⟩)) x17 x18 x19 x20 x5  W :=
  ⟨h.bel, h.p0, h.p1, fun _ => rfl, h.p3, h.p4, h.p5, h.p6, h.p7⟩
theorem SaI.s3 (h : SaI W1 N F s p1 e1 b1 L x14 x15 x16 x17 x18 x19 x20 x5  W) : SaI W1 N F s p1 e1 b1 (upd L 3) x14 x15 x16 (.pointer (some ⟨F.g, 0, none⟩)) x18 x19 x20 x5  W :=
  ⟨h.bel, h.p0, h.p1, h.p2, fun _ => rfl, h.p4, h.p5, h.p6, h.p7⟩
theorem SaI.s4 (h : SaI W1 N F s p1 e1 b1 L x14 x15 x16 x17 x18 x19 x20 x5  W) : SaI W1 N F s p1 e1 b1 (upd L 4) x14 x15 x16 x17 (.pointer (some ⟨F.g, 7, none⟩)) x19 x20 x5  W :=
  ⟨h.bel, h.p0, h.p1, h.p2, h.p3, fun _ => rfl, h.p5, h.p6, h.p7⟩
theorem SaI.s5 (h : SaI W1 N F s p1 e1 b1 L x14 x15 x16 x17 x18 x19 x20 x5  W) : SaI W1 N F s p1 e1 b1 (upd L 5) x14 x15 x16 x17 x18 (.agg #[.slice (some ⟨F.pB, 0, none⟩) s.pages.length F.pcap, .slice (some ⟨F.eB, 0, none⟩) s.erases.length F.ecap, .slice (some ⟨F.bB, 0, none⟩) s.blown.length F.bcap]) x20 x5  W :=
  ⟨h.bel, h.p0, h.p1, h.p2, h.p3, h.p4, fun _ => rfl, h.p6, h.p7⟩
theorem SaI.s6 (h : SaI W1 N F s p1 e1 b1 L x14 x15 x16 x17 x18 x19 x20 x5  W) : SaI W1 N F s p1 e1 b1 (upd L 6) x14 x15 x16 x17 x18 x19 (.bool true) x5  W :=
  ⟨h.bel, h.p0, h.p1, h.p2, h.p3, h.p4, h.p5, fun _ => rfl, h.p7⟩
theorem SaI.s7 (h : SaI W1 N F s p1 e1 b1 L x14 x15 x16 x17 x18 x19 x20 x5  W) : SaI W1 N F s p1 e1 b1 (upd L 7) x14 x15 x16 x17 x18 x19 x20 (.bool true)  W :=
  ⟨h.bel, h.p0, h.p1, h.p2, h.p3, h.p4, h.p5, h.p6, fun _ => rfl⟩
end
@[reducible] def ISaI (W1 : World) (N : Nat) (F : RF) (s : RS) (p1 e1 b1 : Nat) (y0 y1 y2 y3 y4 y6 y7 y8 y9 y10 y11 y12 y13 y21 y22 y23 y24 y25 y26 y27 y28 y29 y30 y31 y32 y33 y34 y35 y36 y37 y38 y39 y40 y41 y42 y43 y44 y45 y46 y47 y48 y49 y50 y51 y52 y53 y54 y55 y56 y57 y58 y59 y60 y61 y62 y63 y64 y65 y66 y67 y68 y69 : Value) : (Nat → Bool) → Act → World → Prop := fun L a W => ∃ x14 x15 x16 x17 x18 x19 x20 x5, a = ⟨#[y0, y1, y2, y3, y4, x5, y6, y7, y8, y9, y10, y11, y12, y13, x14, x15, x16, x17, x18, x19, x20, y21, y22, y23, y24, y25, y26, y27, y28, y29, y30, y31, y32, y33, y34, y35, y36, y37, y38, y39, y40, y41, y42, y43, y44, y45, y46, y47, y48, y49, y50, y51, y52, y53, y54, y55, y56, y57, y58, y59, y60, y61, y62, y63, y64, y65, y66, y67, y68, y69], []⟩ ∧ SaI W1 N F s p1 e1 b1 L x14 x15 x16 x17 x18 x19 x20 x5  W
structure SbI (W1 : World) (N : Nat) (F : RF) (s : RS) (p2 e2 b2 : Nat) (L : Nat → Bool) (x23 x24 x25 x26 x27 x28 x29 x6 : Value) (W : World) : Prop where
  bel : KeptL [] W1 W
  p0 : L 0 = true → x23 = .agg #[.slice (some ⟨p2, 0, none⟩) s.pages.length s.pages.length, .slice (some ⟨e2, 0, none⟩) s.erases.length s.erases.length, .slice (some ⟨b2, 0, none⟩) s.blown.length s.blown.length]
  p1 : L 1 = true → x24 = .pointer (some ⟨N, 1, none⟩)
  p2 : L 2 = true → x25 = .pointer (some ⟨F.g, 0, none⟩)
  p3 : L 3 = true → x26 = .pointer (some ⟨F.g, 0, none⟩)
  p4 : L 4 = true → x27 = .pointer (some ⟨F.g, 7, none⟩)
  p5 : L 5 = true → x28 = .agg #[.slice (some ⟨F.pB, 0, none⟩) s.pages.length F.pcap, .slice (some ⟨F.eB, 0, none⟩) s.erases.length F.ecap, .slice (some ⟨F.bB, 0, none⟩) s.blown.length F.bcap]
  p6 : L 6 = true → x29 = .bool true
  p7 : L 7 = true → x6 = .bool true
section
variable {W1 : World} {N : Nat} {F : RF} {s : RS} {p2 e2 b2 : Nat} {L : Nat → Bool} {x23 x24 x25 x26 x27 x28 x29 x6 : Value} {W W2 : World}
theorem SbI.zero (W1 : World) (N : Nat) (F : RF) (s : RS) (p2 e2 b2 : Nat) (x23 x24 x25 x26 x27 x28 x29 x6 : Value) : SbI W1 N F s p2 e2 b2 (fun _ => false) x23 x24 x25 x26 x27 x28 x29 x6  W1.drew :=
  ⟨(KeptL.refl _ _).dr ⟨1, rfl⟩, fun k => (by cases k), fun k => (by cases k), fun k => (by cases k), fun k => (by cases k), fun k => (by cases k), fun k => (by cases k), fun k => (by cases k), fun k => (by cases k)⟩
theorem SbI.mono (h : SbI W1 N F s p2 e2 b2 L x23 x24 x25 x26 x27 x28 x29 x6  W) (hb : Below W.heap.size W W2) : SbI W1 N F s p2 e2 b2 L x23 x24 x25 x26 x27 x28 x29 x6  W2 :=
  ⟨h.bel.below hb h.bel.size, h.p0, h.p1, h.p2, h.p3, h.p4, h.p5, h.p6, h.p7⟩
theorem SbI.s0 (h : SbI W1 N F s p2 e2 b2 L x23 x24 x25 x26 x27 x28 x29 x6  W) : SbI W1 N F s p2 e2 b2 (upd L 0) (.agg #[.slice (some ⟨p2, 0, none⟩) s.pages.length s.pages.length, .slice (some ⟨e2, 0, none⟩) s.erases.length s.erases.length, .slice (some ⟨b2, 0, none⟩) s.blown.length s.blown.length]) x24 x25 x26 x27 x28 x29 x6  W :=
  ⟨h.bel, fun _ => rfl, h.p1, h.p2, h.p3, h.p4, h.p5, h.p6, h.p7⟩
theorem SbI.s1 (h : SbI W1 N F s p2 e2 b2 L x23 x24 x25 x26 x27 x28 x29 x6  W) : SbI W1 N F s p2 e2 b2 (upd L 1) x23 (.pointer (some ⟨N, 1, none⟩)) x25 x26 x27 x28 x29 x6  W :=
  ⟨h.bel, h.p0, fun _ => rfl, h.p2, h.p3, h.p4, h.p5, h.p6, h.p7⟩
theorem SbI.s2 (h : SbI W1 N F s p2 e2 b2 L x23 x24 x25 x26 x27 x28 x29 x6  W) : SbI W1 N F s p2 e2 b2 (upd L 2) x23 x24 (.pointer (some ⟨F.g, 0, none⟩)) x26 x27 x28 x29 x6  W :=
  ⟨h.bel, h.p0, h.p1, fun _ => rfl, h.p3, h.p4, h.p5, h.p6, h.p7⟩
theorem SbI.s3 (h : SbI W1 N F s p2 e2 b2 L x23 x24 x25 x26 x27 x28 x29 x6  W) : SbI W1 N F s p2 e2 b2 (upd L 3) x23 x24 x25 (.pointer (some ⟨F.g, 0, none⟩)) x27 x28 x29 x6  W :=
  ⟨h.bel, h.p0, h.p1, h.p2, fun _ => rfl, h.p4, h.p5, h.p6, h.p7⟩
theorem SbI.s4 (h : SbI W1 N F s p2 e2 b2 L x23 x24 x25 x26 x27 x28 x29 x6  W) : SbI W1 N F s p2 e2 b2 (upd L 4) x23 x24 x25 x26 (.pointer (some ⟨F.g, 7, none⟩)) x28 x29 x6  W :=
  ⟨h.bel, h.p0, h.p1, h.p2, h.p3, fun _ => rfl, h.p5, h.p6, h.p7⟩
theorem SbI.s5 (h : SbI W1 N F s p2 e2 b2 L x23 x24 x25 x26 x27 x28 x29 x6  W) : SbI W1 N F s p2 e2 b2 (upd L 5) x23 x24 x25 x26 x27 (.agg #[.slice (some ⟨F.pB, 0, none⟩) s.pages.length F.pcap, .slice (some ⟨F.eB, 0, none⟩) s.erases.length F.ecap, .slice (some ⟨F.bB, 0, none⟩) s.blown.length F.bcap]) x29 x6  W :=
  ⟨h.bel, h.p0, h.p1, h.p2, h.p3, h.p4, fun _ => rfl, h.p6, h.p7⟩
theorem SbI.s6 (h : SbI W1 N F s p2 e2 b2 L x23 x24 x25 x26 x27 x28 x29 x6  W) : SbI W1 N F s p2 e2 b2 (upd L 6) x23 x24 x25 x26 x27 x28 (.bool true) x6  W :=
  ⟨h.bel, h.p0, h.p1, h.p2, h.p3, h.p4, h.p5, fun _ => rfl, h.p7⟩
theorem SbI.s7 (h : SbI W1 N F s p2 e2 b2 L x23 x24 x25 x26 x27 x28 x29 x6  W) : SbI W1 N F s p2 e2 b2 (upd L 7) x23 x24 x25 x26 x27 x28 x29 (.bool true)  W :=
  ⟨h.bel, h.p0, h.p1, h.p2, h.p3, h.p4, h.p5, h.p6, fun _ => rfl⟩
end
@[reducible] def ISbI (W1 : World) (N : Nat) (F : RF) (s : RS) (p2 e2 b2 : Nat) (y0 y1 y2 y3 y4 y5 y7 y8 y9 y10 y11 y12 y13 y14 y15 y16 y17 y18 y19 y20 y21 y22 y30 y31 y32 y33 y34 y35 y36 y37 y38 y39 y40 y41 y42 y43 y44 y45 y46 y47 y48 y49 y50 y51 y52 y53 y54 y55 y56 y57 y58 y59 y60 y61 y62 y63 y64 y65 y66 y67 y68 y69 : Value) : (Nat → Bool) → Act → World → Prop := fun L a W => ∃ x23 x24 x25 x26 x27 x28 x29 x6, a = ⟨#[y0, y1, y2, y3, y4, y5, x6, y7, y8, y9, y10, y11, y12, y13, y14, y15, y16, y17, y18, y19, y20, y21, y22, x23, x24, x25, x26, x27, x28, x29, y30, y31, y32, y33, y34, y35, y36, y37, y38, y39, y40, y41, y42, y43, y44, y45, y46, y47, y48, y49, y50, y51, y52, y53, y54, y55, y56, y57, y58, y59, y60, y61, y62, y63, y64, y65, y66, y67, y68, y69], []⟩ ∧ SbI W1 N F s p2 e2 b2 L x23 x24 x25 x26 x27 x28 x29 x6  W
structure ScI (W1 : World) (N : Nat) (F G : RF) (s : RS) (L : Nat → Bool) (x32 x33 x34 x35 x36 x37 x38 x39 x40 x7 : Value) (W : World) : Prop where
  bel : KeptL [] W1 W
  p0 : L 0 = true → x32 = .pointer (some ⟨N, 0, none⟩)
  p1 : L 1 = true → x33 = .pointer (some ⟨G.g, 0, none⟩)
  p2 : L 2 = true → x34 = .agg s.c.vals.toArray
  p3 : L 3 = true → x35 = .pointer (some ⟨N, 1, none⟩)
  p4 : L 4 = true → x36 = .pointer (some ⟨F.g, 0, none⟩)
  p5 : L 5 = true → x37 = .pointer (some ⟨F.g, 0, none⟩)
  p6 : L 6 = true → x38 = .pointer (some ⟨F.g, 0, none⟩)
  p7 : L 7 = true → x39 = .agg s.c.vals.toArray
  p8 : L 8 = true → x40 = .bool true
  p9 : L 9 = true → x7 = .bool true
section
variable {W1 : World} {N : Nat} {F G : RF} {s : RS} {L : Nat → Bool} {x32 x33 x34 x35 x36 x37 x38 x39 x40 x7 : Value} {W W2 : World}
theorem ScI.zero (W1 : World) (N : Nat) (F G : RF) (s : RS) (x32 x33 x34 x35 x36 x37 x38 x39 x40 x7 : Value) : ScI W1 N F G s (fun _ => false) x32 x33 x34 x35 x36 x37 x38 x39 x40 x7  W1.drew :=
  ⟨(KeptL.refl _ _).dr ⟨1, rfl⟩, fun k => (by cases k), fun k => (by cases k), fun k => (by cases k), fun k => (by cases k), fun k => (by cases k), fun k => (by cases k), fun k => (by cases k), fun k => (by cases k), fun k => (by cases k), fun k => (by cases k)⟩
theorem ScI.mono (h : ScI W1 N F G s L x32 x33 x34 x35 x36 x37 x38 x39 x40 x7  W) (hb : Below W.heap.size W W2) : ScI W1 N F G s L x32 x33 x34 x35 x36 x37 x38 x39 x40 x7  W2 :=
  ⟨h.bel.below hb h.bel.size, h.p0, h.p1, h.p2, h.p3, h.p4, h.p5, h.p6, h.p7, h.p8, h.p9⟩
theorem ScI.s0 (h : ScI W1 N F G s L x32 x33 x34 x35 x36 x37 x38 x39 x40 x7  W) : ScI W1 N F G s (upd L 0) (.pointer (some ⟨N, 0, none⟩)) x33 x34 x35 x36 x37 x38 x39 x40 x7  W :=
  ⟨h.bel, fun _ => rfl, h.p1, h.p2, h.p3, h.p4, h.p5, h.p6, h.p7, h.p8, h.p9⟩
theorem ScI.s1 (h : ScI W1 N F G s L x32 x33 x34 x35 x36 x37 x38 x39 x40 x7  W) : ScI W1 N F G s (upd L 1) x32 (.pointer (some ⟨G.g, 0, none⟩)) x34 x35 x36 x37 x38 x39 x40 x7  W :=
  ⟨h.bel, h.p0, fun _ => rfl, h.p2, h.p3, h.p4, h.p5, h.p6, h.p7, h.p8, h.p9⟩
theorem ScI.s2 (h : ScI W1 N F G s L x32 x33 x34 x35 x36 x37 x38 x39 x40 x7  W) : ScI W1 N F G s (upd L 2) x32 x33 (.agg s.c.vals.toArray) x35 x36 x37 x38 x39 x40 x7  W :=
  ⟨h.bel, h.p0, h.p1, fun _ => rfl, h.p3, h.p4, h.p5, h.p6, h.p7, h.p8, h.p9⟩
theorem ScI.s3 (h : ScI W1 N F G s L x32 x33 x34 x35 x36 x37 x38 x39 x40 x7  W) : ScI W1 N F G s (upd L 3) x32 x33 x34 (.pointer (some ⟨N, 1, none⟩)) x36 x37 x38 x39 x40 x7  W :=
  ⟨h.bel, h.p0, h.p1, h.p2, fun _ => rfl, h.p4, h.p5, h.p6, h.p7, h.p8, h.p9⟩
theorem ScI.s4 (h : ScI W1 N F G s L x32 x33 x34 x35 x36 x37 x38 x39 x40 x7  W) : ScI W1 N F G s (upd L 4) x32 x33 x34 x35 (.pointer (some ⟨F.g, 0, none⟩)) x37 x38 x39 x40 x7  W :=
  ⟨h.bel, h.p0, h.p1, h.p2, h.p3, fun _ => rfl, h.p5, h.p6, h.p7, h.p8, h.p9⟩
theorem ScI.s5 (h : ScI W1 N F G s L x32 x33 x34 x35 x36 x37 x38 x39 x40 x7  W) : ScI W1 N F G s (upd L 5) x32 x33 x34 x35 x36 (.pointer (some ⟨F.g, 0, none⟩)) x38 x39 x40 x7  W :=
  ⟨h.bel, h.p0, h.p1, h.p2, h.p3, h.p4, fun _ => rfl, h.p6, h.p7, h.p8, h.p9⟩
theorem ScI.s6 (h : ScI W1 N F G s L x32 x33 x34 x35 x36 x37 x38 x39 x40 x7  W) : ScI W1 N F G s (upd L 6) x32 x33 x34 x35 x36 x37 (.pointer (some ⟨F.g, 0, none⟩)) x39 x40 x7  W :=
  ⟨h.bel, h.p0, h.p1, h.p2, h.p3, h.p4, h.p5, fun _ => rfl, h.p7, h.p8, h.p9⟩
theorem ScI.s7 (h : ScI W1 N F G s L x32 x33 x34 x35 x36 x37 x38 x39 x40 x7  W) : ScI W1 N F G s (upd L 7) x32 x33 x34 x35 x36 x37 x38 (.agg s.c.vals.toArray) x40 x7  W :=
  ⟨h.bel, h.p0, h.p1, h.p2, h.p3, h.p4, h.p5, h.p6, fun _ => rfl, h.p8, h.p9⟩
theorem ScI.s8 (h : ScI W1 N F G s L x32 x33 x34 x35 x36 x37 x38 x39 x40 x7  W) : ScI W1 N F G s (upd L 8) x32 x33 x34 x35 x36 x37 x38 x39 (.bool true) x7  W :=
  ⟨h.bel, h.p0, h.p1, h.p2, h.p3, h.p4, h.p5, h.p6, h.p7, fun _ => rfl, h.p9⟩
theorem ScI.s9 (h : ScI W1 N F G s L x32 x33 x34 x35 x36 x37 x38 x39 x40 x7  W) : ScI W1 N F G s (upd L 9) x32 x33 x34 x35 x36 x37 x38 x39 x40 (.bool true)  W :=
  ⟨h.bel, h.p0, h.p1, h.p2, h.p3, h.p4, h.p5, h.p6, h.p7, h.p8, fun _ => rfl⟩
end
@[reducible] def IScI (W1 : World) (N : Nat) (F G : RF) (s : RS) (y0 y1 y2 y3 y4 y5 y6 y8 y9 y10 y11 y12 y13 y14 y15 y16 y17 y18 y19 y20 y21 y22 y23 y24 y25 y26 y27 y28 y29 y30 y31 y41 y42 y43 y44 y45 y46 y47 y48 y49 y50 y51 y52 y53 y54 y55 y56 y57 y58 y59 y60 y61 y62 y63 y64 y65 y66 y67 y68 y69 : Value) : (Nat → Bool) → Act → World → Prop := fun L a W => ∃ x32 x33 x34 x35 x36 x37 x38 x39 x40 x7, a = ⟨#[y0, y1, y2, y3, y4, y5, y6, x7, y8, y9, y10, y11, y12, y13, y14, y15, y16, y17, y18, y19, y20, y21, y22, y23, y24, y25, y26, y27, y28, y29, y30, y31, x32, x33, x34, x35, x36, x37, x38, x39, x40, y41, y42, y43, y44, y45, y46, y47, y48, y49, y50, y51, y52, y53, y54, y55, y56, y57, y58, y59, y60, y61, y62, y63, y64, y65, y66, y67, y68, y69], []⟩ ∧ ScI W1 N F G s L x32 x33 x34 x35 x36 x37 x38 x39 x40 x7  W
structure SdI (W1 : World) (N : Nat) (F G : RF) (s : RS) (L : Nat → Bool) (x41 x42 x43 x44 x45 x46 x47 x48 x49 x50 x51 x52 x53 x54 x55 x56 x57 x58 x59 x60 x61 x62 x63 x64 x65 x66 x67 x68 x69 x2 : Value) (W : World) : Prop where
  bel : KeptL [] W1 W
  p0 : L 0 = true → x41 = .bool true
  p1 : L 1 = true → x42 = .bool true
  p2 : L 2 = true → x43 = .bool true
  p3 : L 3 = true → x44 = .bool true
  p4 : L 4 = true → x45 = .bool true
  p5 : L 5 = true → x46 = .bool true
  p6 : L 6 = true → x47 = .bool true
  p7 : L 7 = true → x48 = .bool true
  p8 : L 8 = true → x49 = .pointer (some ⟨N, 0, none⟩)
  p9 : L 9 = true → x50 = .pointer (some ⟨G.g, 0, none⟩)
  p10 : L 10 = true → x51 = .int .i64 s.n
  p11 : L 11 = true → x52 = .pointer (some ⟨N, 1, none⟩)
  p12 : L 12 = true → x53 = .pointer (some ⟨F.g, 0, none⟩)
  p13 : L 13 = true → x54 = .pointer (some ⟨F.g, 0, none⟩)
  p14 : L 14 = true → x55 = .pointer (some ⟨F.g, 10, none⟩)
  p15 : L 15 = true → x56 = .int .i64 s.n
  p16 : L 16 = true → x57 = .bool true
  p17 : L 17 = true → x58 = .bool true
  p18 : L 18 = true → x59 = .bool true
  p19 : L 19 = true → x60 = .pointer (some ⟨N, 0, none⟩)
  p20 : L 20 = true → x61 = .pointer (some ⟨G.g, 0, none⟩)
  p21 : L 21 = true → x62 = .bool s.gone
  p22 : L 22 = true → x63 = .pointer (some ⟨N, 1, none⟩)
  p23 : L 23 = true → x64 = .pointer (some ⟨F.g, 0, none⟩)
  p24 : L 24 = true → x65 = .pointer (some ⟨F.g, 0, none⟩)
  p25 : L 25 = true → x66 = .pointer (some ⟨F.g, 11, none⟩)
  p26 : L 26 = true → x67 = .bool s.gone
  p27 : L 27 = true → x68 = .bool true
  p28 : L 28 = true → x69 = .bool true
  p29 : L 29 = true → x2 = .bool true
section
variable {W1 : World} {N : Nat} {F G : RF} {s : RS} {L : Nat → Bool} {x41 x42 x43 x44 x45 x46 x47 x48 x49 x50 x51 x52 x53 x54 x55 x56 x57 x58 x59 x60 x61 x62 x63 x64 x65 x66 x67 x68 x69 x2 : Value} {W W2 : World}
theorem SdI.zero (W1 : World) (N : Nat) (F G : RF) (s : RS) (x41 x42 x43 x44 x45 x46 x47 x48 x49 x50 x51 x52 x53 x54 x55 x56 x57 x58 x59 x60 x61 x62 x63 x64 x65 x66 x67 x68 x69 x2 : Value) : SdI W1 N F G s (fun _ => false) x41 x42 x43 x44 x45 x46 x47 x48 x49 x50 x51 x52 x53 x54 x55 x56 x57 x58 x59 x60 x61 x62 x63 x64 x65 x66 x67 x68 x69 x2  W1.drew :=
  ⟨(KeptL.refl _ _).dr ⟨1, rfl⟩, fun k => (by cases k), fun k => (by cases k), fun k => (by cases k), fun k => (by cases k), fun k => (by cases k), fun k => (by cases k), fun k => (by cases k), fun k => (by cases k), fun k => (by cases k), fun k => (by cases k), fun k => (by cases k), fun k => (by cases k), fun k => (by cases k), fun k => (by cases k), fun k => (by cases k), fun k => (by cases k), fun k => (by cases k), fun k => (by cases k), fun k => (by cases k), fun k => (by cases k), fun k => (by cases k), fun k => (by cases k), fun k => (by cases k), fun k => (by cases k), fun k => (by cases k), fun k => (by cases k), fun k => (by cases k), fun k => (by cases k), fun k => (by cases k), fun k => (by cases k)⟩
theorem SdI.mono (h : SdI W1 N F G s L x41 x42 x43 x44 x45 x46 x47 x48 x49 x50 x51 x52 x53 x54 x55 x56 x57 x58 x59 x60 x61 x62 x63 x64 x65 x66 x67 x68 x69 x2  W) (hb : Below W.heap.size W W2) : SdI W1 N F G s L x41 x42 x43 x44 x45 x46 x47 x48 x49 x50 x51 x52 x53 x54 x55 x56 x57 x58 x59 x60 x61 x62 x63 x64 x65 x66 x67 x68 x69 x2  W2 :=
  ⟨h.bel.below hb h.bel.size, h.p0, h.p1, h.p2, h.p3, h.p4, h.p5, h.p6, h.p7, h.p8, h.p9, h.p10, h.p11, h.p12, h.p13, h.p14, h.p15, h.p16, h.p17, h.p18, h.p19, h.p20, h.p21, h.p22, h.p23, h.p24, h.p25, h.p26, h.p27, h.p28, h.p29⟩
theorem SdI.s0 (h : SdI W1 N F G s L x41 x42 x43 x44 x45 x46 x47 x48 x49 x50 x51 x52 x53 x54 x55 x56 x57 x58 x59 x60 x61 x62 x63 x64 x65 x66 x67 x68 x69 x2  W) : SdI W1 N F G s (upd L 0) (.bool true) x42 x43 x44 x45 x46 x47 x48 x49 x50 x51 x52 x53 x54 x55 x56 x57 x58 x59 x60 x61 x62 x63 x64 x65 x66 x67 x68 x69 x2  W :=
  ⟨h.bel, fun _ => rfl, h.p1, h.p2, h.p3, h.p4, h.p5, h.p6, h.p7, h.p8, h.p9, h.p10, h.p11, h.p12, h.p13, h.p14, h.p15, h.p16, h.p17, h.p18, h.p19, h.p20, h.p21, h.p22, h.p23, h.p24, h.p25, h.p26, h.p27, h.p28, h.p29⟩
theorem SdI.s1 (h : SdI W1 N F G s L x41 x42 x43 x44 x45 x46 x47 x48 x49 x50 x51 x52 x53 x54 x55 x56 x57 x58 x59 x60 x61 x62 x63 x64 x65 x66 x67 x68 x69 x2  W) : SdI W1 N F G s (upd L 1) x41 (.bool true) x43 x44 x45 x46 x47 x48 x49 x50 x51 x52 x53 x54 x55 x56 x57 x58 x59 x60 x61 x62 x63 x64 x65 x66 x67 x68 x69 x2  W :=
  ⟨h.bel, h.p0, fun _ => rfl, h.p2, h.p3, h.p4, h.p5, h.p6, h.p7, h.p8, h.p9, h.p10, h.p11, h.p12, h.p13, h.p14, h.p15, h.p16, h.p17, h.p18, h.p19, h.p20, h.p21, h.p22, h.p23, h.p24, h.p25, h.p26, h.p27, h.p28, h.p29⟩
theorem SdI.s2 (h : SdI W1 N F G s L x41 x42 x43 x44 x45 x46 x47 x48 x49 x50 x51 x52 x53 x54 x55 x56 x57 x58 x59 x60 x61 x62 x63 x64 x65 x66 x67 x68 x69 x2  W) : SdI W1 N F G s (upd L 2) x41 x42 (.bool true) x44 x45 x46 x47 x48 x49 x50 x51 x52 x53 x54 x55 x56 x57 x58 x59 x60 x61 x62 x63 x64 x65 x66 x67 x68 x69 x2  W :=
  ⟨h.bel, h.p0, h.p1, fun _ => rfl, h.p3, h.p4, h.p5, h.p6, h.p7, h.p8, h.p9, h.p10, h.p11, h.p12, h.p13, h.p14, h.p15, h.p16, h.p17, h.p18, h.p19, h.p20, h.p21, h.p22, h.p23, h.p24, h.p25, h.p26, h.p27, h.p28, h.p29⟩
theorem SdI.s3 (h : SdI W1 N F G s L x41 x42 x43 x44 x45 x46 x47 x48 x49 x50 x51 x52 x53 x54 x55 x56 x57 x58 x59 x60 x61 x62 x63 x64 x65 x66 x67 x68 x69 x2  W) : SdI W1 N F G s (upd L 3) x41 x42 x43 (.bool true) x45 x46 x47 x48 x49 x50 x51 x52 x53 x54 x55 x56 x57 x58 x59 x60 x61 x62 x63 x64 x65 x66 x67 x68 x69 x2  W :=
  ⟨h.bel, h.p0, h.p1, h.p2, fun _ => rfl, h.p4, h.p5, h.p6, h.p7, h.p8, h.p9, h.p10, h.p11, h.p12, h.p13, h.p14, h.p15, h.p16, h.p17, h.p18, h.p19, h.p20, h.p21, h.p22, h.p23, h.p24, h.p25, h.p26, h.p27, h.p28, h.p29⟩
theorem SdI.s4 (h : SdI W1 N F G s L x41 x42 x43 x44 x45 x46 x47 x48 x49 x50 x51 x52 x53 x54 x55 x56 x57 x58 x59 x60 x61 x62 x63 x64 x65 x66 x67 x68 x69 x2  W) : SdI W1 N F G s (upd L 4) x41 x42 x43 x44 (.bool true) x46 x47 x48 x49 x50 x51 x52 x53 x54 x55 x56 x57 x58 x59 x60 x61 x62 x63 x64 x65 x66 x67 x68 x69 x2  W :=
  ⟨h.bel, h.p0, h.p1, h.p2, h.p3, fun _ => rfl, h.p5, h.p6, h.p7, h.p8, h.p9, h.p10, h.p11, h.p12, h.p13, h.p14, h.p15, h.p16, h.p17, h.p18, h.p19, h.p20, h.p21, h.p22, h.p23, h.p24, h.p25, h.p26, h.p27, h.p28, h.p29⟩
theorem SdI.s5 (h : SdI W1 N F G s L x41 x42 x43 x44 x45 x46 x47 x48 x49 x50 x51 x52 x53 x54 x55 x56 x57 x58 x59 x60 x61 x62 x63 x64 x65 x66 x67 x68 x69 x2  W) : SdI W1 N F G s (upd L 5) x41 x42 x43 x44 x45 (.bool true) x47 x48 x49 x50 x51 x52 x53 x54 x55 x56 x57 x58 x59 x60 x61 x62 x63 x64 x65 x66 x67 x68 x69 x2  W :=
  ⟨h.bel, h.p0, h.p1, h.p2, h.p3, h.p4, fun _ => rfl, h.p6, h.p7, h.p8, h.p9, h.p10, h.p11, h.p12, h.p13, h.p14, h.p15, h.p16, h.p17, h.p18, h.p19, h.p20, h.p21, h.p22, h.p23, h.p24, h.p25, h.p26, h.p27, h.p28, h.p29⟩
theorem SdI.s6 (h : SdI W1 N F G s L x41 x42 x43 x44 x45 x46 x47 x48 x49 x50 x51 x52 x53 x54 x55 x56 x57 x58 x59 x60 x61 x62 x63 x64 x65 x66 x67 x68 x69 x2  W) : SdI W1 N F G s (upd L 6) x41 x42 x43 x44 x45 x46 (.bool true) x48 x49 x50 x51 x52 x53 x54 x55 x56 x57 x58 x59 x60 x61 x62 x63 x64 x65 x66 x67 x68 x69 x2  W :=
  ⟨h.bel, h.p0, h.p1, h.p2, h.p3, h.p4, h.p5, fun _ => rfl, h.p7, h.p8, h.p9, h.p10, h.p11, h.p12, h.p13, h.p14, h.p15, h.p16, h.p17, h.p18, h.p19, h.p20, h.p21, h.p22, h.p23, h.p24, h.p25, h.p26, h.p27, h.p28, h.p29⟩
theorem SdI.s7 (h : SdI W1 N F G s L x41 x42 x43 x44 x45 x46 x47 x48 x49 x50 x51 x52 x53 x54 x55 x56 x57 x58 x59 x60 x61 x62 x63 x64 x65 x66 x67 x68 x69 x2  W) : SdI W1 N F G s (upd L 7) x41 x42 x43 x44 x45 x46 x47 (.bool true) x49 x50 x51 x52 x53 x54 x55 x56 x57 x58 x59 x60 x61 x62 x63 x64 x65 x66 x67 x68 x69 x2  W :=
  ⟨h.bel, h.p0, h.p1, h.p2, h.p3, h.p4, h.p5, h.p6, fun _ => rfl, h.p8, h.p9, h.p10, h.p11, h.p12, h.p13, h.p14, h.p15, h.p16, h.p17, h.p18, h.p19, h.p20, h.p21, h.p22, h.p23, h.p24, h.p25, h.p26, h.p27, h.p28, h.p29⟩
theorem SdI.s8 (h : SdI W1 N F G s L x41 x42 x43 x44 x45 x46 x47 x48 x49 x50 x51 x52 x53 x54 x55 x56 x57 x58 x59 x60 x61 x62 x63 x64 x65 x66 x67 x68 x69 x2  W) : SdI W1 N F G s (upd L 8) x41 x42 x43 x44 x45 x46 x47 x48 (.pointer (some ⟨N, 0, none⟩)) x50 x51 x52 x53 x54 x55 x56 x57 x58 x59 x60 x61 x62 x63 x64 x65 x66 x67 x68 x69 x2  W :=
  ⟨h.bel, h.p0, h.p1, h.p2, h.p3, h.p4, h.p5, h.p6, h.p7, fun _ => rfl, h.p9, h.p10, h.p11, h.p12, h.p13, h.p14, h.p15, h.p16, h.p17, h.p18, h.p19, h.p20, h.p21, h.p22, h.p23, h.p24, h.p25, h.p26, h.p27, h.p28, h.p29⟩
theorem SdI.s9 (h : SdI W1 N F G s L x41 x42 x43 x44 x45 x46 x47 x48 x49 x50 x51 x52 x53 x54 x55 x56 x57 x58 x59 x60 x61 x62 x63 x64 x65 x66 x67 x68 x69 x2  W) : SdI W1 N F G s (upd L 9) x41 x42 x43 x44 x45 x46 x47 x48 x49 (.pointer (some ⟨G.g, 0, none⟩)) x51 x52 x53 x54 x55 x56 x57 x58 x59 x60 x61 x62 x63 x64 x65 x66 x67 x68 x69 x2  W :=
  ⟨h.bel, h.p0, h.p1, h.p2, h.p3, h.p4, h.p5, h.p6, h.p7, h.p8, fun _ => rfl, h.p10, h.p11, h.p12, h.p13, h.p14, h.p15, h.p16, h.p17, h.p18, h.p19, h.p20, h.p21, h.p22, h.p23, h.p24, h.p25, h.p26, h.p27, h.p28, h.p29⟩
theorem SdI.s10 (h : SdI W1 N F G s L x41 x42 x43 x44 x45 x46 x47 x48 x49 x50 x51 x52 x53 x54 x55 x56 x57 x58 x59 x60 x61 x62 x63 x64 x65 x66 x67 x68 x69 x2  W) : SdI W1 N F G s (upd L 10) x41 x42 x43 x44 x45 x46 x47 x48 x49 x50 (.int .i64 s.n) x52 x53 x54 x55 x56 x57 x58 x59 x60 x61 x62 x63 x64 x65 x66 x67 x68 x69 x2  W :=
  ⟨h.bel, h.p0, h.p1, h.p2, h.p3, h.p4, h.p5, h.p6, h.p7, h.p8, h.p9, fun _ => rfl, h.p11, h.p12, h.p13, h.p14, h.p15, h.p16, h.p17, h.p18, h.p19, h.p20, h.p21, h.p22, h.p23, h.p24, h.p25, h.p26, h.p27, h.p28, h.p29⟩
theorem SdI.s11 (h : SdI W1 N F G s L x41 x42 x43 x44 x45 x46 x47 x48 x49 x50 x51 x52 x53 x54 x55 x56 x57 x58 x59 x60 x61 x62 x63 x64 x65 x66 x67 x68 x69 x2  W) : SdI W1 N F G s (upd L 11) x41 x42 x43 x44 x45 x46 x47 x48 x49 x50 x51 (.pointer (some ⟨N, 1, none⟩)) x53 x54 x55 x56 x57 x58 x59 x60 x61 x62 x63 x64 x65 x66 x67 x68 x69 x2  W :=
  ⟨h.bel, h.p0, h.p1, h.p2, h.p3, h.p4, h.p5, h.p6, h.p7, h.p8, h.p9, h.p10, fun _ => rfl, h.p12, h.p13, h.p14, h.p15, h.p16, h.p17, h.p18, h.p19, h.p20, h.p21, h.p22, h.p23, h.p24, h.p25, h.p26, h.p27, h.p28, h.p29⟩
theorem SdI.s12 (h : SdI W1 N F G s L x41 x42 x43 x44 x45 x46 x47 x48 x49 x50 x51 x52 x53 x54 x55 x56 x57 x58 x59 x60 x61 x62 x63 x64 x65 x66 x67 x68 x69 x2  W) : SdI W1 N F G s (upd L 12) x41 x42 x43 x44 x45 x46 x47 x48 x49 x50 x51 x52 (.pointer (some ⟨F.g, 0, none⟩)) x54 x55 x56 x57 x58 x59 x60 x61 x62 x63 x64 x65 x66 x67 x68 x69 x2  W :=
  ⟨h.bel, h.p0, h.p1, h.p2, h.p3, h.p4, h.p5, h.p6, h.p7, h.p8, h.p9, h.p10, h.p11, fun _ => rfl, h.p13, h.p14, h.p15, h.p16, h.p17, h.p18, h.p19, h.p20, h.p21, h.p22, h.p23, h.p24, h.p25, h.p26, h.p27, h.p28, h.p29⟩
theorem SdI.s13 (h : SdI W1 N F G s L x41 x42 x43 x44 x45 x46 x47 x48 x49 x50 x51 x52 x53 x54 x55 x56 x57 x58 x59 x60 x61 x62 x63 x64 x65 x66 x67 x68 x69 x2  W) : SdI W1 N F G s (upd L 13) x41 x42 x43 x44 x45 x46 x47 x48 x49 x50 x51 x52 x53 (.pointer (some ⟨F.g, 0, none⟩)) x55 x56 x57 x58 x59 x60 x61 x62 x63 x64 x65 x66 x67 x68 x69 x2  W :=
  ⟨h.bel, h.p0, h.p1, h.p2, h.p3, h.p4, h.p5, h.p6, h.p7, h.p8, h.p9, h.p10, h.p11, h.p12, fun _ => rfl, h.p14, h.p15, h.p16, h.p17, h.p18, h.p19, h.p20, h.p21, h.p22, h.p23, h.p24, h.p25, h.p26, h.p27, h.p28, h.p29⟩
theorem SdI.s14 (h : SdI W1 N F G s L x41 x42 x43 x44 x45 x46 x47 x48 x49 x50 x51 x52 x53 x54 x55 x56 x57 x58 x59 x60 x61 x62 x63 x64 x65 x66 x67 x68 x69 x2  W) : SdI W1 N F G s (upd L 14) x41 x42 x43 x44 x45 x46 x47 x48 x49 x50 x51 x52 x53 x54 (.pointer (some ⟨F.g, 10, none⟩)) x56 x57 x58 x59 x60 x61 x62 x63 x64 x65 x66 x67 x68 x69 x2  W :=
  ⟨h.bel, h.p0, h.p1, h.p2, h.p3, h.p4, h.p5, h.p6, h.p7, h.p8, h.p9, h.p10, h.p11, h.p12, h.p13, fun _ => rfl, h.p15, h.p16, h.p17, h.p18, h.p19, h.p20, h.p21, h.p22, h.p23, h.p24, h.p25, h.p26, h.p27, h.p28, h.p29⟩
theorem SdI.s15 (h : SdI W1 N F G s L x41 x42 x43 x44 x45 x46 x47 x48 x49 x50 x51 x52 x53 x54 x55 x56 x57 x58 x59 x60 x61 x62 x63 x64 x65 x66 x67 x68 x69 x2  W) : SdI W1 N F G s (upd L 15) x41 x42 x43 x44 x45 x46 x47 x48 x49 x50 x51 x52 x53 x54 x55 (.int .i64 s.n) x57 x58 x59 x60 x61 x62 x63 x64 x65 x66 x67 x68 x69 x2  W :=
  ⟨h.bel, h.p0, h.p1, h.p2, h.p3, h.p4, h.p5, h.p6, h.p7, h.p8, h.p9, h.p10, h.p11, h.p12, h.p13, h.p14, fun _ => rfl, h.p16, h.p17, h.p18, h.p19, h.p20, h.p21, h.p22, h.p23, h.p24, h.p25, h.p26, h.p27, h.p28, h.p29⟩
theorem SdI.s16 (h : SdI W1 N F G s L x41 x42 x43 x44 x45 x46 x47 x48 x49 x50 x51 x52 x53 x54 x55 x56 x57 x58 x59 x60 x61 x62 x63 x64 x65 x66 x67 x68 x69 x2  W) : SdI W1 N F G s (upd L 16) x41 x42 x43 x44 x45 x46 x47 x48 x49 x50 x51 x52 x53 x54 x55 x56 (.bool true) x58 x59 x60 x61 x62 x63 x64 x65 x66 x67 x68 x69 x2  W :=
  ⟨h.bel, h.p0, h.p1, h.p2, h.p3, h.p4, h.p5, h.p6, h.p7, h.p8, h.p9, h.p10, h.p11, h.p12, h.p13, h.p14, h.p15, fun _ => rfl, h.p17, h.p18, h.p19, h.p20, h.p21, h.p22, h.p23, h.p24, h.p25, h.p26, h.p27, h.p28, h.p29⟩
theorem SdI.s17 (h : SdI W1 N F G s L x41 x42 x43 x44 x45 x46 x47 x48 x49 x50 x51 x52 x53 x54 x55 x56 x57 x58 x59 x60 x61 x62 x63 x64 x65 x66 x67 x68 x69 x2  W) : SdI W1 N F G s (upd L 17) x41 x42 x43 x44 x45 x46 x47 x48 x49 x50 x51 x52 x53 x54 x55 x56 x57 (.bool true) x59 x60 x61 x62 x63 x64 x65 x66 x67 x68 x69 x2  W :=
  ⟨h.bel, h.p0, h.p1, h.p2, h.p3, h.p4, h.p5, h.p6, h.p7, h.p8, h.p9, h.p10, h.p11, h.p12, h.p13, h.p14, h.p15, h.p16, fun _ => rfl, h.p18, h.p19, h.p20, h.p21, h.p22, h.p23, h.p24, h.p25, h.p26, h.p27, h.p28, h.p29⟩
theorem SdI.s18 (h : SdI W1 N F G s L x41 x42 x43 x44 x45 x46 x47 x48 x49 x50 x51 x52 x53 x54 x55 x56 x57 x58 x59 x60 x61 x62 x63 x64 x65 x66 x67 x68 x69 x2  W) : SdI W1 N F G s (upd L 18) x41 x42 x43 x44 x45 x46 x47 x48 x49 x50 x51 x52 x53 x54 x55 x56 x57 x58 (.bool true) x60 x61 x62 x63 x64 x65 x66 x67 x68 x69 x2  W :=
  ⟨h.bel, h.p0, h.p1, h.p2, h.p3, h.p4, h.p5, h.p6, h.p7, h.p8, h.p9, h.p10, h.p11, h.p12, h.p13, h.p14, h.p15, h.p16, h.p17, fun _ => rfl, h.p19, h.p20, h.p21, h.p22, h.p23, h.p24, h.p25, h.p26, h.p27, h.p28, h.p29⟩
theorem SdI.s19 (h : SdI W1 N F G s L x41 x42 x43 x44 x45 x46 x47 x48 x49 x50 x51 x52 x53 x54 x55 x56 x57 x58 x59 x60 x61 x62 x63 x64 x65 x66 x67 x68 x69 x2  W) : SdI W1 N F G s (upd L 19) x41 x42 x43 x44 x45 x46 x47 x48 x49 x50 x51 x52 x53 x54 x55 x56 x57 x58 x59 (.pointer (some ⟨N, 0, none⟩)) x61 x62 x63 x64 x65 x66 x67 x68 x69 x2  W :=
  ⟨h.bel, h.p0, h.p1, h.p2, h.p3, h.p4, h.p5, h.p6, h.p7, h.p8, h.p9, h.p10, h.p11, h.p12, h.p13, h.p14, h.p15, h.p16, h.p17, h.p18, fun _ => rfl, h.p20, h.p21, h.p22, h.p23, h.p24, h.p25, h.p26, h.p27, h.p28, h.p29⟩
theorem SdI.s20 (h : SdI W1 N F G s L x41 x42 x43 x44 x45 x46 x47 x48 x49 x50 x51 x52 x53 x54 x55 x56 x57 x58 x59 x60 x61 x62 x63 x64 x65 x66 x67 x68 x69 x2  W) : SdI W1 N F G s (upd L 20) x41 x42 x43 x44 x45 x46 x47 x48 x49 x50 x51 x52 x53 x54 x55 x56 x57 x58 x59 x60 (.pointer (some ⟨G.g, 0, none⟩)) x62 x63 x64 x65 x66 x67 x68 x69 x2  W :=
  ⟨h.bel, h.p0, h.p1, h.p2, h.p3, h.p4, h.p5, h.p6, h.p7, h.p8, h.p9, h.p10, h.p11, h.p12, h.p13, h.p14, h.p15, h.p16, h.p17, h.p18, h.p19, fun _ => rfl, h.p21, h.p22, h.p23, h.p24, h.p25, h.p26, h.p27, h.p28, h.p29⟩
theorem SdI.s21 (h : SdI W1 N F G s L x41 x42 x43 x44 x45 x46 x47 x48 x49 x50 x51 x52 x53 x54 x55 x56 x57 x58 x59 x60 x61 x62 x63 x64 x65 x66 x67 x68 x69 x2  W) : SdI W1 N F G s (upd L 21) x41 x42 x43 x44 x45 x46 x47 x48 x49 x50 x51 x52 x53 x54 x55 x56 x57 x58 x59 x60 x61 (.bool s.gone) x63 x64 x65 x66 x67 x68 x69 x2  W :=
  ⟨h.bel, h.p0, h.p1, h.p2, h.p3, h.p4, h.p5, h.p6, h.p7, h.p8, h.p9, h.p10, h.p11, h.p12, h.p13, h.p14, h.p15, h.p16, h.p17, h.p18, h.p19, h.p20, fun _ => rfl, h.p22, h.p23, h.p24, h.p25, h.p26, h.p27, h.p28, h.p29⟩
theorem SdI.s22 (h : SdI W1 N F G s L x41 x42 x43 x44 x45 x46 x47 x48 x49 x50 x51 x52 x53 x54 x55 x56 x57 x58 x59 x60 x61 x62 x63 x64 x65 x66 x67 x68 x69 x2  W) : SdI W1 N F G s (upd L 22) x41 x42 x43 x44 x45 x46 x47 x48 x49 x50 x51 x52 x53 x54 x55 x56 x57 x58 x59 x60 x61 x62 (.pointer (some ⟨N, 1, none⟩)) x64 x65 x66 x67 x68 x69 x2  W :=
  ⟨h.bel, h.p0, h.p1, h.p2, h.p3, h.p4, h.p5, h.p6, h.p7, h.p8, h.p9, h.p10, h.p11, h.p12, h.p13, h.p14, h.p15, h.p16, h.p17, h.p18, h.p19, h.p20, h.p21, fun _ => rfl, h.p23, h.p24, h.p25, h.p26, h.p27, h.p28, h.p29⟩
theorem SdI.s23 (h : SdI W1 N F G s L x41 x42 x43 x44 x45 x46 x47 x48 x49 x50 x51 x52 x53 x54 x55 x56 x57 x58 x59 x60 x61 x62 x63 x64 x65 x66 x67 x68 x69 x2  W) : SdI W1 N F G s (upd L 23) x41 x42 x43 x44 x45 x46 x47 x48 x49 x50 x51 x52 x53 x54 x55 x56 x57 x58 x59 x60 x61 x62 x63 (.pointer (some ⟨F.g, 0, none⟩)) x65 x66 x67 x68 x69 x2  W :=
  ⟨h.bel, h.p0, h.p1, h.p2, h.p3, h.p4, h.p5, h.p6, h.p7, h.p8, h.p9, h.p10, h.p11, h.p12, h.p13, h.p14, h.p15, h.p16, h.p17, h.p18, h.p19, h.p20, h.p21, h.p22, fun _ => rfl, h.p24, h.p25, h.p26, h.p27, h.p28, h.p29⟩
theorem SdI.s24 (h : SdI W1 N F G s L x41 x42 x43 x44 x45 x46 x47 x48 x49 x50 x51 x52 x53 x54 x55 x56 x57 x58 x59 x60 x61 x62 x63 x64 x65 x66 x67 x68 x69 x2  W) : SdI W1 N F G s (upd L 24) x41 x42 x43 x44 x45 x46 x47 x48 x49 x50 x51 x52 x53 x54 x55 x56 x57 x58 x59 x60 x61 x62 x63 x64 (.pointer (some ⟨F.g, 0, none⟩)) x66 x67 x68 x69 x2  W :=
  ⟨h.bel, h.p0, h.p1, h.p2, h.p3, h.p4, h.p5, h.p6, h.p7, h.p8, h.p9, h.p10, h.p11, h.p12, h.p13, h.p14, h.p15, h.p16, h.p17, h.p18, h.p19, h.p20, h.p21, h.p22, h.p23, fun _ => rfl, h.p25, h.p26, h.p27, h.p28, h.p29⟩
theorem SdI.s25 (h : SdI W1 N F G s L x41 x42 x43 x44 x45 x46 x47 x48 x49 x50 x51 x52 x53 x54 x55 x56 x57 x58 x59 x60 x61 x62 x63 x64 x65 x66 x67 x68 x69 x2  W) : SdI W1 N F G s (upd L 25) x41 x42 x43 x44 x45 x46 x47 x48 x49 x50 x51 x52 x53 x54 x55 x56 x57 x58 x59 x60 x61 x62 x63 x64 x65 (.pointer (some ⟨F.g, 11, none⟩)) x67 x68 x69 x2  W :=
  ⟨h.bel, h.p0, h.p1, h.p2, h.p3, h.p4, h.p5, h.p6, h.p7, h.p8, h.p9, h.p10, h.p11, h.p12, h.p13, h.p14, h.p15, h.p16, h.p17, h.p18, h.p19, h.p20, h.p21, h.p22, h.p23, h.p24, fun _ => rfl, h.p26, h.p27, h.p28, h.p29⟩
theorem SdI.s26 (h : SdI W1 N F G s L x41 x42 x43 x44 x45 x46 x47 x48 x49 x50 x51 x52 x53 x54 x55 x56 x57 x58 x59 x60 x61 x62 x63 x64 x65 x66 x67 x68 x69 x2  W) : SdI W1 N F G s (upd L 26) x41 x42 x43 x44 x45 x46 x47 x48 x49 x50 x51 x52 x53 x54 x55 x56 x57 x58 x59 x60 x61 x62 x63 x64 x65 x66 (.bool s.gone) x68 x69 x2  W :=
  ⟨h.bel, h.p0, h.p1, h.p2, h.p3, h.p4, h.p5, h.p6, h.p7, h.p8, h.p9, h.p10, h.p11, h.p12, h.p13, h.p14, h.p15, h.p16, h.p17, h.p18, h.p19, h.p20, h.p21, h.p22, h.p23, h.p24, h.p25, fun _ => rfl, h.p27, h.p28, h.p29⟩
theorem SdI.s27 (h : SdI W1 N F G s L x41 x42 x43 x44 x45 x46 x47 x48 x49 x50 x51 x52 x53 x54 x55 x56 x57 x58 x59 x60 x61 x62 x63 x64 x65 x66 x67 x68 x69 x2  W) : SdI W1 N F G s (upd L 27) x41 x42 x43 x44 x45 x46 x47 x48 x49 x50 x51 x52 x53 x54 x55 x56 x57 x58 x59 x60 x61 x62 x63 x64 x65 x66 x67 (.bool true) x69 x2  W :=
  ⟨h.bel, h.p0, h.p1, h.p2, h.p3, h.p4, h.p5, h.p6, h.p7, h.p8, h.p9, h.p10, h.p11, h.p12, h.p13, h.p14, h.p15, h.p16, h.p17, h.p18, h.p19, h.p20, h.p21, h.p22, h.p23, h.p24, h.p25, h.p26, fun _ => rfl, h.p28, h.p29⟩
theorem SdI.s28 (h : SdI W1 N F G s L x41 x42 x43 x44 x45 x46 x47 x48 x49 x50 x51 x52 x53 x54 x55 x56 x57 x58 x59 x60 x61 x62 x63 x64 x65 x66 x67 x68 x69 x2  W) : SdI W1 N F G s (upd L 28) x41 x42 x43 x44 x45 x46 x47 x48 x49 x50 x51 x52 x53 x54 x55 x56 x57 x58 x59 x60 x61 x62 x63 x64 x65 x66 x67 x68 (.bool true) x2  W :=
  ⟨h.bel, h.p0, h.p1, h.p2, h.p3, h.p4, h.p5, h.p6, h.p7, h.p8, h.p9, h.p10, h.p11, h.p12, h.p13, h.p14, h.p15, h.p16, h.p17, h.p18, h.p19, h.p20, h.p21, h.p22, h.p23, h.p24, h.p25, h.p26, h.p27, fun _ => rfl, h.p29⟩
theorem SdI.s29 (h : SdI W1 N F G s L x41 x42 x43 x44 x45 x46 x47 x48 x49 x50 x51 x52 x53 x54 x55 x56 x57 x58 x59 x60 x61 x62 x63 x64 x65 x66 x67 x68 x69 x2  W) : SdI W1 N F G s (upd L 29) x41 x42 x43 x44 x45 x46 x47 x48 x49 x50 x51 x52 x53 x54 x55 x56 x57 x58 x59 x60 x61 x62 x63 x64 x65 x66 x67 x68 x69 (.bool true)  W :=
  ⟨h.bel, h.p0, h.p1, h.p2, h.p3, h.p4, h.p5, h.p6, h.p7, h.p8, h.p9, h.p10, h.p11, h.p12, h.p13, h.p14, h.p15, h.p16, h.p17, h.p18, h.p19, h.p20, h.p21, h.p22, h.p23, h.p24, h.p25, h.p26, h.p27, h.p28, fun _ => rfl⟩
end
@[reducible] def ISdI (W1 : World) (N : Nat) (F G : RF) (s : RS) (y0 y1 y3 y4 y5 y6 y7 y8 y9 y10 y11 y12 y13 y14 y15 y16 y17 y18 y19 y20 y21 y22 y23 y24 y25 y26 y27 y28 y29 y30 y31 y32 y33 y34 y35 y36 y37 y38 y39 y40 : Value) : (Nat → Bool) → Act → World → Prop := fun L a W => ∃ x41 x42 x43 x44 x45 x46 x47 x48 x49 x50 x51 x52 x53 x54 x55 x56 x57 x58 x59 x60 x61 x62 x63 x64 x65 x66 x67 x68 x69 x2, a = ⟨#[y0, y1, x2, y3, y4, y5, y6, y7, y8, y9, y10, y11, y12, y13, y14, y15, y16, y17, y18, y19, y20, y21, y22, y23, y24, y25, y26, y27, y28, y29, y30, y31, y32, y33, y34, y35, y36, y37, y38, y39, y40, x41, x42, x43, x44, x45, x46, x47, x48, x49, x50, x51, x52, x53, x54, x55, x56, x57, x58, x59, x60, x61, x62, x63, x64, x65, x66, x67, x68, x69], []⟩ ∧ SdI W1 N F G s L x41 x42 x43 x44 x45 x46 x47 x48 x49 x50 x51 x52 x53 x54 x55 x56 x57 x58 x59 x60 x61 x62 x63 x64 x65 x66 x67 x68 x69 x2  W

def pairV (G F : RF) : Value := .agg #[.pointer (some ⟨G.g, 0, none⟩), .pointer (some ⟨F.g, 0, none⟩)]

set_option maxHeartbeats 1000000 in
set_option maxRecDepth 100000 in
theorem lsame_any (w : World) (G F : RF) (s : RS) (S : ByteArray) (hc : CAt w G s S) (hr : RAt w F s) :
    Calls Try.prog 34 #[.agg #[.pointer (some ⟨G.g, 0, none⟩), .pointer (some ⟨F.g, 0, none⟩)]] w fun e w' => e = .returned (.bool true) ∧ Below w.heap.size w w' := by
  obtain ⟨m1, m2, m3, m4⟩ := hc.small
  have h8 : ∀ p ∈ s.st.pages, ∀ x ∈ p, x.length = 32 := hc.ok.by8
  have m5 : ∀ p ∈ s.st.pages, p.length ≤ 4096 := fun p hp => by
    have h1 := hc.ok.cl p hp
    have h2 := hc.ok.c2
    omega
  have HST : Hid (∀ W, CAt W G s S → Calls Try.prog 16 #[.pointer (some ⟨G.g, 0, none⟩)] W (AgainPost s.st W)) := fun W hW => cstate_any G s S W hW
  have HSS : Hid (∀ W N p e b ps, OwnX W N s.st p e b ps → RAt W F s → Calls Try.prog 14 #[.agg #[.slice (some ⟨p, 0, none⟩) s.pages.length s.pages.length, .slice (some ⟨e, 0, none⟩) s.erases.length s.erases.length, .slice (some ⟨b, 0, none⟩) s.blown.length s.blown.length], .agg #[.slice (some ⟨F.pB, 0, none⟩) s.pages.length F.pcap, .slice (some ⟨F.eB, 0, none⟩) s.erases.length F.ecap, .slice (some ⟨F.bB, 0, none⟩) s.blown.length F.bcap]] W fun e w' => e = .returned (.bool true) ∧ Below W.heap.size W w') := by
    intro W N p e b ps ho hW
    have sz : s.st.pages.length ≤ 140737488355328 ∧ s.st.erases.length ≤ 140737488355328 ∧ s.st.blown.length ≤ 140737488355328 ∧ ∀ p ∈ s.st.pages, p.length ≤ 140737488355328 := ⟨by omega, by omega, by omega, fun p hp => by have := m5 p hp; omega⟩
    exact same_any ⟨some ⟨p, 0, none⟩, s.st.pages.length, some ⟨e, 0, none⟩, s.st.erases.length, some ⟨b, 0, none⟩, s.st.blown.length⟩ ⟨some ⟨F.pB, 0, none⟩, F.pcap, some ⟨F.eB, 0, none⟩, F.ecap, some ⟨F.bB, 0, none⟩, F.bcap⟩ s.st s.st W (ho.view h8) hW.view sz sz true ⟨fun _ => rfl, fun _ => rfl⟩
  have HWR : Hid (∀ W N p e b ps, OwnX W N s.st p e b ps → Calls Try.prog 15 #[.agg #[.slice (some ⟨p, 0, none⟩) s.pages.length s.pages.length, .slice (some ⟨e, 0, none⟩) s.erases.length s.erases.length, .slice (some ⟨b, 0, none⟩) s.blown.length s.blown.length]] W fun e' w' => e' = .returned (.tuple #[]) ∧ KeptL (p :: e :: b :: ps.map (·.1)) W w') := fun W N p e b ps ho => wreck_own W N s.st p e b ps ho h8 m1 m2 m3 m5
  have HC0 : Hid (CAt w G s S) := hc
  have HR0 : Hid (RAt w F s) := hr
  have hz : ∀ w : World, (zeroValue 40).run Try.prog w = .ok (.agg #[.slice none 0 0, .slice none 0 0, .slice none 0 0]) w := fun _ => by kernel_rfl
  obtain ⟨W0, hW0⟩ : ∃ W0, W0 = w.alloc (.cells #[.pointer (some ⟨G.g, 0, none⟩), .pointer (some ⟨F.g, 0, none⟩)] 76) := ⟨_, rfl⟩
  have bb0 : Below w.heap.size w W0 := by rw [hW0]; exact (Below.refl _ _).alloc (Nat.le_refl _) _
  have rp0 : Row W0 w.heap.size 76 [.pointer (some ⟨G.g, 0, none⟩), .pointer (some ⟨F.g, 0, none⟩)] := by rw [hW0]; exact Row.at _ _ _ _ _ rfl rfl
  have d0 := rp0.cell 0 _ rfl
  clear hc hr m1 m2 m3 m4 m5 h8
  have hol : ∀ (t : St) p e b, (ownVals t p e b).length = 3 := fun _ _ _ _ => rfl
  have hoo : ∀ (t : St) p e b, ∀ u ∈ ownVals t p e b, u.oneCell' = true := fun _ _ _ _ => by simp [ownVals, Value.oneCell']
  go_enter Try.func34, Try.ntmps34
  go_wp2_with fail
  rw [← hW0]
  refine (HST.out _ (HC0.out.below bb0 (Nat.le_refl _))).mono ?_
  rintro e w1 ⟨p1, e1, b1, ps1, rfl, ox1, hb1⟩
  have bb1 := bb0.trans (hb1.mono bb0.size)
  have rp1 : Row w1 w.heap.size 76 _ := (hb1.block _ rp0.lt).trans rp0
  have ho1 : OwnX w1 w.heap.size s.st p1 e1 b1 ps1 := ox1.base bb0.size
  have hlo1 : ∀ b ∈ p1 :: e1 :: b1 :: ps1.map (·.1), w.heap.size < b := fun b hb => by have h1 := ox1.lo b hb; have h2 := rp0.lt; omega
  clear hW0 d0 ox1 hb1 bb0 rp0
  generalize hL1 : w1.heap.size = L1 at *
  go_wp2_with (refine wpList_store_Row rfl 40 _ _ rfl L1 40 0 [nilS, nilS, nilS] (ownVals s.st p1 e1 b1) (Row.at _ _ _ _ _ hL1.symm rfl) (by rw [hol]; simp) rfl rfl (by rw [hol]; kernel_rfl) (hoo _ _ _ _) ?_; intro w2 hr2 hs2; have rl2 : Row w2 L1 40 (ownVals s.st p1 e1 b1) := row_whole hr2 (by rw [hol]; simp); have bl2 : Below w1.heap.size w1 w2 := hs2.below ((Below.refl _ _).alloc (Nat.le_refl _) _) (by omega); have bb2 := bb1.trans (bl2.mono bb1.size); have rp2 : Row w2 w.heap.size 76 _ := (bl2.block _ rp1.lt).trans rp1; have ho2 := ho1.below bl2; have d0 := rp2.cell 0 _ rfl; clear hr2 hs2)
  refine (HST.out _ (HC0.out.below bb2 (Nat.le_refl _))).mono ?_
  rintro e w3 ⟨p2, e2, b2, ps2, rfl, ox2, hb3⟩
  have bb3 := bb2.trans (hb3.mono bb2.size)
  have rp3 : Row w3 w.heap.size 76 _ := (hb3.block _ rp2.lt).trans rp2
  have rl3 : Row w3 L1 40 (ownVals s.st p1 e1 b1) := (hb3.block _ rl2.lt).trans rl2
  have ho3 := ho2.below hb3
  have hp3 : OwnX w3 w.heap.size s.st p2 e2 b2 ps2 := ox2.base bb2.size
  have hz2 := rl2.lt
  have HX : Hid (∀ b ∈ p2 :: e2 :: b2 :: ps2.map (·.1), L1 < b ∧ w.heap.size < b ∧ b ∉ p1 :: e1 :: b1 :: ps1.map (·.1)) := fun b hb => by
    have h1 := ox2.lo b hb
    refine ⟨by omega, by have := rp2.lt; omega, fun hm => ?_⟩
    have := ho2.lt b hm
    omega
  have HL1 : Hid (L1 ∉ p1 :: e1 :: b1 :: ps1.map (·.1) ∧ w.heap.size < L1) := ⟨fun hm => by have := ho1.lt L1 hm; omega, by have := rp1.lt; omega⟩
  clear d0 ox2 hb3 bb2 rp2 rl2 ho2 bl2 ho1 rp1 bb1 hL1 hz2
  generalize hL2 : w3.heap.size = L2 at *
  go_wp2_with (refine wpList_store_Row rfl 40 _ _ rfl L2 40 0 [nilS, nilS, nilS] (ownVals s.st p2 e2 b2) (Row.at _ _ _ _ _ hL2.symm rfl) (by rw [hol]; simp) rfl rfl (by rw [hol]; kernel_rfl) (hoo _ _ _ _) ?_; intro wa hra hsa; have rma : Row wa L2 40 (ownVals s.st p2 e2 b2) := row_whole hra (by rw [hol]; simp); have bla : Below w3.heap.size w3 wa := hsa.below ((Below.refl _ _).alloc (Nat.le_refl _) _) (by omega); clear hra hsa)
  have bba := bb3.trans (bla.mono bb3.size)
  have HRP : Hid (Row wa w.heap.size 76 [.pointer (some ⟨G.g, 0, none⟩), .pointer (some ⟨F.g, 0, none⟩)]) := (bla.block _ rp3.lt).trans rp3
  have hrl : Row wa L1 40 (ownVals s.st p1 e1 b1) := (bla.block _ rl3.lt).trans rl3
  unfold ownVals at hrl rma
  have HRL1 : Hid (Row wa L1 40 [.slice (some ⟨p1, 0, none⟩) s.pages.length s.pages.length, .slice (some ⟨e1, 0, none⟩) s.erases.length s.erases.length, .slice (some ⟨b1, 0, none⟩) s.blown.length s.blown.length]) := hrl
  have HRL2 : Hid (Row wa L2 40 [.slice (some ⟨p2, 0, none⟩) s.pages.length s.pages.length, .slice (some ⟨e2, 0, none⟩) s.erases.length s.erases.length, .slice (some ⟨b2, 0, none⟩) s.blown.length s.blown.length]) := rma
  have HO1 : Hid (OwnX wa w.heap.size s.st p1 e1 b1 ps1) := ho3.below bla
  have HO2 : Hid (OwnX wa w.heap.size s.st p2 e2 b2 ps2) := hp3.below bla
  have HRA : Hid (RAt wa F s) := HR0.out.keep (fun B hB => bba.block B (HR0.out.blt B hB))
  have HL2 : Hid (L2 ∉ p1 :: e1 :: b1 :: ps1.map (·.1) ∧ L2 ∉ p2 :: e2 :: b2 :: ps2.map (·.1)) := ⟨fun hm => by have := ho3.lt L2 hm; omega, fun hm => by have := hp3.lt L2 hm; omega⟩
  clear bla bb3 rp3 rl3 ho3 hp3 hL2 hrl rma
  refine wp_region_inv (ISaI wa w.heap.size F s p1 e1 b1 _ _ _ _ _ _ _ _ _ _ _ _ _ _ _ _ _ _ _ _ _ _ _ _ _ _ _ _ _ _ _ _ _ _ _ _ _ _ _ _ _ _ _ _ _ _ _ _ _ _ _ _ _ _ _ _ _ _ _ _ _ _) (by kernel_rfl) (by kernel_rfl) ⟨_, _, _, _, _, _, _, _, rfl, SaI.zero wa w.heap.size F s p1 e1 b1 _ _ _ _ _ _ _ _⟩ ?_ ?_
  · refine .cons ?_ (.cons ?_ (.cons ?_ (.cons ?_ (.cons ?_ (.cons ?_ (.cons ?_ (.cons ?_ .nil)))))))
    all_goals (rintro L a W ⟨x14, x15, x16, x17, x18, x19, x20, x5, rfl, hI⟩ hL hd K hK)
    · have rl : Row W L1 40 _ := (hI.bel.block _ HRL1.out.lt (by simp)).trans HRL1.out
      have c0 := rl.cell 0 _ rfl
      have c1 := rl.cell 1 _ rfl
      have c2 := rl.cell 2 _ rfl
      rw [if_pos (by rfl)]
      go_simp
      exact hK.out _ _ ⟨_, _, _, _, _, _, _, _, rfl, hI.s0⟩
    · rw [if_pos (by rfl)]
      go_simp
      exact hK.out _ _ ⟨_, _, _, _, _, _, _, _, rfl, hI.s1⟩
    · have hx1 := hI.p1 (hd 1 (by decide))
      subst hx1
      have rp : Row W w.heap.size 76 _ := (hI.bel.block _ HRP.out.lt (by simp)).trans HRP.out
      have d0 := rp.cell 0 _ rfl
      have d1 := rp.cell 1 _ rfl
      rw [if_pos (by rfl)]
      go_simp
      exact hK.out _ _ ⟨_, _, _, _, _, _, _, _, rfl, hI.s2⟩
    · have hx2 := hI.p2 (hd 2 (by decide))
      subst hx2
      rw [if_pos (by rfl)]
      go_simp
      exact hK.out _ _ ⟨_, _, _, _, _, _, _, _, rfl, hI.s3⟩
    · have hx3 := hI.p3 (hd 3 (by decide))
      subst hx3
      rw [if_pos (by rfl)]
      go_simp
      exact hK.out _ _ ⟨_, _, _, _, _, _, _, _, rfl, hI.s4⟩
    · have hx4 := hI.p4 (hd 4 (by decide))
      subst hx4
      have rr : RAt W F s := HRA.out.keep (fun B hB => hI.bel.block B (HRA.out.blt B hB) (by simp))
      have c7 := rr.cPages
      have c8 := rr.cEr
      have c9 := rr.cBl
      rw [if_pos (by rfl)]
      go_simp
      exact hK.out _ _ ⟨_, _, _, _, _, _, _, _, rfl, hI.s5⟩
    · have hx0 := hI.p0 (hd 0 (by decide))
      subst hx0
      have hx5 := hI.p5 (hd 5 (by decide))
      subst hx5
      have rr : RAt W F s := HRA.out.keep (fun B hB => hI.bel.block B (HRA.out.blt B hB) (by simp))
      have ox := HO1.out.below ⟨hI.bel.os, hI.bel.tape, hI.bel.output, hI.bel.size, fun k hk => hI.bel.block k hk (by simp)⟩
      rw [if_pos (by rfl)]
      go_simp
      refine (HSS.out _ _ _ _ _ _ ox rr).mono ?_
      rintro e w3 ⟨rfl, hb3⟩
      exact hK.out _ _ ⟨_, _, _, _, _, _, _, _, rfl, (hI.mono hb3).s6⟩
    · have hx6 := hI.p6 (hd 6 (by decide))
      subst hx6
      rw [if_pos (by rfl)]
      go_simp
      exact hK.out _ _ ⟨_, _, _, _, _, _, _, _, rfl, hI.s7⟩
  · rintro L a W hall ⟨x14, x15, x16, x17, x18, x19, x20, x5, rfl, hI⟩
    have hx0 := hI.p0 (hall 0 (by decide))
    have hx1 := hI.p1 (hall 1 (by decide))
    have hx2 := hI.p2 (hall 2 (by decide))
    have hx3 := hI.p3 (hall 3 (by decide))
    have hx4 := hI.p4 (hall 4 (by decide))
    have hx5 := hI.p5 (hall 5 (by decide))
    have hx6 := hI.p6 (hall 6 (by decide))
    have hx7 := hI.p7 (hall 7 (by decide))
    subst hx0 hx1 hx2 hx3 hx4 hx5 hx6 hx7
    have hkp := hI.bel
    clear hI hall
    try dsimp only
    have bk : Below wa.heap.size wa W := hkp.toBelow
    have bbW := bba.trans (bk.mono bba.size)
    have rlW : Row W L1 40 _ := (bk.block _ HRL1.out.lt).trans HRL1.out
    have c0 := rlW.cell 0 _ rfl
    have c1 := rlW.cell 1 _ rfl
    have c2 := rlW.cell 2 _ rfl
    have HO1W : Hid (OwnX W w.heap.size s.st p1 e1 b1 ps1) := HO1.out.below bk
    have hRPW : Row W w.heap.size 76 _ := (bk.block _ HRP.out.lt).trans HRP.out
    have hRL2W : Row W L2 40 _ := (bk.block _ HRL2.out.lt).trans HRL2.out
    have hO2W := HO2.out.below bk
    clear hkp
    go_wp2_with (refine (HWR.out _ _ _ _ _ _ HO1W.out).mono ?_; rintro e wb ⟨rfl, klb⟩)
    have bbB : Below w.heap.size w wb := bbW.trans (klb.belowN (fun B hB => by have := hlo1 B hB; omega) bbW.size)
    replace HRP : Hid (Row wb w.heap.size 76 [.pointer (some ⟨G.g, 0, none⟩), .pointer (some ⟨F.g, 0, none⟩)]) := (klb.block _ hRPW.lt (fun hm => by have := hlo1 _ hm; omega)).trans hRPW
    replace HRL2 : Hid (Row wb L2 40 [.slice (some ⟨p2, 0, none⟩) s.pages.length s.pages.length, .slice (some ⟨e2, 0, none⟩) s.erases.length s.erases.length, .slice (some ⟨b2, 0, none⟩) s.blown.length s.blown.length]) := (klb.block _ hRL2W.lt HL2.out.1).trans hRL2W
    replace HO2 : Hid (OwnX wb w.heap.size s.st p2 e2 b2 ps2) := hO2W.keep fun b hb => klb.block b (hO2W.lt b hb) (HX.out b hb).2.2
    replace HRA : Hid (RAt wb F s) := HR0.out.keep (fun B hB => bbB.block B (HR0.out.blt B hB))
    clear rlW c0 c1 c2 HO1W hRPW hRL2W hO2W klb bbW bk bba HRL1 HO1
    refine wp_region_inv (ISbI wb w.heap.size F s p2 e2 b2 _ _ _ _ _ _ _ _ _ _ _ _ _ _ _ _ _ _ _ _ _ _ _ _ _ _ _ _ _ _ _ _ _ _ _ _ _ _ _ _ _ _ _ _ _ _ _ _ _ _ _ _ _ _ _ _ _ _ _ _ _ _) (by kernel_rfl) (by kernel_rfl) ⟨_, _, _, _, _, _, _, _, rfl, SbI.zero wb w.heap.size F s p2 e2 b2 _ _ _ _ _ _ _ _⟩ ?_ ?_
    · refine .cons ?_ (.cons ?_ (.cons ?_ (.cons ?_ (.cons ?_ (.cons ?_ (.cons ?_ (.cons ?_ .nil)))))))
      all_goals (rintro L a W ⟨x23, x24, x25, x26, x27, x28, x29, x6, rfl, hI⟩ hL hd K hK)
      · have rl : Row W L2 40 _ := (hI.bel.block _ HRL2.out.lt (by simp)).trans HRL2.out
        have c0 := rl.cell 0 _ rfl
        have c1 := rl.cell 1 _ rfl
        have c2 := rl.cell 2 _ rfl
        rw [if_pos (by rfl)]
        go_simp
        exact hK.out _ _ ⟨_, _, _, _, _, _, _, _, rfl, hI.s0⟩
      · rw [if_pos (by rfl)]
        go_simp
        exact hK.out _ _ ⟨_, _, _, _, _, _, _, _, rfl, hI.s1⟩
      · have hx1 := hI.p1 (hd 1 (by decide))
        subst hx1
        have rp : Row W w.heap.size 76 _ := (hI.bel.block _ HRP.out.lt (by simp)).trans HRP.out
        have d0 := rp.cell 0 _ rfl
        have d1 := rp.cell 1 _ rfl
        rw [if_pos (by rfl)]
        go_simp
        exact hK.out _ _ ⟨_, _, _, _, _, _, _, _, rfl, hI.s2⟩
      · have hx2 := hI.p2 (hd 2 (by decide))
        subst hx2
        rw [if_pos (by rfl)]
        go_simp
        exact hK.out _ _ ⟨_, _, _, _, _, _, _, _, rfl, hI.s3⟩
      · have hx3 := hI.p3 (hd 3 (by decide))
        subst hx3
        rw [if_pos (by rfl)]
        go_simp
        exact hK.out _ _ ⟨_, _, _, _, _, _, _, _, rfl, hI.s4⟩
      · have hx4 := hI.p4 (hd 4 (by decide))
        subst hx4
        have rr : RAt W F s := HRA.out.keep (fun B hB => hI.bel.block B (HRA.out.blt B hB) (by simp))
        have c7 := rr.cPages
        have c8 := rr.cEr
        have c9 := rr.cBl
        rw [if_pos (by rfl)]
        go_simp
        exact hK.out _ _ ⟨_, _, _, _, _, _, _, _, rfl, hI.s5⟩
      · have hx0 := hI.p0 (hd 0 (by decide))
        subst hx0
        have hx5 := hI.p5 (hd 5 (by decide))
        subst hx5
        have rr : RAt W F s := HRA.out.keep (fun B hB => hI.bel.block B (HRA.out.blt B hB) (by simp))
        have ox := HO2.out.below ⟨hI.bel.os, hI.bel.tape, hI.bel.output, hI.bel.size, fun k hk => hI.bel.block k hk (by simp)⟩
        rw [if_pos (by rfl)]
        go_simp
        refine (HSS.out _ _ _ _ _ _ ox rr).mono ?_
        rintro e w3 ⟨rfl, hb3⟩
        exact hK.out _ _ ⟨_, _, _, _, _, _, _, _, rfl, (hI.mono hb3).s6⟩
      · have hx6 := hI.p6 (hd 6 (by decide))
        subst hx6
        rw [if_pos (by rfl)]
        go_simp
        exact hK.out _ _ ⟨_, _, _, _, _, _, _, _, rfl, hI.s7⟩
    · rintro L a W hall ⟨x23, x24, x25, x26, x27, x28, x29, x6, rfl, hI⟩
      have hx0 := hI.p0 (hall 0 (by decide))
      have hx1 := hI.p1 (hall 1 (by decide))
      have hx2 := hI.p2 (hall 2 (by decide))
      have hx3 := hI.p3 (hall 3 (by decide))
      have hx4 := hI.p4 (hall 4 (by decide))
      have hx5 := hI.p5 (hall 5 (by decide))
      have hx6 := hI.p6 (hall 6 (by decide))
      have hx7 := hI.p7 (hall 7 (by decide))
      subst hx0 hx1 hx2 hx3 hx4 hx5 hx6 hx7
      have hkp := hI.bel
      clear hI hall
      try dsimp only
      have bk : Below wb.heap.size wb W := hkp.toBelow
      have bbW := bbB.trans (bk.mono bbB.size)
      have rlW : Row W L2 40 _ := (bk.block _ HRL2.out.lt).trans HRL2.out
      have c0 := rlW.cell 0 _ rfl
      have c1 := rlW.cell 1 _ rfl
      have c2 := rlW.cell 2 _ rfl
      have HO2W : Hid (OwnX W w.heap.size s.st p2 e2 b2 ps2) := HO2.out.below bk
      have hRPW : Row W w.heap.size 76 _ := (bk.block _ HRP.out.lt).trans HRP.out
      clear hkp
      go_wp2_with (refine (HWR.out _ _ _ _ _ _ HO2W.out).mono ?_; rintro e wc ⟨rfl, klc⟩)
      have bbC : Below w.heap.size w wc := bbW.trans (klc.belowN (fun B hB => by have := (HX.out B hB).2.1; omega) bbW.size)
      replace HRP : Hid (Row wc w.heap.size 76 [.pointer (some ⟨G.g, 0, none⟩), .pointer (some ⟨F.g, 0, none⟩)]) := (klc.block _ hRPW.lt (fun hm => by have := (HX.out _ hm).2.1; omega)).trans hRPW
      replace HRA : Hid (RAt wc F s) := HR0.out.keep (fun B hB => bbC.block B (HR0.out.blt B hB))
      have HCA : Hid (∃ S', CAt wc G s S') := ⟨S, HC0.out.below bbC (Nat.le_refl _)⟩
      clear rlW c0 c1 c2 HO2W hRPW klc bbW bk bbB HRL2 HO2
      refine wp_region_inv (IScI wc w.heap.size F G s _ _ _ _ _ _ _ _ _ _ _ _ _ _ _ _ _ _ _ _ _ _ _ _ _ _ _ _ _ _ _ _ _ _ _ _ _ _ _ _ _ _ _ _ _ _ _ _ _ _ _ _ _ _ _ _ _ _ _ _) (by kernel_rfl) (by kernel_rfl) ⟨_, _, _, _, _, _, _, _, _, _, rfl, ScI.zero wc w.heap.size F G s _ _ _ _ _ _ _ _ _ _⟩ ?_ ?_
      · refine .cons ?_ (.cons ?_ (.cons ?_ (.cons ?_ (.cons ?_ (.cons ?_ (.cons ?_ (.cons ?_ (.cons ?_ (.cons ?_ .nil)))))))))
        all_goals (rintro L a W ⟨x32, x33, x34, x35, x36, x37, x38, x39, x40, x7, rfl, hI⟩ hL hd K hK)
        · rw [if_pos (by rfl)]
          go_simp
          exact hK.out _ _ ⟨_, _, _, _, _, _, _, _, _, _, rfl, hI.s0⟩
        · have hx0 := hI.p0 (hd 0 (by decide))
          subst hx0
          have rp : Row W w.heap.size 76 _ := (hI.bel.block _ HRP.out.lt (by simp)).trans HRP.out
          have d0 := rp.cell 0 _ rfl
          have d1 := rp.cell 1 _ rfl
          rw [if_pos (by rfl)]
          go_simp
          exact hK.out _ _ ⟨_, _, _, _, _, _, _, _, _, _, rfl, hI.s1⟩
        · have hx1 := hI.p1 (hd 1 (by decide))
          subst hx1
          obtain ⟨S9, ca9⟩ := HCA.out
          have cw : CAt W G s S9 := ca9.keep (fun B hB => hI.bel.block B (ca9.blt B hB) (by simp))
          rw [if_pos (by rfl)]
          go_simp
          refine (cconfig_any G s S9 _ cw).mono ?_
          rintro e w3 ⟨rfl, hb3⟩
          exact hK.out _ _ ⟨_, _, _, _, _, _, _, _, _, _, rfl, (hI.mono hb3).s2⟩
        · rw [if_pos (by rfl)]
          go_simp
          exact hK.out _ _ ⟨_, _, _, _, _, _, _, _, _, _, rfl, hI.s3⟩
        · have hx3 := hI.p3 (hd 3 (by decide))
          subst hx3
          have rp : Row W w.heap.size 76 _ := (hI.bel.block _ HRP.out.lt (by simp)).trans HRP.out
          have d0 := rp.cell 0 _ rfl
          have d1 := rp.cell 1 _ rfl
          rw [if_pos (by rfl)]
          go_simp
          exact hK.out _ _ ⟨_, _, _, _, _, _, _, _, _, _, rfl, hI.s4⟩
        · have hx4 := hI.p4 (hd 4 (by decide))
          subst hx4
          rw [if_pos (by rfl)]
          go_simp
          exact hK.out _ _ ⟨_, _, _, _, _, _, _, _, _, _, rfl, hI.s5⟩
        · have hx5 := hI.p5 (hd 5 (by decide))
          subst hx5
          rw [if_pos (by rfl)]
          go_simp
          exact hK.out _ _ ⟨_, _, _, _, _, _, _, _, _, _, rfl, hI.s6⟩
        · have hx6 := hI.p6 (hd 6 (by decide))
          subst hx6
          have rr : RAt W F s := HRA.out.keep (fun B hB => hI.bel.block B (HRA.out.blt B hB) (by simp))
          have rrow := rr.row
          have c0 := rrow.cell 0 _ rfl
          have c1 := rrow.cell 1 _ rfl
          have c2 := rrow.cell 2 _ rfl
          have c3 := rrow.cell 3 _ rfl
          have c4 := rrow.cell 4 _ rfl
          have c5 := rrow.cell 5 _ rfl
          have c6 := rrow.cell 6 _ rfl
          rw [if_pos (by rfl)]
          go_simp
          exact hK.out _ _ ⟨_, _, _, _, _, _, _, _, _, _, rfl, hI.s7⟩
        · have hx2 := hI.p2 (hd 2 (by decide))
          subst hx2
          have hx7 := hI.p7 (hd 7 (by decide))
          subst hx7
          rw [if_pos (by rfl)]
          simp only [Cfg.vals]
          go_simp
          exact hK.out _ _ ⟨_, _, _, _, _, _, _, _, _, _, rfl, hI.s8⟩
        · have hx8 := hI.p8 (hd 8 (by decide))
          subst hx8
          rw [if_pos (by rfl)]
          go_simp
          exact hK.out _ _ ⟨_, _, _, _, _, _, _, _, _, _, rfl, hI.s9⟩
      · rintro L a W hall ⟨x32, x33, x34, x35, x36, x37, x38, x39, x40, x7, rfl, hI⟩
        have hx0 := hI.p0 (hall 0 (by decide))
        have hx1 := hI.p1 (hall 1 (by decide))
        have hx2 := hI.p2 (hall 2 (by decide))
        have hx3 := hI.p3 (hall 3 (by decide))
        have hx4 := hI.p4 (hall 4 (by decide))
        have hx5 := hI.p5 (hall 5 (by decide))
        have hx6 := hI.p6 (hall 6 (by decide))
        have hx7 := hI.p7 (hall 7 (by decide))
        have hx8 := hI.p8 (hall 8 (by decide))
        have hx9 := hI.p9 (hall 9 (by decide))
        subst hx0 hx1 hx2 hx3 hx4 hx5 hx6 hx7 hx8 hx9
        have hkp := hI.bel
        clear hI hall
        try dsimp only
        have bk : Below wc.heap.size wc W := hkp.toBelow
        have bbD := bbC.trans (bk.mono bbC.size)
        replace HRP : Hid (Row W w.heap.size 76 [.pointer (some ⟨G.g, 0, none⟩), .pointer (some ⟨F.g, 0, none⟩)]) := (bk.block _ HRP.out.lt).trans HRP.out
        replace HRA : Hid (RAt W F s) := HR0.out.keep (fun B hB => bbD.block B (HR0.out.blt B hB))
        replace HCA : Hid (∃ S', CAt W G s S') := ⟨S, HC0.out.below bbD (Nat.le_refl _)⟩
        obtain ⟨wd, hwd⟩ : ∃ wd, wd = W := ⟨_, rfl⟩
        subst hwd
        clear bk bbC hkp
        go_wp2
        refine wp_region_inv (ISdI wd w.heap.size F G s _ _ _ _ _ _ _ _ _ _ _ _ _ _ _ _ _ _ _ _ _ _ _ _ _ _ _ _ _ _ _ _ _ _ _ _ _ _ _ _) (by kernel_rfl) (by kernel_rfl) ⟨_, _, _, _, _, _, _, _, _, _, _, _, _, _, _, _, _, _, _, _, _, _, _, _, _, _, _, _, _, _, rfl, SdI.zero wd w.heap.size F G s _ _ _ _ _ _ _ _ _ _ _ _ _ _ _ _ _ _ _ _ _ _ _ _ _ _ _ _ _ _⟩ ?_ ?_
        · refine .cons ?_ (.cons ?_ (.cons ?_ (.cons ?_ (.cons ?_ (.cons ?_ (.cons ?_ (.cons ?_ (.cons ?_ (.cons ?_ (.cons ?_ (.cons ?_ (.cons ?_ (.cons ?_ (.cons ?_ (.cons ?_ (.cons ?_ (.cons ?_ (.cons ?_ (.cons ?_ (.cons ?_ (.cons ?_ (.cons ?_ (.cons ?_ (.cons ?_ (.cons ?_ (.cons ?_ (.cons ?_ (.cons ?_ (.cons ?_ .nil)))))))))))))))))))))))))))))
          all_goals (rintro L a W ⟨x41, x42, x43, x44, x45, x46, x47, x48, x49, x50, x51, x52, x53, x54, x55, x56, x57, x58, x59, x60, x61, x62, x63, x64, x65, x66, x67, x68, x69, x2, rfl, hI⟩ hL hd K hK)
          · rw [if_pos (by rfl)]
            go_simp
            exact hK.out _ _ ⟨_, _, _, _, _, _, _, _, _, _, _, _, _, _, _, _, _, _, _, _, _, _, _, _, _, _, _, _, _, _, rfl, hI.s0⟩
          · have hx0 := hI.p0 (hd 0 (by decide))
            subst hx0
            rw [if_pos (by rfl)]
            go_simp
            exact hK.out _ _ ⟨_, _, _, _, _, _, _, _, _, _, _, _, _, _, _, _, _, _, _, _, _, _, _, _, _, _, _, _, _, _, rfl, hI.s1⟩
          · have hx1 := hI.p1 (hd 1 (by decide))
            subst hx1
            rw [if_pos (by rfl)]
            go_simp
            exact hK.out _ _ ⟨_, _, _, _, _, _, _, _, _, _, _, _, _, _, _, _, _, _, _, _, _, _, _, _, _, _, _, _, _, _, rfl, hI.s2⟩
          · have hx1 := hI.p1 (hd 1 (by decide))
            subst hx1
            have hx2 := hI.p2 (hd 2 (by decide))
            subst hx2
            rw [if_pos (by rfl)]
            go_simp
            exact hK.out _ _ ⟨_, _, _, _, _, _, _, _, _, _, _, _, _, _, _, _, _, _, _, _, _, _, _, _, _, _, _, _, _, _, rfl, hI.s3⟩
          · have hx3 := hI.p3 (hd 3 (by decide))
            subst hx3
            rw [if_pos (by rfl)]
            go_simp
            exact hK.out _ _ ⟨_, _, _, _, _, _, _, _, _, _, _, _, _, _, _, _, _, _, _, _, _, _, _, _, _, _, _, _, _, _, rfl, hI.s4⟩
          · have hx4 := hI.p4 (hd 4 (by decide))
            subst hx4
            rw [if_pos (by rfl)]
            go_simp
            exact hK.out _ _ ⟨_, _, _, _, _, _, _, _, _, _, _, _, _, _, _, _, _, _, _, _, _, _, _, _, _, _, _, _, _, _, rfl, hI.s5⟩
          · have hx4 := hI.p4 (hd 4 (by decide))
            subst hx4
            have hx5 := hI.p5 (hd 5 (by decide))
            subst hx5
            rw [if_pos (by rfl)]
            go_simp
            exact hK.out _ _ ⟨_, _, _, _, _, _, _, _, _, _, _, _, _, _, _, _, _, _, _, _, _, _, _, _, _, _, _, _, _, _, rfl, hI.s6⟩
          · have hx6 := hI.p6 (hd 6 (by decide))
            subst hx6
            rw [if_pos (by rfl)]
            go_simp
            exact hK.out _ _ ⟨_, _, _, _, _, _, _, _, _, _, _, _, _, _, _, _, _, _, _, _, _, _, _, _, _, _, _, _, _, _, rfl, hI.s7⟩
          · have hx7 := hI.p7 (hd 7 (by decide))
            subst hx7
            rw [if_pos (by rfl)]
            go_simp
            exact hK.out _ _ ⟨_, _, _, _, _, _, _, _, _, _, _, _, _, _, _, _, _, _, _, _, _, _, _, _, _, _, _, _, _, _, rfl, hI.s8⟩
          · have hx8 := hI.p8 (hd 8 (by decide))
            subst hx8
            have hx7 := hI.p7 (hd 7 (by decide))
            subst hx7
            have rp : Row W w.heap.size 76 _ := (hI.bel.block _ HRP.out.lt (by simp)).trans HRP.out
            have d0 := rp.cell 0 _ rfl
            have d1 := rp.cell 1 _ rfl
            rw [if_pos (by rfl)]
            go_simp
            exact hK.out _ _ ⟨_, _, _, _, _, _, _, _, _, _, _, _, _, _, _, _, _, _, _, _, _, _, _, _, _, _, _, _, _, _, rfl, hI.s9⟩
          · have hx9 := hI.p9 (hd 9 (by decide))
            subst hx9
            have hx7 := hI.p7 (hd 7 (by decide))
            subst hx7
            obtain ⟨S9, ca9⟩ := HCA.out
            have cw : CAt W G s S9 := ca9.keep (fun B hB => hI.bel.block B (ca9.blt B hB) (by simp))
            rw [if_pos (by rfl)]
            go_simp
            refine (cacts_any G s S9 _ cw).mono ?_
            rintro e w3 ⟨rfl, rfl⟩
            have hb3 := Below.refl w3.heap.size w3
            exact hK.out _ _ ⟨_, _, _, _, _, _, _, _, _, _, _, _, _, _, _, _, _, _, _, _, _, _, _, _, _, _, _, _, _, _, rfl, (hI.mono hb3).s10⟩
          · have hx7 := hI.p7 (hd 7 (by decide))
            subst hx7
            rw [if_pos (by rfl)]
            go_simp
            exact hK.out _ _ ⟨_, _, _, _, _, _, _, _, _, _, _, _, _, _, _, _, _, _, _, _, _, _, _, _, _, _, _, _, _, _, rfl, hI.s11⟩
          · have hx11 := hI.p11 (hd 11 (by decide))
            subst hx11
            have hx7 := hI.p7 (hd 7 (by decide))
            subst hx7
            have rp : Row W w.heap.size 76 _ := (hI.bel.block _ HRP.out.lt (by simp)).trans HRP.out
            have d0 := rp.cell 0 _ rfl
            have d1 := rp.cell 1 _ rfl
            rw [if_pos (by rfl)]
            go_simp
            exact hK.out _ _ ⟨_, _, _, _, _, _, _, _, _, _, _, _, _, _, _, _, _, _, _, _, _, _, _, _, _, _, _, _, _, _, rfl, hI.s12⟩
          · have hx12 := hI.p12 (hd 12 (by decide))
            subst hx12
            have hx7 := hI.p7 (hd 7 (by decide))
            subst hx7
            rw [if_pos (by rfl)]
            go_simp
            exact hK.out _ _ ⟨_, _, _, _, _, _, _, _, _, _, _, _, _, _, _, _, _, _, _, _, _, _, _, _, _, _, _, _, _, _, rfl, hI.s13⟩
          · have hx13 := hI.p13 (hd 13 (by decide))
            subst hx13
            have hx7 := hI.p7 (hd 7 (by decide))
            subst hx7
            rw [if_pos (by rfl)]
            go_simp
            exact hK.out _ _ ⟨_, _, _, _, _, _, _, _, _, _, _, _, _, _, _, _, _, _, _, _, _, _, _, _, _, _, _, _, _, _, rfl, hI.s14⟩
          · have hx14 := hI.p14 (hd 14 (by decide))
            subst hx14
            have hx7 := hI.p7 (hd 7 (by decide))
            subst hx7
            have rr : RAt W F s := HRA.out.keep (fun B hB => hI.bel.block B (HRA.out.blt B hB) (by simp))
            have c10 := rr.cN
            rw [if_pos (by rfl)]
            go_simp
            exact hK.out _ _ ⟨_, _, _, _, _, _, _, _, _, _, _, _, _, _, _, _, _, _, _, _, _, _, _, _, _, _, _, _, _, _, rfl, hI.s15⟩
          · have hx10 := hI.p10 (hd 10 (by decide))
            subst hx10
            have hx15 := hI.p15 (hd 15 (by decide))
            subst hx15
            have hx7 := hI.p7 (hd 7 (by decide))
            subst hx7
            rw [if_pos (by rfl)]
            go_simp
            exact hK.out _ _ ⟨_, _, _, _, _, _, _, _, _, _, _, _, _, _, _, _, _, _, _, _, _, _, _, _, _, _, _, _, _, _, rfl, hI.s16⟩
          · have hx7 := hI.p7 (hd 7 (by decide))
            subst hx7
            have hx16 := hI.p16 (hd 16 (by decide))
            subst hx16
            rw [if_pos (by rfl)]
            go_simp
            exact hK.out _ _ ⟨_, _, _, _, _, _, _, _, _, _, _, _, _, _, _, _, _, _, _, _, _, _, _, _, _, _, _, _, _, _, rfl, hI.s17⟩
          · have hx17 := hI.p17 (hd 17 (by decide))
            subst hx17
            rw [if_pos (by rfl)]
            go_simp
            exact hK.out _ _ ⟨_, _, _, _, _, _, _, _, _, _, _, _, _, _, _, _, _, _, _, _, _, _, _, _, _, _, _, _, _, _, rfl, hI.s18⟩
          · have hx18 := hI.p18 (hd 18 (by decide))
            subst hx18
            rw [if_pos (by rfl)]
            go_simp
            exact hK.out _ _ ⟨_, _, _, _, _, _, _, _, _, _, _, _, _, _, _, _, _, _, _, _, _, _, _, _, _, _, _, _, _, _, rfl, hI.s19⟩
          · have hx19 := hI.p19 (hd 19 (by decide))
            subst hx19
            have hx18 := hI.p18 (hd 18 (by decide))
            subst hx18
            have rp : Row W w.heap.size 76 _ := (hI.bel.block _ HRP.out.lt (by simp)).trans HRP.out
            have d0 := rp.cell 0 _ rfl
            have d1 := rp.cell 1 _ rfl
            rw [if_pos (by rfl)]
            go_simp
            exact hK.out _ _ ⟨_, _, _, _, _, _, _, _, _, _, _, _, _, _, _, _, _, _, _, _, _, _, _, _, _, _, _, _, _, _, rfl, hI.s20⟩
          · have hx20 := hI.p20 (hd 20 (by decide))
            subst hx20
            have hx18 := hI.p18 (hd 18 (by decide))
            subst hx18
            obtain ⟨S9, ca9⟩ := HCA.out
            have cw : CAt W G s S9 := ca9.keep (fun B hB => hI.bel.block B (ca9.blt B hB) (by simp))
            rw [if_pos (by rfl)]
            go_simp
            refine (cout_any G s S9 _ cw).mono ?_
            rintro e w3 ⟨rfl, rfl⟩
            have hb3 := Below.refl w3.heap.size w3
            exact hK.out _ _ ⟨_, _, _, _, _, _, _, _, _, _, _, _, _, _, _, _, _, _, _, _, _, _, _, _, _, _, _, _, _, _, rfl, (hI.mono hb3).s21⟩
          · have hx18 := hI.p18 (hd 18 (by decide))
            subst hx18
            rw [if_pos (by rfl)]
            go_simp
            exact hK.out _ _ ⟨_, _, _, _, _, _, _, _, _, _, _, _, _, _, _, _, _, _, _, _, _, _, _, _, _, _, _, _, _, _, rfl, hI.s22⟩
          · have hx22 := hI.p22 (hd 22 (by decide))
            subst hx22
            have hx18 := hI.p18 (hd 18 (by decide))
            subst hx18
            have rp : Row W w.heap.size 76 _ := (hI.bel.block _ HRP.out.lt (by simp)).trans HRP.out
            have d0 := rp.cell 0 _ rfl
            have d1 := rp.cell 1 _ rfl
            rw [if_pos (by rfl)]
            go_simp
            exact hK.out _ _ ⟨_, _, _, _, _, _, _, _, _, _, _, _, _, _, _, _, _, _, _, _, _, _, _, _, _, _, _, _, _, _, rfl, hI.s23⟩
          · have hx23 := hI.p23 (hd 23 (by decide))
            subst hx23
            have hx18 := hI.p18 (hd 18 (by decide))
            subst hx18
            rw [if_pos (by rfl)]
            go_simp
            exact hK.out _ _ ⟨_, _, _, _, _, _, _, _, _, _, _, _, _, _, _, _, _, _, _, _, _, _, _, _, _, _, _, _, _, _, rfl, hI.s24⟩
          · have hx24 := hI.p24 (hd 24 (by decide))
            subst hx24
            have hx18 := hI.p18 (hd 18 (by decide))
            subst hx18
            rw [if_pos (by rfl)]
            go_simp
            exact hK.out _ _ ⟨_, _, _, _, _, _, _, _, _, _, _, _, _, _, _, _, _, _, _, _, _, _, _, _, _, _, _, _, _, _, rfl, hI.s25⟩
          · have hx25 := hI.p25 (hd 25 (by decide))
            subst hx25
            have hx18 := hI.p18 (hd 18 (by decide))
            subst hx18
            have rr : RAt W F s := HRA.out.keep (fun B hB => hI.bel.block B (HRA.out.blt B hB) (by simp))
            have c11 := rr.cGone
            rw [if_pos (by rfl)]
            go_simp
            exact hK.out _ _ ⟨_, _, _, _, _, _, _, _, _, _, _, _, _, _, _, _, _, _, _, _, _, _, _, _, _, _, _, _, _, _, rfl, hI.s26⟩
          · have hx21 := hI.p21 (hd 21 (by decide))
            subst hx21
            have hx26 := hI.p26 (hd 26 (by decide))
            subst hx26
            have hx18 := hI.p18 (hd 18 (by decide))
            subst hx18
            rw [if_pos (by rfl)]
            go_simp
            exact hK.out _ _ ⟨_, _, _, _, _, _, _, _, _, _, _, _, _, _, _, _, _, _, _, _, _, _, _, _, _, _, _, _, _, _, rfl, hI.s27⟩
          · have hx18 := hI.p18 (hd 18 (by decide))
            subst hx18
            have hx27 := hI.p27 (hd 27 (by decide))
            subst hx27
            rw [if_pos (by rfl)]
            go_simp
            exact hK.out _ _ ⟨_, _, _, _, _, _, _, _, _, _, _, _, _, _, _, _, _, _, _, _, _, _, _, _, _, _, _, _, _, _, rfl, hI.s28⟩
          · have hx28 := hI.p28 (hd 28 (by decide))
            subst hx28
            rw [if_pos (by rfl)]
            go_simp
            exact hK.out _ _ ⟨_, _, _, _, _, _, _, _, _, _, _, _, _, _, _, _, _, _, _, _, _, _, _, _, _, _, _, _, _, _, rfl, hI.s29⟩
        · rintro L a W hall ⟨x41, x42, x43, x44, x45, x46, x47, x48, x49, x50, x51, x52, x53, x54, x55, x56, x57, x58, x59, x60, x61, x62, x63, x64, x65, x66, x67, x68, x69, x2, rfl, hI⟩
          have hx0 := hI.p0 (hall 0 (by decide))
          have hx1 := hI.p1 (hall 1 (by decide))
          have hx2 := hI.p2 (hall 2 (by decide))
          have hx3 := hI.p3 (hall 3 (by decide))
          have hx4 := hI.p4 (hall 4 (by decide))
          have hx5 := hI.p5 (hall 5 (by decide))
          have hx6 := hI.p6 (hall 6 (by decide))
          have hx7 := hI.p7 (hall 7 (by decide))
          have hx8 := hI.p8 (hall 8 (by decide))
          have hx9 := hI.p9 (hall 9 (by decide))
          have hx10 := hI.p10 (hall 10 (by decide))
          have hx11 := hI.p11 (hall 11 (by decide))
          have hx12 := hI.p12 (hall 12 (by decide))
          have hx13 := hI.p13 (hall 13 (by decide))
          have hx14 := hI.p14 (hall 14 (by decide))
          have hx15 := hI.p15 (hall 15 (by decide))
          have hx16 := hI.p16 (hall 16 (by decide))
          have hx17 := hI.p17 (hall 17 (by decide))
          have hx18 := hI.p18 (hall 18 (by decide))
          have hx19 := hI.p19 (hall 19 (by decide))
          have hx20 := hI.p20 (hall 20 (by decide))
          have hx21 := hI.p21 (hall 21 (by decide))
          have hx22 := hI.p22 (hall 22 (by decide))
          have hx23 := hI.p23 (hall 23 (by decide))
          have hx24 := hI.p24 (hall 24 (by decide))
          have hx25 := hI.p25 (hall 25 (by decide))
          have hx26 := hI.p26 (hall 26 (by decide))
          have hx27 := hI.p27 (hall 27 (by decide))
          have hx28 := hI.p28 (hall 28 (by decide))
          have hx29 := hI.p29 (hall 29 (by decide))
          subst hx0 hx1 hx2 hx3 hx4 hx5 hx6 hx7 hx8 hx9 hx10 hx11 hx12 hx13 hx14 hx15 hx16 hx17 hx18 hx19 hx20 hx21 hx22 hx23 hx24 hx25 hx26 hx27 hx28 hx29
          have hkp := hI.bel
          clear hI hall
          try dsimp only
          have bk : Below wd.heap.size wd W := hkp.toBelow
          have bbE := bbD.trans (bk.mono bbD.size)
          clear hkp bk
          go_wp2
          go_ret
          exact ⟨rfl, bbE⟩
end Go.Proofs.Ythjndaeibbfgaaa
