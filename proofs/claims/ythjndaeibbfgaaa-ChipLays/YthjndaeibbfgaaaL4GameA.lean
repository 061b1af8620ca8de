import Derived.Test.YthjndaeibbfgaaaL4Step
import Derived.Test.YthjndaeibbfgaaaL4Open2
/-! game: what its script needs, and what stays from step to step. -/
namespace Go.Proofs.Ythjndaeibbfgaaa
open Go.RowKit

/-- A step of the script, as it came in. -/
structure SI where
  k : Int
  a : Int
  b : Int
  x : List By
  mo : Option Addr
  mc : Nat
  m : List By
def SI.vals (o : SI) : List Value := stepVals o.k o.a o.b o.x o.mo o.m.length o.mc
structure SIOk (W : World) (base SB off j : Nat) (o : SI) : Prop where
  rg : W.rangeAt SB (off + j * 36) o.vals
  x32 : o.x.length = 32
  ib : IsB W o.mo o.m
  mn : o.mo = none → o.mc = 0
  mc : o.m.length ≤ o.mc
  ml : o.m.length ≤ 140737488351232
  ha : o.a < 9223372036854775808
  lt : o.m = [] ∨ ∀ B off, o.mo = some ⟨B, off, none⟩ → B < base
theorem SIOk.below {W W' : World} {base SB off j : Nat} {o : SI} (h : SIOk W base SB off j o) (hb : Below base W W') (hS : SB < base) : SIOk W' base SB off j o := by
  refine ⟨fun i v hv => ?_, h.x32, isb_keep h.ib (fun B off' he hm => hb.block B ?_), h.mn, h.mc, h.ml, h.ha, h.lt⟩
  · have := h.rg i v hv
    rw [← this]
    exact World.cell?_of_block (hb.block SB hS)
  · rcases h.lt with e | e
    · exact absurd e he
    · exact e B off' hm

/-- Two pairs, this one and the other one: the same, or apart. -/
structure GR (w : World) (base PB QB i : Nat) (W : World) (G F : RF) (s : RS) (G' F' : RF) (s' : RS) : Prop where
  bel : Below base w W
  rp : Row W PB 76 [.pointer (some ⟨G.g, 0, none⟩), .pointer (some ⟨F.g, 0, none⟩)]
  rq : Row W QB 76 [.pointer (some ⟨G'.g, 0, none⟩), .pointer (some ⟨F'.g, 0, none⟩)]
  p : PR W G F s
  q : PR W G' F' s'
  np : s.n ≤ i
  nq : s'.n ≤ i
  lo : ∀ B, B ∈ G.blocks ∨ B ∈ F.blocks ∨ B ∈ G'.blocks ∨ B ∈ F'.blocks → base ≤ B ∧ B ≠ PB ∧ B ≠ QB
  pq : PB ≠ QB
  bp : base ≤ PB
  bq : base ≤ QB
  eq : (G = G' ∧ F = F' ∧ s = s') ∨ ∀ B, (B ∈ G.blocks ∨ B ∈ F.blocks) → ¬ (B ∈ G'.blocks ∨ B ∈ F'.blocks)

section
variable {w : World} {base PB QB i : Nat} {W W2 : World} {G F : RF} {s : RS} {G' F' : RF} {s' : RS}
theorem GR.below (h : GR w base PB QB i W G F s G' F' s') (hb : Below W.heap.size W W2) : GR w base PB QB i W2 G F s G' F' s' :=
  ⟨h.bel.trans (hb.mono (by have := h.bp; have := h.rp.lt; omega)), (hb.block _ h.rp.lt).trans h.rp, (hb.block _ h.rq.lt).trans h.rq, h.p.below hb (Nat.le_refl _), h.q.below hb (Nat.le_refl _), h.np, h.nq, h.lo, h.pq, h.bp, h.bq, h.eq⟩
theorem GR.next (h : GR w base PB QB i W G F s G' F' s') : GR w base PB QB (i + 1) W G F s G' F' s' :=
  ⟨h.bel, h.rp, h.rq, h.p, h.q, by have := h.np; omega, by have := h.nq; omega, h.lo, h.pq, h.bp, h.bq, h.eq⟩

theorem GR.step (h : GR w base PB QB i W G F s G' F' s') {e : Ending} (hs : StepPost G F s W e W2) : ∃ F2 s2 F2' s2', GR w base PB QB (i + 1) W2 G F2 s2 G' F2' s2' := by
  obtain ⟨_, F2, s2, hp, hg, hbl, hn, kl⟩ := hs
  have hsz := h.rp.lt
  have hbp := h.bp
  have hPB : PB ∉ G.blocks ++ F.blocks := fun hm => (h.lo PB (by rcases List.mem_append.1 hm with h1 | h1; exact .inl h1; exact .inr (.inl h1))).2.1 rfl
  have hQB : QB ∉ G.blocks ++ F.blocks := fun hm => (h.lo QB (by rcases List.mem_append.1 hm with h1 | h1; exact .inl h1; exact .inr (.inl h1))).2.2 rfl
  have hql := h.rq.lt
  have bel2 : Below base w W2 := h.bel.trans (kl.belowN (fun B hB => (h.lo B (by rcases List.mem_append.1 hB with h1 | h1; exact .inl h1; exact .inr (.inl h1))).1) (by omega))
  have rp2 : Row W2 PB 76 [.pointer (some ⟨G.g, 0, none⟩), .pointer (some ⟨F2.g, 0, none⟩)] := by rw [hg]; exact (kl.block _ hsz hPB).trans h.rp
  have rq2 : Row W2 QB 76 [.pointer (some ⟨G'.g, 0, none⟩), .pointer (some ⟨F'.g, 0, none⟩)] := (kl.block _ hql hQB).trans h.rq
  have hnp := h.np
  have hnq := h.nq
  have lo2 : ∀ B, B ∈ F2.blocks → base ≤ B ∧ B ≠ PB ∧ B ≠ QB := fun B hB => by
    rcases hbl B hB with h1 | h1
    · exact h.lo B (.inr (.inl h1))
    · exact ⟨by omega, by omega, by omega⟩
  rcases h.eq with ⟨rfl, rfl, rfl⟩ | hd
  · refine ⟨F2, s2, F2, s2, bel2, rp2, by rw [hg]; exact rq2, hp, hp, by omega, by omega, ?_, h.pq, h.bp, h.bq, .inl ⟨rfl, rfl, rfl⟩⟩
    rintro B (hB | hB | hB | hB)
    · exact h.lo B (.inl hB)
    · exact lo2 B hB
    · exact h.lo B (.inl hB)
    · exact lo2 B hB
  · have hq2 : PR W2 G' F' s' := h.q.keep fun B hB => kl.block B (h.q.lt B hB) (fun hm => hd B (List.mem_append.1 hm) hB)
    refine ⟨F2, s2, F', s', bel2, rp2, rq2, hp, hq2, by omega, by omega, ?_, h.pq, h.bp, h.bq, .inr ?_⟩
    · rintro B (hB | hB | hB | hB)
      · exact h.lo B (.inl hB)
      · exact lo2 B hB
      · exact h.lo B (.inr (.inr (.inl hB)))
      · exact h.lo B (.inr (.inr (.inr hB)))
    · rintro B (hB | hB) hB2
      · exact hd B (.inl hB) hB2
      · rcases hbl B hB with h1 | h1
        · exact hd B (.inr h1) hB2
        · have := h.q.lt B hB2
          omega

theorem GR.swap (h : GR w base PB QB i W G F s G' F' s') (hbel : Below base w W2) (hrp : Row W2 PB 76 [.pointer (some ⟨G'.g, 0, none⟩), .pointer (some ⟨F'.g, 0, none⟩)]) (hrq : Row W2 QB 76 [.pointer (some ⟨G.g, 0, none⟩), .pointer (some ⟨F.g, 0, none⟩)]) (hk : ∀ B, B ≠ PB → B ≠ QB → W2.heap[B]? = W.heap[B]?) : GR w base PB QB (i + 1) W2 G' F' s' G F s := by
  have hlo := h.lo
  refine ⟨hbel, hrp, hrq, h.q.keep fun B hB => ?_, h.p.keep fun B hB => ?_, by have := h.nq; omega, by have := h.np; omega, ?_, h.pq, h.bp, h.bq, ?_⟩
  · have := hlo B (by rcases hB with h1 | h1; exact .inr (.inr (.inl h1)); exact .inr (.inr (.inr h1)))
    exact hk B this.2.1 this.2.2
  · have := hlo B (by rcases hB with h1 | h1; exact .inl h1; exact .inr (.inl h1))
    exact hk B this.2.1 this.2.2
  · rintro B (hB | hB | hB | hB)
    · exact hlo B (.inr (.inr (.inl hB)))
    · exact hlo B (.inr (.inr (.inr hB)))
    · exact hlo B (.inl hB)
    · exact hlo B (.inr (.inl hB))
  · rcases h.eq with ⟨rfl, rfl, rfl⟩ | hd
    · exact .inl ⟨rfl, rfl, rfl⟩
    · exact .inr fun B h1 h2 => hd B h2 h1

theorem GR.swapped (h : GR w base PB QB i W G F s G' F' s') : GR w base PB QB (i + 1) ((((W.setCell ⟨PB, 0, none⟩ (.pointer (some ⟨G'.g, 0, none⟩))).setCell ⟨PB, 1, none⟩ (.pointer (some ⟨F'.g, 0, none⟩))).setCell ⟨QB, 0, none⟩ (.pointer (some ⟨G.g, 0, none⟩))).setCell ⟨QB, 1, none⟩ (.pointer (some ⟨F.g, 0, none⟩))) G' F' s' G F s := by
  have hpq := h.pq
  have s1 := SameBut.setCell PB 0 (.pointer (some ⟨G'.g, 0, none⟩)) W
  have r1 := h.rp.set 0 (.pointer (some ⟨G'.g, 0, none⟩))
  have t1 := h.rq.but s1 hpq.symm
  generalize W.setCell ⟨PB, 0, none⟩ (.pointer (some ⟨G'.g, 0, none⟩)) = V1 at *
  have s2 := SameBut.setCell PB 1 (.pointer (some ⟨F'.g, 0, none⟩)) V1
  have r2 := r1.set 1 (.pointer (some ⟨F'.g, 0, none⟩))
  have t2 := t1.but s2 hpq.symm
  generalize V1.setCell ⟨PB, 1, none⟩ (.pointer (some ⟨F'.g, 0, none⟩)) = V2 at *
  have s3 := SameBut.setCell QB 0 (.pointer (some ⟨G.g, 0, none⟩)) V2
  have r3 := r2.but s3 hpq
  have t3 := t2.set 0 (.pointer (some ⟨G.g, 0, none⟩))
  generalize V2.setCell ⟨QB, 0, none⟩ (.pointer (some ⟨G.g, 0, none⟩)) = V3 at *
  have s4 := SameBut.setCell QB 1 (.pointer (some ⟨F.g, 0, none⟩)) V3
  have r4 := r3.but s4 hpq
  have t4 := t3.set 1 (.pointer (some ⟨F.g, 0, none⟩))
  refine h.swap (s4.below (s3.below (s2.below (s1.below h.bel h.bp) h.bp) h.bq) h.bq) r4 t4 fun B h1 h2 => ?_
  rw [s4.block B h2, s3.block B h2, s2.block B h1, s1.block B h1]

/-- The other pair is a copy of this one. -/
theorem GR.copy (h : GR w base PB QB i W G F s G' F' s') {W1 : World} (hb : Below W.heap.size W W1) (G2 F2 : RF) (hc : ∃ S, CAt W1 G2 s S) (hr : RAt W1 F2 s) (hG : ∀ B ∈ G2.blocks, W.heap.size ≤ B) (hF : ∀ B ∈ F2.blocks, W.heap.size ≤ B) (hsep : ∀ B ∈ G2.blocks, B ∉ F2.blocks) (hmn : F2.mo = none → F2.mcap = 0)
    (hrq : Row W2 QB 76 [.pointer (some ⟨G2.g, 0, none⟩), .pointer (some ⟨F2.g, 0, none⟩)]) (hk : SameBut QB W1 W2) : GR w base PB QB (i + 1) W2 G F s G2 F2 s := by
  have hlo := h.lo
  have hpl := h.rp.lt
  have hql := h.rq.lt
  have hbp := h.bp
  have b1 : Below base w W1 := h.bel.trans (hb.mono (by omega))
  have p1 : PR W1 G F s := h.p.below hb (Nat.le_refl _)
  have q1 : PR W1 G2 F2 s := ⟨hc, hr, hsep, h.p.good, hmn⟩
  have hne : ∀ B, (B ∈ G.blocks ∨ B ∈ F.blocks) ∨ (B ∈ G2.blocks ∨ B ∈ F2.blocks) → B ≠ QB := by
    rintro B ((hB | hB) | (hB | hB))
    · exact (hlo B (.inl hB)).2.2
    · exact (hlo B (.inr (.inl hB))).2.2
    · have := hG B hB; omega
    · have := hF B hB; omega
  have rp1 : Row W1 PB 76 [.pointer (some ⟨G.g, 0, none⟩), .pointer (some ⟨F.g, 0, none⟩)] := (hb.block _ hpl).trans h.rp
  refine ⟨hk.below b1 h.bq, rp1.but hk h.pq, hrq, p1.keep fun B hB => hk.block B (hne B (.inl hB)), q1.keep fun B hB => hk.block B (hne B (.inr hB)), by have := h.np; omega, by have := h.np; omega, ?_, h.pq, h.bp, h.bq, .inr ?_⟩
  · rintro B (hB | hB | hB | hB)
    · exact hlo B (.inl hB)
    · exact hlo B (.inr (.inl hB))
    · have := hG B hB; exact ⟨by omega, by omega, by omega⟩
    · have := hF B hB; exact ⟨by omega, by omega, by omega⟩
  · intro B h1 h2
    have a1 := h.p.lt B h1
    rcases h2 with h2 | h2
    · have := hG B h2; omega
    · have := hF B h2; omega
end

/-- What has come up of 'q = pair{p.c.Copy(), p.r.Copy()}'. -/
structure CPI (W1 : World) (s : RS) (PB QB : Nat) (gp fp : Nat) (old : List Value) (L : Nat → Bool) (x42 x43 x44 x45 x46 x47 x48 : Value) (G2 F2 : RF) (W : World) : Prop where
  bel : L 7 = false → Below W1.heap.size W1 W
  p0 : L 0 = true → x42 = .pointer (some ⟨PB, 0, none⟩)
  p1 : L 1 = true → x43 = .pointer (some ⟨gp, 0, none⟩)
  p3 : L 3 = true → x45 = .pointer (some ⟨PB, 1, none⟩)
  p4 : L 4 = true → x46 = .pointer (some ⟨fp, 0, none⟩)
  e2 : L 2 = true → x44 = .pointer (some ⟨G2.g, 0, none⟩)
  e5 : L 5 = true → x47 = .pointer (some ⟨F2.g, 0, none⟩)
  c2 : L 2 = true → L 7 = false → (∃ S, CAt W G2 s S) ∧ (∀ B ∈ G2.blocks, W1.heap.size ≤ B)
  c5 : L 5 = true → L 7 = false → RAt W F2 s ∧ (∀ B ∈ F2.blocks, W1.heap.size ≤ B) ∧ (F2.mo = none → F2.mcap = 0)
  sep : L 2 = true → L 5 = true → L 7 = false → ∀ B ∈ G2.blocks, B ∉ F2.blocks
  p6 : L 6 = true → x48 = .agg #[.pointer (some ⟨G2.g, 0, none⟩), .pointer (some ⟨F2.g, 0, none⟩)]
  l62 : L 6 = true → L 2 = true
  l65 : L 6 = true → L 5 = true
  l76 : L 7 = true → L 6 = true
  l21 : L 2 = true → L 1 = true
  l54 : L 5 = true → L 4 = true
  fin : L 7 = true → ∃ WX, Below W1.heap.size W1 WX ∧ (∃ S, CAt WX G2 s S) ∧ (∀ B ∈ G2.blocks, W1.heap.size ≤ B) ∧ RAt WX F2 s ∧ (∀ B ∈ F2.blocks, W1.heap.size ≤ B) ∧ (F2.mo = none → F2.mcap = 0) ∧ (∀ B ∈ G2.blocks, B ∉ F2.blocks) ∧ Row W QB 76 [.pointer (some ⟨G2.g, 0, none⟩), .pointer (some ⟨F2.g, 0, none⟩)] ∧ SameBut QB WX W

section
variable {W1 : World} {s : RS} {PB QB gp fp : Nat} {old : List Value} {L : Nat → Bool} {x42 x43 x44 x45 x46 x47 x48 : Value} {G2 F2 : RF} {W W2 : World}
theorem CPI.zero (W1 : World) (s : RS) (PB QB gp fp : Nat) (old : List Value) (x42 x43 x44 x45 x46 x47 x48 : Value) (G2 F2 : RF) : CPI W1 s PB QB gp fp old (fun _ => false) x42 x43 x44 x45 x46 x47 x48 G2 F2 W1.drew := by
  constructor <;> first | exact fun _ => (Below.refl _ _).drew | (intros; contradiction)
theorem CPI.off (h : CPI W1 s PB QB gp fp old L x42 x43 x44 x45 x46 x47 x48 G2 F2 W) (h6 : L 6 = false) : L 7 = false := by
  cases k : L 7 with
  | false => rfl
  | true => exact absurd (h.l76 k) (by rw [h6]; decide)
theorem CPI.s0 (h : CPI W1 s PB QB gp fp old L x42 x43 x44 x45 x46 x47 x48 G2 F2 W) : CPI W1 s PB QB gp fp old (upd L 0) (.pointer (some ⟨PB, 0, none⟩)) x43 x44 x45 x46 x47 x48 G2 F2 W :=
  ⟨h.bel, fun _ => rfl, h.p1, h.p3, h.p4, h.e2, h.e5, h.c2, h.c5, h.sep, h.p6, h.l62, h.l65, h.l76, h.l21, h.l54, h.fin⟩
theorem CPI.s1 (h : CPI W1 s PB QB gp fp old L x42 x43 x44 x45 x46 x47 x48 G2 F2 W) : CPI W1 s PB QB gp fp old (upd L 1) x42 (.pointer (some ⟨gp, 0, none⟩)) x44 x45 x46 x47 x48 G2 F2 W :=
  ⟨h.bel, h.p0, fun _ => rfl, h.p3, h.p4, h.e2, h.e5, h.c2, h.c5, h.sep, h.p6, h.l62, h.l65, h.l76, fun _ => rfl, h.l54, h.fin⟩
theorem CPI.s3 (h : CPI W1 s PB QB gp fp old L x42 x43 x44 x45 x46 x47 x48 G2 F2 W) : CPI W1 s PB QB gp fp old (upd L 3) x42 x43 x44 (.pointer (some ⟨PB, 1, none⟩)) x46 x47 x48 G2 F2 W :=
  ⟨h.bel, h.p0, h.p1, fun _ => rfl, h.p4, h.e2, h.e5, h.c2, h.c5, h.sep, h.p6, h.l62, h.l65, h.l76, h.l21, h.l54, h.fin⟩
theorem CPI.s4 (h : CPI W1 s PB QB gp fp old L x42 x43 x44 x45 x46 x47 x48 G2 F2 W) : CPI W1 s PB QB gp fp old (upd L 4) x42 x43 x44 x45 (.pointer (some ⟨fp, 0, none⟩)) x47 x48 G2 F2 W :=
  ⟨h.bel, h.p0, h.p1, h.p3, fun _ => rfl, h.e2, h.e5, h.c2, h.c5, h.sep, h.p6, h.l62, h.l65, h.l76, h.l21, fun _ => rfl, h.fin⟩
theorem CPI.s2 (h : CPI W1 s PB QB gp fp old L x42 x43 x44 x45 x46 x47 x48 G2 F2 W) (hL : L 2 = false) (hL1 : L 1 = true) {G3 : RF} (hc : ∃ S, CAt W2 G3 s S) (hG : ∀ B ∈ G3.blocks, W.heap.size ≤ B) (hb : Below W.heap.size W W2) : CPI W1 s PB QB gp fp old (upd L 2) x42 x43 (.pointer (some ⟨G3.g, 0, none⟩)) x45 x46 x47 x48 G3 F2 W2 := by
  have h6 : L 6 = false := by cases k : L 6 with | false => rfl | true => exact absurd (h.l62 k) (by rw [hL]; decide)
  have h7 := h.off h6
  have hbel := h.bel h7
  have b2 := hbel.trans (hb.mono hbel.size)
  refine ⟨fun _ => b2, h.p0, h.p1, h.p3, h.p4, fun _ => rfl, h.e5, fun _ _ => ⟨hc, fun B hB => Nat.le_trans hbel.size (hG B hB)⟩, fun k _ => ?_, fun _ k _ B hB hB2 => ?_, fun k => no_of h.l62 hL k, fun _ => rfl, h.l65, h.l76, fun _ => hL1, h.l54, fun k => no_of (fun k => h.l62 (h.l76 k)) hL k⟩
  · obtain ⟨r1, r2, r3⟩ := h.c5 k h7
    exact ⟨r1.keep fun B hB => hb.block B (r1.blt B hB), r2, r3⟩
  · have a1 := (h.c5 k h7).1.blt B hB2
    have a2 := hG B hB
    omega
theorem CPI.s5 (h : CPI W1 s PB QB gp fp old L x42 x43 x44 x45 x46 x47 x48 G2 F2 W) (hL : L 5 = false) (hL4 : L 4 = true) {F3 : RF} (hr : RAt W2 F3 s) (hF : ∀ B ∈ F3.blocks, W.heap.size ≤ B) (hmn : F3.mo = none → F3.mcap = 0) (hb : Below W.heap.size W W2) : CPI W1 s PB QB gp fp old (upd L 5) x42 x43 x44 x45 x46 (.pointer (some ⟨F3.g, 0, none⟩)) x48 G2 F3 W2 := by
  have h6 : L 6 = false := by cases k : L 6 with | false => rfl | true => exact absurd (h.l65 k) (by rw [hL]; decide)
  have h7 := h.off h6
  have hbel := h.bel h7
  have b2 := hbel.trans (hb.mono hbel.size)
  refine ⟨fun _ => b2, h.p0, h.p1, h.p3, h.p4, h.e2, fun _ => rfl, fun k _ => ?_, fun _ _ => ⟨hr, fun B hB => Nat.le_trans hbel.size (hF B hB), hmn⟩, fun k _ _ B hB hB2 => ?_, fun k => no_of h.l65 hL k, h.l62, fun _ => rfl, h.l76, h.l21, fun _ => hL4, fun k => no_of (fun k => h.l65 (h.l76 k)) hL k⟩
  · obtain ⟨⟨S, r1⟩, r2⟩ := h.c2 k h7
    exact ⟨⟨S, r1.keep fun B hB => hb.block B (r1.blt B hB)⟩, r2⟩
  · obtain ⟨⟨S, r1⟩, _⟩ := h.c2 k h7
    have a1 := r1.blt B hB
    have a2 := hF B hB2
    omega
theorem CPI.s6 (h : CPI W1 s PB QB gp fp old L x42 x43 x44 x45 x46 x47 x48 G2 F2 W) (h2 : L 2 = true) (h5 : L 5 = true) : CPI W1 s PB QB gp fp old (upd L 6) x42 x43 x44 x45 x46 x47 (.agg #[.pointer (some ⟨G2.g, 0, none⟩), .pointer (some ⟨F2.g, 0, none⟩)]) G2 F2 W :=
  ⟨h.bel, h.p0, h.p1, h.p3, h.p4, h.e2, h.e5, h.c2, h.c5, h.sep, fun _ => rfl, fun _ => h2, fun _ => h5, fun _ => rfl, h.l21, h.l54, h.fin⟩
theorem CPI.s7 (h : CPI W1 s PB QB gp fp old L x42 x43 x44 x45 x46 x47 x48 G2 F2 W) (hL : L 7 = false) (h6 : L 6 = true) (hr : Row W2 QB 76 [.pointer (some ⟨G2.g, 0, none⟩), .pointer (some ⟨F2.g, 0, none⟩)]) (hs : SameBut QB W W2) : CPI W1 s PB QB gp fp old (upd L 7) x42 x43 x44 x45 x46 x47 x48 G2 F2 W2 := by
  have h2 := h.l62 h6
  have h5 := h.l65 h6
  obtain ⟨a1, a2⟩ := h.c2 h2 hL
  obtain ⟨b1, b2, b3⟩ := h.c5 h5 hL
  exact ⟨fun k => (by cases k), h.p0, h.p1, h.p3, h.p4, h.e2, h.e5, fun _ k => (by cases k), fun _ k => (by cases k), fun _ _ k => (by cases k), h.p6, h.l62, h.l65, fun _ => h6, h.l21, h.l54, fun _ => ⟨W, h.bel hL, a1, a2, b1, b2, b3, h.sep h2 h5 hL, hr, hs⟩⟩
theorem CPI.off1 (h : CPI W1 s PB QB gp fp old L x42 x43 x44 x45 x46 x47 x48 G2 F2 W) (h1 : L 1 = false ∨ L 4 = false ∨ L 2 = false ∨ L 5 = false) : L 7 = false := by
  have : L 6 = false := by
    cases k : L 6 with
    | false => rfl
    | true =>
      have k2 := h.l62 k
      have k5 := h.l65 k
      have k1 := h.l21 k2
      have k4 := h.l54 k5
      rcases h1 with e | e | e | e
      · rw [e] at k1; cases k1
      · rw [e] at k4; cases k4
      · rw [e] at k2; cases k2
      · rw [e] at k5; cases k5
  exact h.off this
end
@[reducible] def ICPI (W1 : World) (s : RS) (PB QB gp fp : Nat) (old : List Value) (y0 y1 y2 y3 y4 y5 y6 y7 y8 y9 y10 y11 y12 y13 y14 y15 y16 y17 y18 y19 y20 y21 y22 y23 y24 y25 y26 y27 y28 y29 y30 y31 y32 y33 y34 y35 y36 y37 y38 y39 y40 y41 y49 y50 y51 y52 y53 y54 y55 y56 y57 y58 y59 y60 y61 y62 y63 y64 y65 y66 y67 y68 y69 y70 y71 y72 y73 y74 y75 y76 y77 y78 y79 y80 y81 : Value) : (Nat → Bool) → Act → World → Prop := fun L a W => ∃ x42 x43 x44 x45 x46 x47 x48 G2 F2, a = ⟨#[y0, y1, y2, y3, y4, y5, y6, y7, y8, y9, y10, y11, y12, y13, y14, y15, y16, y17, y18, y19, y20, y21, y22, y23, y24, y25, y26, y27, y28, y29, y30, y31, y32, y33, y34, y35, y36, y37, y38, y39, y40, y41, x42, x43, x44, x45, x46, x47, x48, y49, y50, y51, y52, y53, y54, y55, y56, y57, y58, y59, y60, y61, y62, y63, y64, y65, y66, y67, y68, y69, y70, y71, y72, y73, y74, y75, y76, y77, y78, y79, y80, y81], []⟩ ∧ CPI W1 s PB QB gp fp old L x42 x43 x44 x45 x46 x47 x48 G2 F2 W
end Go.Proofs.Ythjndaeibbfgaaa
