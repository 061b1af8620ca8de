import Derived.Test.YtljjfhllpbcpeaaR5Where
/-! The law's keeps: what is handed in stays; answers are new memory. -/
namespace Go.Proofs.Ytljjfhllpbcpeaa
open Go.RowKit

def KPostE (w : World) (k : Nat) (r : List By) (e : Ending) (w' : World) : Prop :=
  ∃ ao c, e = .returned (.slice ao k c) ∧ Own w.heap.size w' (.slice ao k c) r ∧ Below w.heap.size w w'
/-- Whatever slice holds b: the call answers r, in memory of its own. -/
def IsCall (f : FuncId) (b r : List By) (k : Nat) : Prop := ∀ ao n cap w, b.length = n → IsB w ao b → n ≤ cap → Calls Try.prog f #[.slice ao n cap] w fun e w' => KPostE w k r e w'

/-- Behind the calls: x is its owner's, y holds what it held. -/
structure KS (w2 w3 : World) (k : Nat) (aoY : Option Addr) (cY : Nat) (r : List By) (aoX : Option Addr) (nX cX : Nat) (wr : World) : Prop where
  x : ∃ xs, Own w2.heap.size wr (.slice aoX nX cX) xs
  y : Own w3.heap.size wr (.slice aoY k cY) r
  ne : ∀ q, aoX = some ⟨q, 0, none⟩ → aoY = some ⟨q, 0, none⟩ → False
  bel : Below w2.heap.size w2 wr
theorem Own.lt {N : Nat} {w : World} {q n c : Nat} {m : List By} (h : Own N w (.slice (some ⟨q, 0, none⟩) n c) m) : N ≤ q ∧ q < w.heap.size := h.1.lt q rfl
theorem KS.store {w2 w3 : World} {k : Nat} {aoY : Option Addr} {cY : Nat} {r : List By} {q nX cX : Nat} {wr : World} (h : KS w2 w3 k aoY cY r (some ⟨q, 0, none⟩) nX cX wr) (j : Nat) (x : By) (Y : Int) (hY : Y = (x.toNat : Int)) :
    KS w2 w3 k aoY cY r (some ⟨q, 0, none⟩) nX cX (wr.setCell ⟨q, j, none⟩ (.int .u8 Y)) := by
  subst hY
  obtain ⟨xs, hx⟩ := h.x
  exact ⟨⟨_, hx.set j x⟩, h.y.but (SameBut.setCell q j _ wr) (fun e => h.ne q rfl e), h.ne, (SameBut.setCell q j _ wr).below h.bel hx.lt.1⟩
theorem KS.append {w2 w3 : World} {k : Nat} {aoY : Option Addr} {cY : Nat} {r : List By} {aoX : Option Addr} {nX cX : Nat} {wr : World} (h : KS w2 w3 k aoY cY r aoX nX cX wr) (o : Obj) {ao' : Option Addr} {n' c' : Nat} {w' : World} {xs : List By}
    (h1 : Own w2.heap.size w' (.slice ao' n' c') xs) (h2 : (wr.alloc o).heap.size ≤ w'.heap.size) (h3 : Below w2.heap.size (wr.alloc o) w') (h4 : ∀ k, k < (wr.alloc o).heap.size → aoX ≠ some ⟨k, 0, none⟩ → w'.heap[k]? = (wr.alloc o).heap[k]?) (h5 : ao' = aoX ∨ ao' = some ⟨(wr.alloc o).heap.size, 0, none⟩) :
    KS w2 w3 k aoY cY r ao' n' c' w' := by
  have hy : Own w3.heap.size (wr.alloc o) (.slice aoY k cY) r := h.y.keep ((Below.refl _ _).alloc (Nat.le_refl _) o)
  refine ⟨⟨xs, h1⟩, ⟨⟨hy.1.1, ?_⟩, Nat.le_trans hy.2 h2⟩, ?_, (h.bel.alloc h.bel.size o).trans h3⟩
  · rcases hy.1.2 with e1 | ⟨q, c, cur, e1, e2, e3, e4⟩
    · exact .inl e1
    · refine .inr ⟨q, c, cur, e1, e2, (h4 q (Array.getElem?_eq_some_iff.1 e3).1 ?_).trans e3, e4⟩
      intro e5
      injection e1 with e1
      exact h.ne q e5 e1
  · intro q e1 e2
    rcases h5 with h5 | h5
    · exact h.ne q (by rw [← h5]; exact e1) e2
    · rw [h5] at e1
      injection e1 with e1
      injection e1 with e1
      subst e2
      have := hy.lt.2
      omega

theorem tail_two (b : List By) (n : Nat) (hb : b.length = n) : (b ++ [119#8, 120#8]).take n = b ∧ (b ++ [119#8, 120#8]).getD n 0 = 119#8 ∧ (b ++ [119#8, 120#8]).getD (n + 1) 0 = 120#8 := by
  subst hb
  refine ⟨by simp, ?_, ?_⟩
  · rw [getD_lt (by simp)]; simp
  · rw [getD_lt (by simp)]; simp

set_option maxHeartbeats 2000000 in
set_option maxRecDepth 100000 in
theorem keeps_any (f : FuncId) (hcf : ∀ args w, (callFunc f args).run Try.prog w = .ok (.enter f args) w) (b r : List By) (k : Nat) (hf : IsCall f b r k) (hk : r.length = k) (hkl : k ≤ 4194304)
    (ao : Option Addr) (n cap : Nat) (hb0 : b.length = n) (w : World) (ib : IsB w ao b) (hnil : ao = none → cap = 0) (hl : n ≤ 2097152) :
    Calls Try.prog 18 #[.func (.func f) #[] #[], .slice ao n cap] w fun e w' => e = .returned (.bool true) ∧ Below w.heap.size w w' := by
  have HB : Hid (b.length = n) := hb0
  have HNIL : Hid (ao = none → cap = 0) := hnil
  have IB : Hid (∀ w', Below w.heap.size w w' → IsB w' ao b) := fun w' h => ib.below h (Nat.le_refl _)
  have HK : Hid (r.length = k) := hk
  clear hb0 hnil ib hk
  go_enter Try.func18, Try.ntmps18
  go_wp2_with (first
    | (at_builtin; refine wpList_append_more rfl (.const _) (.tmp 13) rfl w.heap.size w none 0 0 [] rfl rfl (own_nil _ _ (Nat.le_refl _)) (Below.refl _ _) ao n cap b rfl HB.out (IB.out _ (Below.refl _ _)) HNIL.out (by omega) ?_; intro ao1 c1 w1 o1 b1; rw [Nat.zero_add, List.nil_append] at o1; have O1 : Hid (Own w.heap.size w1 (.slice ao1 n c1) b) := o1; have B1 : Hid (Below w.heap.size w w1) := b1; clear o1 b1)
    | (at_builtin; refine wpList_append_more rfl (.tmp 14) (.tmp 15) rfl w.heap.size w ao1 n c1 b rfl HB.out (O1.out.keep ((Below.refl _ _).alloc (Nat.le_refl _) _)) (B1.out.alloc B1.out.size _) _ 2 2 [119#8, 120#8] rfl rfl (row_isb (Row.at _ 5 _ _ _ rfl rfl)) (fun h => by cases h) (by omega) ?_; intro ao2 c2 w2 o2 b2; have O2 : Hid (Own w.heap.size w2 (.slice ao2 (n + 2) c2) (b ++ [119#8, 120#8])) := o2; have B2 : Hid (Below w.heap.size w w2) := b2; have hc2 : n + 2 ≤ c2 := own_cap o2; clear o2 b2))
  obtain ⟨g, rfl, hg, _⟩ := O2.out.at (by omega)
  have TW := tail_two b n HB.out
  have IN : Hid (∀ w', Below w2.heap.size w2 w' → IsB w' (some ⟨g, 0, none⟩) b) := fun w' h => by
    have := ((own_IsB O2.out).below h (Nat.le_refl _)).take n
    rwa [TW.1] at this
  have hcn : n ≤ c2 := by omega
  refine (hf (some ⟨g, 0, none⟩) n c2 w2 HB.out (IN.out _ (Below.refl _ _)) hcn).mono ?_
  rintro e w3 ⟨aoX, cX, rfl, o3, b3⟩
  have O3 : Hid (Own w2.heap.size w3 (.slice aoX k cX) r) := o3
  have B3 : Hid (Below w2.heap.size w2 w3) := b3
  clear o3 b3
  go_wp2_with fail
  refine (hf (some ⟨g, 0, none⟩) n c2 w3 HB.out (IN.out _ B3.out) hcn).mono ?_
  rintro e w4 ⟨aoY, cY, rfl, o4, b4⟩
  have O4 : Hid (Own w3.heap.size w4 (.slice aoY k cY) r) := o4
  have B4 : Below w2.heap.size w2 w4 := B3.out.trans (b4.mono B3.out.size)
  have O4X : Hid (Own w2.heap.size w4 (.slice aoX k cX) r) := O3.out.keep b4
  have O4G : Own w.heap.size w4 (.slice (some ⟨g, 0, none⟩) (n + 2) c2) (b ++ [119#8, 120#8]) := O2.out.keep B4
  have GB : Hid (∀ w', Below w2.heap.size w2 w' → Below w.heap.size w w') := fun w' h => B2.out.trans (h.mono B2.out.size)
  have cv1 := conv_bytes w4 aoX k cX r HK.out (own_IsB O4X.out)
  have cv2 := conv_bytes w4 aoY k cY r HK.out (own_IsB O4.out)
  have cv3 := conv_bytes w4 (some ⟨g, 0, none⟩) n c2 b HB.out (IN.out _ B4)
  have cv4 := conv_bytes w4 ao n cap b HB.out (IB.out _ (GB.out _ B4))
  have ce1 := O4G.cell n (by omega)
  have ce2 := O4G.cell (n + 1) (by omega)
  rw [TW.2.1] at ce1
  rw [TW.2.2] at ce2
  have B4' : Hid (Below w2.heap.size w2 w4) := B4
  have O4G' : Hid (Own w.heap.size w4 (.slice (some ⟨g, 0, none⟩) (n + 2) c2) (b ++ [119#8, 120#8])) := O4G
  have KS0 : Hid (KS w2 w3 k aoY cY r aoX k cX w4) := ⟨⟨r, O4X.out⟩, O4.out, (fun q h1 h2 => by
    have e1 := O3.out
    have e2 := O4.out
    rw [h1] at e1
    rw [h2] at e2
    have := e1.lt
    have := e2.lt
    omega), B4⟩
  have GY : Hid (aoY ≠ some ⟨g, 0, none⟩) := by
    show _ ≠ _
    intro h1
    have e1 := O4.out
    rw [h1] at e1
    have e2 := e1.lt
    have e3 := B3.out.size
    have e4 := O2.out.lt
    omega
  have OG : Hid (∀ w', Below w2.heap.size w2 w' → Own w.heap.size w' (.slice (some ⟨g, 0, none⟩) (n + 2) c2) (b ++ [119#8, 120#8])) := fun w' h => O2.out.keep h
  have HG : Hid (w.heap.size ≤ g) := hg
  have TWH : Hid ((b ++ [119#8, 120#8]).getD n 0 = 119#8) := TW.2.1
  clear o4 b4 B4 O4G O3 O2 O1 B1 B2 TW O4 O4X O4G' B4' hg
  go_wp2
  clear cv1 cv2 cv3 cv4 ce1 ce2
  go_loopw [10] (fun iv wr => ∃ p : Nat, p ≤ k ∧ iv = .int .i64 p ∧ KS w2 w3 k aoY cY r aoX k cX wr) (fun iv _ => k - (intOf iv).toNat)
  case atStart => exact ⟨0, by omega, rfl, KS0.out⟩
  case round =>
    obtain ⟨p, hp, rfl, ks⟩ := hrel
    by_cases hlt : p < k
    · have y1 : (p : Int) < (k : Int) := by omega
      have y0 : (0 : Int) ≤ (p : Int) := by omega
      obtain ⟨xs, ox⟩ := ks.x
      obtain ⟨q, rfl, _, _⟩ := ox.at (by omega)
      have c1 := ox.cell p hlt
      have f1 := ox.frozen p
      have NX : Hid (KS w2 w3 k aoY cY r (some ⟨q, 0, none⟩) k cX (wr.setCell ⟨q, p, none⟩ (.int .u8 17))) := ks.store p 17#8 17 (by decide)
      clear ks ox
      go_wp2
      exact ⟨⟨p + 1, by omega, by simp, NX.out⟩, by simp [intOf]; omega⟩
    · have y1 : ¬ (p : Int) < (k : Int) := by omega
      have KS1 : Hid (KS w2 w3 k aoY cY r aoX k cX wr) := ks
      clear ks KS0
      go_wp2
      go_loopw [7, 11] (fun sv iv wz => ∃ p : Nat, p ≤ 40 ∧ iv = .int .i64 p ∧ ∃ ao' c', sv = .slice ao' (k + p) c' ∧ KS w2 w3 k aoY cY r ao' (k + p) c' wz) (fun _ iv _ => 40 - (intOf iv).toNat)
      case atStart => exact ⟨0, by omega, rfl, aoX, cX, rfl, KS1.out⟩
      case round =>
        obtain ⟨p, hp, rfl, ao5, c5, rfl, ks⟩ := hrel
        by_cases hlt : p < 40
        · have y1 : (p : Int) < 40 := by omega
          obtain ⟨xs, ox⟩ := ks.x
          have OX : Hid (Own w2.heap.size (wr.alloc (.cells #[.int .u8 18] 5)) (.slice ao5 (k + p) c5) xs) := ox.keep ((Below.refl _ _).alloc (Nat.le_refl _) _)
          have KSH : Hid (KS w2 w3 k aoY cY r ao5 (k + p) c5 wr) := ks
          clear ks ox
          go_wp2_with (at_builtin; refine wpList_append_byte rfl (.tmp 70) (.tmp 71) rfl w2.heap.size ao5 (k + p) c5 xs rfl OX.out wr.heap.size 18#8 rfl (Row.at _ 5 _ _ _ rfl rfl) (by omega) ?_; intro ao6 c6 w6 q1 q2 q3 q4 q5; have NX := KSH.out.append _ q1 q2 q3 q4 q5; clear q1 q2 q3 q4 q5)
          exact ⟨⟨p + 1, by omega, by simp, ao6, c6, rfl, NX⟩, by simp [intOf]; omega⟩
        · have y1 : ¬ (p : Int) < 40 := by omega
          have yy : p = 40 := by omega
          subst yy
          have cv1 := conv_bytes wr aoY k cY r HK.out (own_IsB ks.y)
          have cv2 := conv_bytes wr (some ⟨g, 0, none⟩) n c2 b HB.out (IN.out _ ks.bel)
          have cv3 := conv_bytes wr ao n cap b HB.out (IB.out _ (GB.out _ ks.bel))
          have ce := (OG.out _ ks.bel).cell n (by omega)
          rw [TWH.out] at ce
          have KSH : Hid (KS w2 w3 k aoY cY r ao5 (k + 40) c5 wr) := ks
          clear ks KS1
          go_wp2_with fail
          refine (hf (some ⟨g, 0, none⟩) n c2 wr HB.out (IN.out _ KSH.out.bel) hcn).mono ?_
          rintro e w7 ⟨ao7, c7, rfl, o7, b7⟩
          have cv4 := conv_bytes w7 ao7 k c7 r HK.out (own_IsB o7)
          have B7 : Below w2.heap.size w2 w7 := KSH.out.bel.trans (b7.mono KSH.out.bel.size)
          have Y7 : Own w3.heap.size w7 (.slice aoY k cY) r := KSH.out.y.keep b7
          have Z7 : Hid ((∃ zs, Own w.heap.size w7 (.slice (some ⟨g, 0, none⟩) (n + 2) c2) zs) ∧ Own w3.heap.size w7 (.slice aoY k cY) r ∧ Below w.heap.size w w7) := ⟨⟨_, OG.out _ B7⟩, Y7, GB.out _ B7⟩
          clear o7 b7 cv1 cv2 cv3 ce B7 Y7 KSH
          go_wp2
          clear cv4
          go_loopw [12] (fun iv wz => ∃ p : Nat, p ≤ n ∧ iv = .int .i64 p ∧ (∃ zs, Own w.heap.size wz (.slice (some ⟨g, 0, none⟩) (n + 2) c2) zs) ∧ Own w3.heap.size wz (.slice aoY k cY) r ∧ Below w.heap.size w wz) (fun iv _ => n - (intOf iv).toNat)
          case atStart => exact ⟨0, by omega, rfl, Z7.out.1, Z7.out.2.1, Z7.out.2.2⟩
          case round =>
            obtain ⟨p, hp, rfl, ⟨zs, oz⟩, oy, bz⟩ := hrel
            by_cases hlt : p < n
            · have y1 : (p : Int) < (n : Int) := by omega
              have y0 : (0 : Int) ≤ (p : Int) := by omega
              have c1 := oz.cell p (by omega)
              have f1 := oz.frozen p
              have hx : bits .xor .u8 ((zs.getD p 0).toNat : Int) 33 = ((zs.getD p 0 ^^^ 33#8).toNat : Int) := bits8_xor (zs.getD p 0) 33#8
              have NX : Hid (∀ Y, Y = ((zs.getD p 0 ^^^ 33#8).toNat : Int) → (∃ zs, Own w.heap.size (wr.setCell ⟨g, p, none⟩ (.int .u8 Y)) (.slice (some ⟨g, 0, none⟩) (n + 2) c2) zs) ∧ Own w3.heap.size (wr.setCell ⟨g, p, none⟩ (.int .u8 Y)) (.slice aoY k cY) r ∧ Below w.heap.size w (wr.setCell ⟨g, p, none⟩ (.int .u8 Y))) := by
                rintro Y rfl
                exact ⟨⟨_, oz.set p _⟩, oy.but (SameBut.setCell g p _ wr) GY.out, (SameBut.setCell g p _ wr).below bz HG.out⟩
              have HX : Hid _ := hx
              clear oz oy bz hx
              generalize zs.getD p 0 = x at *
              go_wp2
              obtain ⟨q1, q2, q3⟩ := NX.out _ HX.out
              exact ⟨⟨p + 1, by omega, by simp, q1, q2, q3⟩, by simp [intOf]; omega⟩
            · have y1 : ¬ (p : Int) < (n : Int) := by omega
              have cv1 := conv_bytes wr aoY k cY r HK.out (own_IsB oy)
              have BZ : Hid (Below w.heap.size w wr) := bz
              clear oz oy bz
              go_wp2
              go_ret
              exact ⟨rfl, BZ.out⟩
end Go.Proofs.Ytljjfhllpbcpeaa
