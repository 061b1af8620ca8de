
import Derived.Test.YtepafpnpmpijeaaK12Code
/-! awake: some answers that the document fixes. -/
namespace Go.Proofs.Ytepafpnpmpijeaa
open Go.RowKit
set_option linter.unusedVariables false

def lA : Secs := [(5, [1#8]), (3, [7#8])]
def lB : Secs := [(64, [1#8])]
theorem lA_new : newE lA = none := by decide
theorem lB_new : newE lB = some (2, 0) := by decide
theorem lA_nums : nums lA 64 = [3, 5] := by decide
theorem lA_256 : ∀ i, i < lA.length → (lA.getD i (0, [])).2.length ≤ 256
  | 0, _ => by decide
  | 1, _ => by decide
  | n + 2, h => absurd h (by simp [lA])
theorem cell_isb {w : World} {g : Nat} {x : By} (h : Row w g 5 [B8 x]) : IsB w (some ⟨g, 0, none⟩) [x] := row_isb h
theorem secA {w : World} {a b c : Nat} (ha : Row w a 5 [B8 1#8]) (hb : Row w b 5 [B8 7#8]) (hc : Row w c 42 [.int .i64 5, .slice (some ⟨a, 0, none⟩) 1 1, .int .i64 3, .slice (some ⟨b, 0, none⟩) 1 1]) :
    SecIn w c 0 [.slice (some ⟨a, 0, none⟩) 1 1, .slice (some ⟨b, 0, none⟩) 1 1] lA where
  key
    | 0, _ => hc.cell 0 _ rfl
    | 1, _ => hc.cell 2 _ rfl
    | n + 2, h => absurd h (by simp [lA])
  sl
    | 0, _ => hc.cell 1 _ rfl
    | 1, _ => hc.cell 3 _ rfl
    | n + 2, h => absurd h (by simp [lA])
  bytes
    | 0, _ => ⟨_, _, rfl, row_isb ha, by decide, fun h => by cases h⟩
    | 1, _ => ⟨_, _, rfl, row_isb hb, by decide, fun h => by cases h⟩
    | n + 2, h => absurd h (by simp [lA])
theorem secB {w : World} {a c : Nat} (ha : Row w a 5 [B8 1#8]) (hc : Row w c 42 [.int .i64 64, .slice (some ⟨a, 0, none⟩) 1 1]) :
    SecIn w c 0 [.slice (some ⟨a, 0, none⟩) 1 1] lB where
  key
    | 0, _ => hc.cell 0 _ rfl
    | n + 1, h => absurd h (by simp [lB])
  sl
    | 0, _ => hc.cell 1 _ rfl
    | n + 1, h => absurd h (by simp [lB])
  bytes
    | 0, _ => ⟨_, _, rfl, row_isb ha, by decide, fun h => by cases h⟩
    | n + 1, h => absurd h (by simp [lB])

set_option maxHeartbeats 1000000 in
set_option maxRecDepth 100000 in
theorem awake_any (w : World) : Calls Try.prog 7 #[] w fun e w' => e = .returned (.bool true) ∧ Below w.heap.size w w' := by
  have MK : Hid (∀ W1, W1 = (((w.alloc (.cells #[.int .u8 1] 5)).alloc (.cells #[.int .u8 7] 5)).alloc (.cells #[.int .i64 5, .slice (some ⟨w.heap.size, 0, none⟩) 1 1, .int .i64 3, .slice (some ⟨w.heap.size + 1, 0, none⟩) 1 1] 42)) → Calls Try.prog 9 #[.slice (some ⟨w.heap.size + 1 + 1, 0, none⟩) 2 2] W1 (CNewPost lA W1) ∧ Below w.heap.size w W1) := by
    intro W1 hW
    subst hW
    refine ⟨cnew_any _ _ 2 2 (w.heap.size + 1 + 1) 0 _ lA rfl (fun _ => rfl) (secA (((Row.at w 5 [B8 1#8] _ _ rfl rfl).alloc _).alloc _) ((Row.at _ 5 [B8 7#8] _ _ (by simp) rfl).alloc _) (Row.at _ 42 _ _ _ (by simp) rfl)), ?_⟩
    exact (((Below.refl _ _).alloc (Nat.le_refl _) _).alloc (by simp) _).alloc (by simp; omega) _
  go_enter Try.func7, Try.ntmps7
  go_wp2_with fail
  refine (MK.out _ rfl).1.mono ?_
  have bw1 := (MK.out _ rfl).2
  clear MK
  rintro e w1 ⟨hb1, h1⟩
  replace bw1 := bw1.trans (hb1.mono bw1.size)
  clear hb1
  rcases h1 with ⟨er, i, hne, _⟩ | ⟨_, g, b, vs, rfl, hk⟩
  · rw [lA_new] at hne; cases hne
  have MB : Hid (∀ W1, W1 = ((w1.alloc (.cells #[.int .u8 1] 5)).alloc (.cells #[.int .i64 64, .slice (some ⟨w1.heap.size, 0, none⟩) 1 1] 42)) → Calls Try.prog 9 #[.slice (some ⟨w1.heap.size + 1, 0, none⟩) 1 1] W1 (CNewPost lB W1) ∧ Below w1.heap.size w1 W1) := by
    intro W1 hW
    subst hW
    refine ⟨cnew_any _ _ 1 1 (w1.heap.size + 1) 0 _ lB rfl (fun _ => rfl) (secB ((Row.at w1 5 [B8 1#8] _ _ rfl rfl).alloc _) (Row.at _ 42 _ _ _ (by simp) rfl)), ?_⟩
    exact ((Below.refl _ _).alloc (Nat.le_refl _) _).alloc (by simp) _
  have HK : Hid (KgO _ _ w1 g b vs lA) := hk
  clear hk
  go_wp2_with fail
  refine (MB.out _ rfl).1.mono ?_
  have bw2 := (MB.out _ rfl).2
  clear MB
  rintro e w2 ⟨hb2, h2⟩
  replace bw2 := bw2.trans (hb2.mono bw2.size)
  clear hb2
  rcases h2 with ⟨er, i, hne, rfl⟩ | ⟨hne, _⟩
  rotate_left
  · rw [lB_new] at hne; cases hne
  rw [lB_new] at hne
  injection hne with hne
  injection hne with e1 e2
  subst e1 e2
  have HK2 : Hid (KgO _ _ w2 g b vs lA) := HK.out.below bw2
  replace bw1 := bw1.trans (bw2.mono bw1.size)
  clear HK bw2
  have SG := csign_any HK2.out lA_256 4 none 0 0 [] rfl (.inl rfl) (Nat.le_refl _) (fun _ => rfl) (by omega)
  change Calls _ _ _ _ (fun e w' => e = .returned (.tuple #[.agg ((List.replicate 32 (0 : By)).map B8).toArray, .int .i64 13]) ∧ _) at SG
  go_wp2_with fail
  refine SG.mono ?_
  clear SG
  rintro e w3 ⟨rfl, hb3⟩
  have HK3 : Hid (KgO _ _ w3 g b vs lA) := HK2.out.below hb3
  replace bw1 := bw1.trans (hb3.mono bw1.size)
  clear HK2 hb3
  go_wp2_with (refine wpList_store_Row rfl 38 _ _ rfl w3.heap.size 38 0 ((List.replicate 32 (0 : By)).map B8) ((List.replicate 32 (0 : By)).map B8) (Row.at w3 _ _ _ _ rfl rfl) (by simp) rfl rfl (by kernel_rfl) (B8_one _) ?_; intro w4 _ hs4)
  have hb4 : Below w3.heap.size w3 w4 := hs4.below ((Below.refl _ _).alloc (Nat.le_refl _) _) (Nat.le_refl _)
  have HK4 : Hid (KgO _ _ w4 g b vs lA) := HK3.out.below hb4
  replace bw1 := bw1.trans (hb4.mono bw1.size)
  clear HK3 hb4 hs4
  refine (cnumbers_any HK4.out).mono ?_
  rintro e w5 ⟨lo, n, c, rfl, ho, hb5⟩
  rw [lA_nums] at ho
  have hn : n = 2 := ho.len.symm
  subst hn
  obtain ⟨q, rfl, _, _⟩ := ho.at (by omega)
  have hc0 := ho.cell 0 (by omega)
  change w5.cell? _ = some (.int .i64 3) at hc0
  have HK5 : Hid (KgO _ _ w5 g b vs lA) := HK4.out.below hb5
  replace bw1 := bw1.trans (hb5.mono bw1.size)
  have HBW : Hid (Below w.heap.size w w5) := bw1
  have H3 : Hid (Calls Try.prog 14 #[.pointer (some ⟨g, 0, none⟩), .int .i64 3] w5 fun e w' => e = .returned (.bool true) ∧ w' = w5) := chas_any HK5.out 3
  have H4 : Hid (Calls Try.prog 14 #[.pointer (some ⟨g, 0, none⟩), .int .i64 4] w5 fun e w' => e = .returned (.bool false) ∧ w' = w5) := chas_any HK5.out 4
  clear HK4 HK5 ho hb5 bw1
  go_wp2_with fail
  refine H3.out.mono ?_
  rintro e w6 ⟨rfl, rfl⟩
  go_wp2_with fail
  refine H4.out.mono ?_
  rintro e w7 ⟨rfl, rfl⟩
  go_wp2
  go_ret
  exact ⟨rfl, HBW.out⟩

end Go.Proofs.Ytepafpnpmpijeaa
