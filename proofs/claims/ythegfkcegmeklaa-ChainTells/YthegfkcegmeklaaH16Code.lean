
import Derived.Test.YthegfkcegmeklaaH16Clash
/-! What a chain in code keeps ('Chn Lg': any code with these contracts, whatever a log is in memory); the law's logged. -/
namespace Go.Proofs.Ythegfkcegmeklaa
open Go.RowKit
set_option linter.unusedVariables false

/-- All blocks that were there, but those of S, are as they were. -/
structure But (S : Nat → Prop) (w w' : World) : Prop where
  os : w'.os = w.os
  tape : w'.tape = w.tape
  output : w'.output = w.output
  size : w.heap.size ≤ w'.heap.size
  block : ∀ k, k < w.heap.size → ¬ S k → w'.heap[k]? = w.heap[k]?
theorem But.below {S : Nat → Prop} {w w' : World} (h : But S w w') {N : Nat} (hN : N ≤ w.heap.size) (hS : ∀ j, S j → N ≤ j) : Below N w w' :=
  ⟨h.os, h.tape, h.output, h.size, fun k hk => h.block k (by omega) fun hs => by have := hS k hs; omega⟩
theorem But.of_below {S : Nat → Prop} {w w' : World} (h : Below w.heap.size w w') : But S w w' :=
  ⟨h.os, h.tape, h.output, h.size, fun k hk _ => h.block k hk⟩
theorem But.mono {S T : Nat → Prop} {w w' : World} (h : But S w w') (hS : ∀ j, S j → T j) : But T w w' :=
  ⟨h.os, h.tape, h.output, h.size, fun k hk hn => h.block k hk fun h1 => hn (hS k h1)⟩
theorem But.trans {S T : Nat → Prop} {w w1 w2 : World} (h : But S w w1) (h2 : But T w1 w2) (hT : ∀ j, T j → S j ∨ w.heap.size ≤ j) : But S w w2 :=
  ⟨h2.os.trans h.os, h2.tape.trans h.tape, h2.output.trans h.output, Nat.le_trans h.size h2.size, fun k hk hn => (h2.block k (Nat.lt_of_lt_of_le hk h.size) fun h1 => (hT k h1).elim hn (by omega)).trans (h.block k hk hn)⟩

/-- One event more, if there is room. -/
def addE (xs : List EvV) (x : EvV) : List EvV := if xs.length < 1024 then xs ++ [x] else xs
theorem addE_take {xs : List EvV} {i : Nat} {x : EvV} (h : xs[i]? = some x) : addE ((xs.take i).take 1024) x = (xs.take (i + 1)).take 1024 := by
  have hi : i < xs.length := (List.getElem?_eq_some_iff.1 h).1
  unfold addE
  rw [take_one h]
  by_cases h2 : i < 1024
  · have e : (xs.take i).length = i := by rw [List.length_take]; omega
    rw [if_pos (by rw [List.length_take, e]; omega), List.take_of_length_le (l := xs.take i) (i := 1024) (by omega), List.take_of_length_le (l := xs.take i ++ [x]) (by rw [List.length_append, e]; simp; omega)]
  · have e : (xs.take i).length = i := by rw [List.length_take]; omega
    rw [if_neg (by rw [List.length_take, e]; omega), List.take_append_of_le_length (by omega)]

/-- A log of the code in memory: its own blocks 'S', what points to it, its events; and the contracts of the calls. -/
structure Chn (Lg : (Nat → Prop) → World → Addr → List EvV → Prop) : Prop where
  lt : ∀ {S w a xs}, Lg S w a xs → ∀ j, S j → j < w.heap.size
  len : ∀ {S w a xs}, Lg S w a xs → xs.length ≤ 1024
  keep : ∀ {S w w' a xs}, Lg S w a xs → (∀ j, S j → w'.heap[j]? = w.heap[j]?) → w.heap.size ≤ w'.heap.size → Lg S w' a xs
  new : ∀ w, Calls Try.prog 9 #[] w fun e w' => ∃ a S, e = .returned (.pointer (some a)) ∧ Lg S w' a [] ∧ (∀ j, S j → w.heap.size ≤ j) ∧ Below w.heap.size w w'
  add : ∀ {S w a xs} (x : EvV), EvOk x → Lg S w a xs → Calls Try.prog 25 #[.pointer (some a), .agg (evC x).toArray] w fun e w' => ∃ S', e = .returned (.int .i64 (if xs.length < 1024 then 0 else 3)) ∧ Lg S' w' a (addE xs x) ∧ (∀ j, S' j → S j ∨ w.heap.size ≤ j) ∧ But S w w'
  register : ∀ {S w a xs}, Lg S w a xs → Calls Try.prog 11 #[.pointer (some a)] w fun e w' => ∃ S', e = .returned (.agg ((reg xs).map B8).toArray) ∧ Lg S' w' a xs ∧ (∀ j, S' j → S j ∨ w.heap.size ≤ j) ∧ But S w w'
  events : ∀ {S w a xs}, Lg S w a xs → Calls Try.prog 14 #[.pointer (some a)] w fun e w' => ∃ S' ao c, e = .returned (.slice ao xs.length c) ∧ w'.ownsRow w.heap.size 35 33 (.slice ao xs.length c) xs.length (xs.flatMap evC) ∧ Lg S' w' a xs ∧ (∀ j, S' j → S j ∨ w.heap.size ≤ j) ∧ (∀ B o, ao = some ⟨B, o, none⟩ → ¬ S' B) ∧ But S w w'
  quote : ∀ {S w a xs}, Lg S w a xs → ∀ (ko : Option Addr) (kn kc : Nat) (key : List By), key.length = kn → IsB w ko key → ((ko = none → kc = 0) ∧ kn ≤ kc) → kn ≤ 140737488351232 → ∀ (no : Option Addr) (nb nc : Nat) (nonce : List By), nonce.length = nb → IsB w no nonce → ((no = none → nc = 0) ∧ nb ≤ nc) → nb ≤ 140737488351232 →
    Calls Try.prog 22 #[.pointer (some a), .slice ko kn kc, .slice no nb nc] w fun e w' => ∃ S', e = .returned (.agg ((quot key nonce xs).map B8).toArray) ∧ Lg S' w' a xs ∧ (∀ j, S' j → S j ∨ w.heap.size ≤ j) ∧ But S w w'
  extend : ∀ (r x : List By), r.length = 32 → x.length = 32 → ∀ w, Calls Try.prog 17 #[.agg (r.map B8).toArray, .agg (x.map B8).toArray] w fun e w' => e = .returned (.agg ((extend r x).map B8).toArray) ∧ Below w.heap.size w w'
  measure : ∀ (x : EvV), EvOk x → ∀ w, Calls Try.prog 19 #[.agg (evC x).toArray] w fun e w' => e = .returned (.agg ((measure x).map B8).toArray) ∧ Below w.heap.size w w'
  check : ∀ (w : World) (ko : Option Addr) (kn kc : Nat) (key : List By), key.length = kn → IsB w ko key → ((ko = none → kc = 0) ∧ kn ≤ kc) → kn ≤ 140737488351232 → ∀ (no : Option Addr) (nb nc : Nat) (nonce : List By), nonce.length = nb → IsB w no nonce → ((no = none → nc = 0) ∧ nb ≤ nc) → nb ≤ 140737488351232 →
    ∀ (ao : Option Addr) (n cap B off : Nat) (xs : List EvV), xs.length = n → n ≤ 140737488355328 → (0 < n → ao = some ⟨B, off, none⟩) → EvIn w B off xs → ∀ (q : List By), q.length = 32 →
    Calls Try.prog 15 #[.slice ko kn kc, .slice no nb nc, .slice ao n cap, .agg (q.map B8).toArray] w fun e w' => e = .returned (.int .i64 (chk key nonce xs q)) ∧ Below w.heap.size w w'

set_option maxHeartbeats 1000000 in
set_option maxRecDepth 100000 in
theorem logged_any {Lg : (Nat → Prop) → World → Addr → List EvV → Prop} (C : Chn Lg) (w : World) (ao : Option Addr) (n cap B off : Nat) (xs : List EvV) (hn : xs.length = n) (hn47 : n ≤ 140737488355328) (hao : 0 < n → ao = some ⟨B, off, none⟩) (hin : EvIn w B off xs) :
    Calls Try.prog 21 #[.slice ao n cap] w fun e w' => ∃ a S, e = .returned (.pointer (some a)) ∧ Lg S w' a (xs.take 1024) ∧ (∀ j, S j → w.heap.size ≤ j) ∧ Below w.heap.size w w' := by
  have HI : Hid (∀ W, Below w.heap.size w W → EvIn W B off xs) := fun W h => hin.keep h
  have HX : Hid (xs.length = n) := hn
  have HAO : Hid (0 < n → ao = some ⟨B, off, none⟩) := hao
  have HC : Hid (Chn Lg) := C
  have NW := C.new w
  clear hin hn hao C
  go_enter Try.func21, Try.ntmps21
  go_wp2_with fail
  refine NW.mono ?_
  clear NW
  rintro e w1 ⟨a, S, rfl, hl, hs, hb⟩
  dsimp only
  have H0 : Hid (∃ S, Lg S w1 a ((xs.take 0).take 1024) ∧ (∀ j, S j → w.heap.size ≤ j) ∧ Below w.heap.size w w1) := ⟨S, hl, hs, hb⟩
  clear hl hs hb
  go_wp2
  go_loopw [4] (fun iv wr => ∃ i : Nat, i ≤ n ∧ iv = .int .i64 i ∧ Hid (∃ S, Lg S wr a ((xs.take i).take 1024) ∧ (∀ j, S j → w.heap.size ≤ j) ∧ Below w.heap.size w wr)) (fun iv _ => n - (intOf iv).toNat)
  case atStart => exact ⟨0, by omega, rfl, H0⟩
  case round =>
    clear H0
    obtain ⟨i, hi, rfl, HH⟩ := hrel
    by_cases hlt : i < n
    · have y0 : (0 : Int) ≤ (i : Int) := by omega
      have y1 : (i : Int) < (n : Int) := by omega
      obtain ⟨S, hl, hs, hb⟩ := HH.out
      have hE := HI.out _ hb
      obtain ⟨x, hx⟩ : ∃ x, xs[i]? = some x := ⟨_, List.getElem?_eq_getElem (by rw [HX.out]; exact hlt)⟩
      have ha := HAO.out (by omega)
      subst ha
      have lx := evC_len (hE.ok i x hx)
      have hrg := hE.cells i x hx
      have AD : Hid (Calls Try.prog 25 #[.pointer (some a), .agg (evC x).toArray] wr fun e w' => ∃ S', e = .returned (.int .i64 (if ((xs.take i).take 1024).length < 1024 then 0 else 3)) ∧ Lg S' w' a (addE ((xs.take i).take 1024) x) ∧ (∀ j, S' j → S j ∨ wr.heap.size ≤ j) ∧ But S wr w') := HC.out.add x (hE.ok i x hx) hl
      have HS : Hid (∀ j, S j → w.heap.size ≤ j) := hs
      have HB : Hid (Below w.heap.size w wr) := hb
      have HA : Hid (addE ((xs.take i).take 1024) x = (xs.take (i + 1)).take 1024) := addE_take hx
      clear hE hx hl hs hb HH
      generalize hAC : evC x = AC at *
      have hal : AC.length = 33 := lx
      clear hAC lx
      go_wp2_with (refine wpList_load_mid rfl 35 (.tmp 19) rfl B (off + i * 33) rfl AC _ hrg Try.underlying35 rfl (by rw [hal]; kernel_rfl) ?_)
      refine AD.out.mono ?_
      clear AD
      rintro e w2 ⟨S', rfl, hl2, hs2, hb2⟩
      dsimp only
      have H2 : Hid (∃ S, Lg S w2 a ((xs.take (i + 1)).take 1024) ∧ (∀ j, S j → w.heap.size ≤ j) ∧ Below w.heap.size w w2) := ⟨S', by rw [← HA.out]; exact hl2, fun j hj => (hs2 j hj).elim (HS.out j) fun h => Nat.le_trans HB.out.size h, HB.out.trans (hb2.below HB.out.size HS.out)⟩
      clear hl2 hs2 hb2
      go_wp2
      exact ⟨⟨i + 1, by omega, by go_num, H2⟩, by simp [intOf]; omega⟩
    · obtain rfl : i = n := by omega
      have y1 : ¬ ((i : Nat) : Int) < (i : Int) := by omega
      have H2 : Hid (∃ S, Lg S wr a (xs.take 1024) ∧ (∀ j, S j → w.heap.size ≤ j) ∧ Below w.heap.size w wr) := by
        obtain ⟨S, h1, h2⟩ := HH.out
        rw [List.take_of_length_le (Nat.le_of_eq HX.out)] at h1
        exact ⟨S, h1, h2⟩
      clear HH
      go_wp2
      go_ret
      obtain ⟨S, h1, h2⟩ := H2.out
      exact ⟨a, rfl, S, h1, h2⟩
end Go.Proofs.Ythegfkcegmeklaa
