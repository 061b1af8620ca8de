import Derived.Test.YtjooabgjkjnhhaaGreatDoorK12Add
import Derived.Test.YtjooabgjkjnhhaaGreatDoorT24A
import Derived.Test.YtjooabgjkjnhhaaGreatDoorT24U
import Derived.Test.YtjooabgjkjnhhaaGreatDoorK12Map

/-! THE CODE'S CONTRACTS: Numbers, Sign, Check, New. -/
namespace Go.Proofs.YtjooabgjkjnhhaaGreatDoor
open Go.RowKit
set_option linter.unusedVariables false

set_option maxHeartbeats 1000000 in
set_option maxRecDepth 100000 in
theorem csign_any {N M : Nat} {w : World} {g b0 : Nat} {vs : List Value} {l : Secs} (h : KgO N M w g b0 vs l) (hb256 : ∀ i, i < l.length → (l.getD i (0, [])).2.length ≤ 256) (key : Int)
    (bo : Option Addr) (nb cb : Nat) (b : List By) (hnb : b.length = nb) (hb : IsB w bo b) (hcb : nb ≤ cb) (hbk : bo = none → cb = 0) (hmb : nb ≤ 140737488353000) :
    Calls Tryz.prog 30 #[.pointer (some ⟨g, 0, none⟩), .int .i64 key, .slice bo nb cb] w fun e w' => e = .returned (.tuple #[.agg ((sgn l key b).map B8).toArray, .int .i64 (sgnE l key)]) ∧ Below w.heap.size w w' := by
  have bA : ∀ o1, Below w.heap.size w (w.alloc o1) := fun o1 => (Below.refl _ _).alloc (Nat.le_refl _) _
  have HL := sgn_len l key b
  have HB : Hid (b.length = nb) := hnb
  have h0 := fun o1 => (h.below (bA o1)).row.cell 0 _ rfl
  clear hnb
  have r0 : Row (w.alloc (.cells ((List.replicate 32 (0 : By)).map B8).toArray 26)) w.heap.size 26 ((List.replicate 32 (0 : By)).map B8) := Row.at w _ _ _ _ rfl rfl
  have bw := bA (.cells ((List.replicate 32 (0 : By)).map B8).toArray 26)
  cases hf : fnd l key with
  | none =>
    have HS : Hid (sgn l key b = List.replicate 32 0 ∧ sgnE l key = 13) := ⟨by unfold sgn; rw [hf], by unfold sgnE; rw [hf]⟩
    have q := fun o1 => look_none kmT (h.below (bA o1)).mp key (kvs_none key l vs h.len (by rw [hf]; rfl))
    clear h hf hb256 hb bA
    go_enter Tryz.func30, Tryz.ntmps30
    go_wp2_with (refine wpList_store_Row rfl 26 _ _ rfl w.heap.size 26 0 ((List.replicate 32 (0 : By)).map B8) ((List.replicate 32 (0 : By)).map B8) r0 (by simp) rfl rfl (by kernel_rfl) (B8_one _) ?_; intro w9 hr9 hs9)
    have hr := row_whole hr9 (by simp)
    refine bodyPost_ret_by (results_rowtmp Tryz.results30 _ w9 w.heap.size 26 _ _ rfl hr Tryz.underlying26 rfl (by kernel_rfl)) rfl ⟨?_, hs9.below bw (Nat.le_refl _)⟩
    rw [HS.out.1, HS.out.2]; rfl
  | some i =>
    have hi := fnd_lt hf
    have HS : Hid (sgn l key b = tag (l.getD i (0, [])).2 b ∧ sgnE l key = 0) := ⟨by unfold sgn; rw [hf], by unfold sgnE; rw [hf]⟩
    obtain ⟨kq, kc, ev, hkb, hkc, _, hkM⟩ := h.bytes i hi
    have q := fun o1 => look_some kmT (h.below (bA o1)).mp key (vs.getD i undef) (by rw [kvs_find key l vs h.len, hf]; rfl)
    rw [ev] at q
    have hk256 := hb256 i hi
    generalize (l.getD i (0, [])).2 = K at hkb hkc hk256 HS q
    have MM : Hid (∀ o1, Calls Tryz.prog 49 #[.slice (some ⟨kq, 0, none⟩) K.length kc, .slice bo nb cb] (w.alloc o1) fun e w' => e = .returned (.agg ((tag K b).map B8).toArray) ∧ Below w.heap.size w w' ∧ (∀ k, k < (w.alloc o1).heap.size → w'.heap[k]? = (w.alloc o1).heap[k]?)) := fun o1 =>
      (mac_any (some ⟨kq, 0, none⟩) bo K.length kc nb cb K b rfl HB.out (w.alloc o1) (hkb.below (bA o1) (Nat.le_refl _)) (hb.below (bA o1) (Nat.le_refl _)) hkc hcb (by omega) hmb).mono fun e w' ⟨h1, h2⟩ => ⟨h1, (bA o1).trans (h2.mono (bA o1).size), h2.block⟩
    have HT : Hid ((tag K b).length = 32) := sha_len _
    generalize tag K b = TG at MM HS HT
    generalize K.length = kn at *
    clear h hf hb256 hb hkb ev bA
    go_enter Tryz.func30, Tryz.ntmps30
    go_wp2_with fail
    refine (MM.out _).mono ?_
    rintro e w2 ⟨rfl, bw2, hb2⟩
    have r2 : Row w2 w.heap.size 26 ((List.replicate 32 (0 : By)).map B8) := (hb2 w.heap.size (by simp)).trans r0
    clear MM q h0 hb2
    go_wp2_with (refine wpList_store_Row rfl 26 _ _ rfl w.heap.size 26 0 ((List.replicate 32 (0 : By)).map B8) (TG.map B8) r2 (by simp [HT.out]) rfl rfl (by rw [List.length_map, HT.out]; kernel_rfl) (B8_one _) ?_; intro w9 hr9 hs9)
    have hr := row_whole hr9 (by simp [HT.out])
    refine bodyPost_ret_by (results_rowtmp Tryz.results30 _ w9 w.heap.size 26 _ _ rfl hr Tryz.underlying26 rfl (by rw [List.length_map, HT.out]; kernel_rfl)) rfl ⟨?_, hs9.below bw2 (Nat.le_refl _)⟩
    rw [HS.out.1, HS.out.2]; rfl

/-- A ring of the first secrets, while a New goes on. -/
def KgS (N : Nat) (w wr : World) (g b : Nat) (l : Secs) : Prop := (∃ vs, KgC N wr g b vs l) ∧ Below N w wr

set_option maxHeartbeats 2000000 in
set_option maxRecDepth 100000 in
theorem cnew_any (w : World) (ao : Option Addr) (n cap B off : Nat) (vs : List Value) (l : Secs) (hn : l.length = n) (hao : 0 < n → ao = some ⟨B, off, none⟩) (hin : SecIn w B off vs l) :
    Calls Tryz.prog 8 #[.slice ao n cap] w (CNewPost l w) := by
  by_cases h64 : 64 < n
  · have HE : Hid (newE l = some (3, 64)) := newE_many (by omega)
    have i1 : (64 : Int) < (n : Int) := by omega
    clear hin hao
    go_enter Tryz.func8, Tryz.ntmps8
    go_wp2
    go_ret3
    exact ⟨Below.refl _ _, .inl ⟨3, 64, HE.out, rfl⟩⟩
  · have i1 : ¬ (64 : Int) < (n : Int) := by omega
    have HL : Hid (l.length ≤ 64) := (by omega : l.length ≤ 64)
    have HN : Hid (l.length = n) := hn
    have r0 : Hid (KgS w.heap.size w ((w.alloc (.map #[] 0)).alloc (.cells #[.map (some w.heap.size)] 81)) (w.heap.size + 1) w.heap.size (l.take 0)) := ⟨⟨[], KgC.new _ w (Nat.le_refl _)⟩, ((Below.refl _ _).alloc (Nat.le_refl _) _).alloc (by simp) _⟩
    have hmm := @run_makeMap Tryz.prog
    clear h64 hn
    go_enter Tryz.func8, Tryz.ntmps8
    go_wp2
    clear hmm
    go_loopw [17] (fun iv wr => ∃ k : Nat, k ≤ n ∧ iv = .int .i64 k ∧ Hid (∀ j, j < k → secE l j = none) ∧ Hid (KgS w.heap.size w wr (w.heap.size + 1) w.heap.size (l.take k))) (fun iv _ => n - (intOf iv).toNat)
    case atStart => exact ⟨0, by omega, rfl, fun _ hi => absurd hi (by omega), r0⟩
    case round =>
      clear r0
      obtain ⟨k, hk, rfl, HJ, HR⟩ := hrel
      by_cases hlt : k < n
      · obtain rfl := hao (by omega)
        have y0 : (0 : Int) ≤ (k : Int) := by omega
        have y1 : (k : Int) < (n : Int) := by omega
        have hkl : k < l.length := by rw [HN.out]; exact hlt
        have hsc := hin.bytes k hkl
        obtain ⟨bo, bc, e0, hbb, hbc, hbn⟩ := hsc
        have HIN := hin.key k hkl
        have HIS := hin.sl k hkl
        rw [e0] at HIS
        have hB : B < w.heap.size := cell_lt HIN
        have hrg : wr.rangeAt B (off + k * 2) [.int .i64 (l.getD k (0, [])).1, .slice bo (l.getD k (0, [])).2.length bc] := by
          intro q v hv
          match q, hv with
          | 0, hv => injection hv with hv; subst hv; exact (HR.out.2.cell hB).trans HIN
          | 1, hv => injection hv with hv; subst hv; exact (HR.out.2.cell hB).trans HIS
        have HB : Hid (∀ W, Below w.heap.size w W → IsB W bo (l.getD k (0, [])).2) := fun W h => hbb.below h (Nat.le_refl _)
        have HS : Hid (secE l k = addE (l.take k) (l.getD k (0, [])).1 (l.getD k (0, [])).2) := rfl
        have HP : Hid (l.take (k + 1) = l.take k ++ [((l.getD k (0, [])).1, (l.getD k (0, [])).2)]) := take_push l k hkl
        have HE : Hid (∀ e, secE l k = some e → newE l = some (e, k)) := fun e he => newE_at HL.out k hkl HJ.out e he
        clear hin hbb hbc hbn e0 HIN HIS hB hkl hao
        generalize (l.getD k (0, [])).1 = kk at *
        generalize (l.getD k (0, [])).2 = bs at *
        generalize hG : wr.heap.size = S at *
        have hNS : w.heap.size ≤ S := by rw [← hG]; exact HR.out.2.size
        have ST : Hid (∀ w4, Below S wr w4 → Calls Tryz.prog 26 #[.pointer (some ⟨w.heap.size + 1, 0, none⟩), .agg #[.int .i64 kk, .slice bo bs.length bc]] w4 (CAddPost w.heap.size (w.heap.size + 1) w.heap.size (l.take k) kk bs w4) ∧ Below w.heap.size w w4) := fun w4 b4 => by
          obtain ⟨⟨rv, hrv⟩, hbw⟩ := HR.out
          have b5 := hbw.trans (b4.mono hNS)
          exact ⟨cadd_any (hrv.keep (by rw [hG]; exact b4)) b5.size kk bo bc bs (HB.out _ b5), b5⟩
        go_wp2_with (first
          | (refine wpList_load_mid rfl 57 (.tmp 20) rfl B (off + k * 2) rfl [.int .i64 kk, .slice bo bs.length bc] _ hrg Tryz.underlying57 rfl (by kernel_rfl) ?_)
          | (refine wpList_store_Row rfl 57 _ _ rfl S 57 0 [.int .i64 0, .slice none 0 0] [.int .i64 kk, .slice bo bs.length bc] (Row.at wr _ _ _ _ hG.symm rfl) (by simp) rfl rfl (by kernel_rfl) (by intro u hu; simp at hu; rcases hu with rfl | rfl <;> rfl) ?_; intro w4 hr4 hs4; have r4 := row_whole hr4 (by simp); have b4 : Hid (Below S wr w4) := hs4.below ((Below.refl _ _).alloc (by omega) _) (Nat.le_refl _); have SA := ST.out w4 b4.out; clear hr4 hs4; have c0 := r4.cell 0 _ rfl; have c1 := r4.cell 1 _ rfl))
        refine SA.1.mono ?_
        have HBW : Hid (Below w.heap.size w w4) := SA.2
        clear SA r4 b4 ST hrg HR HB c0 c1
        rintro e w5 ⟨hb5, ⟨er, hne, hse, rfl⟩ | ⟨hse, rfl, vs5, hk5⟩⟩
        · dsimp only
          have HE2 : Hid (newE l = some (er, k)) := HE.out er (HS.out.trans hse)
          have HBX : Hid (Below w.heap.size w w5) := HBW.out.trans hb5
          clear hse hb5 HS HE HJ
          go_wp2
          go_ret3
          exact ⟨HBX.out, .inl ⟨er, k, HE2.out, rfl⟩⟩
        · dsimp only
          have HSN : Hid (∀ j, j < k + 1 → secE l j = none) := by
            intro j hj
            rcases Nat.lt_or_ge j k with h1 | h1
            · exact HJ.out j h1
            · obtain rfl : j = k := by omega
              exact HS.out.trans hse
          have HR2 : Hid (KgS w.heap.size w w5 (w.heap.size + 1) w.heap.size (l.take (k + 1))) := ⟨⟨vs5, by rw [HP.out]; exact hk5⟩, HBW.out.trans hb5⟩
          clear hse hb5 HS HE HJ hk5 HP
          go_wp2
          exact ⟨⟨k + 1, by omega, by go_num, HSN, HR2⟩, by simp [intOf]; omega⟩
      · obtain rfl : k = n := by omega
        have y1 : ¬ ((k : Nat) : Int) < (k : Int) := by omega
        have HE : Hid (newE l = none) := newE_ok HL.out (by rw [HN.out]; exact HJ.out)
        have HT : Hid (l.take k = l) := List.take_of_length_le (by rw [HN.out]; exact Nat.le_refl _)
        clear hin hao
        go_wp2
        go_ret3
        obtain ⟨⟨rv, hro⟩, hbw⟩ := HR.out
        rw [HT.out] at hro
        exact ⟨hbw, .inr ⟨HE.out, _, _, rv, rfl, hro.to⟩⟩
end Go.Proofs.YtjooabgjkjnhhaaGreatDoor


/-! The code's token: its four contracts. -/
namespace Go.Proofs.YtjooabgjkjnhhaaGreatDoor
open Go.RowKit
set_option linter.unusedVariables false

/-- The token of nothing. -/
def tk0 : Tk := ⟨0, [], [], List.replicate 32 0⟩
/-- An answer that is a token: x, in memory of its own, and v beside it. -/
def TkA (x : Tk) (v : Value) (w : World) (e : Ending) (w' : World) : Prop := ∃ io ic lo lc, e = .returned (.tuple #[.agg (tkCells x io ic lo lc).toArray, v]) ∧ TkO 52 w.heap.size w' x io ic lo lc
def CGetP (b : List By) (w : World) (e : Ending) (w' : World) : Prop :=
  Below w.heap.size w w' ∧ (∀ E A : Nat, getR b = .error (E, A) → ∃ ge, TkA tk0 (.iface 108 (.pointer (some ⟨ge, 0, none⟩))) w e w' ∧ Row w' ge 109 [.int .i64 (E : Int), .int .i64 (A : Int)]) ∧ (∀ x, getR b = .ok x → TkA x .nilIface w e w')
def CNarP (t : Tk) (c : Cv) (w : World) (e : Ending) (w' : World) : Prop :=
  Below w.heap.size w w' ∧ if 32 ≤ t.cs.length then TkA tk0 (.int .i64 3) w e w' else if cvMay c = true then TkA ⟨t.key, t.id, t.cs ++ [c], tag t.tag (cvB c)⟩ (.int .i64 0) w e w' else TkA tk0 (.int .i64 1) w e w'
def CIssP (l : Secs) (key : Int) (id : List By) (w : World) (e : Ending) (w' : World) : Prop :=
  Below w.heap.size w w' ∧ if (fnd l key).isSome = false then TkA tk0 (.int .i64 13) w e w' else if id.length < 1 ∨ 64 < id.length then TkA tk0 (.int .i64 4) w e w' else TkA ⟨key, id, [], sgn l key (firstB id)⟩ (.int .i64 0) w e w'
/-- What the code of token must keep. -/
structure Tok : Prop where
  put : ∀ (t : Tk) (io : Option Addr) (ic : Nat) (lo : Option Addr) (lc : Nat) (w : World), TkV w t io ic lo lc → t.cs.length ≤ 70000 → Calls Tryz.prog 22 #[.agg (tkCells t io ic lo lc).toArray] w (PutP t w)
  get : ∀ (ao : Option Addr) (cap : Nat) (b : List By) (w : World), IsB w ao b → b.length ≤ cap → (ao = none → cap = 0) → b.length ≤ 140737488351232 → Calls Tryz.prog 23 #[.slice ao b.length cap] w (CGetP b w)
  narrow : ∀ (t : Tk) (c : Cv) (io : Option Addr) (ic : Nat) (lo : Option Addr) (lc : Nat) (w : World), TkV w t io ic lo lc → t.cs.length ≤ 70000 → c.ok → Calls Tryz.prog 15 #[.agg (tkCells t io ic lo lc).toArray, .agg (cvC c).toArray] w (CNarP t c w)
  issue : ∀ (N M : Nat) (w : World) (g b : Nat) (vs : List Value) (l : Secs), KgO N M w g b vs l → (∀ i, i < l.length → (l.getD i (0, [])).2.length ≤ 256) → ∀ (key : Int) (io : Option Addr) (ic : Nat) (id : List By), IsB w io id → id.length ≤ ic → (io = none → ic = 0) → id.length ≤ 140737488351232 → Calls Tryz.prog 10 #[.pointer (some ⟨g, 0, none⟩), .int .i64 key, .slice io id.length ic] w (CIssP l key id w)
end Go.Proofs.YtjooabgjkjnhhaaGreatDoor


/-! A token of the code in a variable. -/
namespace Go.Proofs.YtjooabgjkjnhhaaGreatDoor
open Go.RowKit
set_option linter.unusedVariables false
set_option linter.unusedSimpArgs false
set_option maxRecDepth 100000

/-- A token in the variable g, its lists in memory of their own. -/
structure TkR (N : Nat) (W : World) (g : Nat) (x : Tk) (io : Option Addr) (ic : Nat) (lo : Option Addr) (lc : Nat) : Prop where
  row : Row W g 40 (tkCells x io ic lo lc)
  own : TkO 52 N W x io ic lo lc
theorem TkR.keep {N : Nat} {W W2 : World} {g : Nat} {x : Tk} {io : Option Addr} {ic : Nat} {lo : Option Addr} {lc : Nat} (h : TkR N W g x io ic lo lc) (hb : Below W.heap.size W W2) : TkR N W2 g x io ic lo lc := ⟨h.row.below hb h.row.lt, h.own.keep hb⟩
theorem tkR_lay {N : Nat} {W w2 : World} {x : Tk} {io : Option Addr} {ic : Nat} {lo : Option Addr} {lc : Nat} (h : TkO 52 N W x io ic lo lc)
    (hr : Row w2 W.heap.size 40 (zTk.take 0 ++ tkCells x io ic lo lc ++ zTk.drop (0 + (tkCells x io ic lo lc).length))) (hs : SameBut W.heap.size (W.alloc (.cells zTk.toArray 40)) w2) : TkR N w2 W.heap.size x io ic lo lc ∧ Below W.heap.size W w2 := by
  have hb : Below W.heap.size W w2 := hs.below ((Below.refl _ _).alloc (Nat.le_refl _) _) (Nat.le_refl _)
  exact ⟨⟨row_whole hr (by show _ ≤ (tkC _ _ _ _ _ _ _ _).length; rw [tkC_len h.tag]; exact Nat.le_refl _), h.keep hb⟩, hb⟩
theorem tkCells_len {x : Tk} (h : x.tag.length = 32) (io : Option Addr) (ic : Nat) (lo : Option Addr) (lc : Nat) : (tkCells x io ic lo lc).length = 35 := tkC_len h
theorem tkCells_one (x : Tk) (io : Option Addr) (ic : Nat) (lo : Option Addr) (lc : Nat) : ∀ v ∈ tkCells x io ic lo lc, v.oneCell' = true := tkC_one _ _ _ _ _ _ _ _
theorem tkCells_tag {x : Tk} (h : x.tag.length = 32) (io : Option Addr) (ic : Nat) (lo : Option Addr) (lc : Nat) : ((tkCells x io ic lo lc).drop 3).take 32 = x.tag.map B8 := tkC_tagpart _ _ _ _ _ _ _ _ h
theorem zRow (W : World) : Row (W.alloc (.cells zTk.toArray 40)) W.heap.size 40 zTk := Row.at W _ _ _ _ rfl rfl
theorem eq_wrong24 (a b c d : Int) (ha : -9223372036854775808 ≤ a ∧ a < 9223372036854775808) (hb : -9223372036854775808 ≤ b ∧ b < 9223372036854775808) (hc : -9223372036854775808 ≤ c ∧ c < 9223372036854775808) (hd : -9223372036854775808 ≤ d ∧ d < 9223372036854775808) (r : Bool) (hr0 : r = decide (a = c ∧ b = d)) (w : World) : (Op.equalIn 10000 73 (.agg #[.int .i64 a, .int .i64 b]) (.agg #[.int .i64 c, .int .i64 d])).run Tryz.prog w = .ok r w := by
  have hf : ∀ x y : Int, (Value.agg #[.int .i64 x, .int .i64 y]).formed Tryz.prog 73 = true := fun x y => by
    simp [Value.formed, Tryz.underlying73, show Tryz.prog.cellsOf 73 = 2 by kernel_rfl]
  have hk : ∀ x y : Int, (-9223372036854775808 ≤ x ∧ x < 9223372036854775808) → (-9223372036854775808 ≤ y ∧ y < 9223372036854775808) → Tryz.prog.keyLits 2 73 (Value.agg #[.int .i64 x, .int .i64 y]).cells.toList = some [.int .i64 x, .int .i64 y] := fun x y hx hy => by
    have w1 : (Lit.int .i64 x).wf = true := cwf_i64 hx
    have w2 : (Lit.int .i64 y).wf = true := cwf_i64 hy
    have c3 : Tryz.prog.cellsOf 3 = 1 := by kernel_rfl
    have c28 : Tryz.prog.cellsOf 32 = 1 := by kernel_rfl
    simp [Program.keyLits, Tryz.underlying73, Tryz.underlying3, Tryz.underlying32, Value.cells, w1, w2, c3, c28]
    exact (show (2 : Nat) = Tryz.prog.cellsOf 73 by kernel_rfl)
  obtain ⟨q, hr, hiff⟩ := run_equalIn_deep (P := Tryz.prog) 9998 2 73 (by kernel_rfl) w 2 2 _ _ _ _ (hf a b) (hf c d) (hk a b ha hb) (hk c d hc hd)
  rw [hr, hr0]
  congr 1
  rw [Bool.eq_iff_iff, hiff, decide_eq_true_iff]
  exact ⟨fun h => by injection h with h1 h2; injection h1 with _ h1; injection h2 with h2 _; injection h2 with _ h2; exact ⟨h1, h2⟩, fun h => by rw [h.1, h.2]⟩
theorem isb_pre {w : World} {ao : Option Addr} {a b : List By} (h : IsB w ao (a ++ b)) : IsB w ao a := by
  rcases h with h | ⟨g, off, e, hc⟩
  · exact .inl (List.append_eq_nil_iff.1 h).1
  · exact .inr ⟨g, off, e, fun j v hj => hc j v (by rw [List.getElem?_append_left (List.getElem?_eq_some_iff.1 hj).1]; exact hj)⟩
/-- What of makes is a token of the code. -/
theorem of_tkv {t : Tk} {w w' : World} {io : Option Addr} {ic : Nat} {lo : Option Addr} {lc : Nat} (hv : TkV w t io ic lo lc) {G c H N : Nat} (ho : Own N w' (.slice (some ⟨G, 0, none⟩) (t.id.length + 3) c) (t.id ++ mk3)) (hr : Row w' H 52 (t.cs.flatMap cvC ++ (zCv ++ zCv))) : TkV w' t (some ⟨G, 0, none⟩) c (some ⟨H, 0, none⟩) (t.cs.length + 2) := by
  refine ⟨isb_pre (own_IsB ho), fun h => (by cases h), ?_, fun i c hi => ?_, fun h => (by cases h), (by omega), hv.tag, hv.ok, hv.big⟩
  · have : t.id.length + 3 ≤ c := own_cap ho
    omega
  · refine ⟨H, 0, rfl, hr.lt, fun j v hv => ?_⟩
    rw [Nat.zero_add]
    refine hr.cell (i * 5 + j) v ?_
    have h1 := flC_at t.cs i c hi j v hv
    rw [List.getElem?_append_left (List.getElem?_eq_some_iff.1 h1).1]
    exact h1
/-- While back and then Same are asked. -/
structure BS (W1 : World) (x : Tk) (io : Option Addr) (ic : Nat) (q : Bool) (v : Value) (W : World) : Prop where
  bel : Below W1.heap.size W1 W
  p : q = true → ∃ lo lc, v = .agg (tkCells x io ic lo lc).toArray ∧ TkV W x io ic lo lc
theorem BS.zero (W1 : World) (x : Tk) (io : Option Addr) (ic : Nat) (v : Value) : BS W1 x io ic false v W1.drew := ⟨(Below.refl _ _).drew, fun h => by cases h⟩
theorem BS.s {W1 : World} {x : Tk} {io : Option Addr} {ic : Nat} {q : Bool} {v : Value} {W W2 : World} (h : BS W1 x io ic q v W) (hb : Below W.heap.size W W2) {lo : Option Addr} {lc : Nat} (hv : TkV W2 x io ic lo lc) {q' : Bool} : BS W1 x io ic q' (.agg (tkCells x io ic lo lc).toArray) W2 := ⟨h.bel.trans (hb.mono h.bel.size), fun _ => ⟨lo, lc, rfl, hv⟩⟩
theorem BS.keep {W1 : World} {x : Tk} {io : Option Addr} {ic : Nat} {q : Bool} {v : Value} {W W2 : World} (h : BS W1 x io ic q v W) (hb : Below W.heap.size W W2) : BS W1 x io ic q v W2 := ⟨h.bel.trans (hb.mono h.bel.size), fun e => let ⟨a, b, c, d⟩ := h.p e; ⟨a, b, c, d.keep hb⟩⟩
/-- What a law promises. -/
def OkP (w : World) (e : Ending) (w' : World) : Prop := e = .returned (.bool true) ∧ Below w.heap.size w w'
theorem getR_short {b : List By} {x : Tk} (h : getR b = .ok x) : x.id.length ≤ 64 ∧ x.cs.length ≤ 32 := let h1 := tkMay_parts (put_get h).1; ⟨h1.2.2.2.1, h1.2.2.2.2⟩
end Go.Proofs.YtjooabgjkjnhhaaGreatDoor
