
import Derived.Test.YtepafpnpmpijeaaMApp
import Derived.Test.YtepafpnpmpijeaaMEq
/-! The document's HMAC on lists of bytes. -/
namespace Go.Proofs.Ytepafpnpmpijeaa
open Go.RowKit

def kh (k : List By) : List By := if 64 < k.length then sha k else k
/-- A key's block key. -/
def kb (k : List By) : List By := kh k ++ List.replicate (64 - (kh k).length) 0
/-- Bytes, each under exclusive or with one. -/
def tn (l : List By) (x : By) : List By := l.map (· ^^^ x)
/-- The tag of bytes under a key. -/
def tag (k b : List By) : List By := sha (tn (kb k) 92#8 ++ sha (tn (kb k) 54#8 ++ b))

theorem shaLen (m : List By) : (sha m).length = 32 := rfl
theorem tag_len (k b : List By) : (tag k b).length = 32 := rfl
theorem kh_le (k : List By) : (kh k).length ≤ 64 := by
  unfold kh
  split
  · rw [shaLen]; omega
  · omega
theorem kb_len (k : List By) : (kb k).length = 64 := by
  have := kh_le k
  unfold kb
  rw [List.length_append, List.length_replicate]; omega
theorem tn_len (l : List By) (x : By) : (tn l x).length = l.length := by simp [tn]
theorem tn_take (l : List By) (x : By) (k : Nat) (hk : k < l.length) : tn (l.take (k + 1)) x = tn (l.take k) x ++ [l.getD k 0 ^^^ x] := by
  unfold tn
  rw [List.take_add_one, List.map_append, List.getElem?_eq_getElem hk, List.getD_eq_getElem?_getD, List.getElem?_eq_getElem hk]; rfl
theorem kb_short (k : List By) (h : k.length ≤ 64) : kb k = k ++ List.replicate (64 - k.length) 0 := by
  have e : kh k = k := by unfold kh; rw [if_neg (by omega)]
  unfold kb; rw [e]
theorem kb_long (k : List By) (h : 64 < k.length) : kb k = sha k ++ List.replicate 32 0 := by
  have e : kh k = sha k := by unfold kh; rw [if_pos h]
  unfold kb; rw [e, shaLen]
/-- Keys that are the same but for bytes 00 up to a block's end. -/
theorem kb_wide (k : List By) (n : Nat) (h : k.length + n ≤ 64) : kb (k ++ List.replicate n 0) = kb k := by
  rw [kb_short k (by omega), kb_short _ (by rw [List.length_append, List.length_replicate]; omega), List.append_assoc, List.replicate_append_replicate, List.length_append, List.length_replicate]
  congr 2; omega
theorem kb_hash (k : List By) (h : 64 < k.length) : kb (sha k) = kb k := by
  rw [kb_long k h, kb_short (sha k) (by rw [shaLen]; omega), shaLen]
theorem tag_wide (k b : List By) (n : Nat) (h : k.length + n ≤ 64) : tag (k ++ List.replicate n 0) b = tag k b := by unfold tag; rw [kb_wide k n h]
theorem tag_hash (k b : List By) (h : 64 < k.length) : tag (sha k) b = tag k b := by unfold tag; rw [kb_hash k h]

end Go.Proofs.Ytepafpnpmpijeaa
