/-
  Plain mathematics, continued: what differs within four bytes differs in its checksum. No program is named here.
-/
import Derived.Test.YtmnpdllajplfeaaMath
namespace Go.Proofs.Ytmnpdllajplfeaa.Crc
/-- A list out of what stands before, within, and behind four places. -/
theorem three_parts (l : List UInt8) (k : Nat) : l = l.take k ++ (l.drop k).take 4 ++ l.drop (k + 4) := by
  rw [List.append_assoc, ← List.drop_drop, List.take_append_drop, List.take_append_drop]
/-- Two texts as long as one another that are the same before a place and from four places behind it on: the same sum, the same text. -/
theorem add_window (a b : List UInt8) (h : a.length = b.length) (k : Nat) (ht : a.take k = b.take k) (hd : a.drop (k + 4) = b.drop (k + 4)) (s : Nat) (e : add s a = add s b) : a = b := by
  rw [three_parts a k, three_parts b k, ht, hd] at e
  have hm := add_four (b.take k) ((a.drop k).take 4) ((b.drop k).take 4) (b.drop (k + 4)) (by simp [h]) (by simp; omega) s e
  rw [three_parts a k, three_parts b k, ht, hd, hm]
/-- P1.4, bending. -/
theorem bend_sum (l : List UInt8) (place : Int) (x s : Nat) (e : add s (bend l place x) = add s l) : bend l place x = l := by
  refine add_window _ _ (bend_length l place x) (min place.toNat l.length) ?_ ?_ s e
  · apply List.ext_getElem?
    intro i
    rw [List.getElem?_take, List.getElem?_take]
    by_cases hi : i < min place.toNat l.length
    · rw [if_pos hi, if_pos hi, bend_far _ _ _ _ (by omega)]
    · rw [if_neg hi, if_neg hi]
  · apply List.ext_getElem?
    intro i
    rw [List.getElem?_drop, List.getElem?_drop]
    by_cases hi : min place.toNat l.length + 4 + i < l.length
    · rw [bend_far _ _ _ _ (by omega)]
    · rw [List.getElem?_eq_none (by rw [bend_length]; omega), List.getElem?_eq_none (by omega)]
/-- P1.4, four bytes put in the place of four. -/
theorem four_sum (l m : List UInt8) (k s : Nat) (hm : m.length = 4) (hk : k + 4 ≤ l.length) (e : add s (l.take k ++ m ++ l.drop (k + 4)) = add s l) : l.take k ++ m ++ l.drop (k + 4) = l := by
  have h1 : (l.take k).length = k := by simp; omega
  refine add_window _ _ (by simp; omega) k ?_ ?_ s e
  · rw [List.append_assoc, List.take_append_of_le_length (by omega), List.take_of_length_le (by omega)]
  · have h2 : (l.take k ++ m).length = k + 4 := by simp; omega
    rw [← h2, List.drop_left]
end Go.Proofs.Ytmnpdllajplfeaa.Crc
