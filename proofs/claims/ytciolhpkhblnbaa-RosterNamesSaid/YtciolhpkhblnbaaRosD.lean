/-
  Plain mathematics of what is asked of members and floors. No program is spoken of here, and no statement is proved in this text.
-/
import Derived.Test.YtciolhpkhblnbaaRosC
namespace Go.Proofs.Ytciolhpkhblnbaa
namespace Ros
def floorZ (f : List Id2) (a : Int) : Int := f.foldl (fun c x => if x.1 = a then max c x.2 else c) 0
theorem floorZ_next {f : List Id2} {a : Int} {k : Nat} (hk : k < f.length) : floorZ (f.take (k + 1)) a = if f[k].1 = a then max (floorZ (f.take k) a) f[k].2 else floorZ (f.take k) a := by
  unfold floorZ
  rw [List.take_succ_eq_append_getElem hk, List.foldl_append]
  rfl
def goneB (f : List Id2) (x : Id2) : Bool := decide (x.2 ≤ floorZ f x.1)
def topZ (m : List Mm) : Int := m.foldl (fun c x => max c x.2.2) 0
theorem topZ_next {m : List Mm} {k : Nat} (hk : k < m.length) : topZ (m.take (k + 1)) = max (topZ (m.take k)) m[k].2.2 := by
  unfold topZ
  rw [List.take_succ_eq_append_getElem hk, List.foldl_append]
  rfl
theorem top_from (m : List Mm) : ∀ c : Int, c ≤ m.foldl (fun c x => max c x.2.2) c ∧ ∀ x ∈ m, x.2.2 ≤ m.foldl (fun c x => max c x.2.2) c := by
  induction m with
  | nil => exact fun c => ⟨Int.le_refl _, fun x hx => by cases hx⟩
  | cons y l ih =>
    intro c
    obtain ⟨h1, h2⟩ := ih (max c y.2.2)
    rw [List.foldl_cons]
    refine ⟨by omega, fun x hx => ?_⟩
    rcases List.mem_cons.1 hx with rfl | hx
    · omega
    · exact h2 x hx
theorem topZ_nn (m : List Mm) : 0 ≤ topZ m := (top_from m 0).1
theorem topZ_ge {m : List Mm} {x : Mm} (h : x ∈ m) : x.2.2 ≤ topZ m := (top_from m 0).2 x h
def mayNum (s n : Int) : Bool := if s = 1 ∨ s = 2 then decide (n = 0) else if s = 3 ∨ s = 4 then decide (1 ≤ n ∧ n ≤ 1099511627776) else if s = 5 ∨ s = 6 then decide (0 ≤ n ∧ n ≤ 1099511627776) else false
/-- May the k-th floor be, behind the one ahead of it? -/
def okF (f : List Id2) (k : Nat) : Bool := vid f[k]!.1 f[k]!.2 && (decide (k = 0) || decide (f[k - 1]!.1 < f[k]!.1))
def mayF (f : List Id2) : Bool := (List.range f.length).all (okF f)
theorem mayF_no {f : List Id2} {k : Nat} (hk : k < f.length) (h : okF f k = false) : mayF f = false := by
  unfold mayF
  rw [List.all_eq_false]
  exact ⟨k, List.mem_range.2 hk, by rw [h]; simp⟩
theorem mayF_yes {f : List Id2} (h : ∀ k, k < f.length → okF f k = true) : mayF f = true := by
  unfold mayF
  rw [List.all_eq_true]
  exact fun k hk => h k (List.mem_range.1 hk)
theorem okF_is {f : List Id2} {k : Nat} (hk : k < f.length) : okF f k = (vid f[k].1 f[k].2 && (decide (k = 0) || decide (f[k - 1].1 < f[k].1))) := by
  unfold okF
  rw [getElem!_pos f k hk, getElem!_pos f (k - 1) (by omega)]
/-- May the k-th member be, behind the one ahead of it? -/
def okM (m : List Mm) (f : List Id2) (k : Nat) : Bool := vid m[k]!.1.1 m[k]!.1.2 && mayNum m[k]!.2.1 m[k]!.2.2 && !goneB f m[k]!.1 && (decide (k = 0) || decide (m[k - 1]!.1.1 < m[k]!.1.1))
def mayB (m : List Mm) (f : List Id2) : Bool := mayF f && (List.range m.length).all (okM m f)
theorem mayB_no {m : List Mm} {f : List Id2} {k : Nat} (hk : k < m.length) (h : okM m f k = false) : mayB m f = false := by
  unfold mayB
  have : (List.range m.length).all (okM m f) = false := by
    rw [List.all_eq_false]
    exact ⟨k, List.mem_range.2 hk, by rw [h]; simp⟩
  rw [this, Bool.and_false]
theorem mayB_yes {m : List Mm} {f : List Id2} (hf : mayF f = true) (h : ∀ k, k < m.length → okM m f k = true) : mayB m f = true := by
  unfold mayB
  rw [hf, Bool.true_and, List.all_eq_true]
  exact fun k hk => h k (List.mem_range.1 hk)
theorem okM_is {m : List Mm} {f : List Id2} {k : Nat} (hk : k < m.length) : okM m f k = (vid m[k].1.1 m[k].1.2 && mayNum m[k].2.1 m[k].2.2 && !goneB f m[k].1 && (decide (k = 0) || decide (m[k - 1].1.1 < m[k].1.1))) := by
  unfold okM
  rw [getElem!_pos m k hk, getElem!_pos m (k - 1) (by omega)]
def nextZ (m : List Mm) : Int := if 1099511627776 ≤ topZ m then topZ m else topZ m + 1
end Ros
end Go.Proofs.Ytciolhpkhblnbaa
