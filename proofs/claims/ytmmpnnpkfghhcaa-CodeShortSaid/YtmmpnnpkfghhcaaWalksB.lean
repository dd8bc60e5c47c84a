/-
  Walks over the code of package code, continued: Num, and what it asks of IDs. No statement is proved in this text; it holds for every input that its premises let by.
-/
import Derived.Test.YtmmpnnpkfghhcaaWalksA
import Derived.Lib.ConvBytes
import Derived.Deep.AppendLies
import Derived.Deep.RegionWith
import Derived.Deep.RegionHeld3
import Derived.BigQuiet
import Derived.Deep.QuietTactic
namespace Go.Proofs.Ytmmpnnpkfghhcaa
open Go.RowKit
/-- A text of bytes. -/
def bs (l : List UInt8) : ByteArray := ⟨l.toArray⟩
theorem bs_size (l : List UInt8) : (bs l).size = l.length := by simp [bs, ByteArray.size]
theorem strOfNums_bytes (l : List UInt8) : strOfNums (l.map fun c => (c.toNat : Int)) = ⟨l.toArray⟩ := by
  unfold strOfNums
  congr 2
  rw [List.map_map]
  conv => rhs; rw [← List.map_id l]
  apply List.map_congr_left
  intro c _
  simp
theorem owns_text {w : World} {base : Nat} {v : Value} {l : List UInt8} (h : Owns w base v l) (hl : 0 < l.length) : (convert 51 9 v).run Try.prog w = .ok (.string (bs l)) w := by
  obtain ⟨g, cap, hv, _⟩ := World.ownsRow.form h hl
  have hc := World.ownsRow.cells h (g := g) (by rw [hv]; rfl)
  subst hv
  have := run_convert_bytes_arg (P := Try.prog) w 51 5 Try.underlying51 Try.underlying5 g 0 l.length cap (l.map fun c => (c.toNat : Int)) (by simp) (fun i hi => by
    have h2 : (bts l)[i]? = some (.int .u8 ((l[i]).toNat : Int)) := by simp [bts, hi]
    have := hc i _ h2
    rw [Nat.zero_add]
    have e : (⟨g, 0, none⟩ : Addr).add i = ⟨g, i, none⟩ := by unfold Addr.add; split <;> simp_all
    rw [e] at this
    simpa [hi] using this) 9 Try.underlying9
  rw [strOfNums_bytes] at this
  exact this
theorem numB (n : Int) (w : World) (h : n < 0 ∨ 1099511627776 < n) (s : ByteArray) :
    Calls Try.prog 9 #[.string s, .int .i64 n] w fun e w' => e = .returned (.tuple #[.string s, .int .i64 1]) ∧ w = w' := by
  rcases h with h | h
  · go_enter Try.func9, Try.ntmps9
    go_wp2_with fail
    go_ret2
    exact ⟨rfl, rfl⟩
  · have h0 : ¬ n < 0 := by omega
    go_enter Try.func9, Try.ntmps9
    go_wp2_with fail
    go_ret2
    exact ⟨rfl, rfl⟩
theorem num_yes (n : Int) (w : World) (h0 : 0 ≤ n) (h : n ≤ 1099511627776) (s : ByteArray) (hs : s.size ≤ 140737488351232) :
    Calls Try.prog 9 #[.string s, .int .i64 n] w fun e w' => e = .returned (.tuple #[.string (s ++ bs (encI n)), .int .i64 0]) ∧ Below w.heap.size w w' := by
  go_enter Try.func9, Try.ntmps9
  go_wp2_with fail
  refine (addNum_int w.heap.size _ [] n _ (owns_nil _ _) (by omega) (by simp) h0 h).mono ?_
  rintro e w1 ⟨v, rfl, h1, h2⟩
  rw [List.nil_append] at h1
  have hc := owns_text h1 (encI_len n).1
  have H2 := Lib.hid (h2.below (owns_nil w w.heap.size) (Nat.le_refl _))
  clear h1 h2
  have hz : (bs (encI n)).size ≤ 6 := by rw [bs_size]; exact (encI_len n).2
  go_wp2_with fail
  go_ret2
  exact ⟨rfl, H2.out⟩
/-- May an ID be? -/
def vid (a i : Int) : Bool := decide (1 ≤ a ∧ a ≤ 12 ∧ 1 ≤ i ∧ i ≤ 1048576)
theorem vid_yes {a i : Int} (h : vid a i = true) : 1 ≤ a ∧ a ≤ 12 ∧ 1 ≤ i ∧ i ≤ 1048576 := by simpa [vid] using h
theorem vid_no {a i : Int} (h : vid a i = false) : ¬ (1 ≤ a ∧ a ≤ 12 ∧ 1 ≤ i ∧ i ≤ 1048576) := by
  unfold vid at h
  exact of_decide_eq_false h
theorem valid_any (a i : Int) (w : World) :
    Calls Try.prog 23 #[.agg #[.int .i64 a, .int .i64 i]] w fun e w' => e = .returned (.bool (vid a i)) ∧ Below w.heap.size w w' := by
  by_cases h1 : 1 ≤ a
  · by_cases h2 : a ≤ 12
    · by_cases h3 : 1 ≤ i
      · by_cases h4 : i ≤ 1048576
        · have h5 := Lib.hid (show vid a i = true by simp [vid]; omega)
          go_enter Try.func23, Try.ntmps23
          go_wp2_with fail
          go_ret
          exact ⟨by rw [h5.out]; rfl, (Below.refl _ _).alloc (Nat.le_refl _) _⟩
        · have h5 := Lib.hid (show vid a i = false by simp [vid]; omega)
          go_enter Try.func23, Try.ntmps23
          go_wp2_with fail
          go_ret
          exact ⟨by rw [h5.out]; rfl, (Below.refl _ _).alloc (Nat.le_refl _) _⟩
      · have h5 := Lib.hid (show vid a i = false by simp [vid]; omega)
        go_enter Try.func23, Try.ntmps23
        go_wp2_with fail
        go_ret
        exact ⟨by rw [h5.out]; rfl, (Below.refl _ _).alloc (Nat.le_refl _) _⟩
    · have h5 := Lib.hid (show vid a i = false by simp [vid]; omega)
      go_enter Try.func23, Try.ntmps23
      go_wp2_with fail
      go_ret
      exact ⟨by rw [h5.out]; rfl, (Below.refl _ _).alloc (Nat.le_refl _) _⟩
  · have h5 := Lib.hid (show vid a i = false by simp [vid]; omega)
    go_enter Try.func23, Try.ntmps23
    go_wp2_with fail
    go_ret
    exact ⟨by rw [h5.out]; rfl, (Below.refl _ _).alloc (Nat.le_refl _) _⟩
/-- Does one ID stand ahead of another one? -/
def lss (a i b j : Int) : Bool := decide (a < b ∨ a = b ∧ i < j)
theorem less_any (a i b j : Int) (w : World) :
    Calls Try.prog 37 #[.agg #[.int .i64 a, .int .i64 i], .agg #[.int .i64 b, .int .i64 j]] w fun e w' => e = .returned (.bool (lss a i b j)) ∧ Below w.heap.size w w' := by
  have hb := Lib.hid (fun o o' : Obj => (((Below.refl w.heap.size w).alloc (Nat.le_refl _) o).alloc (by simp) o'))
  by_cases h1 : a < b
  · have h5 := Lib.hid (show lss a i b j = true by simp [lss]; omega)
    go_enter Try.func37, Try.ntmps37
    go_wp2_with fail
    go_ret
    exact ⟨by rw [h5.out]; rfl, hb.out _ _⟩
  · by_cases h2 : a = b
    · subst h2
      by_cases h3 : i < j
      · have h5 := Lib.hid (show lss a i a j = true by simp [lss]; omega)
        go_enter Try.func37, Try.ntmps37
        go_wp2_with fail
        go_ret
        exact ⟨by rw [h5.out]; rfl, hb.out _ _⟩
      · have h5 := Lib.hid (show lss a i a j = false by simp [lss]; omega)
        go_enter Try.func37, Try.ntmps37
        go_wp2_with fail
        go_ret
        exact ⟨by rw [h5.out]; rfl, hb.out _ _⟩
    · have h5 := Lib.hid (show lss a i b j = false by simp [lss]; omega)
      have h3 : (a == b) = false := by simpa using h2
      go_enter Try.func37, Try.ntmps37
      go_wp2_with fail
      go_ret
      exact ⟨by rw [h5.out]; rfl, hb.out _ _⟩
end Go.Proofs.Ytmmpnnpkfghhcaa
