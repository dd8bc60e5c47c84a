/-
  Walk over the insertion of a new row ahead of the first one that is not less. No statement is proved in this text; it holds for every input that its premises let by.
-/
import Derived.Test.YtofanciaacdjfaaInsert
namespace Go.Proofs.Ytofanciaacdjfaa
open Go Go.RowKit Sets RowSets
theorem lss_lt (x y : Id2) : lss x.1 x.2 y.1 y.2 = decide (lt x y) := by
  unfold lss lt
  by_cases h : x.1 < y.1 <;> by_cases h2 : x.1 = y.1 <;> by_cases h3 : x.2 < y.2 <;> simp [h, h2, h3]
theorem notLess_lt (x y : Id2) : notLess x y = decide (¬ lt x y) := by
  unfold notLess
  rw [lss_lt]
  by_cases h : lt x y <;> simp [h]
theorem insertG_none (r : Row) : ∀ (l : List Row), (∀ x ∈ ids l, notLess x r.1 = false) → insertG r l = l ++ [r]
  | [], _ => rfl
  | u :: l, h => by
    have h1 := h u.1 (by simp [ids])
    rw [notLess_lt] at h1
    have h2 : lt u.1 r.1 := by simpa using h1
    rw [insertG, if_pos h2, insertG_none r l fun x hx => h x (by simp only [ids, List.map_cons]; exact List.mem_cons_of_mem _ hx)]
    rfl
theorem insertG_at (r : Row) : ∀ (l : List Row) (k : Nat) (hk : k < (ids l).length), notLess (ids l)[k] r.1 = true → (∀ x ∈ (ids l).take k, notLess x r.1 = false) → insertG r l = l.take k ++ [r] ++ l.drop k
  | [], k, hk, _, _ => by simp [ids] at hk
  | u :: l, 0, _, h1, _ => by
    have h2 : notLess u.1 r.1 = true := h1
    rw [notLess_lt] at h2
    have h3 : ¬ lt u.1 r.1 := by simpa using h2
    rw [insertG, if_neg h3]
    rfl
  | u :: l, k + 1, hk, h1, h => by
    have h2 := h u.1 (by simp [ids])
    rw [notLess_lt] at h2
    have h3 : lt u.1 r.1 := by simpa using h2
    rw [insertG, if_pos h3, insertG_at r l k (by simpa [ids] using hk) (by simpa [ids] using h1) fun x hx => h x (by simp only [ids, List.map_cons, List.take_succ_cons]; exact List.mem_cons_of_mem _ hx)]
    rfl
set_option maxHeartbeats 2000000 in
theorem insertRow_any (g : Nat) (d : Array Raw) (l : List Row) (p y v : Int) (B : Option Addr) (m k : Nat) (not : List Id2) (w : World) (h : RowAtR encW 4 w g d) (hE : EachReads w d.toList l) (hN : Ids w (.slice B m k) not) (hl : d.size ≤ 1000) :
    Calls Try.prog 26 #[.slice (some ⟨g, 0, none⟩) d.size d.size, .agg #[.int .i64 p, .int .i64 y, .int .i64 v, .slice B m k]] w fun e w' => ∃ V, e = .returned V ∧ RowsAt w' V (insertG ((p, y), v, not) l) ∧ Below w.heap.size w w' := by
  have hlen : d.size = l.length := by rw [← hE.len]; simp
  have hlo := hE.owners
  have HX := Lib.hid (wbox_new w p y v (.slice B m k))
  have HB := Lib.hid (below_one w (.cells #[.int .i64 p, .int .i64 y, .int .i64 v, .slice B m k] 26))
  have HR := Lib.hid (rowAtR_kept h HB.out)
  have HC := Lib.hid (rowAtR_rcs HR.out (Nat.le_refl _))
  have HE := Lib.hid fun W (hb : Below w.heap.size w W) => And.intro (hE.below hb) (hN.below hb)
  have HL := Lib.hid hl
  have HI := Lib.hid fun W (hb : Below (w.alloc (.cells #[.int .i64 p, .int .i64 y, .int .i64 v, .slice B m k] 26)).heap.size (w.alloc (.cells #[.int .i64 p, .int .i64 y, .int .i64 v, .slice B m k] 26)) W) => rowAtR_kept HR.out hb
  have HD := Lib.hid hlen
  have HO := Lib.hid hlo
  clear h hE hN hlen hlo
  have i0 : (0 : Int) ≤ (d.size : Int) := by omega
  go_enter Try.func26, Try.ntmps26
  go_wp2_with fail
  refine (indexW_any (notLess_asks w.heap.size p y v (.slice B m k)) _ d.toList _ HC.out HX.out (by simp; omega)).mono ?_
  rintro e w1 ⟨⟨r, rfl, hr⟩, hb⟩
  have H1 := Lib.hid (below_after HB.out hb (Nat.le_refl _))
  have X1 := Lib.hid (wbox_below HX.out hb)
  have R1 := Lib.hid (HI.out w1 hb)
  obtain ⟨c1, c2, c3, c4⟩ := wbox_cells X1.out
  have B2 := Lib.hid (below_after H1.out (below_one w1 (.cells #[.int .i64 p, .int .i64 y, .int .i64 v, .slice B m k] 26)) (Nat.le_refl _))
  have R2 := Lib.hid (rowAtR_kept R1.out (below_one w1 (.cells #[.int .i64 p, .int .i64 y, .int .i64 v, .slice B m k] 26)))
  have X2 := Lib.hid (wbox_new w1 p y v (.slice B m k))
  rw [HO.out] at hr
  rcases hr with ⟨rfl, hn⟩ | ⟨j, hj, rfl, hj1, hj2⟩
  · have HG := Lib.hid (insertG_none ((p, y), v, not) l hn)
    clear hn hb
    go_wp2_with fail
    refine (insert_end g w1.heap.size d p y v B m k _ R2.out X2.out HL.out).mono ?_
    rintro e w3 ⟨V, rfl, hc, hb⟩
    have B3 := Lib.hid (below_after B2.out hb (Nat.le_refl _))
    have HF := Lib.hid (show RowsAt w3 V (insertG ((p, y), v, not) l) from by
      obtain ⟨h1, h2⟩ := HE.out w3 B3.out
      rw [HG.out]
      exact ⟨_, hc, h1.append (EachReads.one (show Reads w3 ((p, y), v, B, m, k) ((p, y), v, not) from ⟨rfl, rfl, h2⟩))⟩)
    clear hc hb
    go_wp2_with fail
    go_ret
    exact ⟨V, rfl, HF.out, B3.out⟩
  · have HG := Lib.hid (insertG_at ((p, y), v, not) l j hj hj1 hj2)
    have hjd : j < d.size := by rw [HD.out]; simpa [ids] using hj
    have i1 : (0 : Int) ≤ (j : Int) := by omega
    have i2 : ¬ ((j : Int) < 0) := by omega
    clear hj1 hj2 hb hj
    go_wp2_with fail
    refine (insert_mid g w1.heap.size j d p y v B m k _ R2.out X2.out HL.out hjd).mono ?_
    rintro e w3 ⟨V, rfl, hc, hb⟩
    have B3 := Lib.hid (below_after B2.out hb (Nat.le_refl _))
    have HF := Lib.hid (show RowsAt w3 V (insertG ((p, y), v, not) l) from by
      obtain ⟨h1, h2⟩ := HE.out w3 B3.out
      rw [HG.out]
      exact ⟨_, hc, ((h1.take j).append (EachReads.one (show Reads w3 ((p, y), v, B, m, k) ((p, y), v, not) from ⟨rfl, rfl, h2⟩))).append (h1.drop j)⟩)
    clear hc hb
    go_wp2_with fail
    go_ret
    exact ⟨V, rfl, HF.out, B3.out⟩
end Go.Proofs.Ytofanciaacdjfaa
