/-
  Carried over: contracts of this program's functions. No statement is proved in this text.
-/
import Derived.Test.YtmgkbfhkipfimaaIdeSort
import Derived.Test.YtmgkbfhkipfimaaRowMerge
set_option maxRecDepth 20000
set_option maxRecDepth 20000
namespace Go.Proofs.Ytmgkbfhkipfimaa
open Go.RowKit Sets
/-- A list is answered, in new memory; what was there stands. -/
def News (l : List (Int × Int)) (w : World) (e : Ending) (w' : World) : Prop := ∃ v', e = .returned v' ∧ Owns w' w.heap.size v' l ∧ Below w.heap.size w w'
theorem News.lists {l : List (Int × Int)} {w w' : World} {e : Ending} (h : News l w e w') : Lists l w e w' := by
  obtain ⟨v, h1, h2, h3⟩ := h
  exact ⟨v, h1, ids_of_owns h2, h3⟩
theorem Owns.mono {w : World} {base b : Nat} {v : Value} {l : List (Int × Int)} (h : Owns w base v l) (hb : b ≤ base) : Owns w b v l := by
  refine ⟨h.1, ?_⟩
  rcases id h.2 with h1 | ⟨g, cap, cur, h1, h2, h3⟩
  · exact .inl h1
  · exact .inr ⟨g, cap, cur, h1, Nat.le_trans hb h2, h3⟩
set_option maxHeartbeats 1000000 in
theorem sorted_risingROW (v : Value) (l : List (Int × Int)) (w : World) (h : Ids w v l) (hl : l.length ≤ 40000) (hr : risesB l = true) :
    Calls Try.prog 32 #[v, .func (.func 33) #[] #[]] w (News (setOf l) w) := by
  have HS := Lib.hid (setOf_self ((risesB_iff l).1 hr))
  have HR := Lib.hid hr
  have HI := Lib.hid h
  obtain ⟨A, c, rfl, hz⟩ := h
  clear hr hz
  go_enter Try.func32, Try.ntmps32
  go_wp2_with fail
  (with_reducible refine (rising_gen _ l _ HI.out (by omega)).mono ?_)
  rintro e w1 ⟨rfl, hb⟩
  rw [HR.out]
  have HB := Lib.hid hb
  have HJ := Lib.hid (HI.out.below hb)
  clear hb
  go_wp2_with (first
    | (at_make; refine wpList_make_roomROW _ rfl (.tmp 10) rfl _ rfl (by omega) (by omega) ?_; intro v2 w2 h1 h2; have HO := Lib.hid h1; have H2 := Lib.hid h2; have HK := Lib.hid (HJ.out.below h2); have HZ := Lib.hid h2.size; clear h1 h2)
    | (at_builtin; refine wpList_append_listROW rfl (.tmp 11) (.tmp 12) rfl _ w1.heap.size v2 _ [] l rfl rfl HO.out HK.out (by simp; omega) HZ.out ?_; intro v3 w3 h1 h2; have HP := Lib.hid h1; have H3 := Lib.hid (H2.out.trans h2); clear h1 h2))
  go_ret
  exact ⟨v3, rfl, by rw [HS.out]; exact HP.out.mono HB.out.size, below_after HB.out H3.out (Nat.le_refl _)⟩
set_option maxHeartbeats 2000000 in
theorem sorted_new (n : Nat) : ∀ (v : Value) (l : List (Int × Int)) (w : World), Ids w v l → l.length ≤ n → l.length ≤ 40000 →
    Calls Try.prog 32 #[v, .func (.func 33) #[] #[]] w (News (setOf l) w) := by
  induction n with
  | zero =>
    intro v l w h h0 hl
    exact sorted_risingROW v l w h hl (by rw [List.eq_nil_of_length_eq_zero (by omega : l.length = 0)]; rfl)
  | succ n ih =>
    intro v l w h hn hl
    cases hr : risesB l
    · have h2 : 2 ≤ l.length := by
        cases l with
        | nil => cases hr
        | cons x l =>
          cases l with
          | nil => cases hr
          | cons y l => simp
      obtain ⟨V, ht, hv⟩ := run_toROW h (l.length / 2) (by omega)
      obtain ⟨U, hu, hw⟩ := run_fromROW h (l.length / 2) (by omega)
      have hl1 : (l.take (l.length / 2)).length ≤ n := by rw [List.length_take]; omega
      have hl2 : (l.drop (l.length / 2)).length ≤ n := by rw [List.length_drop]; omega
      have hl3 : (l.take (l.length / 2)).length ≤ 40000 := by rw [List.length_take]; omega
      have hl4 : (l.drop (l.length / 2)).length ≤ 40000 := by rw [List.length_drop]; omega
      have HE := Lib.hid (join_halves l (l.length / 2))
      have HA := Lib.hid fun W (hb : Below w.heap.size w W) => ih V _ W (hv.below hb) hl1 hl3
      have HC := Lib.hid fun W (hb : Below w.heap.size w W) => ih U _ W (hw.below hb) hl2 hl4
      have HM := Lib.hid fun v1 v2 W h1 h2 => merged_new 39 _ keeps_all v1 v2 (setOf (l.take (l.length / 2))) (setOf (l.drop (l.length / 2))) W h1 h2 (by have := setOf_len (l.take (l.length / 2)); omega) (by have := setOf_len (l.drop (l.length / 2)); omega)
      have HR := Lib.hid hr
      have HI := Lib.hid h
      rw [show ((l.length / 2 : Nat) : Int) = (l.length : Int) / 2 by omega] at ht hu
      obtain ⟨A, c, rfl, hz⟩ := h
      clear hr hz hv hw hl1 hl2 hl3 hl4 ih
      go_enter Try.func32, Try.ntmps32
      go_wp2_with fail
      (with_reducible refine (rising_gen _ l _ HI.out (by omega)).mono ?_)
      rintro e w1 ⟨rfl, hb⟩
      rw [HR.out]
      have HB := Lib.hid hb
      clear hb
      go_wp2_with fail
      go_region_held3 (fun w' => Hid (Below w.heap.size w w'))
        (first | exact Lib.hid HB.out.drew | exact HK)
        (first
          | (go_at_call 32; (with_reducible refine (HA.out _ HB.out.drew).mono ?_); rintro e w' ⟨r1, rfl, hi, hb⟩; have HK := Lib.hid (below_after HB.out.drew hb (Nat.le_refl _)); have J1 := Lib.hid hi; clear hb hi)
          | (go_at_call 32; (with_reducible refine (HC.out _ HK.out).mono ?_); rintro e w' ⟨r2, rfl, hi, hb⟩; have HK := Lib.hid (below_after HK.out hb (Nat.le_refl _)); have J1 := Lib.hid (J1.out.below hb); have J2 := Lib.hid hi; clear hb hi)
          | (go_at_call 36; (with_reducible refine (HM.out _ _ _ (ids_of_owns J1.out) (ids_of_owns J2.out)).mono ?_); rintro e w' ⟨r3, rfl, hi, hb⟩; have HZ := Lib.hid HK.out.size; have HK := Lib.hid (below_after HK.out hb (Nat.le_refl _)); have J3 := Lib.hid hi; clear hb hi))
      go_wp2_with fail
      go_ret
      exact ⟨_, rfl, by rw [← HE.out, ← mrg_all]; exact J3.out.mono HZ.out, HK.out⟩
    · exact sorted_risingROW v l w h hl hr
end Go.Proofs.Ytmgkbfhkipfimaa
