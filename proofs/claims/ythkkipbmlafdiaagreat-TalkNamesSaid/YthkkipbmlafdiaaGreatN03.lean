/-
  Carried over and put together: contracts of this program's functions, and plain facts. No statement is proved in this text.
-/
import Derived.Laws.IdiomCopy
import Derived.Laws.NewBlocks
import Derived.Test.YthkkipbmlafdiaaGreatN00
import Derived.Test.YthkkipbmlafdiaaGreatN02
set_option maxRecDepth 20000
namespace Go.Proofs.YthkkipbmlafdiaaGreat
open Go.RowKit Sets
def Lists (l : List (Int × Int)) (w : World) (e : Ending) (w' : World) : Prop := ∃ v', e = .returned v' ∧ Ids w' v' l ∧ Below w.heap.size w w'
def News (l : List (Int × Int)) (w : World) (e : Ending) (w' : World) : Prop := ∃ v', e = .returned v' ∧ Owns w' w.heap.size v' l ∧ Below w.heap.size w w'
theorem News.lists {l : List (Int × Int)} {w w' : World} {e : Ending} (h : News l w e w') : Lists l w e w' := by
 obtain ⟨v, h1, h2, h3⟩ := h
 exact ⟨v, h1, ids_of_owns h2, h3⟩
theorem Owns.mono {w : World} {base b : Nat} {v : Value} {l : List (Int × Int)} (h : Owns w base v l) (hb : b ≤ base) : Owns w b v l := by
 refine ⟨h.1, ?_⟩
 rcases id h.2 with h1 | ⟨g, cap, cur, h1, h2, h3⟩
 ·exact .inl h1
 ·exact .inr ⟨g, cap, cur, h1, Nat.le_trans hb h2, h3⟩
set_option maxHeartbeats 1000000 in
theorem sorted_rising (v : Value) (l : List (Int × Int)) (w : World) (h : Ids w v l) (hl : l.length ≤ 40000) (hr : risesB l = true) :
  Calls Tryz.prog 150 #[v, .func (.func 102) #[] #[]] w (News (setOf l) w) := by
 have HS := Lib.hid (setOf_self ((risesB_iff l).1 hr))
 have HR := Lib.hid hr
 have HI := Lib.hid h
 obtain ⟨A, c, rfl, hz⟩ := h
 clear hr hz
 go_enter Tryz.func150, Tryz.ntmps150
 go_wp2_with fail
 (with_reducible refine (rising_gen _ l _ HI.out (by omega)).mono ?_)
 rintro e w1 ⟨rfl, hb⟩
 rw [HR.out]
 have HB := Lib.hid hb
 have HJ := Lib.hid (HI.out.below hb)
 clear hb
 go_wp2_with (first
  | (at_make; refine wpList_make_room _ rfl (.tmp 10) rfl _ rfl (by omega) (by omega) ?_; intro v2 w2 h1 h2; have HO := Lib.hid h1; have H2 := Lib.hid h2; have HK := Lib.hid (HJ.out.below h2); have HZ := Lib.hid h2.size; clear h1 h2)
  | (at_builtin; refine wpList_append_list rfl (.tmp 11) (.tmp 12) rfl _ w1.heap.size v2 _ [] l rfl rfl HO.out HK.out (by simp; omega) HZ.out ?_; intro v3 w3 h1 h2; have HP := Lib.hid h1; have H3 := Lib.hid (H2.out.trans h2); clear h1 h2))
 go_ret
 exact ⟨v3, rfl, by rw [HS.out]; exact HP.out.mono HB.out.size, below_after HB.out H3.out (Nat.le_refl _)⟩
set_option maxHeartbeats 2000000 in
theorem sorted_ind (n : Nat) : ∀ (v : Value) (l : List (Int × Int)) (w : World), Ids w v l → l.length ≤ n → l.length ≤ 40000 →
  Calls Tryz.prog 150 #[v, .func (.func 102) #[] #[]] w (News (setOf l) w) := by
 induction n with
 | zero =>
  intro v l w h h0 hl
  exact sorted_rising v l w h hl (by rw [List.eq_nil_of_length_eq_zero (by omega : l.length = 0)]; rfl)
 | succ n ih =>
  intro v l w h hn hl
  cases hr : risesB l
  ·have h2 : 2 ≤ l.length := by
    cases l with
    | nil => cases hr
    | cons x l =>
     cases l with
     | nil => cases hr
     | cons y l => simp
   obtain ⟨V, ht, hv⟩ := run_to h (l.length / 2) (by omega)
   obtain ⟨U, hu, hw⟩ := run_from h (l.length / 2) (by omega)
   have hl1 : (l.take (l.length / 2)).length ≤ n := by rw [List.length_take]; omega
   have hl2 : (l.drop (l.length / 2)).length ≤ n := by rw [List.length_drop]; omega
   have hl3 : (l.take (l.length / 2)).length ≤ 40000 := by rw [List.length_take]; omega
   have hl4 : (l.drop (l.length / 2)).length ≤ 40000 := by rw [List.length_drop]; omega
   have HE := Lib.hid (join_halves l (l.length / 2))
   have HA := Lib.hid fun W (hb : Below w.heap.size w W) => ih V _ W (hv.below hb) hl1 hl3
   have HC := Lib.hid fun W (hb : Below w.heap.size w W) => ih U _ W (hw.below hb) hl2 hl4
   have HM := Lib.hid fun v1 v2 W h1 h2 => merged_any 186 _ keeps_all v1 v2 (setOf (l.take (l.length / 2))) (setOf (l.drop (l.length / 2))) W h1 h2 (by have := setOf_len (l.take (l.length / 2)); omega) (by have := setOf_len (l.drop (l.length / 2)); omega)
   have HR := Lib.hid hr
   have HI := Lib.hid h
   rw [show ((l.length / 2 : Nat) : Int) = (l.length : Int) / 2 by omega] at ht hu
   obtain ⟨A, c, rfl, hz⟩ := h
   clear hr hz hv hw hl1 hl2 hl3 hl4 ih
   go_enter Tryz.func150, Tryz.ntmps150
   go_wp2_with fail
   (with_reducible refine (rising_gen _ l _ HI.out (by omega)).mono ?_)
   rintro e w1 ⟨rfl, hb⟩
   rw [HR.out]
   have HB := Lib.hid hb
   clear hb
   go_wp2_with fail
   go_region_held3 (fun w' => Hid (Below w.heap.size w w'))
    (first | exact Lib.hid HB.out.drew | exact HK)
    (first
     | (go_at_call 150; (with_reducible refine (HA.out _ HB.out.drew).mono ?_); rintro e w' ⟨r1, rfl, hi, hb⟩; have HK := Lib.hid (below_after HB.out.drew hb (Nat.le_refl _)); have J1 := Lib.hid hi; clear hb hi)
     | (go_at_call 150; (with_reducible refine (HC.out _ HK.out).mono ?_); rintro e w' ⟨r2, rfl, hi, hb⟩; have HK := Lib.hid (below_after HK.out hb (Nat.le_refl _)); have J1 := Lib.hid (J1.out.below hb); have J2 := Lib.hid hi; clear hb hi)
     | (go_at_call 185; (with_reducible refine (HM.out _ _ _ (ids_of_owns J1.out) (ids_of_owns J2.out)).mono ?_); rintro e w' ⟨r3, rfl, hi, hb⟩; have HZ := Lib.hid HK.out.size; have HK := Lib.hid (below_after HK.out hb (Nat.le_refl _)); have J3 := Lib.hid hi; clear hb hi))
   go_wp2_with fail
   go_ret
   exact ⟨_, rfl, by rw [← HE.out, ← mrg_all]; exact J3.out.mono HZ.out, HK.out⟩
  ·exact sorted_rising v l w h hl hr
end Go.Proofs.YthkkipbmlafdiaaGreat
namespace Go.Proofs.YthkkipbmlafdiaaGreat
open Go.RowKit Sets
theorem set_new (v : Value) (l : List (Int × Int)) (w : World) (h : Ids w v l) (hl : l.length ≤ 40000) : Calls Tryz.prog 92 #[v] w (News (setOf l) w) := by
 have HI := Lib.hid h
 clear h
 go_enter Tryz.func92, Tryz.ntmps92
 go_wp2_with fail
 refine (sorted_ind l.length v l _ HI.out (Nat.le_refl _) hl).mono ?_
 rintro e w1 ⟨r, rfl, hi, hb⟩
 have H1 := Lib.hid hi
 have B1 := Lib.hid hb
 clear hi hb
 go_wp2_with fail
 go_ret
 exact ⟨r, rfl, H1.out, B1.out⟩
theorem set_any (v : Value) (l : List (Int × Int)) (w : World) (h : Ids w v l) (hl : l.length ≤ 40000) : Calls Tryz.prog 92 #[v] w (Lists (setOf l) w) := (set_new v l w h hl).mono fun _ _ h => h.lists
theorem chosen_new (K : Nat) (k : Bool → Bool → Bool) (hK : Keeps K k) (v u : Value) (l m : List (Int × Int)) (w : World) (h : Ids w v l) (h2 : Ids w u m) (hl : l.length ≤ 40000) (hm : m.length ≤ 40000) :
  Calls Tryz.prog 166 #[v, u, .func (.func K) #[] #[]] w (News (mrg k (setOf l) (setOf m)) w) := by
 have HI := Lib.hid h
 have HJ := Lib.hid h2
 have HK := Lib.hid hK
 have hl2 := setOf_len l
 have hm2 := setOf_len m
 clear h h2 hK
 go_enter Tryz.func166, Tryz.ntmps166
 go_wp2_with fail
 refine (set_new v l _ HI.out hl).mono ?_
 rintro e w1 ⟨r, rfl, hi, hb⟩
 have H1 := Lib.hid hi
 have B1 := Lib.hid hb
 have J1 := Lib.hid (HJ.out.below hb)
 clear hi hb
 go_wp2_with fail
 refine (set_new u m _ J1.out hm).mono ?_
 rintro e w2 ⟨r2, rfl, hi, hb⟩
 have H2 := Lib.hid hi
 have B2 := Lib.hid (below_after B1.out hb (Nat.le_refl _))
 have K2 := Lib.hid (H1.out.below hb)
 clear hi hb
 go_wp2_with fail
 refine (merged_any K k HK.out r r2 _ _ _ (ids_of_owns K2.out) (ids_of_owns H2.out) (by omega) (by omega)).mono ?_
 rintro e w3 ⟨r3, rfl, hi, hb⟩
 have H3 := Lib.hid hi
 have B3 := Lib.hid (below_after B2.out hb (Nat.le_refl _))
 clear hi hb
 go_wp2_with fail
 go_ret
 exact ⟨r3, rfl, H3.out.mono B2.out.size, B3.out⟩
theorem join_new (v u : Value) (l m : List (Int × Int)) (w : World) (h : Ids w v l) (h2 : Ids w u m) (hl : l.length ≤ 40000) (hm : m.length ≤ 40000) :
  Calls Tryz.prog 128 #[v, u] w (News (join l m) w) := by
 have HI := Lib.hid h
 have HJ := Lib.hid h2
 clear h h2
 go_enter Tryz.func128, Tryz.ntmps128
 go_wp2_with fail
 refine (chosen_new 167 _ keeps_or v u l m _ HI.out HJ.out hl hm).mono ?_
 rw [mrg_or]
 rintro e w3 ⟨r3, rfl, hi, hb⟩
 have H3 := Lib.hid hi
 have B3 := Lib.hid hb
 clear hi hb
 go_wp2_with fail
 go_ret
 exact ⟨r3, rfl, H3.out, B3.out⟩
theorem join_any (v u : Value) (l m : List (Int × Int)) (w : World) (h : Ids w v l) (h2 : Ids w u m) (hl : l.length ≤ 40000) (hm : m.length ≤ 40000) :
  Calls Tryz.prog 128 #[v, u] w (Lists (join l m) w) := (join_new v u l m w h h2 hl hm).mono fun _ _ h => h.lists
theorem same_any (v u : Value) (l m : List (Int × Int)) (w : World) (h : Ids w v l) (h2 : Ids w u m) (hl : l.length ≤ 40000) (hm : m.length ≤ 40000) :
  Calls Tryz.prog 43 #[v, u] w fun e w' => e = .returned (.bool (sameB (setOf l) (setOf m))) ∧ Below w.heap.size w w' := by
 have HI := Lib.hid h
 have HJ := Lib.hid h2
 have hl2 := setOf_len l
 clear h h2
 go_enter Tryz.func43, Tryz.ntmps43
 go_wp2_with fail
 refine (set_any v l _ HI.out hl).mono ?_
 rintro e w1 ⟨r, rfl, hi, hb⟩
 have H1 := Lib.hid hi
 have B1 := Lib.hid hb
 have J1 := Lib.hid (HJ.out.below hb)
 clear hi hb
 go_wp2_with fail
 refine (set_any u m _ J1.out hm).mono ?_
 rintro e w2 ⟨r2, rfl, hi, hb⟩
 have H2 := Lib.hid hi
 have B2 := Lib.hid (below_after B1.out hb (Nat.le_refl _))
 have K2 := Lib.hid (H1.out.below hb)
 clear hi hb
 go_wp2_with fail
 refine (equal_any r r2 _ _ _ K2.out H2.out (by omega)).mono ?_
 rintro e w3 ⟨rfl, hb⟩
 have B3 := Lib.hid (below_after B2.out hb (Nat.le_refl _))
 clear hb
 go_wp2_with fail
 go_ret
 exact ⟨rfl, B3.out⟩
end Go.Proofs.YthkkipbmlafdiaaGreat
namespace Go.Proofs.YthkkipbmlafdiaaGreat
open Go Go.RowKit Sets RowSets
def encI (x : Id2) : List Value := [.int .i64 x.1, .int .i64 x.2]
theorem encI_len (x : Id2) : (encI x).length = 2 := rfl
theorem encI_one (x : Id2) : ∀ u ∈ encI x, u.oneCell' = true := by
 intro u hu
 simp [encI] at hu
 rcases hu with rfl | rfl <;> rfl
theorem ids_rcs {w : World} {v : Value} {l : List Id2} (h : Rcs encI 2 w v l) : Ids w v l := by
 obtain ⟨A, c, rfl, h0, hc, hk⟩ := id h
 refine ⟨A, c, rfl, h0, hc, fun k hlt => ?_⟩
 obtain ⟨ad, rfl, h1, h2⟩ := hk k hlt
 exact ⟨ad, rfl, h1, h.first (Below.refl _ _) hlt rfl, h.cell (Below.refl _ _) hlt 1 (by omega) rfl⟩
theorem rcs_ids {w : World} {v : Value} {l : List Id2} (h : Ids w v l) : Rcs encI 2 w v l := by
 obtain ⟨A, c, rfl, h0, hc, hk⟩ := id h
 refine ⟨A, c, rfl, h0, hc, fun k hlt => ?_⟩
 obtain ⟨ad, rfl, h1, c1, c2⟩ := hk k hlt
 refine ⟨ad, rfl, h1, fun j u hu => ?_⟩
 have hj : j < 2 := (List.getElem?_eq_some_iff.1 hu).1
 match j, hj with
 | 0, _ => rw [← Option.some.inj hu]; exact c1
 | 1, _ => rw [← Option.some.inj hu, addr_behind _ _ _ (by omega)]; exact c2
theorem flat_is (l : List Id2) : flat l = flatR encI l := by
 induction l with
 | nil => rfl
 | cons x l ih =>
  unfold flatR at *
  rw [List.flatMap_cons, ← ih]
  rfl
theorem ownsI_of {w : World} {base : Nat} {v : Value} {l : List Id2} (h : Owns w base v l) : OwnsR encI 2 29 w base v l := by
 unfold OwnsR
 rw [← flat_is]
 exact h
abbrev Raw := Id2 × Int × (Option Addr × Nat × Nat)
def slc (r : Raw) : Value := .slice r.2.2.1 r.2.2.2.1 r.2.2.2.2
def encW (r : Raw) : List Value := [.int .i64 r.1.1, .int .i64 r.1.2, .int .i64 r.2.1, slc r]
theorem encW_len (r : Raw) : (encW r).length = 4 := rfl
theorem encW_one (r : Raw) : ∀ u ∈ encW r, u.oneCell' = true := by
 intro u hu
 simp [encW, slc] at hu
 rcases hu with rfl | rfl | rfl | rfl <;> rfl
def Reads (w : World) (q : Raw) (r : Row) : Prop := q.1 = r.1 ∧ q.2.1 = r.2.1 ∧ Ids w (slc q) r.2.2
theorem Reads.below {w w' : World} {q : Raw} {r : Row} (h : Reads w q r) (hb : Below w.heap.size w w') : Reads w' q r := ⟨h.1, h.2.1, h.2.2.below hb⟩
def EachReads (w : World) : List Raw → List Row → Prop
 | [], [] => True
 | q :: qs, r :: l => Reads w q r ∧ EachReads w qs l
 | _, _ => False
theorem EachReads.below {w w' : World} (hb : Below w.heap.size w w') : ∀ {qs : List Raw} {l : List Row}, EachReads w qs l → EachReads w' qs l
 | [], [], _ => trivial
 | _ :: _, _ :: _, h => ⟨h.1.below hb, EachReads.below hb h.2⟩
 | [], _ :: _, h => h.elim
 | _ :: _, [], h => h.elim
theorem EachReads.len {w : World} : ∀ {qs : List Raw} {l : List Row}, EachReads w qs l → qs.length = l.length
 | [], [], _ => rfl
 | _ :: _, _ :: _, h => by rw [List.length_cons, List.length_cons, h.2.len]
 | [], _ :: _, h => h.elim
 | _ :: _, [], h => h.elim
theorem EachReads.at_ {w : World} : ∀ {qs : List Raw} {l : List Row}, EachReads w qs l → ∀ (k : Nat) (h : k < qs.length) (h' : k < l.length), Reads w qs[k] l[k]
 | _ :: _, _ :: _, h, 0, _, _ => h.1
 | _ :: _, _ :: _, h, k + 1, h1, h2 => EachReads.at_ h.2 k (by simpa using h1) (by simpa using h2)
 | [], [], _, _, h1, _ => absurd h1 (by simp)
 | [], _ :: _, h, _, _, _ => h.elim
 | _ :: _, [], h, _, _, _ => h.elim
theorem EachReads.append {w : World} {qs qs' : List Raw} {l l' : List Row} (h : EachReads w qs l) (h' : EachReads w qs' l') : EachReads w (qs ++ qs') (l ++ l') := by
 induction qs generalizing l with
 | nil =>
  cases l with
  | nil => exact h'
  | cons r l => exact h.elim
 | cons q qs ih =>
  cases l with
  | nil => exact h.elim
  | cons r l => exact ⟨h.1, ih h.2⟩
theorem EachReads.one {w : World} {q : Raw} {r : Row} (h : Reads w q r) : EachReads w [q] [r] := ⟨h, trivial⟩
theorem EachReads.take {w : World} : ∀ {qs : List Raw} {l : List Row} (k : Nat), EachReads w qs l → EachReads w (qs.take k) (l.take k)
 | [], [], k, _ => by simp [EachReads]
 | _ :: _, _ :: _, 0, _ => trivial
 | _ :: _, _ :: _, k + 1, h => ⟨h.1, EachReads.take k h.2⟩
 | [], _ :: _, _, h => h.elim
 | _ :: _, [], _, h => h.elim
theorem EachReads.drop {w : World} : ∀ {qs : List Raw} {l : List Row} (k : Nat), EachReads w qs l → EachReads w (qs.drop k) (l.drop k)
 | [], [], k, _ => by simp [EachReads]
 | _ :: _, _ :: _, 0, h => h
 | _ :: _, _ :: _, k + 1, h => EachReads.drop k h.2
 | [], _ :: _, _, h => h.elim
 | _ :: _, [], _, h => h.elim
def RowsAt (w : World) (v : Value) (l : List Row) : Prop := ∃ qs, Rcs encW 4 w v qs ∧ EachReads w qs l
theorem RowsAt.below {w w' : World} {v : Value} {l : List Row} (h : RowsAt w v l) (hb : Below w.heap.size w w') : RowsAt w' v l := by
 obtain ⟨qs, h1, h2⟩ := h
 exact ⟨qs, h1.below hb, h2.below hb⟩
theorem RowsAt.nil (w : World) : RowsAt w (.slice none 0 0) [] := ⟨[], Rcs.nil w, trivial⟩
theorem RowsAt.at_ {w w' : World} {A : Option Addr} {n c : Nat} {l : List Row} (h : RowsAt w (.slice A n c) l) (hw : Below w.heap.size w w') {k : Nat} (hk : k < l.length) :
  ∃ ad s, A = some ad ∧ w'.cell? (ad.add (k * 4)) = some (.int .i64 l[k].1.1) ∧ w'.cell? ⟨(ad.add (k * 4)).block, (ad.add (k * 4)).off + 1, none⟩ = some (.int .i64 l[k].1.2) ∧
   w'.cell? ⟨(ad.add (k * 4)).block, (ad.add (k * 4)).off + 2, none⟩ = some (.int .i64 l[k].2.1) ∧ w'.cell? ⟨(ad.add (k * 4)).block, (ad.add (k * 4)).off + 3, none⟩ = some s ∧ Ids w s l[k].2.2 := by
 obtain ⟨qs, h1, h2⟩ := h
 have hl := h2.len
 have hq : k < qs.length := by omega
 obtain ⟨e1, e2, e3⟩ := h2.at_ k hq hk
 obtain ⟨ad, rfl⟩ := h1.addr (by omega)
 refine ⟨ad, slc qs[k], rfl, ?_, ?_, ?_, h1.cell hw hq 3 (by omega) rfl, e3⟩
 ·rw [← e1]; exact h1.first hw hq rfl
 ·rw [← e1]; exact h1.cell hw hq 1 (by omega) rfl
 ·rw [← e2]; exact h1.cell hw hq 2 (by omega) rfl
theorem RowsAt.shape {w : World} {v : Value} {l : List Row} (h : RowsAt w v l) : ∃ A c, v = .slice A l.length c ∧ (A = none → c = 0) ∧ l.length ≤ c := by
 obtain ⟨qs, ⟨A, c, rfl, h0, hc, _⟩, h2⟩ := h
 rw [← h2.len]
 exact ⟨A, c, rfl, h0, hc⟩
section
variable {α : Type} [Inhabited α] {enc : α → List Value} {sz : Nat}
theorem add_lit (g j : Nat) : (⟨g, 0, none⟩ : Addr).add j = ⟨g, j, none⟩ := by unfold Addr.add; split <;> simp_all
def RowAtR (enc : α → List Value) (sz : Nat) (w : World) (g : Nat) (d : Array α) : Prop :=
 g < w.heap.size ∧ ∀ k, k < d.size → ∀ j u, (enc d[k]!)[j]? = some u → w.cell? ⟨g, k * sz + j, none⟩ = some u ∧ w.frozen? ⟨g, k * sz + j, none⟩ = false
theorem rowAtR_rcs {w : World} {g c : Nat} {d : Array α} (h : RowAtR enc sz w g d) (hc : d.size ≤ c) : Rcs enc sz w (.slice (some ⟨g, 0, none⟩) d.size c) d.toList := by
 refine ⟨some ⟨g, 0, none⟩, c, by simp, (fun h => by cases h), by simpa using hc, fun k hk => ⟨_, rfl, h.1, fun j u hu => ?_⟩⟩
 have hk2 : k < d.size := by simpa using hk
 have he : d.toList[k] = d[k]! := by rw [getElem!_pos d k hk2]; simp
 rw [he] at hu
 rw [add_lit]
 exact (h.2 k hk2 j u hu).1
theorem rowAtR_block {w w' : World} {g : Nat} {d : Array α} (h : RowAtR enc sz w g d) (hs : w.heap.size ≤ w'.heap.size) (hb : w'.heap[g]? = w.heap[g]?) : RowAtR enc sz w' g d :=
 ⟨Nat.lt_of_lt_of_le h.1 hs, fun k hk j u hu => ⟨(World.cell?_of_block hb).trans (h.2 k hk j u hu).1, (World.frozen?_of_block hb).trans (h.2 k hk j u hu).2⟩⟩
theorem rowAtR_kept {w w' : World} {g : Nat} {d : Array α} (h : RowAtR enc sz w g d) (hb : Below w.heap.size w w') : RowAtR enc sz w' g d := rowAtR_block h hb.size (hb.block g h.1)
theorem rowAtR_owns (hs : ∀ a, (enc a).length = sz) {e : TypeId} {w : World} {base g c : Nat} {d : Array α} (h : OwnsR enc sz e w base (.slice (some ⟨g, 0, none⟩) d.size c) d.toList) : RowAtR enc sz w g d := by
 have hr := rcs_owns hs h
 rcases id h.2 with ⟨h1, _⟩ | ⟨g', cap, cur, h1, hb, hh, _⟩
 ·cases h1
 ·injection h1 with e1 e2 e3
  injection e1 with e1
  injection e1 with e1
  subst e1
  refine ⟨row_lt hh, fun k hk j u hu => ⟨?_, by simp [World.frozen?, hh]⟩⟩
  have hk2 : k < d.toList.length := by simpa using hk
  obtain ⟨A, c', hv, _, _, hx⟩ := hr
  injection hv with a1 a2 a3
  subst a1
  obtain ⟨ad, e, _, hc⟩ := hx k hk2
  injection e with e
  subst e
  have he : d.toList[k] = d[k]! := by rw [getElem!_pos d k hk]; simp
  rw [he] at hc
  have c1 := hc j u hu
  rwa [add_lit] at c1
theorem heap_setCells (g : Nat) : ∀ (vs : List Value) (o : Nat) (w : World) (k : Nat), k ≠ g → (w.setCells g o vs).heap[k]? = w.heap[k]?
 | [], _, _, _, _ => rfl
 | v :: vs, o, w, k, h => by rw [World.setCells, heap_setCells g vs _ _ k h, Below.heap_setCell _ _ _ _ h]
theorem size_setCells (g : Nat) : ∀ (vs : List Value) (o : Nat) (w : World), (w.setCells g o vs).heap.size = w.heap.size
 | [], _, _ => rfl
 | v :: vs, o, w => by rw [World.setCells, size_setCells g vs, World.size_setCell]
theorem rest_setCells (g : Nat) : ∀ (vs : List Value) (o : Nat) (w : World), (w.setCells g o vs).os = w.os ∧ (w.setCells g o vs).tape = w.tape ∧ (w.setCells g o vs).output = w.output
 | [], _, _ => ⟨rfl, rfl, rfl⟩
 | v :: vs, o, w => by rw [World.setCells]; exact rest_setCells g vs _ _
theorem grown_setCells {a w : World} {g : Nat} (h : a.grownBy w (some g)) (o : Nat) (vs : List Value) : a.grownBy (w.setCells g o vs) (some g) := by
 obtain ⟨r1, r2, r3⟩ := rest_setCells g vs o w
 refine ⟨r1.trans h.os, r2.trans h.tape, r3.trans h.output, by rw [size_setCells]; exact h.size, fun m hm hne => ?_⟩
 rw [heap_setCells _ _ _ _ _ (fun e => hne (by rw [e]))]
 exact h.block m hm hne
theorem below_setCells {b0 : Nat} {a w : World} {g : Nat} (h : Below b0 a w) (hg : b0 ≤ g) (o : Nat) (vs : List Value) : Below b0 a (w.setCells g o vs) := by
 obtain ⟨r1, r2, r3⟩ := rest_setCells g vs o w
 refine ⟨r1.trans h.os, r2.trans h.tape, r3.trans h.output, by rw [size_setCells]; exact h.size, fun m hm => ?_⟩
 rw [heap_setCells _ _ _ _ _ (by omega)]
 exact h.block m hm
theorem grown_below {a w w' : World} {g : Nat} (h : a.grownBy w (some g)) (hb : Below w.heap.size w w') : a.grownBy w' (some g) :=
 ⟨hb.os.trans h.os, hb.tape.trans h.tape, hb.output.trans h.output, Nat.le_trans h.size hb.size, fun k hk hne => (hb.block k (Nat.lt_of_lt_of_le hk h.size)).trans (h.block k hk hne)⟩
theorem grown_trans {a w w' : World} {g : Nat} (h : a.grownBy w (some g)) (k : w.grownBy w' (some g)) : a.grownBy w' (some g) :=
 ⟨k.os.trans h.os, k.tape.trans h.tape, k.output.trans h.output, Nat.le_trans h.size k.size, fun j hj hne => (k.block j (Nat.lt_of_lt_of_le hj h.size) hne).trans (h.block j hj hne)⟩
theorem below_grown {b0 : Nat} {w w' : World} {g : Nat} (h : w.grownBy w' (some g)) (hg : b0 ≤ g) (hw : b0 ≤ w.heap.size) : Below b0 w w' := (Below.refl b0 w).grown h hw fun k e => by cases e; exact hg
theorem rowAtR_set (hs : ∀ a, (enc a).length = sz) {w : World} {g : Nat} {d : Array α} (h : RowAtR enc sz w g d) {i : Nat} (hi : i < d.size) (t : α) :
  RowAtR enc sz (w.setCells g (i * sz) (enc t)) g (d.setIfInBounds i t) := by
 refine ⟨by rw [size_setCells]; exact h.1, fun k hk j u hu => ⟨?_, ?_⟩⟩
 ·have hk2 : k < d.size := by simpa using hk
  by_cases e : k = i
  ·subst e
   rw [getElem!_pos _ k hk, Array.getElem_setIfInBounds_self] at hu
   have hj : j < (enc t).length := (List.getElem?_eq_some_iff.1 hu).1
   rw [World.cell?_setCells_in g (enc t) (k * sz) w (fun m hm => ?_) j hj]
   ·rw [← hu, List.getElem?_eq_getElem hj]
   ·have hm2 : m < (enc d[k]!).length := by rw [hs] at hm ⊢; exact hm
    rw [(h.2 k hk2 m _ (List.getElem?_eq_getElem hm2)).1]
    rfl
  ·have hg : (d.setIfInBounds i t)[k]! = d[k]! := by
    rw [getElem!_pos _ k hk, getElem!_pos d k hk2, Array.getElem_setIfInBounds_ne _ (fun h => e h.symm)]
   rw [hg] at hu
   have hj : j < sz := by rw [← hs d[k]!]; exact (List.getElem?_eq_some_iff.1 hu).1
   rw [World.cell?_setCells_out g (enc t) (i * sz) w _ (fun _ _ => ?_)]
   ·exact (h.2 k hk2 j u hu).1
   ·rw [hs]
    show k * sz + j < i * sz ∨ i * sz + sz ≤ k * sz + j
    rcases Nat.lt_or_gt_of_ne e with h1 | h1
    ·have : (k + 1) * sz ≤ i * sz := Nat.mul_le_mul_right _ h1
     rw [Nat.add_mul] at this
     omega
    ·have : (i + 1) * sz ≤ k * sz := Nat.mul_le_mul_right _ h1
     rw [Nat.add_mul] at this
     omega
 ·have hk2 : k < d.size := by simpa using hk
  rw [World.frozen?_setCells]
  have hj : j < sz := by rw [← hs (d.setIfInBounds i t)[k]!]; exact (List.getElem?_eq_some_iff.1 hu).1
  have hj2 : j < (enc d[k]!).length := by rw [hs]; exact hj
  exact (h.2 k hk2 j _ (List.getElem?_eq_getElem hj2)).2
theorem rowAtR_front (hs : ∀ a, (enc a).length = sz) {w : World} {g : Nat} {d : Array α} (h : RowAtR enc sz w g d) {i : Nat} (hi : i ≤ d.size) (vs : List Value) : RowAtR enc sz (w.setCells g (i * sz) vs) g (d.extract 0 i) := by
 refine ⟨by rw [size_setCells]; exact h.1, fun k hk j u hu => ?_⟩
 have hk2 : k < i := by simp at hk; omega
 have hg : (d.extract 0 i)[k]! = d[k]! := by
  rw [getElem!_pos _ k hk, getElem!_pos d k (by omega)]
  simp
 rw [hg] at hu
 have hj : j < sz := by rw [← hs d[k]!]; exact (List.getElem?_eq_some_iff.1 hu).1
 rw [World.cell?_setCells_out g vs _ w _ (fun _ _ => .inl ?_), World.frozen?_setCells]
 ·exact h.2 k (by omega) j u hu
 ·show k * sz + j < i * sz
  have : (k + 1) * sz ≤ i * sz := Nat.mul_le_mul_right _ hk2
  rw [Nat.add_mul] at this
  omega
theorem run_clear_recs {P : Program} (hs : ∀ a, (enc a).length = sz) (h0 : 0 < sz) {t e : TypeId} (ht : P.underlying t = some (.slice e)) {z : Value} (hz : ∀ w, (zeroValue e).run P w = .ok z w) (hzs : z.cells.size = sz) (hz1 : ∀ u ∈ z.cells.toList, u.oneCell' = true)
  {w : World} {g : Nat} {d : Array α} (h : RowAtR enc sz w g d) {i : Nat} (hi : i < d.size) (c : Nat) (ty : TypeId) :
  ∃ vs, (Builtin.clear_ #[t] ty #[.slice (some ⟨g, i * sz, none⟩) (d.size - i) c]).run P w = .ok (.tuple #[]) (w.setCells g (i * sz) vs) := by
 obtain ⟨m, hm⟩ : ∃ m, d.size - i = m + 1 := ⟨d.size - i - 1, by omega⟩
 rw [hm]
 refine ⟨(Builtin.zeroCells z.cells (m + 1)).toList, ?_⟩
 have hlen : (Builtin.zeroCells z.cells (m + 1)).toList.length = (m + 1) * sz := by simp [size_zeroCells, hzs]
 have cell : ∀ j, j < (m + 1) * sz → (w.cell? ⟨g, i * sz + j, none⟩).isSome = true ∧ w.frozen? ⟨g, i * sz + j, none⟩ = false := by
  intro j hj
  have hq : j / sz < m + 1 := (Nat.div_lt_iff_lt_mul h0).2 hj
  have hr := Nat.mod_lt j h0
  have he : j = j / sz * sz + j % sz := by rw [Nat.mul_comm]; exact (Nat.div_add_mod j sz).symm
  have hl : j % sz < (enc d[i + j / sz]!).length := by rw [hs]; exact hr
  have hx := h.2 (i + j / sz) (by omega) (j % sz) _ (List.getElem?_eq_getElem hl)
  have e2 : (i + j / sz) * sz + j % sz = i * sz + j := by rw [Nat.add_mul]; omega
  rw [e2] at hx
  exact ⟨by rw [hx.1]; rfl, hx.2⟩
 have hst := run_storeCells_cells (P := P) g (i * sz) (Builtin.zeroCells z.cells (m + 1)).toList 0 w (by rw [hlen]; simpa using fun j hj => (cell j hj).1) (by rw [hlen]; simpa using fun j hj => (cell j hj).2) (by
  intro v hv
  simp only [Builtin.zeroCells, Array.toList_map, List.mem_map] at hv
  obtain ⟨x, _, rfl⟩ := hv
  have h3 : x % z.cells.size < z.cells.size := Nat.mod_lt _ (by omega)
  rw [getElem!_pos z.cells _ h3]
  exact hz1 _ (by simp))
 simp only [Nat.add_zero] at hst
 simp [Builtin.clear_, run_underlying ht, hz, hst]
end
end Go.Proofs.YthkkipbmlafdiaaGreat
namespace Go.Proofs.YthkkipbmlafdiaaGreat
open Go.RowKit Sets RowSets
def WBox (w : World) (g : Nat) (a i n : Int) (v : Value) : Prop := w.heap[g]? = some (.cells #[.int .i64 a, .int .i64 i, .int .i64 n, v] 68 (0, 0))
theorem wbox_cells {w : World} {g : Nat} {a i n : Int} {v : Value} (h : WBox w g a i n v) : w.cell? ⟨g, 0, none⟩ = some (.int .i64 a) ∧ w.cell? ⟨g, 1, none⟩ = some (.int .i64 i) ∧ w.cell? ⟨g, 2, none⟩ = some (.int .i64 n) ∧ w.cell? ⟨g, 3, none⟩ = some v := by
 unfold WBox at h
 exact ⟨by rw [cell_of_row _ _ 0 _ _ _ h]; rfl, by rw [cell_of_row _ _ 1 _ _ _ h]; rfl, by rw [cell_of_row _ _ 2 _ _ _ h]; rfl, by rw [cell_of_row _ _ 3 _ _ _ h]; rfl⟩
theorem wbox_free {w : World} {g : Nat} {a i n : Int} {v : Value} (h : WBox w g a i n v) : w.frozen? ⟨g, 0, none⟩ = false ∧ w.frozen? ⟨g, 1, none⟩ = false ∧ w.frozen? ⟨g, 2, none⟩ = false ∧ w.frozen? ⟨g, 3, none⟩ = false := by
 unfold WBox at h
 exact ⟨by simp [World.frozen?, h], by simp [World.frozen?, h], by simp [World.frozen?, h], by simp [World.frozen?, h]⟩
theorem wbox_new (w : World) (a i n : Int) (v : Value) : WBox (w.alloc (.cells #[.int .i64 a, .int .i64 i, .int .i64 n, v] 68)) w.heap.size a i n v := heap_alloc_new w _
theorem wbox_lt {w : World} {g : Nat} {a i n : Int} {v : Value} (h : WBox w g a i n v) : g < w.heap.size := row_lt h
theorem wbox_below {w w' : World} {g : Nat} {a i n : Int} {v : Value} (h : WBox w g a i n v) (hb : Below w.heap.size w w') : WBox w' g a i n v := (hb.block _ (wbox_lt h)).trans h
def One (w : World) (g t : Nat) (v : Value) : Prop := w.heap[g]? = some (.cells #[v] t (0, 0))
theorem one_cell {w : World} {g t : Nat} {v : Value} (h : One w g t v) : w.cell? ⟨g, 0, none⟩ = some v := by
 unfold One at h
 rw [cell_of_row _ _ 0 _ _ _ h]
 rfl
theorem one_free {w : World} {g t : Nat} {v : Value} (h : One w g t v) : w.frozen? ⟨g, 0, none⟩ = false := by
 unfold One at h
 simp [World.frozen?, h]
theorem one_new (w : World) (t : Nat) (v : Value) : One (w.alloc (.cells #[v] t)) w.heap.size t v := heap_alloc_new w _
theorem one_lt {w : World} {g t : Nat} {v : Value} (h : One w g t v) : g < w.heap.size := row_lt h
theorem one_below {w w' : World} {g t : Nat} {v : Value} (h : One w g t v) (hb : Below w.heap.size w w') : One w' g t v := (hb.block _ (one_lt h)).trans h
theorem below_one (w : World) (o : Obj) : Below w.heap.size w (w.alloc o) := (Below.refl _ _).alloc (Nat.le_refl _) o
def isI (x y : Id2) : Bool := decide (x = y)
def badI (x : Id2) : Bool := !vidROW x.1 x.2
structure AsksI (K : Nat) (caps : Array Value) (p : Id2 → Bool) (S : World → Prop) : Prop where
 enters : ∀ args W, (callFunc K args).run Tryz.prog W = .ok (.enter K args) W
 kept : ∀ W W', S W → Below W.heap.size W W' → S W'
 call : ∀ a i W, S W → Calls Tryz.prog K (#[.agg #[.int .i64 a, .int .i64 i]] ++ caps) W fun e w' => e = .returned (.bool (p (a, i))) ∧ Below W.heap.size W w'
structure AsksW (K : Nat) (caps : Array Value) (p : Id2 → Bool) (S : World → Prop) : Prop where
 enters : ∀ args W, (callFunc K args).run Tryz.prog W = .ok (.enter K args) W
 kept : ∀ W W', S W → Below W.heap.size W W' → S W'
 call : ∀ a i n A m c W, S W → Calls Tryz.prog K (#[.agg #[.int .i64 a, .int .i64 i, .int .i64 n, .slice A m c]] ++ caps) W fun e w' => e = .returned (.bool (p (a, i))) ∧ Below W.heap.size W w'
theorem badI_asks : AsksI 170 #[] badI (fun _ => True) where
 enters := fun args W => enters_fn Tryz.func170 (by kernel_rfl) rfl args W
 kept _ _ _ _ := trivial
 call a i W _ := by
  have HB := Lib.hid (below_one W (.cells #[.int .i64 a, .int .i64 i] 29))
  have HN : Hid (badI (a, i) = !vidROW a i) := Lib.hid rfl
  have HC := Lib.hid fun W => may_any a i W
  generalize badI (a, i) = z at *
  generalize vidROW a i = y at *
  have HE := Lib.hid HN.out.symm
  clear HN
  go_enter Tryz.func170, Tryz.ntmps170
  go_wp2_with fail
  refine (HC.out _).mono ?_
  rintro e w1 ⟨rfl, hb⟩
  have H1 := Lib.hid (below_after HB.out hb (Nat.le_refl _))
  clear hb
  go_wp2_with fail
  go_ret
  exact ⟨ret_bool HE.out, H1.out⟩
theorem cmpW_any (a i n : Int) (A : Option Addr) (m c : Nat) (b j k : Int) (B : Option Addr) (m' c' : Nat) (w : World) :
  Calls Tryz.prog 190 #[.agg #[.int .i64 a, .int .i64 i, .int .i64 n, .slice A m c], .agg #[.int .i64 b, .int .i64 j, .int .i64 k, .slice B m' c']] w fun e w' => e = .returned (.int .i64 (cmpZ a i b j)) ∧ Below w.heap.size w w' := by
 have HB := Lib.hid (below_two w (.cells #[.int .i64 a, .int .i64 i, .int .i64 n, .slice A m c] 68) (.cells #[.int .i64 b, .int .i64 j, .int .i64 k, .slice B m' c'] 68))
 have HC := Lib.hid fun W => compare_any a i b j W
 generalize cmpZ a i b j = z at *
 go_enter Tryz.func190, Tryz.ntmps190
 go_wp2_with fail
 refine (HC.out _).mono ?_
 rintro e w1 ⟨rfl, hb⟩
 have H1 := Lib.hid (below_after HB.out hb (Nat.le_refl _))
 clear hb
 go_wp2_with fail
 go_ret
 exact ⟨rfl, H1.out⟩
theorem eqW_any (a i n : Int) (A : Option Addr) (m c : Nat) (b j k : Int) (B : Option Addr) (m' c' : Nat) (w : World) :
  Calls Tryz.prog 192 #[.agg #[.int .i64 a, .int .i64 i, .int .i64 n, .slice A m c], .agg #[.int .i64 b, .int .i64 j, .int .i64 k, .slice B m' c']] w fun e w' => e = .returned (.bool (isI (a, i) (b, j))) ∧ Below w.heap.size w w' := by
 have HB := Lib.hid (below_two w (.cells #[.int .i64 a, .int .i64 i, .int .i64 n, .slice A m c] 68) (.cells #[.int .i64 b, .int .i64 j, .int .i64 k, .slice B m' c'] 68))
 by_cases h1 : a = b
 ·subst h1
  by_cases h2 : i = j
  ·subst h2
   have HR := Lib.hid (show isI (a, i) (a, i) = true by simp [isI])
   go_enter Tryz.func192, Tryz.ntmps192
   go_wp2_with fail
   go_ret
   exact ⟨ret_bool HR.out.symm, HB.out⟩
  ·have h3 : (i == j) = false := by simpa using h2
   have HR := Lib.hid (show isI (a, i) (a, j) = false by simp [isI, h2])
   clear h2
   go_enter Tryz.func192, Tryz.ntmps192
   go_wp2_with fail
   go_ret
   exact ⟨ret_bool HR.out.symm, HB.out⟩
 ·have h3 : (a == b) = false := by simpa using h1
  have HR := Lib.hid (show isI (a, i) (b, j) = false by simp [isI, h1])
  clear h1
  go_enter Tryz.func192, Tryz.ntmps192
  go_wp2_with fail
  go_ret
  exact ⟨ret_bool HR.out.symm, HB.out⟩
end Go.Proofs.YthkkipbmlafdiaaGreat
