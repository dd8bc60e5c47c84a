/-
  Carried over and put together: contracts of this program's functions, and plain facts. No statement is proved in this text.
-/
import Derived.Test.YtkeiekljedhllaaGreatRows
import Derived.ProofKit
import Derived.SizedLaws
import Derived.Below
import Derived.Carry
import Derived.Laws.AppendOwnNone
import Derived.Deep.SlicePairs
import Derived.Lib.SmallJoins
import Derived.Test.YtkeiekljedhllaaGreatF00
import Derived.Test.YtkeiekljedhllaaGreatF01
import Derived.Test.YtkeiekljedhllaaGreatF02
set_option maxRecDepth 20000
namespace Go.Proofs.YtkeiekljedhllaaGreat
open Go.RowKit
/-- The slice v reads as the list l of IDs. -/
def IdsC (w : World) (v : Value) (l : List (Int × Int)) : Prop :=
  ∃ A c, v = .slice A l.length c ∧ (A = none → c = 0) ∧ ∀ k (h : k < l.length), ∃ ad, A = some ad ∧ ad.block < w.heap.size ∧ w.cell? (ad.add (k * 2)) = some (.int .i64 l[k].1) ∧ w.cell? ⟨(ad.add (k * 2)).block, (ad.add (k * 2)).off + 1, none⟩ = some (.int .i64 l[k].2)
theorem IdsC.below {w w' : World} {v : Value} {l : List (Int × Int)} (h : IdsC w v l) (hb : Below w.heap.size w w') : IdsC w' v l := by
  obtain ⟨A, c, hv, h0, hk⟩ := h
  refine ⟨A, c, hv, h0, fun k h => ?_⟩
  obtain ⟨ad, h1, h2, h3, h4⟩ := hk k h
  exact ⟨ad, h1, Nat.lt_of_lt_of_le h2 hb.size, (hb.cell (by rw [block_of_add]; exact h2)).trans h3, (hb.cell (by show (ad.add (k * 2)).block < _; rw [block_of_add]; exact h2)).trans h4⟩
/-- Are all IDs of a list such as may be? -/
def allVid (l : List (Int × Int)) : Bool := l.all fun x => vidCOD x.1 x.2
def risesBCOD : List (Int × Int) → Bool
  | x :: y :: l => lss x.1 x.2 y.1 y.2 && risesBCOD (y :: l)
  | _ => true
theorem allVid_take {l : List (Int × Int)} {k : Nat} (h : k < l.length) : allVid (l.take (k + 1)) = (allVid (l.take k) && vidCOD l[k].1 l[k].2) := by
  unfold allVid
  rw [List.take_succ_eq_append_getElem h, List.all_append]
  simp only [List.all_cons, List.all_nil, Bool.and_true]
theorem allVid_not {l : List (Int × Int)} {k : Nat} (h : k < l.length) (hv : vidCOD l[k].1 l[k].2 = false) : allVid l = false := by
  simp only [allVid, List.all_eq_false]
  exact ⟨l[k], List.getElem_mem h, by simp [hv]⟩
theorem risesB_takeCOD {l : List (Int × Int)} : ∀ {k : Nat} (h : k + 1 < l.length), risesBCOD (l.take (k + 2)) = (risesBCOD (l.take (k + 1)) && lss l[k].1 l[k].2 l[k+1].1 l[k+1].2) := by
  induction l with
  | nil => intro k h; simp at h
  | cons x l ih =>
    intro k h
    cases l with
    | nil => simp at h
    | cons y l =>
      cases k with
      | zero => simp [risesBCOD]
      | succ k =>
        have := ih (k := k) (by simpa using h)
        simp only [List.take_succ_cons, risesBCOD] at this ⊢
        rw [this, Bool.and_assoc]
        rfl
theorem risesB_notCOD {l : List (Int × Int)} : ∀ {k : Nat} (h : k + 1 < l.length), lss l[k].1 l[k].2 l[k+1].1 l[k+1].2 = false → risesBCOD l = false := by
  induction l with
  | nil => intro k h; simp at h
  | cons x l ih =>
    intro k h hv
    cases l with
    | nil => simp at h
    | cons y l =>
      cases k with
      | zero => simp only [risesBCOD, Bool.and_eq_false_iff]; exact .inl hv
      | succ k => simp only [risesBCOD, Bool.and_eq_false_iff]; exact .inr (ih (k := k) (by simpa using h) hv)
theorem risesB_oneCOD (l : List (Int × Int)) : risesBCOD (l.take 1) = true := by
  cases l <;> rfl
/-- The cells of one ID of a list. -/
theorem IdsC.at_ {w w' : World} {A : Option Addr} {c n : Nat} {l : List (Int × Int)} (h : IdsC w (.slice A n c) l) (hw : Below w.heap.size w w') {k : Nat} (hk : k < l.length) :
    ∃ ad, A = some ad ∧ w'.cell? (ad.add (k * 2)) = some (.int .i64 l[k].1) ∧ w'.cell? ⟨(ad.add (k * 2)).block, (ad.add (k * 2)).off + 1, none⟩ = some (.int .i64 l[k].2) := by
  obtain ⟨A', c', hv, _, hc⟩ := h
  injection hv with e1 e2 e3
  subst e1
  obtain ⟨ad, h1, h2, h3, h4⟩ := hc k hk
  exact ⟨ad, h1, (hw.cell (by rw [block_of_add]; exact h2)).trans h3, (hw.cell (by show (ad.add (k * 2)).block < _; rw [block_of_add]; exact h2)).trans h4⟩
theorem cell1COD {w w' : World} {ad : Addr} {c n : Nat} {l : List (Int × Int)} (h : IdsC w (.slice (some ad) n c) l) (hw : Below w.heap.size w w') {k : Nat} (hk : k < l.length) : w'.cell? (ad.add (k * 2)) = some (.int .i64 l[k].1) := by
  obtain ⟨a, e, h1, _⟩ := h.at_ hw hk
  injection e with e
  rw [e]
  exact h1
theorem cell2COD {w w' : World} {ad : Addr} {c n : Nat} {l : List (Int × Int)} (h : IdsC w (.slice (some ad) n c) l) (hw : Below w.heap.size w w') {k : Nat} (hk : k < l.length) : w'.cell? ⟨(ad.add (k * 2)).block, (ad.add (k * 2)).off + 1, none⟩ = some (.int .i64 l[k].2) := by
  obtain ⟨a, e, _, h2⟩ := h.at_ hw hk
  injection e with e
  rw [e]
  exact h2
set_option maxHeartbeats 400000 in
theorem rising_anyCOD (v : Value) (l : List (Int × Int)) (w : World) (h : IdsC w v l) (hl : l.length ≤ 100000) :
    Calls Tryz.prog 108 #[v] w fun e w' => e = .returned (.bool (risesBCOD l)) ∧ Below w.heap.size w w' := by
  obtain ⟨A, c, rfl, hz⟩ := id h
  clear hz
  have HI := Lib.hid h
  clear h
  go_enter Tryz.func108, Tryz.ntmps108
  go_wp2
  go_loopw [3] (fun s3 wr => ∃ k : Nat, 1 ≤ k ∧ k ≤ l.length + 1 ∧ s3 = .int .i64 k ∧ risesBCOD (l.take k) = true ∧ Below w.heap.size w wr) (fun s3 _ => l.length - (intOf s3).toNat)
  case atStart => exact ⟨1, by omega, by omega, rfl, risesB_oneCOD l, Below.refl _ _⟩
  case round =>
    obtain ⟨k, hk1, hkl, rfl, hr, hw⟩ := hrel
    have HR := Lib.hid hr
    clear hr
    have HW := Lib.hid hw
    clear hw
    by_cases hlt : k < l.length
    · have hd : decide ((k : Int) < (l.length : Int)) = true := by simp; omega
      obtain ⟨j, rfl⟩ : ∃ j, k = j + 1 := ⟨k - 1, by omega⟩
      obtain ⟨ad, rfl, c1, c2⟩ := HI.out.at_ HW.out hlt
      obtain ⟨ad', e, c3, c4⟩ := HI.out.at_ HW.out (k := j) (by omega)
      injection e with e
      subst e
      have i1 : IntKind.i64.wrap ((j : Int) + 1 - 1) = (j : Int) := by rw [IntWalk.i64_in _ ⟨by omega, by omega⟩]; omega
      have HS := Lib.hid fun w' (hb : Below w.heap.size w w') => And.intro (cell1COD HI.out hb hlt) (And.intro (cell2COD HI.out hb hlt) (And.intro (cell1COD HI.out hb (k := j) (by omega)) (And.intro (cell2COD HI.out hb (k := j) (by omega)) (Lib.hid hb))))
      have i2 : IntKind.i64.wrap (j : Int) = (j : Int) := IntWalk.i64_in _ ⟨by omega, by omega⟩
      have i3 : (0 : Int) ≤ (j : Int) := by omega
      have i4 : (j : Int) < (l.length : Int) := by omega
      have i5 : (0 : Int) ≤ (j : Int) + 1 := by omega
      have i6 : (j : Int) + 1 < (l.length : Int) := by omega
      have i7 : ((j : Int) + 1).toNat = j + 1 := by omega
      cases hv : lss l[j].1 l[j].2 l[j+1].1 l[j+1].2
      · have HN := Lib.hid (risesB_notCOD hlt hv)
        have HV := Lib.hid hv
        clear hv
        go_wp2_with fail
        go_region_held3 (fun w' => w'.cell? (ad.add ((j + 1) * 2)) = some (.int .i64 l[j+1].1) ∧ w'.cell? ⟨(ad.add ((j + 1) * 2)).block, (ad.add ((j + 1) * 2)).off + 1, none⟩ = some (.int .i64 l[j+1].2) ∧ w'.cell? (ad.add (j * 2)) = some (.int .i64 l[j].1) ∧ w'.cell? ⟨(ad.add (j * 2)).block, (ad.add (j * 2)).off + 1, none⟩ = some (.int .i64 l[j].2) ∧ Hid (Below w.heap.size w w'))
          (first | exact HS.out _ HW.out.drew | exact HS.out _ HK.out)
          (first | (go_at_call 109; refine (less_anyCOD _ _ _ _ _).mono ?_; rintro e w' ⟨rfl, hb⟩; rw [HV.out]; have HK := Lib.hid (below_after (Hid.out (by go_split_ands; assumption)) hb (Nat.le_refl _)); clear hb))
        clear c1 c2 c3 c4
        go_wp2_with fail
        go_ret
        exact ⟨ret_bool HN.out.symm, Hid.out (by assumption)⟩
      · have HN := Lib.hid (risesB_takeCOD hlt)
        have HV := Lib.hid hv
        clear hv
        go_wp2_with fail
        go_region_held3 (fun w' => w'.cell? (ad.add ((j + 1) * 2)) = some (.int .i64 l[j+1].1) ∧ w'.cell? ⟨(ad.add ((j + 1) * 2)).block, (ad.add ((j + 1) * 2)).off + 1, none⟩ = some (.int .i64 l[j+1].2) ∧ w'.cell? (ad.add (j * 2)) = some (.int .i64 l[j].1) ∧ w'.cell? ⟨(ad.add (j * 2)).block, (ad.add (j * 2)).off + 1, none⟩ = some (.int .i64 l[j].2) ∧ Hid (Below w.heap.size w w'))
          (first | exact HS.out _ HW.out.drew | exact HS.out _ HK.out)
          (first | (go_at_call 109; refine (less_anyCOD _ _ _ _ _).mono ?_; rintro e w' ⟨rfl, hb⟩; rw [HV.out]; have HK := Lib.hid (below_after (Hid.out (by go_split_ands; assumption)) hb (Nat.le_refl _)); clear hb))
        clear c1 c2 c3 c4
        go_wp2_with fail
        go_roundw
        case rel => exact ⟨j + 2, by omega, by omega, by go_num, by rw [HN.out, HR.out, HV.out]; rfl, Hid.out (by assumption)⟩
        case measure => simp [intOf]; omega
    · have hd : decide ((k : Int) < (l.length : Int)) = false := by simp; omega
      go_wp2_with fail
      go_ret
      exact ⟨ret_bool (by have := HR.out; rw [List.take_of_length_le (by omega)] at this; exact this.symm), HW.out⟩
set_option maxHeartbeats 400000 in
theorem validList_any (v : Value) (l : List (Int × Int)) (w : World) (h : IdsC w v l) (hl : l.length ≤ 100000) :
    Calls Tryz.prog 101 #[v] w fun e w' => e = .returned (.bool (allVid l && risesBCOD l)) ∧ Below w.heap.size w w' := by
  obtain ⟨A, c, rfl, hz⟩ := id h
  clear hz
  have HI := Lib.hid h
  clear h
  go_enter Tryz.func101, Tryz.ntmps101
  go_wp2
  go_loopw [7] (fun s7 wr => ∃ k : Nat, k ≤ l.length ∧ s7 = .int .i64 k ∧ allVid (l.take k) = true ∧ Below w.heap.size w wr) (fun s7 _ => l.length - (intOf s7).toNat)
  case atStart => exact ⟨0, by omega, rfl, rfl, Below.refl _ _⟩
  case round =>
    obtain ⟨k, hkl, rfl, hr, hw⟩ := hrel
    have HR := Lib.hid hr
    clear hr
    have HW := Lib.hid hw
    clear hw
    by_cases hlt : k < l.length
    · obtain ⟨ad, rfl, c1, c2⟩ := HI.out.at_ HW.out hlt
      cases hv : vidCOD l[k].1 l[k].2
      · have HN := Lib.hid (allVid_not hlt hv)
        have HV := Lib.hid hv
        clear hv
        go_wp2_with fail
        refine (valid_any _ _ _).mono ?_
        rintro e w1 ⟨rfl, hb1⟩
        rw [HV.out]
        have HB := Lib.hid (below_boxed HW.out hb1 (Nat.le_refl _))
        clear hb1
        go_wp2_with fail
        go_ret
        exact ⟨ret_bool (by rw [HN.out]; rfl), HB.out⟩
      · have HN := Lib.hid (allVid_take hlt)
        have HV := Lib.hid hv
        clear hv
        go_wp2_with fail
        refine (valid_any _ _ _).mono ?_
        rintro e w1 ⟨rfl, hb1⟩
        rw [HV.out]
        have HB := Lib.hid (below_boxed HW.out hb1 (Nat.le_refl _))
        clear hb1
        go_wp2_with fail
        go_roundw
        case rel => exact ⟨k + 1, by omega, by go_num, by rw [HN.out, HR.out, HV.out]; rfl, HB.out⟩
        case measure => simp [intOf]; omega
    · obtain rfl : k = l.length := by omega
      have hi2 := HI.out.below HW.out
      have HT := Lib.hid hi2
      clear hi2
      go_wp2_with fail
      refine (rising_anyCOD _ l _ HT.out hl).mono ?_
      rintro e w1 ⟨rfl, hb1⟩
      have HB := Lib.hid (below_after HW.out hb1 (Nat.le_refl _))
      clear hb1
      go_wp2_with fail
      go_ret
      exact ⟨ret_bool (by have := HR.out; rw [List.take_length] at this; rw [this]; rfl), HB.out⟩
end Go.Proofs.YtkeiekljedhllaaGreat
namespace Go.Proofs.YtkeiekljedhllaaGreat
open Go.RowKit
theorem owns_heap {w w' : World} {base : Nat} {v : Value} {l : List UInt8} (h : OwnsC w base v l) (e : w'.heap = w.heap) : OwnsC w' base v l := by
  unfold OwnsC World.ownsRow at h ⊢
  rw [e]
  exact h
theorem box_ltCOD {w : World} {g : Nat} {a i : Int} (h : Box w g a i) : g < w.heap.size := by
  rcases Nat.lt_or_ge g w.heap.size with hlt | hge
  · exact hlt
  · unfold Box at h; rw [Array.getElem?_eq_none hge] at h; cases h
theorem box_kept {w w' : World} {v v' : Value} {g : Nat} {a i : Int} (h : Box w g a i) (k : Wrote w v w' v') (hne : v.ownBlock ≠ some g) : Box w' g a i :=
  (k.grown.block g (box_ltCOD h) (fun e => hne e.symm)).trans h
theorem owns_not_box {w : World} {base g : Nat} {v : Value} {l : List UInt8} {a i : Int} (h : OwnsC w base v l) (hb : Box w g a i) : v.ownBlock ≠ some g := by
  rcases h.2 with ⟨rfl, _⟩ | ⟨g', cap, cur, rfl, _, hh, _⟩
  · simp [Value.ownBlock]
  · intro e
    have e2 : g' = g := by simpa [Value.ownBlock] using e
    subst e2
    unfold Box at hb
    rw [hh] at hb
    injection hb with hb
    injection hb with _ ht
    exact absurd ht (by decide)
/-- The bytes of an ID. -/
def encID (x : Int × Int) : List UInt8 := encICOD x.1 ++ encICOD x.2
theorem encID_len (x : Int × Int) : 2 ≤ (encID x).length ∧ (encID x).length ≤ 12 := by
  have h1 := encI_lenCOD x.1
  have h2 := encI_lenCOD x.2
  simp [encID]
  omega
theorem wrote_boxed {w w' : World} {v v' : Value} {o : Obj} (h : Wrote (w.alloc o) v w' v') : Wrote w v w' v' := by
  refine ⟨⟨h.grown.os, h.grown.tape, h.grown.output, by have := h.grown.size; simp at this; omega, fun k hk hne => (h.grown.block k (by simp; omega) hne).trans (Below.heap_alloc w _ k hk)⟩, ?_⟩
  rcases h.lies with e | ⟨g, e, hg⟩
  · exact .inl e
  · exact .inr ⟨g, e, by simp at hg; omega⟩
theorem wrote_drew {w w' : World} {v v' : Value} (h : Wrote w.drew v w' v') : Wrote w v w' v' := ⟨⟨h.grown.os, h.grown.tape, h.grown.output, h.grown.size, h.grown.block⟩, h.lies⟩
theorem addNum_drew (base : Nat) (v : Value) (l : List UInt8) (n : Int) (w : World) (hown : OwnsC w base v l) (hb : base ≤ w.heap.size) (hl : l.length ≤ 2000) (h0 : 0 ≤ n) (hn : n ≤ 1099511627776) :
    Calls Tryz.prog 91 #[v, .int .i64 n] w.drew (Added base v (l ++ encICOD n) w) :=
  (addNum_int base v l n w.drew (owns_heap hown rfl) hb hl h0 hn).mono fun _ _ ⟨v', h1, h2, h3⟩ => ⟨v', h1, h2, wrote_drew h3⟩
set_option maxHeartbeats 400000 in
theorem addID_any (base : Nat) (v : Value) (l : List UInt8) (a i : Int) (w : World) (hown : OwnsC w base v l) (hb : base ≤ w.heap.size) (hl : l.length ≤ 1900) (ha : 0 ≤ a ∧ a ≤ 1099511627776) (hi : 0 ≤ i ∧ i ≤ 1099511627776) :
    Calls Tryz.prog 102 #[v, .agg #[.int .i64 a, .int .i64 i]] w (Added base v (l ++ encID (a, i)) w) := by
  obtain ⟨a0, a1⟩ := ha
  obtain ⟨i0, i1⟩ := hi
  have HO := Lib.hid (show OwnsC (w.alloc (.cells #[.int .i64 a, .int .i64 i] 24)) base v l from World.ownsRow.alloc hown _)
  have HX := Lib.hid (box_new w a i)
  have HB := Lib.hid (show base ≤ (w.alloc (.cells #[.int .i64 a, .int .i64 i] 24)).heap.size by simp; omega)
  have hz := (encI_lenCOD a).2
  clear hown hb
  have hz2 : (l ++ encICOD a).length ≤ 2000 := by simp; omega
  have HC := Lib.hid (addNum_drew base v l a _ HO.out HB.out (by omega) a0 a1)
  have HD := Lib.hid fun v1 w1 h1 h2 => addNum_int base v1 (l ++ encICOD a) i w1 h1 h2 hz2 i0 i1
  go_enter Tryz.func102, Tryz.ntmps102
  go_wp2_with fail
  go_region_held3 (fun w' => w'.cell? ⟨w.heap.size, 0, none⟩ = some (.int .i64 a) ∧ w'.cell? ⟨w.heap.size, 1, none⟩ = some (.int .i64 i))
    (first | exact box_cells HX.out | exact box_cells HX1.out)
    (first
      | (go_at_call 91; (with_reducible refine HC.out.mono ?_); rintro e w1 ⟨v1, rfl, h1, h2⟩; have HX1 := Lib.hid (box_kept HX.out h2 (owns_not_box HO.out HX.out)); have H1 := Lib.hid h1; have H2 := Lib.hid h2; have H3 := Lib.hid (Nat.le_trans HB.out h2.grown.size); clear h1 h2)
      | (go_at_call 91; (with_reducible refine (HD.out _ _ (Hid.out (by assumption)) (Hid.out (by assumption))).mono ?_); rintro e w2 ⟨v2, rfl, h1, h2⟩; have HX1 := Lib.hid (box_kept (Hid.out (by assumption)) h2 (owns_not_box (Hid.out (by assumption)) (Hid.out (by assumption)))); have H4 := Lib.hid h1; have H5 := Lib.hid h2; clear h1 h2))
  go_wp2_with fail
  go_ret
  refine ⟨v2, rfl, ?_, wrote_boxed (H2.out.trans H5.out)⟩
  have h := H4.out
  rw [List.append_assoc] at h
  exact h
theorem addID_drew (base : Nat) (v : Value) (l : List UInt8) (a i : Int) (w : World) (hown : OwnsC w base v l) (hb : base ≤ w.heap.size) (hl : l.length ≤ 1900) (hv : vidCOD a i = true) :
    Calls Tryz.prog 102 #[v, .agg #[.int .i64 a, .int .i64 i]] w (Added base v (l ++ encID (a, i)) w) := by
  have := vid_yes hv
  exact addID_any base v l a i w hown hb hl (by omega) (by omega)
/-- The bytes of the IDs of a list. -/
def encAll (l : List (Int × Int)) : List UInt8 := l.flatMap encID
theorem encAll_take {l : List (Int × Int)} {k : Nat} (h : k < l.length) : encAll (l.take (k + 1)) = encAll (l.take k) ++ encID (l[k].1, l[k].2) := by
  unfold encAll
  rw [List.take_succ_eq_append_getElem h, List.flatMap_append]
  simp only [List.flatMap_cons, List.flatMap_nil, List.append_nil]
theorem encAll_len (l : List (Int × Int)) : (encAll l).length ≤ 12 * l.length := by
  induction l with
  | nil => simp [encAll]
  | cons x l ih =>
    have := (encID_len x).2
    simp only [encAll, List.flatMap_cons, List.length_append, List.length_cons] at ih ⊢
    omega
theorem encAll_taken (l : List (Int × Int)) (k : Nat) (h : l.length ≤ 64) : (encAll (l.take k)).length ≤ 768 := by
  have := encAll_len (l.take k)
  have : (l.take k).length ≤ l.length := by simp; omega
  omega
/-- The bytes of a list. -/
def encIDs (l : List (Int × Int)) : List UInt8 := encICOD (l.length : Int) ++ encAll l
theorem allVid_at {l : List (Int × Int)} (h : allVid l = true) {k : Nat} (hk : k < l.length) : vidCOD l[k].1 l[k].2 = true := by
  simp only [allVid, List.all_eq_true] at h
  exact h _ (List.getElem_mem hk)
theorem idsLong (v : Value) (l : List (Int × Int)) (s : ByteArray) (w : World) (h : IdsC w v l) (hl : 64 < l.length) :
    Calls Tryz.prog 92 #[.string s, v] w fun e w' => e = .returned (.tuple #[.string s, .int .i64 40]) ∧ w = w' := by
  obtain ⟨A, c, rfl, hz⟩ := id h
  clear hz h
  have hd : decide ((64 : Int) < (l.length : Int)) = true := by simp; omega
  go_enter Tryz.func92, Tryz.ntmps92
  go_wp2_with fail
  go_ret2
  exact ⟨rfl, rfl⟩
theorem idsB (v : Value) (l : List (Int × Int)) (s : ByteArray) (w : World) (h : IdsC w v l) (hl : l.length ≤ 64) (hv : (allVid l && risesBCOD l) = false) :
    Calls Tryz.prog 92 #[.string s, v] w fun e w' => e = .returned (.tuple #[.string s, .int .i64 4]) ∧ Below w.heap.size w w' := by
  obtain ⟨A, c, rfl, hz⟩ := id h
  clear hz
  have HI := Lib.hid h
  have HV := Lib.hid hv
  clear h hv
  have hd : decide ((64 : Int) < (l.length : Int)) = false := by simp; omega
  go_enter Tryz.func92, Tryz.ntmps92
  go_wp2_with fail
  refine (validList_any _ l _ HI.out (by omega)).mono ?_
  rintro e w1 ⟨rfl, h⟩
  rw [HV.out]
  have H1 := Lib.hid h
  clear h
  go_wp2_with fail
  go_ret2
  exact ⟨rfl, H1.out⟩
end Go.Proofs.YtkeiekljedhllaaGreat
namespace Go.Proofs.YtkeiekljedhllaaGreat
open Go.RowKit
theorem below_row {B : Nat} {w wr w2 : World} {o : Obj} {v v' : Value} {n : Nat} {xs : List Value} (h : Below B w wr) (hB : B ≤ w.heap.size) (ho : (wr.alloc o).ownsRow B 5 1 v n xs) (k : Wrote (wr.alloc o) v w2 v') : Below B w w2 :=
  (h.alloc (Nat.le_trans hB h.size) o).trans (k.below ho (by have := h.size; simp; omega))
set_option maxHeartbeats 400000 in
theorem ids_yes (v : Value) (l : List (Int × Int)) (s : ByteArray) (w : World) (h : IdsC w v l) (hl : l.length ≤ 64) (hs : s.size ≤ 140737488351232) (hv : (allVid l && risesBCOD l) = true) :
    Calls Tryz.prog 92 #[.string s, v] w fun e w' => e = .returned (.tuple #[.string (s ++ bs (encIDs l)), .int .i64 0]) ∧ Below w.heap.size w w' := by
  obtain ⟨A, c, rfl, hz⟩ := id h
  clear hz
  have HI := Lib.hid h
  have HV := Lib.hid hv
  have HA := Lib.hid (show allVid l = true by simp at hv; exact hv.1)
  clear h hv
  have hd : decide ((64 : Int) < (l.length : Int)) = false := by simp; omega
  go_enter Tryz.func92, Tryz.ntmps92
  go_wp2_with fail
  refine (validList_any _ l _ HI.out (by omega)).mono ?_
  rintro e w1 ⟨rfl, h⟩
  rw [HV.out]
  have H1 := Lib.hid h
  clear h
  go_wp2_with fail
  refine (addNum_int w.heap.size _ [] (l.length : Int) w1 (owns_nilCOD _ _) H1.out.size (by simp) (by omega) (by omega)).mono ?_
  rintro e w2 ⟨v2, rfl, h1, h2⟩
  rw [List.nil_append] at h1
  have HO := Lib.hid h1
  have H2 := Lib.hid (H1.out.trans (h2.below (owns_nilCOD w1 w.heap.size) H1.out.size))
  clear h1 h2 H1
  go_wp2_with fail
  go_loopw [6, 22] (fun s6 s22 wr => ∃ k : Nat, k ≤ l.length ∧ s22 = .int .i64 k ∧ OwnsC wr w.heap.size s6 (encICOD (l.length : Int) ++ encAll (l.take k)) ∧ Below w.heap.size w wr) (fun _ s22 _ => l.length - (intOf s22).toNat)
  case atStart => exact ⟨0, by omega, rfl, by simpa [encAll] using HO.out, H2.out⟩
  case round =>
    obtain ⟨k, hkl, rfl, ho, hw⟩ := hrel
    have HP := Lib.hid ho
    have HW := Lib.hid hw
    clear ho hw
    by_cases hlt : k < l.length
    · have hd : decide ((k : Int) < (l.length : Int)) = true := by simp; omega
      obtain ⟨ad, rfl, c1, c2⟩ := HI.out.at_ HW.out hlt
      have HQ := Lib.hid (fun o => (World.ownsRow.alloc HP.out o : OwnsC (wr.alloc o) w.heap.size u6 (encICOD (l.length : Int) ++ encAll (l.take k))))
      have HN := Lib.hid (encAll_take hlt)
      have hz1 := (encI_lenCOD (l.length : Int)).2
      have hz2 := encAll_taken l k hl
      go_wp2_with fail
      refine (addID_drew w.heap.size _ _ _ _ _ (HQ.out _) (by have := HW.out.size; simp; omega) (by simp; omega) (allVid_at HA.out hlt)).mono ?_
      rintro e w3 ⟨v3, rfl, h1, h2⟩
      have H3 := Lib.hid (below_row HW.out (Nat.le_refl _) (HQ.out _) h2)
      have H4 := Lib.hid h1
      clear h1 h2 c1 c2
      go_wp2_with fail
      go_roundw
      case rel => exact ⟨k + 1, by omega, by go_num, by rw [HN.out, ← List.append_assoc]; exact H4.out, H3.out⟩
      case measure => simp [intOf]; omega
    · obtain rfl : k = l.length := by omega
      have hc := owns_text HP.out (by have := (encI_lenCOD (l.length : Int)).1; simp; omega)
      rw [List.take_length] at hc
      have hz : (bs (encICOD (l.length : Int) ++ encAll l)).size ≤ 800 := by
        rw [bs_size]
        have h1 := (encI_lenCOD (l.length : Int)).2
        have h2 := encAll_len l
        simp
        omega
      go_wp2_with fail
      go_ret2
      exact ⟨rfl, HW.out⟩
end Go.Proofs.YtkeiekljedhllaaGreat
namespace Go.Proofs.YtkeiekljedhllaaGreat
open Go.RowKit
/-- Block g is a reader, of which the bytes l are left, and that failed by f. -/
def Rdr (w : World) (g : Nat) (l : List UInt8) (f : Nat) : Prop := w.heap[g]? = some (.cells #[.string (bs l), .int .i64 f] 113 (0, 0))
/-- Block p is a variable that points to block g. -/
def Var (w : World) (p g : Nat) : Prop := w.heap[p]? = some (.cells #[.pointer (some ⟨g, 0, none⟩)] 81 (0, 0))
theorem rdr_cells {w : World} {g : Nat} {l : List UInt8} {f : Nat} (h : Rdr w g l f) : w.cell? ⟨g, 0, none⟩ = some (.string (bs l)) ∧ w.cell? ⟨g, 1, none⟩ = some (.int .i64 f) := by
  unfold Rdr at h
  exact ⟨by rw [cell_of_row _ _ 0 _ _ _ h]; rfl, by rw [cell_of_row _ _ 1 _ _ _ h]; rfl⟩
theorem rdr_free {w : World} {g : Nat} {l : List UInt8} {f : Nat} (h : Rdr w g l f) (i : Nat) : w.frozen? ⟨g, i, none⟩ = false := by
  unfold Rdr at h
  simp [World.frozen?, h]
theorem var_cell {w : World} {p g : Nat} (h : Var w p g) : w.cell? ⟨p, 0, none⟩ = some (.pointer (some ⟨g, 0, none⟩)) := by
  unfold Var at h
  rw [cell_of_row _ _ 0 _ _ _ h]; rfl
theorem var_ne {w : World} {p g : Nat} {l : List UInt8} {f : Nat} (h : Var w p g) (k : Rdr w g l f) : p ≠ g := by
  rintro rfl
  unfold Var at h
  unfold Rdr at k
  rw [h] at k
  injection k with k
  injection k with _ ht
  exact absurd ht (by decide)
theorem bytes_list (s : ByteArray) : s.toList = s.data.toList := ByteArray.toList_eq s
theorem bs_cons (b : UInt8) (t : List UInt8) : (bs (b :: t)).toList.isEmpty = false ∧ 0 < (bs (b :: t)).size ∧ (∀ h : 0 < (bs (b :: t)).size, (bs (b :: t))[0] = b) ∧ (bs (b :: t)).extract 1 (bs (b :: t)).size = bs t := by
  refine ⟨?_, by rw [bs_size]; simp, fun h => rfl, ?_⟩
  · rw [bytes_list]; rfl
  · apply WideShapes.bytes_inj
    simp [bs, ByteArray.size, List.extract_eq_take_drop]
/-- What the inner function of Num leaves. -/
def Got (g : Nat) (r : Nat × Nat × List UInt8) (w : World) (e : Ending) (w' : World) : Prop :=
  e = .returned (.tuple #[.int .i64 r.1, .int .i64 r.2.1]) ∧ w.grownBy w' (some g) ∧ ∃ l', Rdr w' g l' 0 ∧ (r.2.1 = 0 → l' = r.2.2)
theorem grown_refl (w : World) (row : Option Nat) : w.grownBy w row := ⟨rfl, rfl, rfl, Nat.le_refl _, fun _ _ _ => rfl⟩
theorem grown_transCOD {a b c : World} {row : Option Nat} (h : a.grownBy b row) (k : b.grownBy c row) : a.grownBy c row :=
  ⟨k.os.trans h.os, k.tape.trans h.tape, k.output.trans h.output, Nat.le_trans h.size k.size, fun i hi hne => (k.block i (Nat.lt_of_lt_of_le hi h.size) hne).trans (h.block i hi hne)⟩
theorem var_kept {w w' : World} {p g : Nat} {l : List UInt8} {f : Nat} (h : Var w p g) (hr : Rdr w g l f) (k : w.grownBy w' (some g)) : Var w' p g :=
  (k.block p (row_lt h) (fun e => var_ne h hr (by injection e))).trans h
theorem rdr_cut {w : World} {g : Nat} {l t : List UInt8} {s : ByteArray} (h : Rdr w g l 0) (e : s = bs t) : Rdr (w.setCell ⟨g, 0, none⟩ (.string s)).drew g t 0 ∧ w.grownBy (w.setCell ⟨g, 0, none⟩ (.string s)).drew (some g) := by
  subst e
  constructor
  · unfold Rdr at h ⊢
    show (w.setCell ⟨g, 0, none⟩ (.string (bs t))).heap[g]? = _
    simp [World.setCell, Array.getElem?_modify, h]
  · exact ⟨rfl, rfl, rfl, by simp [World.setCell], fun k _ hne => Below.heap_setCell _ _ _ _ (fun e => hne (by rw [e]))⟩
theorem shift_is (c : UInt8) (k : Nat) (hk : k ≤ 6) : wrap64 ((c.toNat : Int) % 128 * 2 ^ (7 * k)) = ((c.toNat % 128 * 128 ^ k : Nat) : Int) ∧ c.toNat % 128 * 128 ^ k ≤ 558551906910208 := by
  have h1 : c.toNat % 128 ≤ 127 := by omega
  have h2 : 128 ^ k ≤ 128 ^ 6 := Nat.pow_le_pow_right (by omega) hk
  have h3 : c.toNat % 128 * 128 ^ k ≤ 127 * 128 ^ 6 := Nat.mul_le_mul h1 h2
  have h4 : (2 : Int) ^ (7 * k) = ((128 ^ k : Nat) : Int) := by
    rw [Int.pow_mul]
    norm_cast
  refine ⟨?_, by omega⟩
  rw [h4]
  have h5 : (c.toNat : Int) % 128 * ((128 ^ k : Nat) : Int) = ((c.toNat % 128 * 128 ^ k : Nat) : Int) := by norm_cast
  rw [h5]
  exact IntWalk.wrap64_in _ ⟨by omega, by omega⟩
theorem got_end {g : Nat} {l r : List UInt8} {w wr w' : World} {k a n e : Nat} {l' : List UInt8} (he : Code.num k a r = Code.num 0 0 l) (hn : Code.num k a r = (n, e, l')) (hw : w.grownBy wr (some g)) (hw2 : wr.grownBy w' (some g)) {t : List UInt8} (hr : Rdr w' g t 0) (ht : e = 0 → t = l') :
    Got g (Code.num 0 0 l) w (.returned (.tuple #[.int .i64 n, .int .i64 e])) w' := by
  rw [← he, hn]
  exact ⟨rfl, grown_transCOD hw hw2, t, hr, ht⟩
set_option maxRecDepth 100000 in
set_option maxHeartbeats 1000000 in
theorem numIn_any (p g : Nat) (l : List UInt8) (w : World) (hp : Var w p g) (hr : Rdr w g l 0) :
    Calls Tryz.prog 104 #[.pointer (some ⟨p, 0, none⟩)] w (Got g (Code.num 0 0 l) w) := by
  go_enter Tryz.func104, Tryz.ntmps104
  go_wp2
  go_loopw [3, 4] (fun s3 s4 wr => ∃ (k a : Nat) (r : List UInt8), k ≤ 6 ∧ a ≤ 1099511627776 ∧ s4 = .int .i64 k ∧ s3 = .int .i64 a ∧ Code.num k a r = Code.num 0 0 l ∧ Rdr wr g r 0 ∧ w.grownBy wr (some g)) (fun _ s4 _ => 7 - (intOf s4).toNat)
  case atStart => exact ⟨0, 0, l, by omega, by omega, rfl, rfl, rfl, hr, grown_refl _ _⟩
  case round =>
    obtain ⟨k, a, r, hk, ha, rfl, rfl, he, hq, hw⟩ := hrel
    have HE := Lib.hid he
    have HQ := Lib.hid hq
    have HW := Lib.hid hw
    have HV := Lib.hid (var_kept hp hr hw)
    clear he hq hw hp hr
    have hv := var_cell HV.out
    have hf0 := rdr_free HQ.out 0
    obtain ⟨c0, _⟩ := rdr_cells HQ.out
    cases r with
    | nil =>
      have he : (bs []).toList.isEmpty = true := by rw [bytes_list]; rfl
      go_wp2_with fail
      go_ret2
      exact got_end HE.out (Code.num_nil k a) HW.out (grown_refl _ _) HQ.out (fun h => absurd h (by decide))
    | cons b t =>
      have HS := Lib.hid (bs_cons b t)
      have he : (bs (b :: t)).toList.isEmpty = false := HS.out.1
      have hz : 0 < (bs (b :: t)).size := HS.out.2.1
      generalize bs (b :: t) = s at *
      have hz2 : (0 : Int) < (s.size : Int) := by omega
      go_wp2_with fail
      have HX := Lib.hid (HS.out.2.2.1 hz)
      generalize s[0] = c at *
      obtain rfl := HX.out
      have HC := Lib.hid (rdr_cut HQ.out HS.out.2.2.2)
      obtain ⟨e1, hx⟩ := shift_is c k hk
      have HT := Lib.hid (Code.num_bad k a c t)
      have HL := Lib.hid (Code.num_last k a c t)
      have HON := Lib.hid (Code.num_on k a c t)
      generalize c.toNat % 128 * 128 ^ k = x at *
      by_cases hA : 1099511627776 < a + x
      · have dA : decide ((1099511627776 : Int) < (a : Int) + (x : Int)) = true := by simp; omega
        go_region
        go_wp2_with fail
        go_ret2
        exact got_end HE.out (HT.out (.inl hA)) HW.out HC.out.2 HC.out.1 (fun h => absurd h (by decide))
      · have dA : decide ((1099511627776 : Int) < (a : Int) + (x : Int)) = false := by simp; omega
        by_cases h6 : k = 6
        · have d6 : ((k : Int) == 6) = true := by simp; omega
          have HT2 := Lib.hid (HT.out (.inr (.inl h6)))
          clear h6
          go_region
          go_wp2_with fail
          go_ret2
          exact got_end HE.out HT2.out HW.out HC.out.2 HC.out.1 (fun h => absurd h (by decide))
        · have d6 : ((k : Int) == 6) = false := by simp; omega
          by_cases h0 : 0 < k
          · have d0 : decide ((0 : Int) < (k : Int)) = true := by simp; omega
            by_cases hc : c.toNat = 0
            · have dc : ((c.toNat : Int) == 0) = true := by simp; omega
              have HT2 := Lib.hid (HT.out (.inr (.inr ⟨h0, hc⟩)))
              clear hc
              go_region
              go_wp2_with fail
              go_ret2
              exact got_end HE.out HT2.out HW.out HC.out.2 HC.out.1 (fun h => absurd h (by decide))
            · have dc : ((c.toNat : Int) == 0) = false := by simp; omega
              have hno : ¬ (Code.maxNumber < a + x ∨ k = 6 ∨ (0 < k ∧ c.toNat = 0)) := by unfold Code.maxNumber; omega
              have HNO := Lib.hid hno
              clear hno
              by_cases h8 : c.toNat < 128
              · have d8 : decide ((c.toNat : Int) < 128) = true := by simp; omega
                go_region
                go_wp2_with fail
                go_ret2
                exact got_end HE.out (HL.out HNO.out h8) HW.out HC.out.2 HC.out.1 (fun _ => rfl)
              · have d8 : decide ((c.toNat : Int) < 128) = false := by simp; omega
                go_region
                go_wp2_with fail
                go_roundw
                case rel => exact ⟨k + 1, a + x, t, by omega, by omega, by go_num, by go_num, by rw [← HON.out HNO.out h8]; exact HE.out, HC.out.1, grown_transCOD HW.out HC.out.2⟩
                case measure => simp [intOf]; omega
          · have d0 : decide ((0 : Int) < (k : Int)) = false := by simp; omega
            have hno : ¬ (Code.maxNumber < a + x ∨ k = 6 ∨ (0 < k ∧ c.toNat = 0)) := by unfold Code.maxNumber; omega
            have HNO := Lib.hid hno
            clear hno
            by_cases h8 : c.toNat < 128
            · have d8 : decide ((c.toNat : Int) < 128) = true := by simp; omega
              go_region
              go_wp2_with fail
              go_ret2
              exact got_end HE.out (HL.out HNO.out h8) HW.out HC.out.2 HC.out.1 (fun _ => rfl)
            · have d8 : decide ((c.toNat : Int) < 128) = false := by simp; omega
              go_region
              go_wp2_with fail
              go_roundw
              case rel => exact ⟨k + 1, a + x, t, by omega, by omega, by go_num, by go_num, by rw [← HON.out HNO.out h8]; exact HE.out, HC.out.1, grown_transCOD HW.out HC.out.2⟩
              case measure => simp [intOf]; omega
end Go.Proofs.YtkeiekljedhllaaGreat
namespace Go.Proofs.YtkeiekljedhllaaGreat
open Go.RowKit
/-- What a method leaves that answers a number: what was wrong is kept, and then nothing is left. -/
def Took (g : Nat) (r : Nat × Nat × List UInt8) (w : World) (e : Ending) (w' : World) : Prop :=
  e = .returned (.tuple #[.int .i64 r.1, .int .i64 r.2.1]) ∧ w.grownBy w' (some g) ∧ Rdr w' g r.2.2 r.2.1
/-- Num of a reader of which the bytes l are left, and that failed by f. -/
def numS (l : List UInt8) (f : Nat) : Nat × Nat × List UInt8 := if f = 0 then Code.num 0 0 l else (0, f, l)
theorem rdr_fail {w : World} {g f : Nat} {l : List UInt8} (h : Rdr w g l 0) (s : ByteArray) (hs : s = bs []) : Rdr ((w.setCell ⟨g, 0, none⟩ (.string s)).setCell ⟨g, 1, none⟩ (.int .i64 f)) g [] f ∧ w.grownBy ((w.setCell ⟨g, 0, none⟩ (.string s)).setCell ⟨g, 1, none⟩ (.int .i64 f)) (some g) := by
  subst hs
  constructor
  · unfold Rdr at h ⊢
    simp [World.setCell, Array.getElem?_modify, h]
  · exact ⟨rfl, rfl, rfl, by simp [World.setCell], fun k _ hne => (Below.heap_setCell _ _ _ _ (fun e => hne (by rw [e]))).trans (Below.heap_setCell _ _ _ _ (fun e => hne (by rw [e])))⟩
theorem took_ret {g : Nat} {r : Nat × Nat × List UInt8} {w w' : World} {a b : Nat} (ha : a = r.1) (hg : w.grownBy w' (some g)) (hb : b = r.2.1) (hr : Rdr w' g r.2.2 r.2.1) : Took g r w (.returned (.tuple #[.int .i64 a, .int .i64 b])) w' := by
  subst ha hb
  exact ⟨rfl, hg, hr⟩
set_option maxHeartbeats 400000 in
theorem readNum_any (p g f : Nat) (l : List UInt8) (w : World) (hp : Var w p g) (hr : Rdr w g l f) :
    Calls Tryz.prog 79 #[.pointer (some ⟨g, 0, none⟩), .func (.func 104) #[] #[.pointer (some ⟨p, 0, none⟩)]] w (Took g (numS l f) w) := by
  have HP := Lib.hid hp
  have HR := Lib.hid hr
  obtain ⟨c0, c1⟩ := rdr_cells hr
  have f0 := rdr_free hr 0
  have f1 := rdr_free hr 1
  clear hp hr
  by_cases hf : f = 0
  · subst hf
    have HF := Lib.hid (show numS l 0 = Code.num 0 0 l from rfl)
    have HL := Lib.hid (Code.num_le 0 0 l).2.2
    go_enter Tryz.func79, Tryz.ntmps79
    go_wp2_with fail
    refine (numIn_any p g l _ HP.out HR.out).mono ?_
    rw [HF.out]
    generalize Code.num 0 0 l = r at *
    obtain ⟨n, e, l'⟩ := r
    rintro _ w1 ⟨rfl, hg, l1, h1, h2⟩
    have HG := Lib.hid hg
    have H1 := Lib.hid h1
    have H2 := Lib.hid h2
    obtain ⟨d0, d1⟩ := rdr_cells h1
    have g0 := rdr_free h1 0
    have g1 := rdr_free h1 1
    clear hg h1 h2 c0 c1 f0 f1
    by_cases he : e = 0
    · have de : ((e : Int) == 0) = true := by simp; omega
      have HE := Lib.hid he
      clear he
      go_wp2_with fail
      go_ret2
      rw [HF.out]
      exact took_ret (a := n) (b := 0) rfl HG.out HE.out.symm (by
        show Rdr w1 g l' e
        rw [← H2.out HE.out, HE.out]
        exact H1.out)
    · have de : ((e : Int) == 0) = false := by simp; omega
      have HE := Lib.hid (HL.out he)
      have HX := Lib.hid (rdr_fail (f := e) H1.out ⟨#[]⟩ rfl)
      clear he
      go_wp2_with fail
      go_ret2
      rw [HF.out]
      exact took_ret (a := 0) (b := e) HE.out.1.symm (grown_transCOD HG.out HX.out.2) rfl (by
        show Rdr _ g l' e
        have : l' = [] := HE.out.2
        rw [this]
        exact HX.out.1)
  · have df : ((f : Int) == 0) = false := by simp; omega
    have HF := Lib.hid (show numS l f = (0, f, l) from if_neg hf)
    clear hf
    go_enter Tryz.func79, Tryz.ntmps79
    go_wp2_with fail
    go_quiet (fail)
    all_goals go_wp2_with fail
    all_goals go_ret2
    rw [HF.out]
    exact ⟨rfl, ⟨rfl, rfl, rfl, Nat.le_refl _, fun _ _ _ => rfl⟩, HR.out⟩
theorem grown_boxed {w w' : World} {o : Obj} {row : Option Nat} (h : (w.alloc o).grownBy w' row) : w.grownBy w' row :=
  ⟨h.os, h.tape, h.output, by have := h.size; simp at this; omega, fun k hk hne => (h.block k (by simp; omega) hne).trans (Below.heap_alloc w o k hk)⟩
theorem rdr_boxed {w : World} {g f : Nat} {l : List UInt8} (h : Rdr w g l f) (o : Obj) : Rdr (w.alloc o) g l f := (Below.heap_alloc w o g (row_lt h)).trans h
theorem var_new (w : World) (g : Nat) : Var (w.alloc (.cells #[.pointer (some ⟨g, 0, none⟩)] 81)) w.heap.size g := heap_alloc_new w _
set_option maxHeartbeats 400000 in
theorem rNum_any (g f : Nat) (l : List UInt8) (w : World) (hr : Rdr w g l f) :
    Calls Tryz.prog 94 #[.pointer (some ⟨g, 0, none⟩)] w (Took g (numS l f) w) := by
  have HV := Lib.hid (var_new w g)
  have HR := Lib.hid (rdr_boxed hr (.cells #[.pointer (some ⟨g, 0, none⟩)] 81))
  clear hr
  go_enter Tryz.func94, Tryz.ntmps94
  go_wp2_with fail
  refine (readNum_any w.heap.size g f l _ HV.out HR.out).mono ?_
  rintro e w1 ⟨rfl, hg, h1⟩
  have HG := Lib.hid (grown_boxed hg)
  have H1 := Lib.hid h1
  clear hg h1
  go_wp2_with fail
  go_ret2
  exact ⟨rfl, HG.out, H1.out⟩
def endS (l : List UInt8) (f : Nat) : Nat := if f = 0 then (if l = [] then 0 else 4) else f
theorem endIn_nil (p g : Nat) (w : World) (hp : Var w p g) (hr : Rdr w g [] 0) :
    Calls Tryz.prog 80 #[.pointer (some ⟨p, 0, none⟩)] w fun e w' => e = .returned (.tuple #[.int .i64 0, .int .i64 0]) ∧ w = w' := by
  have hv := var_cell hp
  obtain ⟨c0, c1⟩ := rdr_cells hr
  clear hp hr
  have he : (bs []).toList.isEmpty = true := by rw [bytes_list]; rfl
  go_enter Tryz.func80, Tryz.ntmps80
  go_wp2_with fail
  go_ret2
  exact ⟨rfl, rfl⟩
theorem endIn_cons (p g : Nat) (b : UInt8) (t : List UInt8) (w : World) (hp : Var w p g) (hr : Rdr w g (b :: t) 0) :
    Calls Tryz.prog 80 #[.pointer (some ⟨p, 0, none⟩)] w fun e w' => e = .returned (.tuple #[.int .i64 0, .int .i64 4]) ∧ w = w' := by
  have hv := var_cell hp
  obtain ⟨c0, c1⟩ := rdr_cells hr
  clear hp hr
  have he : (bs (b :: t)).toList.isEmpty = false := (bs_cons b t).1
  go_enter Tryz.func80, Tryz.ntmps80
  go_wp2_with fail
  go_ret2
  exact ⟨rfl, rfl⟩
/-- What End leaves. -/
def endR (l : List UInt8) (f : Nat) : Nat × Nat × List UInt8 := (0, endS l f, if f = 0 then [] else l)
set_option maxHeartbeats 400000 in
theorem readEnd_any (p g f : Nat) (l : List UInt8) (w : World) (hp : Var w p g) (hr : Rdr w g l f) :
    Calls Tryz.prog 79 #[.pointer (some ⟨g, 0, none⟩), .func (.func 80) #[] #[.pointer (some ⟨p, 0, none⟩)]] w (Took g (endR l f) w) := by
  have HP := Lib.hid hp
  have HR := Lib.hid hr
  obtain ⟨c0, c1⟩ := rdr_cells hr
  have f0 := rdr_free hr 0
  have f1 := rdr_free hr 1
  clear hp hr
  by_cases hf : f = 0
  · subst hf
    cases l with
    | nil =>
      go_enter Tryz.func79, Tryz.ntmps79
      go_wp2_with fail
      refine (endIn_nil p g _ HP.out HR.out).mono ?_
      rintro _ w1 ⟨rfl, rfl⟩
      go_wp2_with fail
      go_ret2
      exact took_ret (r := endR [] 0) (a := 0) (b := 0) rfl (grown_refl _ _) rfl HR.out
    | cons b t =>
      have HX := Lib.hid (rdr_fail (f := 4) HR.out ⟨#[]⟩ rfl)
      go_enter Tryz.func79, Tryz.ntmps79
      go_wp2_with fail
      refine (endIn_cons p g b t _ HP.out HR.out).mono ?_
      rintro _ w1 ⟨rfl, rfl⟩
      go_wp2_with fail
      go_ret2
      exact took_ret (r := endR (b :: t) 0) (a := 0) (b := 4) rfl HX.out.2 rfl HX.out.1
  · have df : ((f : Int) == 0) = false := by simp; omega
    have HF := Lib.hid (show endR l f = (0, f, l) by unfold endR endS; rw [if_neg hf, if_neg hf])
    clear hf
    go_enter Tryz.func79, Tryz.ntmps79
    go_wp2_with fail
    go_quiet (fail)
    all_goals go_wp2_with fail
    all_goals go_ret2
    rw [HF.out]
    exact ⟨rfl, ⟨rfl, rfl, rfl, Nat.le_refl _, fun _ _ _ => rfl⟩, HR.out⟩
/-- What Left leaves. -/
def Answered (g n f : Nat) (l : List UInt8) (w : World) (e : Ending) (w' : World) : Prop :=
  e = .returned (.int .i64 n) ∧ w.grownBy w' (some g) ∧ Rdr w' g l f
set_option maxHeartbeats 400000 in
theorem rEnd_any (g f : Nat) (l : List UInt8) (w : World) (hr : Rdr w g l f) :
    Calls Tryz.prog 42 #[.pointer (some ⟨g, 0, none⟩)] w (Answered g (endS l f) (endR l f).2.1 (endR l f).2.2 w) := by
  have HV := Lib.hid (var_new w g)
  have HR := Lib.hid (rdr_boxed hr (.cells #[.pointer (some ⟨g, 0, none⟩)] 81))
  clear hr
  go_enter Tryz.func42, Tryz.ntmps42
  go_wp2_with fail
  refine (readEnd_any w.heap.size g f l _ HV.out HR.out).mono ?_
  rintro e w1 ⟨rfl, hg, h1⟩
  have HG := Lib.hid (grown_boxed hg)
  have H1 := Lib.hid h1
  clear hg h1
  go_wp2_with fail
  go_ret
  exact ⟨rfl, HG.out, H1.out⟩
/-- Open makes a reader in a new block. -/
theorem open_any (s : ByteArray) (w : World) :
    Calls Tryz.prog 37 #[.string s] w fun e w' => e = .returned (.pointer (some ⟨w.heap.size, 0, none⟩)) ∧ w' = w.alloc (.cells #[.string s, .int .i64 0] 113) := by
  go_enter Tryz.func37, Tryz.ntmps37
  go_wp2_with fail
  go_ret
  exact ⟨rfl, rfl⟩
theorem bs_of (s : ByteArray) : bs s.data.toList = s := by
  unfold bs
  simp
end Go.Proofs.YtkeiekljedhllaaGreat
namespace Go.Proofs.YtkeiekljedhllaaGreat
open Go.RowKit
theorem ret_pair {a b : ByteArray} {x y : Int} (h : a = b) (k : x = y) : Ending.returned (.tuple #[.string a, .int .i64 x]) = .returned (.tuple #[.string b, .int .i64 y]) := by rw [h, k]
theorem num_lit (n : Int) (s : ByteArray) (w : World) (h0 : 0 ≤ n) (h : n ≤ 1099511627776) (e : (⟨#[]⟩ : ByteArray) ++ bs (encICOD n) = s) :
    Calls Tryz.prog 68 #[.string ⟨#[]⟩, .int .i64 n] w fun e w' => e = .returned (.tuple #[.string s, .int .i64 0]) ∧ Below w.heap.size w w' :=
  (num_yes n w h0 h ⟨#[]⟩ (by decide)).mono fun _ _ ⟨he, hb⟩ => ⟨he.trans (ret_pair e rfl), hb⟩
end Go.Proofs.YtkeiekljedhllaaGreat
namespace Go.Proofs.YtkeiekljedhllaaGreat
open Go.RowKit
theorem num_new (n : Int) (w : World) (h0 : 0 ≤ n) (h : n ≤ 1099511627776) :
    Calls Tryz.prog 68 #[.string ⟨#[]⟩, .int .i64 n] w fun e w' => e = .returned (.tuple #[.string (bs (encICOD n)), .int .i64 0]) ∧ Below w.heap.size w w' :=
  num_lit n _ w h0 h (WideShapes.bytes_inj (by simp))
section
open Go.ChangeShapes Go.WideShapes Go.ChangeAt
open Go.ChangeMaps (open_string)
end
end Go.Proofs.YtkeiekljedhllaaGreat
namespace Go.Proofs.YtkeiekljedhllaaGreat
open Go.RowKit
/-- The IDs d, and behind them s. -/
def behind (d : List (Int × Int)) (s : List (Int × Int) × Nat × List UInt8) : List (Int × Int) × Nat × List UInt8 := if s.2.1 = 0 then (d ++ s.1, 0, s.2.2) else ([], s.2.1, [])
end Go.Proofs.YtkeiekljedhllaaGreat
namespace Go.Proofs.YtkeiekljedhllaaGreat
open Go.RowKit
theorem numS_enc (n : Int) (t : List UInt8) (h0 : 0 ≤ n) (h : n ≤ 1099511627776) : numS (encICOD n ++ t) 0 = (n.toNat, 0, t) := Code.num_enc n.toNat t (by unfold Code.maxNumber; omega)
end Go.Proofs.YtkeiekljedhllaaGreat
namespace Go.Proofs.YtkeiekljedhllaaGreat
open Go.RowKit
theorem encIDs_len (l : List (Int × Int)) (hl : l.length ≤ 64) : 1 ≤ (encIDs l).length ∧ (encIDs l).length ≤ 1000 := by
  have h1 := encI_lenCOD (l.length : Int)
  have h2 := encAll_len l
  unfold encIDs
  rw [List.length_append]
  omega
section
open Go.ChangeShapes Go.WideShapes Go.ChangeAt
open Go.ChangeMaps (open_string)
end
end Go.Proofs.YtkeiekljedhllaaGreat
