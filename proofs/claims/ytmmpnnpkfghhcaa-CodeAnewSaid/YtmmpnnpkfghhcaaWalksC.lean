/-
  Walks over the code of package code, continued: lists of IDs. No statement is proved in this text; it holds for every input that its premises let by.
-/
import Derived.Test.YtmmpnnpkfghhcaaWalksB
namespace Go.Proofs.Ytmmpnnpkfghhcaa
open Go.RowKit
/-- The slice v reads as the list l of IDs. -/
def Ids (w : World) (v : Value) (l : List (Int × Int)) : Prop :=
  ∃ A c, v = .slice A l.length c ∧ (A = none → c = 0) ∧ ∀ k (h : k < l.length), ∃ ad, A = some ad ∧ ad.block < w.heap.size ∧ w.cell? (ad.add (k * 2)) = some (.int .i64 l[k].1) ∧ w.cell? ⟨(ad.add (k * 2)).block, (ad.add (k * 2)).off + 1, none⟩ = some (.int .i64 l[k].2)
theorem block_of_add (a : Addr) (n : Nat) : (a.add n).block = a.block := by unfold Addr.add; split <;> rfl
theorem Ids.below {w w' : World} {v : Value} {l : List (Int × Int)} (h : Ids w v l) (hb : Below w.heap.size w w') : Ids w' v l := by
  obtain ⟨A, c, hv, h0, hk⟩ := h
  refine ⟨A, c, hv, h0, fun k h => ?_⟩
  obtain ⟨ad, h1, h2, h3, h4⟩ := hk k h
  exact ⟨ad, h1, Nat.lt_of_lt_of_le h2 hb.size, (hb.cell (by rw [block_of_add]; exact h2)).trans h3, (hb.cell (by show (ad.add (k * 2)).block < _; rw [block_of_add]; exact h2)).trans h4⟩
/-- Are all IDs of a list such as may be? -/
def allVid (l : List (Int × Int)) : Bool := l.all fun x => vid x.1 x.2
def risesB : List (Int × Int) → Bool
  | x :: y :: l => lss x.1 x.2 y.1 y.2 && risesB (y :: l)
  | _ => true
theorem allVid_take {l : List (Int × Int)} {k : Nat} (h : k < l.length) : allVid (l.take (k + 1)) = (allVid (l.take k) && vid l[k].1 l[k].2) := by
  unfold allVid
  rw [List.take_succ_eq_append_getElem h, List.all_append]
  simp only [List.all_cons, List.all_nil, Bool.and_true]
theorem allVid_not {l : List (Int × Int)} {k : Nat} (h : k < l.length) (hv : vid l[k].1 l[k].2 = false) : allVid l = false := by
  simp only [allVid, List.all_eq_false]
  exact ⟨l[k], List.getElem_mem h, by simp [hv]⟩
theorem risesB_take {l : List (Int × Int)} : ∀ {k : Nat} (h : k + 1 < l.length), risesB (l.take (k + 2)) = (risesB (l.take (k + 1)) && lss l[k].1 l[k].2 l[k+1].1 l[k+1].2) := by
  induction l with
  | nil => intro k h; simp at h
  | cons x l ih =>
    intro k h
    cases l with
    | nil => simp at h
    | cons y l =>
      cases k with
      | zero => simp [risesB]
      | succ k =>
        have := ih (k := k) (by simpa using h)
        simp only [List.take_succ_cons, risesB] at this ⊢
        rw [this, Bool.and_assoc]
        rfl
theorem risesB_not {l : List (Int × Int)} : ∀ {k : Nat} (h : k + 1 < l.length), lss l[k].1 l[k].2 l[k+1].1 l[k+1].2 = false → risesB l = false := by
  induction l with
  | nil => intro k h; simp at h
  | cons x l ih =>
    intro k h hv
    cases l with
    | nil => simp at h
    | cons y l =>
      cases k with
      | zero => simp only [risesB, Bool.and_eq_false_iff]; exact .inl hv
      | succ k => simp only [risesB, Bool.and_eq_false_iff]; exact .inr (ih (k := k) (by simpa using h) hv)
theorem risesB_one (l : List (Int × Int)) : risesB (l.take 1) = true := by
  cases l <;> rfl
theorem ret_bool {a b : Bool} (h : a = b) : Ending.returned (.bool a) = .returned (.bool b) := by rw [h]
/-- The cells of one ID of a list. -/
theorem Ids.at_ {w w' : World} {A : Option Addr} {c n : Nat} {l : List (Int × Int)} (h : Ids w (.slice A n c) l) (hw : Below w.heap.size w w') {k : Nat} (hk : k < l.length) :
    ∃ ad, A = some ad ∧ w'.cell? (ad.add (k * 2)) = some (.int .i64 l[k].1) ∧ w'.cell? ⟨(ad.add (k * 2)).block, (ad.add (k * 2)).off + 1, none⟩ = some (.int .i64 l[k].2) := by
  obtain ⟨A', c', hv, _, hc⟩ := h
  injection hv with e1 e2 e3
  subst e1
  obtain ⟨ad, h1, h2, h3, h4⟩ := hc k hk
  exact ⟨ad, h1, (hw.cell (by rw [block_of_add]; exact h2)).trans h3, (hw.cell (by show (ad.add (k * 2)).block < _; rw [block_of_add]; exact h2)).trans h4⟩
theorem cell1 {w w' : World} {ad : Addr} {c n : Nat} {l : List (Int × Int)} (h : Ids w (.slice (some ad) n c) l) (hw : Below w.heap.size w w') {k : Nat} (hk : k < l.length) : w'.cell? (ad.add (k * 2)) = some (.int .i64 l[k].1) := by
  obtain ⟨a, e, h1, _⟩ := h.at_ hw hk
  injection e with e
  rw [e]
  exact h1
theorem cell2 {w w' : World} {ad : Addr} {c n : Nat} {l : List (Int × Int)} (h : Ids w (.slice (some ad) n c) l) (hw : Below w.heap.size w w') {k : Nat} (hk : k < l.length) : w'.cell? ⟨(ad.add (k * 2)).block, (ad.add (k * 2)).off + 1, none⟩ = some (.int .i64 l[k].2) := by
  obtain ⟨a, e, _, h2⟩ := h.at_ hw hk
  injection e with e
  rw [e]
  exact h2
theorem below_after {B : Nat} {w w1 w2 : World} (h : Below B w w1) (k : Below w1.heap.size w1 w2) (hB : B ≤ w.heap.size) : Below B w w2 := h.trans (k.mono (Nat.le_trans hB h.size))
theorem below_boxed {B : Nat} {w w1 w2 : World} {o : Obj} (h : Below B w w1) (k : Below (w1.alloc o).heap.size (w1.alloc o) w2) (hB : B ≤ w.heap.size) : Below B w w2 :=
  (h.alloc (Nat.le_trans hB h.size) o).trans (k.mono (by have := h.size; simp; omega))
set_option maxHeartbeats 400000 in
theorem rising_any (v : Value) (l : List (Int × Int)) (w : World) (h : Ids w v l) (hl : l.length ≤ 100000) :
    Calls Try.prog 32 #[v] w fun e w' => e = .returned (.bool (risesB l)) ∧ Below w.heap.size w w' := by
  obtain ⟨A, c, rfl, hz⟩ := id h
  clear hz
  have HI := Lib.hid h
  clear h
  go_enter Try.func32, Try.ntmps32
  go_wp2
  go_loopw [3] (fun s3 wr => ∃ k : Nat, 1 ≤ k ∧ k ≤ l.length + 1 ∧ s3 = .int .i64 k ∧ risesB (l.take k) = true ∧ Below w.heap.size w wr) (fun s3 _ => l.length - (intOf s3).toNat)
  case atStart => exact ⟨1, by omega, by omega, rfl, risesB_one l, Below.refl _ _⟩
  case round =>
    obtain ⟨k, hk1, hkl, rfl, hr, hw⟩ := hrel
    have HR := Lib.hid hr
    clear hr
    have HW := Lib.hid hw
    clear hw
    by_cases hlt : k < l.length
    · have hd : decide ((k : Int) < (l.length : Int)) = true := by simp; omega
      obtain ⟨j, rfl⟩ : ∃ j, k = j + 1 := ⟨k - 1, by omega⟩
      obtain ⟨ad, rfl, c1, c2⟩ := HI.out.at_ HW.out hlt
      obtain ⟨ad', e, c3, c4⟩ := HI.out.at_ HW.out (k := j) (by omega)
      injection e with e
      subst e
      have i1 : IntKind.i64.wrap ((j : Int) + 1 - 1) = (j : Int) := by rw [IntWalk.i64_in _ ⟨by omega, by omega⟩]; omega
      have HS := Lib.hid fun w' (hb : Below w.heap.size w w') => And.intro (cell1 HI.out hb hlt) (And.intro (cell2 HI.out hb hlt) (And.intro (cell1 HI.out hb (k := j) (by omega)) (And.intro (cell2 HI.out hb (k := j) (by omega)) (Lib.hid hb))))
      have i2 : IntKind.i64.wrap (j : Int) = (j : Int) := IntWalk.i64_in _ ⟨by omega, by omega⟩
      have i3 : (0 : Int) ≤ (j : Int) := by omega
      have i4 : (j : Int) < (l.length : Int) := by omega
      have i5 : (0 : Int) ≤ (j : Int) + 1 := by omega
      have i6 : (j : Int) + 1 < (l.length : Int) := by omega
      have i7 : ((j : Int) + 1).toNat = j + 1 := by omega
      cases hv : lss l[j].1 l[j].2 l[j+1].1 l[j+1].2
      · have HN := Lib.hid (risesB_not hlt hv)
        have HV := Lib.hid hv
        clear hv
        go_wp2_with fail
        go_region_held3 (fun w' => w'.cell? (ad.add ((j + 1) * 2)) = some (.int .i64 l[j+1].1) ∧ w'.cell? ⟨(ad.add ((j + 1) * 2)).block, (ad.add ((j + 1) * 2)).off + 1, none⟩ = some (.int .i64 l[j+1].2) ∧ w'.cell? (ad.add (j * 2)) = some (.int .i64 l[j].1) ∧ w'.cell? ⟨(ad.add (j * 2)).block, (ad.add (j * 2)).off + 1, none⟩ = some (.int .i64 l[j].2) ∧ Hid (Below w.heap.size w w'))
          (first | exact HS.out _ HW.out.drew | exact HS.out _ HK.out)
          (first | (go_at_call 37; refine (less_any _ _ _ _ _).mono ?_; rintro e w' ⟨rfl, hb⟩; rw [HV.out]; have HK := Lib.hid (below_after (Hid.out (by go_split_ands; assumption)) hb (Nat.le_refl _)); clear hb))
        clear c1 c2 c3 c4
        go_wp2_with fail
        go_ret
        exact ⟨ret_bool HN.out.symm, Hid.out (by assumption)⟩
      · have HN := Lib.hid (risesB_take hlt)
        have HV := Lib.hid hv
        clear hv
        go_wp2_with fail
        go_region_held3 (fun w' => w'.cell? (ad.add ((j + 1) * 2)) = some (.int .i64 l[j+1].1) ∧ w'.cell? ⟨(ad.add ((j + 1) * 2)).block, (ad.add ((j + 1) * 2)).off + 1, none⟩ = some (.int .i64 l[j+1].2) ∧ w'.cell? (ad.add (j * 2)) = some (.int .i64 l[j].1) ∧ w'.cell? ⟨(ad.add (j * 2)).block, (ad.add (j * 2)).off + 1, none⟩ = some (.int .i64 l[j].2) ∧ Hid (Below w.heap.size w w'))
          (first | exact HS.out _ HW.out.drew | exact HS.out _ HK.out)
          (first | (go_at_call 37; refine (less_any _ _ _ _ _).mono ?_; rintro e w' ⟨rfl, hb⟩; rw [HV.out]; have HK := Lib.hid (below_after (Hid.out (by go_split_ands; assumption)) hb (Nat.le_refl _)); clear hb))
        clear c1 c2 c3 c4
        go_wp2_with fail
        go_roundw
        case rel => exact ⟨j + 2, by omega, by omega, by go_num, by rw [HN.out, HR.out, HV.out]; rfl, Hid.out (by assumption)⟩
        case measure => simp [intOf]; omega
    · have hd : decide ((k : Int) < (l.length : Int)) = false := by simp; omega
      go_wp2_with fail
      go_ret
      exact ⟨ret_bool (by have := HR.out; rw [List.take_of_length_le (by omega)] at this; exact this.symm), HW.out⟩
set_option maxHeartbeats 400000 in
theorem validList_any (v : Value) (l : List (Int × Int)) (w : World) (h : Ids w v l) (hl : l.length ≤ 100000) :
    Calls Try.prog 26 #[v] w fun e w' => e = .returned (.bool (allVid l && risesB l)) ∧ Below w.heap.size w w' := by
  obtain ⟨A, c, rfl, hz⟩ := id h
  clear hz
  have HI := Lib.hid h
  clear h
  go_enter Try.func26, Try.ntmps26
  go_wp2
  go_loopw [7] (fun s7 wr => ∃ k : Nat, k ≤ l.length ∧ s7 = .int .i64 k ∧ allVid (l.take k) = true ∧ Below w.heap.size w wr) (fun s7 _ => l.length - (intOf s7).toNat)
  case atStart => exact ⟨0, by omega, rfl, rfl, Below.refl _ _⟩
  case round =>
    obtain ⟨k, hkl, rfl, hr, hw⟩ := hrel
    have HR := Lib.hid hr
    clear hr
    have HW := Lib.hid hw
    clear hw
    by_cases hlt : k < l.length
    · obtain ⟨ad, rfl, c1, c2⟩ := HI.out.at_ HW.out hlt
      cases hv : vid l[k].1 l[k].2
      · have HN := Lib.hid (allVid_not hlt hv)
        have HV := Lib.hid hv
        clear hv
        go_wp2_with fail
        refine (valid_any _ _ _).mono ?_
        rintro e w1 ⟨rfl, hb1⟩
        rw [HV.out]
        have HB := Lib.hid (below_boxed HW.out hb1 (Nat.le_refl _))
        clear hb1
        go_wp2_with fail
        go_ret
        exact ⟨ret_bool (by rw [HN.out]; rfl), HB.out⟩
      · have HN := Lib.hid (allVid_take hlt)
        have HV := Lib.hid hv
        clear hv
        go_wp2_with fail
        refine (valid_any _ _ _).mono ?_
        rintro e w1 ⟨rfl, hb1⟩
        rw [HV.out]
        have HB := Lib.hid (below_boxed HW.out hb1 (Nat.le_refl _))
        clear hb1
        go_wp2_with fail
        go_roundw
        case rel => exact ⟨k + 1, by omega, by go_num, by rw [HN.out, HR.out, HV.out]; rfl, HB.out⟩
        case measure => simp [intOf]; omega
    · obtain rfl : k = l.length := by omega
      have hi2 := HI.out.below HW.out
      have HT := Lib.hid hi2
      clear hi2
      go_wp2_with fail
      refine (rising_any _ l _ HT.out hl).mono ?_
      rintro e w1 ⟨rfl, hb1⟩
      have HB := Lib.hid (below_after HW.out hb1 (Nat.le_refl _))
      clear hb1
      go_wp2_with fail
      go_ret
      exact ⟨ret_bool (by have := HR.out; rw [List.take_length] at this; rw [this]; rfl), HB.out⟩
end Go.Proofs.Ytmmpnnpkfghhcaa
