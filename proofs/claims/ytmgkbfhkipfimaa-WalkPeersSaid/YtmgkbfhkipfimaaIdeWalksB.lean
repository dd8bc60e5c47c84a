/-
  Carried over: contracts of this program's functions. No statement is proved in this text.
-/
import Derived.Test.YtmgkbfhkipfimaaIdeIds
set_option maxRecDepth 20000
set_option maxRecDepth 20000
namespace Go.Proofs.Ytmgkbfhkipfimaa
open Go.RowKit
set_option maxHeartbeats 1000000 in
theorem rising_gen (v : Value) (l : List (Int × Int)) (w : World) (h : Ids w v l) (hl : l.length ≤ 100000) :
    Calls Try.prog 38 #[v, .func (.func 33) #[] #[]] w fun e w' => e = .returned (.bool (risesB l)) ∧ Below w.heap.size w w' := by
  obtain ⟨A, c, rfl, hz⟩ := id h
  clear hz
  have HI := Lib.hid h
  clear h
  go_enter Try.func38, Try.ntmps38
  go_wp2
  go_loopw [5] (fun s3 wr => ∃ k : Nat, 1 ≤ k ∧ k ≤ l.length + 1 ∧ s3 = .int .i64 k ∧ risesB (l.take k) = true ∧ Below w.heap.size w wr) (fun s3 _ => l.length - (intOf s3).toNat)
  case atStart => exact ⟨1, by omega, by omega, rfl, risesB_one l, Below.refl _ _⟩
  case round =>
    obtain ⟨k, hk1, hkl, rfl, hr, hw⟩ := hrel
    have HR := Lib.hid hr
    clear hr
    have HW := Lib.hid hw
    clear hw
    by_cases hlt : k < l.length
    · have hd : decide ((k : Int) < (l.length : Int)) = true := by simp; omega
      obtain ⟨j, rfl⟩ : ∃ j, k = j + 1 := ⟨k - 1, by omega⟩
      obtain ⟨ad, rfl, c1, c2⟩ := HI.out.at_ HW.out hlt
      obtain ⟨ad', e, c3, c4⟩ := HI.out.at_ HW.out (k := j) (by omega)
      injection e with e
      subst e
      have i1 : IntKind.i64.wrap ((j : Int) + 1 - 1) = (j : Int) := by rw [IntWalk.i64_in _ ⟨by omega, by omega⟩]; omega
      have HS := Lib.hid fun w' (hb : Below w.heap.size w w') => And.intro (cell1 HI.out hb hlt) (And.intro (cell2 HI.out hb hlt) (And.intro (cell1 HI.out hb (k := j) (by omega)) (And.intro (cell2 HI.out hb (k := j) (by omega)) (Lib.hid hb))))
      have i2 : IntKind.i64.wrap (j : Int) = (j : Int) := IntWalk.i64_in _ ⟨by omega, by omega⟩
      have i3 : (0 : Int) ≤ (j : Int) := by omega
      have i4 : (j : Int) < (l.length : Int) := by omega
      have i5 : (0 : Int) ≤ (j : Int) + 1 := by omega
      have i6 : (j : Int) + 1 < (l.length : Int) := by omega
      have i7 : ((j : Int) + 1).toNat = j + 1 := by omega
      have hcm : (cmpZ l[j].1 l[j].2 l[j+1].1 l[j+1].2 = -1 ∧ lss l[j].1 l[j].2 l[j+1].1 l[j+1].2 = true) ∨ (0 ≤ cmpZ l[j].1 l[j].2 l[j+1].1 l[j+1].2 ∧ lss l[j].1 l[j].2 l[j+1].1 l[j+1].2 = false) := by
        cases hv : lss l[j].1 l[j].2 l[j+1].1 l[j+1].2
        · right
          refine ⟨?_, rfl⟩
          unfold cmpZ
          rw [hv]
          split
          · rename_i h; cases h
          · split <;> omega
        · left
          exact ⟨by unfold cmpZ; rw [hv]; rfl, rfl⟩
      have HC := Lib.hid fun W => compare_any l[j].1 l[j].2 l[j+1].1 l[j+1].2 W
      have HT := Lib.hid (risesB_take hlt)
      have HN := Lib.hid fun h => risesB_not hlt h
      generalize hz : cmpZ l[j].1 l[j].2 l[j+1].1 l[j+1].2 = z at *
      clear hz
      rcases hcm with ⟨hv, hv2⟩ | ⟨hv, hv2⟩
      · have HV2 := Lib.hid hv2
        subst hv
        clear hv2
        go_wp2_with fail
        go_region_held3 (fun w' => w'.cell? (ad.add ((j + 1) * 2)) = some (.int .i64 l[j+1].1) ∧ w'.cell? ⟨(ad.add ((j + 1) * 2)).block, (ad.add ((j + 1) * 2)).off + 1, none⟩ = some (.int .i64 l[j+1].2) ∧ w'.cell? (ad.add (j * 2)) = some (.int .i64 l[j].1) ∧ w'.cell? ⟨(ad.add (j * 2)).block, (ad.add (j * 2)).off + 1, none⟩ = some (.int .i64 l[j].2) ∧ Hid (Below w.heap.size w w'))
          (first | exact HS.out _ HW.out.drew | exact HS.out _ HK.out)
          (first | (go_at_call 33; (with_reducible refine (HC.out _).mono ?_); rintro e w' ⟨rfl, hb⟩; have HK := Lib.hid (below_after (Hid.out (by go_split_ands; assumption)) hb (Nat.le_refl _)); clear hb))
        clear c1 c2 c3 c4
        go_wp2_with fail
        go_roundw
        case rel => exact ⟨j + 2, by omega, by omega, by go_num, by rw [HT.out, HR.out, HV2.out]; rfl, Hid.out (by assumption)⟩
        case measure => simp [intOf]; omega
      · have HV2 := Lib.hid hv2
        clear hv2
        go_wp2_with fail
        go_region_held3 (fun w' => w'.cell? (ad.add ((j + 1) * 2)) = some (.int .i64 l[j+1].1) ∧ w'.cell? ⟨(ad.add ((j + 1) * 2)).block, (ad.add ((j + 1) * 2)).off + 1, none⟩ = some (.int .i64 l[j+1].2) ∧ w'.cell? (ad.add (j * 2)) = some (.int .i64 l[j].1) ∧ w'.cell? ⟨(ad.add (j * 2)).block, (ad.add (j * 2)).off + 1, none⟩ = some (.int .i64 l[j].2) ∧ Hid (Below w.heap.size w w'))
          (first | exact HS.out _ HW.out.drew | exact HS.out _ HK.out)
          (first | (go_at_call 33; (with_reducible refine (HC.out _).mono ?_); rintro e w' ⟨rfl, hb⟩; have HK := Lib.hid (below_after (Hid.out (by go_split_ands; assumption)) hb (Nat.le_refl _)); clear hb))
        clear c1 c2 c3 c4
        go_wp2_with fail
        go_ret
        exact ⟨ret_bool (HN.out HV2.out).symm, Hid.out (by assumption)⟩
    · have hd : decide ((k : Int) < (l.length : Int)) = false := by simp; omega
      go_wp2_with fail
      go_ret
      exact ⟨ret_bool (by have := HR.out; rw [List.take_of_length_le (by omega)] at this; exact this.symm), HW.out⟩
end Go.Proofs.Ytmgkbfhkipfimaa
