/-
  Carried over and put together: contracts of this program's functions, and plain facts. No statement is proved in this text.
-/
import Derived.Laws.AppendOwnNone
import Derived.Test.YtloghkiabgnpnaaDoorRows
import Derived.WalkKit
import Derived.WalkSpells
import Derived.WalkLawsBesides
import Derived.OwnWalk
import Derived.Deep.AppendLies
import Derived.Outline
import Derived.IntWalk
import Derived.Deep.LoopGhost
import Derived.Handy
import Derived.Lib.Hide
import Derived.Deep.RegionWith
import Derived.Deep.RegionHeld3
import Derived.BigQuiet
import Derived.Deep.QuietTactic
import Derived.Deep.DeepCutAuto
import Derived.Test.YtloghkiabgnpnaaDoorH00
import Derived.Test.YtloghkiabgnpnaaDoorH01
import Derived.Test.YtloghkiabgnpnaaDoorH02
import Derived.Test.YtloghkiabgnpnaaDoorH03
set_option maxRecDepth 20000
namespace Go.Proofs.YtloghkiabgnpnaaDoor
open Go.RowKit Sets
theorem ins_step {x y : Int × Int} (l : List (Int × Int)) (h : lss y.1 y.2 x.1 x.2 = true) : ins x (y :: l) = y :: ins x l := by
  have h := (lss_iff y x).1 h
  rw [ins, if_neg (lt_asymm h), if_neg (fun e : x = y => lt_irrefl x (by rw [← e] at h; exact h))]
theorem ins_stop {x y : Int × Int} (l : List (Int × Int)) (h : lss y.1 y.2 x.1 x.2 = false) (hn : ¬ (y.1 = x.1 ∧ y.2 = x.2)) : ins x (y :: l) = x :: y :: l := by
  have h := (lss_not y x).1 h
  rw [ins, if_pos]
  rcases lt_total x y with e | e | e
  · exact e
  · exact absurd ⟨by rw [e], by rw [e]⟩ hn
  · exact absurd e h
theorem ins_here {x y : Int × Int} (l : List (Int × Int)) (e1 : y.1 = x.1) (e2 : y.2 = x.2) : ins x (y :: l) = y :: l := by
  obtain rfl : y = x := Prod.ext e1 e2
  rw [ins, if_neg (lt_irrefl y), if_pos rfl]
theorem ins_next {x : Int × Int} {l : List (Int × Int)} {k : Nat} (hk : k < l.length) (h : lss l[k].1 l[k].2 x.1 x.2 = true) (he : ins x l = l.take k ++ ins x (l.drop k)) : ins x l = l.take (k + 1) ++ ins x (l.drop (k + 1)) := by
  rw [he, List.drop_eq_getElem_cons hk, ins_step _ h, List.take_succ_eq_append_getElem hk, List.append_assoc]
  rfl
theorem ins_in {x : Int × Int} {l : List (Int × Int)} {k : Nat} (hk : k < l.length) (h : lss l[k].1 l[k].2 x.1 x.2 = false) (hn : ¬ (l[k].1 = x.1 ∧ l[k].2 = x.2)) (he : ins x l = l.take k ++ ins x (l.drop k)) : ins x l = l.take k ++ [x] ++ l.drop k := by
  rw [he, List.drop_eq_getElem_cons hk, ins_stop _ h hn, List.append_assoc]
  rfl
theorem ins_same {x : Int × Int} {l : List (Int × Int)} {k : Nat} (hk : k < l.length) (e1 : l[k].1 = x.1) (e2 : l[k].2 = x.2) (he : ins x l = l.take k ++ ins x (l.drop k)) : ins x l = l := by
  rw [he, List.drop_eq_getElem_cons hk, ins_here _ e1 e2, ← List.drop_eq_getElem_cons hk, List.take_append_drop]
theorem ins_end {x : Int × Int} {l : List (Int × Int)} {k : Nat} (hk : l.length ≤ k) (he : ins x l = l.take k ++ ins x (l.drop k)) : ins x l = l.take k ++ [x] ++ l.drop k := by
  rw [he, List.drop_of_length_le hk, List.append_nil]
  rfl
theorem owns_made (w : World) (base : Nat) (hb : base ≤ w.heap.size) : Owns (w.alloc (.cells #[] 32)) base (.slice (some ⟨w.heap.size, 0, none⟩) 0 0) [] :=
  World.ownsRow_made w (base := base) (e := 32) (size := 2) #[] 0 hb (by decide) (by simp)
theorem box_after {w w1 : World} {o : Obj} {g : Nat} {a i : Int} (h : Box w g a i) (hb : Below w.heap.size (w.alloc o) w1) : Box w1 g a i := (hb.block g (box_lt h)).trans ((Below.heap_alloc w o g (box_lt h)).trans h)
set_option maxHeartbeats 4000000 in
theorem refPut_any (v : Value) (l : List (Int × Int)) (a i : Int) (w : World) (h : Ids w v l) (hl : l.length ≤ 400000) :
    Calls Tryd.prog 61 #[v, .agg #[.int .i64 a, .int .i64 i]] w (Lists (ins (a, i) l) w) := by
  have HI := Lib.hid h
  have HX := Lib.hid (box_new w a i)
  have HB := Lib.hid ((Below.refl w.heap.size w).alloc (Nat.le_refl _) (.cells #[.int .i64 a, .int .i64 i] 32))
  have HF := Lib.hid fun k hk => run_from h k hk
  have HG := Lib.hid fun k hk => run_to h k hk
  obtain ⟨A, c, rfl, hz⟩ := id h
  clear h hz
  go_enter Tryd.func61, Tryd.ntmps61
  go_wp2_with fail
  go_loopw [5] (fun s5 wr => ∃ k : Nat, k ≤ l.length ∧ s5 = .int .i64 k ∧ ins (a, i) l = l.take k ++ ins (a, i) (l.drop k) ∧ Box wr w.heap.size a i ∧ Below w.heap.size w wr) (fun s5 _ => l.length - (intOf s5).toNat)
  case atStart => exact ⟨0, by omega, rfl, rfl, HX.out, HB.out⟩
  case round =>
    obtain ⟨k, hkl, rfl, ht, hx, hw⟩ := hrel
    have HW := Lib.hid hw
    have HT := Lib.hid ht
    have HY := Lib.hid hx
    clear hw ht hx HX HB
    have i3 : (0 : Int) ≤ (k : Int) := by omega
    by_cases hlt : k < l.length
    · have hd : decide ((k : Int) < (l.length : Int)) = true := by simp; omega
      have i4 : (k : Int) < (l.length : Int) := by omega
      have HK0 := Lib.hid hlt
      obtain ⟨ad, rfl, c1, c2⟩ := HI.out.at_ HW.out hlt
      obtain ⟨c3, c4⟩ := box_cells HY.out
      have HS := Lib.hid fun w' (hb : Below w.heap.size w w') (hx : Box w' w.heap.size a i) => And.intro (And.intro (cell1 HI.out hb hlt) (cell2 HI.out hb hlt)) (And.intro (box_cells hx) (Lib.hid (And.intro hb hx)))
      have H1 := Lib.hid fun h => ins_next (x := (a, i)) hlt h HT.out
      have H2 := Lib.hid fun h hn => ins_in (x := (a, i)) hlt h hn HT.out
      have H3 := Lib.hid fun e1 e2 => ins_same (x := (a, i)) hlt e1 e2 HT.out
      have HD := Lib.hid fun (W : World) => refLess_any l[k].1 l[k].2 a i W
      generalize l[k].1 = b at *
      generalize l[k].2 = j at *
      cases hv : lss b j a i
      · have HV := Lib.hid hv
        clear hv
        go_wp2_with fail
        go_region_held3 (fun w' => (w'.cell? (ad.add (k * 2)) = some (.int .i64 b) ∧ w'.cell? ⟨(ad.add (k * 2)).block, (ad.add (k * 2)).off + 1, none⟩ = some (.int .i64 j)) ∧ (w'.cell? ⟨w.heap.size, 0, none⟩ = some (.int .i64 a) ∧ w'.cell? ⟨w.heap.size, 1, none⟩ = some (.int .i64 i)) ∧ Hid (Below w.heap.size w w' ∧ Box w' w.heap.size a i))
          (first | exact HS.out _ HW.out.drew HY.out | exact HS.out _ HK.out.1 HK.out.2)
          (first | (go_at_call 40; (with_reducible refine (HD.out _).mono ?_); rintro e w' ⟨rfl, hb⟩; rw [HV.out]; have HK := Lib.hid (And.intro (below_after (show Hid (Below w.heap.size w _ ∧ Box _ w.heap.size a i) by go_split_ands; assumption).out.1 hb (Nat.le_refl _)) (box_below (show Hid (Below w.heap.size w _ ∧ Box _ w.heap.size a i) by go_split_ands; assumption).out.2 hb)); clear hb))
        --C
        have B3 := Lib.hid HK.out.1
        have X3 := Lib.hid HK.out.2
        clear c1 c2 c3 c4
        obtain ⟨⟨c1, c2⟩, ⟨c3, c4⟩, _⟩ := HS.out _ B3.out X3.out
        by_cases hab : b = a
        · have hab := hab.symm
          subst hab
          by_cases hij : j = i
          · have hij := hij.symm
            subst hij
            have HR := Lib.hid (H3.out rfl rfl)
            clear H1 H2 H3 HV HS HD
            go_wp2_with fail
            go_quiet (fail)
            go_wp2_with fail
            go_ret
            exact ⟨_, rfl, by rw [HR.out]; exact HI.out.below (below_drewN B3.out), below_drewN B3.out⟩
          · have h2 : (j == i) = false := by simpa using hij
            have HR := Lib.hid (H2.out HV.out fun h => hij h.2)
            clear hij
            obtain ⟨U, hu, hU⟩ := HF.out k (by omega)
            obtain ⟨V, hv, hV⟩ := HG.out k (by omega)
            have HU := Lib.hid hU
            have HV2 := Lib.hid hV
            clear hU hV
            clear H1 H2 H3 HV HS HD HF HG
            go_wp2_with fail
            go_quiet (fail)
            clear c1 c2 c3 c4
            have B5 := Lib.hid (below_drewN (n := nq) B3.out)
            have X5 := Lib.hid (box_drewN (n := nq) X3.out)
            clear B3 X3 HK
            generalize w'.drewN nq = w5 at *
            have M5 := Lib.hid (owns_made w5 w5.heap.size (Nat.le_refl _))
            have B6 := Lib.hid (B5.out.alloc B5.out.size (.cells #[] 32))
            have X6 := Lib.hid (box_below X5.out ((Below.refl w5.heap.size w5).alloc (Nat.le_refl _) (.cells #[] 32)))
            have S6 := Lib.hid (show w5.heap.size ≤ (w5.alloc (.cells #[] 32)).heap.size by simp)
            go_wp2_with (first
              | (at_builtin; refine wpList_append_list rfl (.tmp 34) (.tmp 37) rfl _ w5.heap.size _ V [] (l.take k) rfl rfl M5.out (HV2.out.below B6.out) (by simp; omega) S6.out ?_; intro v7 w7 h1 h2; have O7 := Lib.hid h1; have B7 := Lib.hid (B6.out.trans (h2.mono B5.out.size)); have X7 := Lib.hid (box_after X5.out h2); have S7 := Lib.hid (Nat.le_trans S6.out h2.size); clear h1 h2; obtain ⟨q1, q2⟩ := box_cells X7.out)
              | (at_builtin; refine wpList_append_one rfl (.tmp 39) (.tmp 41) rfl w7 w5.heap.size v7 _ a i rfl rfl O7.out (by simp; omega) S7.out ?_; intro v8 w8 h1 h2; have O8 := Lib.hid h1; have B8 := Lib.hid (B7.out.trans (h2.mono B5.out.size)); have S8 := Lib.hid (Nat.le_trans S7.out h2.size); clear h1 h2 q1 q2)
              | (at_builtin; refine wpList_append_list rfl (.tmp 43) (.tmp 46) rfl w8 w5.heap.size v8 U _ (l.drop k) rfl rfl O8.out (HU.out.below B8.out) (by simp; omega) S8.out ?_; intro v9 w9 h1 h2; have O9 := Lib.hid h1; have B9 := Lib.hid (B8.out.trans (h2.mono B5.out.size)); clear h1 h2))
            go_ret
            exact ⟨v9, rfl, by rw [HR.out]; exact ids_of_owns O9.out, B9.out⟩
        · have h2 : (b == a) = false := by simpa using hab
          have HR := Lib.hid (H2.out HV.out fun h => hab h.1)
          clear hab
          obtain ⟨U, hu, hU⟩ := HF.out k (by omega)
          obtain ⟨V, hv, hV⟩ := HG.out k (by omega)
          have HU := Lib.hid hU
          have HV2 := Lib.hid hV
          clear hU hV
          clear H1 H2 H3 HV HS HD HF HG
          go_wp2_with fail
          go_quiet (fail)
          clear c1 c2 c3 c4
          have B5 := Lib.hid (below_drewN (n := nq) B3.out)
          have X5 := Lib.hid (box_drewN (n := nq) X3.out)
          clear B3 X3 HK
          generalize w'.drewN nq = w5 at *
          have M5 := Lib.hid (owns_made w5 w5.heap.size (Nat.le_refl _))
          have B6 := Lib.hid (B5.out.alloc B5.out.size (.cells #[] 32))
          have X6 := Lib.hid (box_below X5.out ((Below.refl w5.heap.size w5).alloc (Nat.le_refl _) (.cells #[] 32)))
          have S6 := Lib.hid (show w5.heap.size ≤ (w5.alloc (.cells #[] 32)).heap.size by simp)
          go_wp2_with (first
            | (at_builtin; refine wpList_append_list rfl (.tmp 34) (.tmp 37) rfl _ w5.heap.size _ V [] (l.take k) rfl rfl M5.out (HV2.out.below B6.out) (by simp; omega) S6.out ?_; intro v7 w7 h1 h2; have O7 := Lib.hid h1; have B7 := Lib.hid (B6.out.trans (h2.mono B5.out.size)); have X7 := Lib.hid (box_after X5.out h2); have S7 := Lib.hid (Nat.le_trans S6.out h2.size); clear h1 h2; obtain ⟨q1, q2⟩ := box_cells X7.out)
            | (at_builtin; refine wpList_append_one rfl (.tmp 39) (.tmp 41) rfl w7 w5.heap.size v7 _ a i rfl rfl O7.out (by simp; omega) S7.out ?_; intro v8 w8 h1 h2; have O8 := Lib.hid h1; have B8 := Lib.hid (B7.out.trans (h2.mono B5.out.size)); have S8 := Lib.hid (Nat.le_trans S7.out h2.size); clear h1 h2 q1 q2)
            | (at_builtin; refine wpList_append_list rfl (.tmp 43) (.tmp 46) rfl w8 w5.heap.size v8 U _ (l.drop k) rfl rfl O8.out (HU.out.below B8.out) (by simp; omega) S8.out ?_; intro v9 w9 h1 h2; have O9 := Lib.hid h1; have B9 := Lib.hid (B8.out.trans (h2.mono B5.out.size)); clear h1 h2))
          go_ret
          exact ⟨v9, rfl, by rw [HR.out]; exact ids_of_owns O9.out, B9.out⟩
      · have HV := Lib.hid hv
        clear hv
        go_wp2_with fail
        go_region_held3 (fun w' => (w'.cell? (ad.add (k * 2)) = some (.int .i64 b) ∧ w'.cell? ⟨(ad.add (k * 2)).block, (ad.add (k * 2)).off + 1, none⟩ = some (.int .i64 j)) ∧ (w'.cell? ⟨w.heap.size, 0, none⟩ = some (.int .i64 a) ∧ w'.cell? ⟨w.heap.size, 1, none⟩ = some (.int .i64 i)) ∧ Hid (Below w.heap.size w w' ∧ Box w' w.heap.size a i))
          (first | exact HS.out _ HW.out.drew HY.out | exact HS.out _ HK.out.1 HK.out.2)
          (first | (go_at_call 40; (with_reducible refine (HD.out _).mono ?_); rintro e w' ⟨rfl, hb⟩; rw [HV.out]; have HK := Lib.hid (And.intro (below_after (show Hid (Below w.heap.size w _ ∧ Box _ w.heap.size a i) by go_split_ands; assumption).out.1 hb (Nat.le_refl _)) (box_below (show Hid (Below w.heap.size w _ ∧ Box _ w.heap.size a i) by go_split_ands; assumption).out.2 hb)); clear hb))
        have B3 := Lib.hid HK.out.1
        have X3 := Lib.hid HK.out.2
        have HE := Lib.hid (H1.out HV.out)
        clear c1 c2 c3 c4 H1 H2 H3 HS HD HF HG
        go_wp2_with fail
        go_roundw
        case rel => exact ⟨k + 1, by omega, by go_num, HE.out, X3.out, B3.out⟩
        case measure => simp [intOf]; omega
    · have hd : decide ((k : Int) < (l.length : Int)) = false := by simp; omega
      have HR := Lib.hid (ins_end (by omega) HT.out)
      obtain ⟨U, hu, hU⟩ := HF.out k (by omega)
      obtain ⟨V, hv, hV⟩ := HG.out k (by omega)
      have HU := Lib.hid hU
      have HV2 := Lib.hid hV
      clear hU hV
      clear HF HG
      go_wp2_with fail
      go_quiet (fail)
      go_wp2_with fail
      have B4 := Lib.hid (below_drewN (n := nq) HW.out)
      have X4 := Lib.hid (box_drewN (n := nq) HY.out)
      generalize wr.drewN nq = w4 at *
      go_quiet (fail)
      have B5 := Lib.hid (below_drewN (n := nq) B4.out)
      have X5 := Lib.hid (box_drewN (n := nq) X4.out)
      generalize w4.drewN nq = w5 at *
      have M5 := Lib.hid (owns_made w5 w5.heap.size (Nat.le_refl _))
      have B6 := Lib.hid (B5.out.alloc B5.out.size (.cells #[] 32))
      have X6 := Lib.hid (box_below X5.out ((Below.refl w5.heap.size w5).alloc (Nat.le_refl _) (.cells #[] 32)))
      have S6 := Lib.hid (show w5.heap.size ≤ (w5.alloc (.cells #[] 32)).heap.size by simp)
      go_wp2_with (first
        | (at_builtin; refine wpList_append_list rfl (.tmp 34) (.tmp 37) rfl _ w5.heap.size _ V [] (l.take k) rfl rfl M5.out (HV2.out.below B6.out) (by simp; omega) S6.out ?_; intro v7 w7 h1 h2; have O7 := Lib.hid h1; have B7 := Lib.hid (B6.out.trans (h2.mono B5.out.size)); have X7 := Lib.hid (box_after X5.out h2); have S7 := Lib.hid (Nat.le_trans S6.out h2.size); clear h1 h2; obtain ⟨q1, q2⟩ := box_cells X7.out)
        | (at_builtin; refine wpList_append_one rfl (.tmp 39) (.tmp 41) rfl w7 w5.heap.size v7 _ a i rfl rfl O7.out (by simp; omega) S7.out ?_; intro v8 w8 h1 h2; have O8 := Lib.hid h1; have B8 := Lib.hid (B7.out.trans (h2.mono B5.out.size)); have S8 := Lib.hid (Nat.le_trans S7.out h2.size); clear h1 h2 q1 q2)
        | (at_builtin; refine wpList_append_list rfl (.tmp 43) (.tmp 46) rfl w8 w5.heap.size v8 U _ (l.drop k) rfl rfl O8.out (HU.out.below B8.out) (by simp; omega) S8.out ?_; intro v9 w9 h1 h2; have O9 := Lib.hid h1; have B9 := Lib.hid (B8.out.trans (h2.mono B5.out.size)); clear h1 h2))
      go_ret
      exact ⟨v9, rfl, by rw [HR.out]; exact ids_of_owns O9.out, B9.out⟩
end Go.Proofs.YtloghkiabgnpnaaDoor
set_option maxRecDepth 20000
namespace Go.Proofs.YtloghkiabgnpnaaDoor
open Go.RowKit Sets
theorem setOf_snoc {l : List (Int × Int)} {k : Nat} (hk : k < l.length) : setOf (l.take (k + 1)) = ins (l[k].1, l[k].2) (setOf (l.take k)) := by
  unfold setOf
  rw [List.take_succ_eq_append_getElem hk, List.foldl_append]
  rfl
theorem setOf_take_len (l : List (Int × Int)) (k : Nat) : (setOf (l.take k)).length ≤ l.length := by
  have h1 := setOf_len (l.take k)
  have h2 : (l.take k).length ≤ l.length := by simp; omega
  omega
set_option maxHeartbeats 1000000 in
theorem refSet_any (v : Value) (l : List (Int × Int)) (w : World) (h : Ids w v l) (hl : l.length ≤ 400000) :
    Calls Tryd.prog 62 #[v] w (Lists (setOf l) w) := by
  have HI := Lib.hid h
  obtain ⟨A, c, rfl, hz⟩ := h
  clear hz
  go_enter Tryd.func62, Tryd.ntmps62
  go_wp2_with fail
  go_loopw [3, 4] (fun s3 s4 wr => ∃ k : Nat, k ≤ l.length ∧ s4 = .int .i64 k ∧ Ids wr s3 (setOf (l.take k)) ∧ Below w.heap.size w wr) (fun _ s4 _ => l.length - (intOf s4).toNat)
  case atStart => exact ⟨0, by omega, rfl, Ids.nil _, Below.refl _ _⟩
  case round =>
    obtain ⟨k, hkl, rfl, ht, hw⟩ := hrel
    have HW := Lib.hid hw
    have HT := Lib.hid ht
    have hz := setOf_take_len l k
    clear hw ht
    have i3 : (0 : Int) ≤ (k : Int) := by omega
    by_cases hlt : k < l.length
    · have hd : decide ((k : Int) < (l.length : Int)) = true := by simp; omega
      have i4 : (k : Int) < (l.length : Int) := by omega
      obtain ⟨ad, rfl, c1, c2⟩ := HI.out.at_ HW.out hlt
      have HS := Lib.hid (setOf_snoc hlt)
      generalize l[k].1 = a at *
      generalize l[k].2 = i at *
      go_wp2_with fail
      refine (refPut_any u3 _ a i _ HT.out (by omega)).mono ?_
      rw [← HS.out]
      rintro e w1 ⟨r, rfl, hi, hb⟩
      have H1 := Lib.hid hi
      have B1 := Lib.hid (below_after HW.out hb (Nat.le_refl _))
      clear hi hb c1 c2
      go_wp2_with fail
      go_roundw
      case rel => exact ⟨k + 1, by omega, by go_num, H1.out, B1.out⟩
      case measure => simp [intOf]; omega
    · have hd : decide ((k : Int) < (l.length : Int)) = false := by simp; omega
      have HE := Lib.hid (show Ids wr u3 (setOf l) by have := HT.out; rwa [List.take_of_length_le (by omega)] at this)
      go_wp2_with fail
      go_ret
      exact ⟨_, rfl, HE.out, HW.out⟩
end Go.Proofs.YtloghkiabgnpnaaDoor
set_option maxRecDepth 20000
namespace Go.Proofs.YtloghkiabgnpnaaDoor
open Go.RowKit
theorem info23 : (Tryd.prog.info? 32).map (fun i => (i.zero, i.size, i.bytes)) = some (some (.agg #[.int .i64 0, .int .i64 0]), 2, 16) := by kernel_rfl
/-- append of a list to a slice of the call's own. -/
theorem wpList_append_listROW {ops : Array Oper} {rest : List Oper} {o : Oper} {a : Act} {Q : Exit → Act → World → Prop} (hgd : o.guard = none) (s x : Operand)
    (ho : o.op = .call { callee := .builtin .append, args := #[s, x], argTypes := #[25, 25] })
    (wr : World) (base : Nat) (v u : Value) (d l : List (Int × Int)) (hs : a.eval s = v) (hx : a.eval x = u)
    (hown : Owns wr base v d) (hI : Ids wr u l) (hl : d.length + l.length ≤ 1000000) (hb : base ≤ wr.heap.size)
    (h : ∀ v' w', Owns w' base v' (d ++ l) → Below base wr w' → wpList Tryd.prog ops Q rest (a.put o.dst v') w') :
    wpList Tryd.prog ops Q (o :: rest) a wr := by
  obtain ⟨i0, hi, hz0, hz1, hz2⟩ := info_parts info23
  obtain ⟨A, c, rfl, h0, hc, hk⟩ := hI
  cases A with
  | none =>
    obtain rfl := h0 rfl
    have hn : l = [] := List.eq_nil_of_length_eq_zero (by omega)
    subst hn
    refine wpList_append_own_none hgd s x 25 ho base 32 i0 2 Tryd.underlying25 hi _ d.length (flat d) hs hown hx (h _ _ (by rw [List.append_nil]; exact hown) (Below.refl _ _))
  | some ad =>
    refine wpList_append_own _ hgd s x 25 ho base 32 i0 (.agg #[.int .i64 0, .int .i64 0]) 2 16 Tryd.underlying25 hi hz0 hz1 hz2 rfl (by decide) v d.length (flat d) hs hown ad l.length c (flat l) hx (flat_len l)
      (fun j u hu => ?_) (flat_one l) (by unfold maxLen; omega) (by omega) hb ?_
    · obtain ⟨k, hlt, hj⟩ := flat_split hu
      obtain ⟨ad', e, h1, h2, h3⟩ := hk k hlt
      injection e with e
      subst e
      rcases hj with ⟨rfl, rfl⟩ | ⟨rfl, rfl⟩
      · exact h2
      · rw [add_odd]
        exact h3
    · intro v' w' h1 h2 _
      refine h v' w' ?_ ((Below.refl base wr).grown h2 hb fun k hk => (World.ownsRow.lt hown k hk).1)
      unfold Owns
      rw [flat_append, List.length_append]
      exact h1
/-- append of one ID that has just been put into a row of its own. -/
theorem wpList_append_oneROW {ops : Array Oper} {rest : List Oper} {o : Oper} {a : Act} {Q : Exit → Act → World → Prop} (hgd : o.guard = none) (s x : Operand)
    (ho : o.op = .call { callee := .builtin .append, args := #[s, x], argTypes := #[25, 25] })
    (wr : World) (base : Nat) (v : Value) (d : List (Int × Int)) (p q : Int) (hs : a.eval s = v) (hx : a.eval x = .slice (some ⟨wr.heap.size, 0, none⟩) 1 1)
    (hown : Owns wr base v d) (hl : d.length ≤ 999999) (hb : base ≤ wr.heap.size)
    (h : ∀ v' w', Owns w' base v' (d ++ [(p, q)]) → Below base wr w' → wpList Tryd.prog ops Q rest (a.put o.dst v') w') :
    wpList Tryd.prog ops Q (o :: rest) a (wr.alloc (.cells #[.int .i64 p, .int .i64 q] 32)) := by
  refine wpList_append_listROW hgd s x ho _ base v _ d [(p, q)] hs hx (hown.below ((Below.refl _ _).alloc (Nat.le_refl _) _)) (ids_one wr p q) (by simp; omega) (by simp; omega) fun v' w' h1 h2 => h v' w' h1 ?_
  exact ((Below.refl base wr).alloc hb _).trans h2
/-- make of a list, empty, with room for n IDs. -/
theorem wpList_make_roomROW {ops : Array Oper} {rest : List Oper} {o : Oper} {a : Act} {Q : Exit → Act → World → Prop} (w : World) (hgd : o.guard = none) (x : Operand) (hop : o.op = .makeSlice 25 (.const (.int .i64 0)) x) (C : Int) (hx : a.eval x = .int .i64 C) (h0 : 0 ≤ C) (hn : C ≤ 1000000)
    (h : ∀ v' w', Owns w' w.heap.size v' [] → Below w.heap.size w w' → wpList Tryd.prog ops Q rest (a.put o.dst v') w') : wpList Tryd.prog ops Q (o :: rest) a w := by
  obtain ⟨i0, hi, hz0, hz1, hz2⟩ := info_parts info23
  obtain ⟨n, rfl⟩ := Int.eq_ofNat_of_zero_le h0
  exact wpList_make_own w hgd _ x 25 hop w.heap.size 32 i0 (.agg #[.int .i64 0, .int .i64 0]) 2 Tryd.underlying25 hi hz0 hz1 .i64 .i64 n n rfl hx rfl (by rw [hz2]; omega) (by unfold maxLen; omega) (Nat.le_refl _)
    fun w' h1 h2 => h _ w' h1 ((Below.refl w.heap.size w).grown h2 (Nat.le_refl _) (fun k hk => by cases hk))
end Go.Proofs.YtloghkiabgnpnaaDoor
set_option maxRecDepth 20000
namespace Go.Proofs.YtloghkiabgnpnaaDoor
open Go.RowKit
theorem elem24 : Tryd.prog.elem 25 = 32 := by kernel_rfl
theorem size23 (W : World) : (sizeOf 32).run Tryd.prog W = .ok 2 W := by kernel_rfl
theorem under24 : Tryd.prog.underlying 25 = some (.slice (Tryd.prog.elem 25)) := by rw [elem24]; exact Tryd.underlying25
/-- What stands from place k on. -/
theorem run_fromROW {w : World} {v : Value} {l : List (Int × Int)} (h : Ids w v l) (k : Nat) (hk : k ≤ l.length) :
    ∃ V, (∀ W, (Instr.slice 25 v (some (.int .i64 (k : Int))) none none).run Tryd.prog W = .ok V W) ∧ Ids w V (l.drop k) := by
  obtain ⟨A, c, rfl, h0, hc, hx⟩ := id h
  refine ⟨sliced A k l.length c 2, fun W => ?_, ?_⟩
  · rw [run_slice_l (w := W) (P := Tryd.prog) 25 A l.length c under24 .i64 (k : Int) (by omega) (by omega)]
    rw [elem24, size23]
    rfl
  · have := h.sliced hk (Nat.le_refl _)
    rwa [List.take_length] at this
/-- What stands ahead of place k. -/
theorem run_toROW {w : World} {v : Value} {l : List (Int × Int)} (h : Ids w v l) (k : Nat) (hk : k ≤ l.length) :
    ∃ V, (∀ W, (Instr.slice 25 v none (some (.int .i64 (k : Int))) none).run Tryd.prog W = .ok V W) ∧ Ids w V (l.take k) := by
  obtain ⟨A, c, rfl, h0, hc, hx⟩ := id h
  refine ⟨sliced A 0 k c 2, fun W => ?_, ?_⟩
  · rw [run_slice_h (w := W) (P := Tryd.prog) 25 A l.length c under24 .i64 (k : Int) (by omega) (by omega)]
    rw [elem24, size23]
    rfl
  · exact h.sliced (Nat.zero_le _) hk
/-- All but the first one of a list. -/
theorem run_tailROW {w : World} {v : Value} {x : Int × Int} {l : List (Int × Int)} (h : Ids w v (x :: l)) :
    ∃ V, (∀ W, (Instr.slice 25 v (some (.int .i64 1)) none none).run Tryd.prog W = .ok V W) ∧ Ids w V l := run_fromROW h 1 (by simp)
end Go.Proofs.YtloghkiabgnpnaaDoor
set_option maxRecDepth 20000
namespace Go.Proofs.YtloghkiabgnpnaaDoor
open Go.RowKit
set_option maxHeartbeats 2000000 in
theorem merged_new (K : Nat) (k : Bool → Bool → Bool) (hK : Keeps K k) (v u : Value) (l m : List (Int × Int)) (w : World) (h : Ids w v l) (h2 : Ids w u m) (hl : l.length ≤ 400000) (hm : m.length ≤ 400000) :
    Calls Tryd.prog 63 #[v, u, .func (.func 43) #[] #[], .func (.func K) #[] #[]] w fun e w' => ∃ v', e = .returned v' ∧ Owns w' w.heap.size v' (mrg k l m) ∧ Below w.heap.size w w' := by
  obtain ⟨A, c, rfl, hz⟩ := id h
  obtain ⟨B, d, rfl, hz2⟩ := id h2
  clear hz hz2
  have HI := Lib.hid h
  have HJ := Lib.hid h2
  have HK := Lib.hid hK
  clear h h2 hK
  go_enter Tryd.func63, Tryd.ntmps63
  go_wp2_with (at_make; refine wpList_make_roomROW _ rfl (.tmp 18) rfl _ rfl (by omega) (by omega) ?_; intro v1 w1 h1 h2)
  have HO := Lib.hid h1
  have HW := Lib.hid h2
  clear h1 h2
  go_loopw [0, 1, 9] (fun s0 s1 s9 wr => ∃ lk mk d, Ids w s0 lk ∧ Ids w s1 mk ∧ Owns wr w.heap.size s9 d ∧ d ++ mrg k lk mk = mrg k l m ∧ lk.length + mk.length + d.length ≤ l.length + m.length ∧ Below w.heap.size w wr) (fun s0 s1 _ _ => lenOf s0 + lenOf s1)
  case atStart => exact ⟨l, m, [], HI.out, HJ.out, HO.out, rfl, by simp, HW.out⟩
  case round =>
    obtain ⟨lk, mk, d, h0, h1, ho, he, hd, hw⟩ := hrel
    have H0 := Lib.hid h0
    have H1 := Lib.hid h1
    have H9 := Lib.hid ho
    have HE := Lib.hid he
    have HB := Lib.hid hw
    clear ho he hw
    by_cases hn : lk = [] ∧ mk = []
    · obtain ⟨rfl, rfl⟩ := hn
      obtain ⟨A0, c0, rfl, _⟩ := h0
      obtain ⟨A1, c1, rfl, _⟩ := h1
      go_wp2_with fail
      go_ret
      exact ⟨_, rfl, by have := HE.out; rw [mrg_none, List.append_nil] at this; rw [← this]; exact H9.out, HB.out⟩
    · have hh := heads lk mk hn
      have HF := Lib.hid fun W (hb : Below w.heap.size w W) => first_any u0 u1 lk mk W (H0.out.below hb) (H1.out.below hb) (by omega) (by omega)
      rcases hh with ⟨x, l', rfl, e⟩ | ⟨x, l', y, m', rfl, rfl, e⟩ | ⟨x, l', y, m', rfl, rfl, e⟩ | ⟨y, m', rfl, rfl, e⟩
      · rw [e] at HF
        obtain ⟨ad, c0, rfl, hc⟩ := h0.head
        have HC := Lib.hid hc
        obtain ⟨V, ht, hv⟩ := run_tailROW H0.out
        have HT := Lib.hid hv
        have HN := Lib.hid hv.len
        obtain ⟨A1, c1, rfl, hx1⟩ := id h1
        clear hc hv hx1
        have HM := Lib.hid (mrg_left (k := k) e)
        have hK := keeps_enter HK.out
        clear h0 h1 e hn
        go_wp2_with fail
        (with_reducible refine (HF.out _ HB.out).mono ?_)
        rintro e w2 ⟨rfl, hb⟩
        have B2 := Lib.hid (below_after HB.out hb (Nat.le_refl _))
        have O2 := Lib.hid (H9.out.below hb)
        clear hb
        go_wp2_with fail
        have X3 := Lib.hid (box_new w2 0 0)
        have B3 := Lib.hid (B2.out.alloc B2.out.size (.cells #[.int .i64 0, .int .i64 0] 32))
        have O3 := Lib.hid (O2.out.below ((Below.refl w2.heap.size w2).alloc (Nat.le_refl _) (.cells #[.int .i64 0, .int .i64 0] 32)))
        have G3 := Lib.hid B2.out.size
        have Q3 := Lib.hid (owns_apart O2.out)
        generalize w2.alloc (.cells #[.int .i64 0, .int .i64 0] 32) = w3 at *
        generalize w2.heap.size = g at *
        obtain ⟨p1, p2⟩ := HC.out w3 B3.out
        obtain ⟨p3, p4⟩ := box_cells X3.out
        obtain ⟨p5, p6⟩ := box_free X3.out
        go_region
        clear p1 p2 p3 p4 p5 p6
        have X4 := Lib.hid (show Box ((w3.setCell ⟨g, 0, none⟩ (.int .i64 x.1)).setCell ⟨g, 1, none⟩ (.int .i64 x.2)).drew g x.1 x.2 from box_set X3.out x.1 x.2)
        have B4 := Lib.hid (show Below w.heap.size w ((w3.setCell ⟨g, 0, none⟩ (.int .i64 x.1)).setCell ⟨g, 1, none⟩ (.int .i64 x.2)).drew from ((B3.out.setCell G3.out _).setCell G3.out _).drew)
        have O4 := Lib.hid (show Owns ((w3.setCell ⟨g, 0, none⟩ (.int .i64 x.1)).setCell ⟨g, 1, none⟩ (.int .i64 x.2)).drew w.heap.size u9 d from owns_set O3.out Q3.out x.1 x.2)
        generalize ((w3.setCell ⟨g, 0, none⟩ (.int .i64 x.1)).setCell ⟨g, 1, none⟩ (.int .i64 x.2)).drew = w4 at *
        go_wp2_with fail
        (with_reducible refine (keeps_any HK.out _ _ _).mono ?_)
        rintro e w9 ⟨rfl, rfl⟩
        obtain ⟨p1, p2⟩ := box_cells X4.out
        cases hkk : k true false
        · have HKK := Lib.hid (show d ++ mrg k l' mk = mrg k l m by rw [← HE.out, HM.out, hkk]; rfl)
          clear hkk hK
          go_wp2_with fail
          clear p1 p2
          go_roundw
          case rel => exact ⟨l', mk, d, HT.out, H1.out, O4.out, HKK.out, by simp at hd ⊢; omega, B4.out⟩
          case measure => simp [HN.out, lenOf_slice]; try omega
        · have HKK := Lib.hid (show (d ++ [(x.1, x.2)]) ++ mrg k l' mk = mrg k l m by rw [← HE.out, HM.out, hkk, List.append_assoc]; rfl)
          clear hkk hK
          go_wp2_with (at_builtin; refine wpList_append_oneROW rfl (.tmp 52) (.tmp 54) rfl w4 w.heap.size u9 d x.1 x.2 rfl rfl O4.out (by simp at hd; omega) B4.out.size ?_; intro v8 w8 h8 h9)
          have O8 := Lib.hid h8
          have B8 := Lib.hid (B4.out.trans h9)
          clear h8 h9 p1 p2
          go_wp2_with fail
          go_roundw
          case rel => exact ⟨l', mk, d ++ [(x.1, x.2)], HT.out, H1.out, O8.out, HKK.out, by simp at hd ⊢; omega, B8.out⟩
          case measure => simp [HN.out, lenOf_slice]; try omega
      · rw [e] at HF
        obtain ⟨ad, c0, rfl, hc⟩ := h0.head
        have HC := Lib.hid hc
        obtain ⟨V, ht, hv⟩ := run_tailROW H0.out
        have HT := Lib.hid hv
        have HN := Lib.hid hv.len
        obtain ⟨ae, c1, rfl, hc2⟩ := h1.head
        have HD := Lib.hid hc2
        obtain ⟨U, ht2, hv2⟩ := run_tailROW H1.out
        have HU := Lib.hid hv2
        have HV := Lib.hid hv2.len
        clear hc hv hc2 hv2
        have HM := Lib.hid (mrg_same (k := k) e)
        have hK := keeps_enter HK.out
        clear h0 h1 e hn
        go_wp2_with fail
        (with_reducible refine (HF.out _ HB.out).mono ?_)
        rintro e w2 ⟨rfl, hb⟩
        have B2 := Lib.hid (below_after HB.out hb (Nat.le_refl _))
        have O2 := Lib.hid (H9.out.below hb)
        clear hb
        go_wp2_with fail
        have X3 := Lib.hid (box_new w2 0 0)
        have B3 := Lib.hid (B2.out.alloc B2.out.size (.cells #[.int .i64 0, .int .i64 0] 32))
        have O3 := Lib.hid (O2.out.below ((Below.refl w2.heap.size w2).alloc (Nat.le_refl _) (.cells #[.int .i64 0, .int .i64 0] 32)))
        have G3 := Lib.hid B2.out.size
        have Q3 := Lib.hid (owns_apart O2.out)
        generalize w2.alloc (.cells #[.int .i64 0, .int .i64 0] 32) = w3 at *
        generalize w2.heap.size = g at *
        obtain ⟨p1, p2⟩ := HC.out w3 B3.out
        obtain ⟨p3, p4⟩ := box_cells X3.out
        obtain ⟨p5, p6⟩ := box_free X3.out
        go_region
        clear p1 p2 p3 p4 p5 p6
        have X4 := Lib.hid (show Box ((w3.setCell ⟨g, 0, none⟩ (.int .i64 x.1)).setCell ⟨g, 1, none⟩ (.int .i64 x.2)).drew g x.1 x.2 from box_set X3.out x.1 x.2)
        have B4 := Lib.hid (show Below w.heap.size w ((w3.setCell ⟨g, 0, none⟩ (.int .i64 x.1)).setCell ⟨g, 1, none⟩ (.int .i64 x.2)).drew from ((B3.out.setCell G3.out _).setCell G3.out _).drew)
        have O4 := Lib.hid (show Owns ((w3.setCell ⟨g, 0, none⟩ (.int .i64 x.1)).setCell ⟨g, 1, none⟩ (.int .i64 x.2)).drew w.heap.size u9 d from owns_set O3.out Q3.out x.1 x.2)
        generalize ((w3.setCell ⟨g, 0, none⟩ (.int .i64 x.1)).setCell ⟨g, 1, none⟩ (.int .i64 x.2)).drew = w4 at *
        go_wp2_with fail
        obtain ⟨p1, p2⟩ := HD.out w4 B4.out
        obtain ⟨p3, p4⟩ := box_cells X4.out
        obtain ⟨p5, p6⟩ := box_free X4.out
        go_region
        clear p1 p2 p3 p4 p5 p6
        have X5 := Lib.hid (show Box ((w4.setCell ⟨g, 0, none⟩ (.int .i64 y.1)).setCell ⟨g, 1, none⟩ (.int .i64 y.2)).drew g y.1 y.2 from box_set X4.out y.1 y.2)
        have B5 := Lib.hid (show Below w.heap.size w ((w4.setCell ⟨g, 0, none⟩ (.int .i64 y.1)).setCell ⟨g, 1, none⟩ (.int .i64 y.2)).drew from ((B4.out.setCell G3.out _).setCell G3.out _).drew)
        have O5 := Lib.hid (show Owns ((w4.setCell ⟨g, 0, none⟩ (.int .i64 y.1)).setCell ⟨g, 1, none⟩ (.int .i64 y.2)).drew w.heap.size u9 d from owns_set O4.out Q3.out y.1 y.2)
        generalize ((w4.setCell ⟨g, 0, none⟩ (.int .i64 y.1)).setCell ⟨g, 1, none⟩ (.int .i64 y.2)).drew = w5 at *
        go_wp2_with fail
        (with_reducible refine (keeps_any HK.out _ _ _).mono ?_)
        rintro e w9 ⟨rfl, rfl⟩
        obtain ⟨p1, p2⟩ := box_cells X5.out
        cases hkk : k true true
        · have HKK := Lib.hid (show d ++ mrg k l' m' = mrg k l m by rw [← HE.out, HM.out, hkk]; rfl)
          clear hkk hK
          go_wp2_with fail
          clear p1 p2
          go_roundw
          case rel => exact ⟨l', m', d, HT.out, HU.out, O5.out, HKK.out, by simp at hd ⊢; omega, B5.out⟩
          case measure => simp [HN.out, HV.out, lenOf_slice]; try omega
        · have HKK := Lib.hid (show (d ++ [(y.1, y.2)]) ++ mrg k l' m' = mrg k l m by rw [← HE.out, HM.out, hkk, List.append_assoc]; rfl)
          clear hkk hK
          go_wp2_with (at_builtin; refine wpList_append_oneROW rfl (.tmp 52) (.tmp 54) rfl w5 w.heap.size u9 d y.1 y.2 rfl rfl O5.out (by simp at hd; omega) B5.out.size ?_; intro v8 w8 h8 h9)
          have O8 := Lib.hid h8
          have B8 := Lib.hid (B5.out.trans h9)
          clear h8 h9 p1 p2
          go_wp2_with fail
          go_roundw
          case rel => exact ⟨l', m', d ++ [(y.1, y.2)], HT.out, HU.out, O8.out, HKK.out, by simp at hd ⊢; omega, B8.out⟩
          case measure => simp [HN.out, HV.out, lenOf_slice]; try omega
      · rw [e] at HF
        obtain ⟨ae, c1, rfl, hc2⟩ := h1.head
        have HD := Lib.hid hc2
        obtain ⟨U, ht2, hv2⟩ := run_tailROW H1.out
        have HU := Lib.hid hv2
        have HV := Lib.hid hv2.len
        obtain ⟨ad, c0, rfl, hc⟩ := h0.head
        clear hc hc2 hv2
        have HM := Lib.hid (mrg_right (k := k) e)
        have hK := keeps_enter HK.out
        clear h0 h1 e hn
        go_wp2_with fail
        (with_reducible refine (HF.out _ HB.out).mono ?_)
        rintro e w2 ⟨rfl, hb⟩
        have B2 := Lib.hid (below_after HB.out hb (Nat.le_refl _))
        have O2 := Lib.hid (H9.out.below hb)
        clear hb
        go_wp2_with fail
        have X3 := Lib.hid (box_new w2 0 0)
        have B3 := Lib.hid (B2.out.alloc B2.out.size (.cells #[.int .i64 0, .int .i64 0] 32))
        have O3 := Lib.hid (O2.out.below ((Below.refl w2.heap.size w2).alloc (Nat.le_refl _) (.cells #[.int .i64 0, .int .i64 0] 32)))
        have G3 := Lib.hid B2.out.size
        have Q3 := Lib.hid (owns_apart O2.out)
        generalize w2.alloc (.cells #[.int .i64 0, .int .i64 0] 32) = w3 at *
        generalize w2.heap.size = g at *
        obtain ⟨p1, p2⟩ := HD.out w3 B3.out
        obtain ⟨p3, p4⟩ := box_cells X3.out
        obtain ⟨p5, p6⟩ := box_free X3.out
        go_region
        clear p1 p2 p3 p4 p5 p6
        have X4 := Lib.hid (show Box ((w3.setCell ⟨g, 0, none⟩ (.int .i64 y.1)).setCell ⟨g, 1, none⟩ (.int .i64 y.2)).drew g y.1 y.2 from box_set X3.out y.1 y.2)
        have B4 := Lib.hid (show Below w.heap.size w ((w3.setCell ⟨g, 0, none⟩ (.int .i64 y.1)).setCell ⟨g, 1, none⟩ (.int .i64 y.2)).drew from ((B3.out.setCell G3.out _).setCell G3.out _).drew)
        have O4 := Lib.hid (show Owns ((w3.setCell ⟨g, 0, none⟩ (.int .i64 y.1)).setCell ⟨g, 1, none⟩ (.int .i64 y.2)).drew w.heap.size u9 d from owns_set O3.out Q3.out y.1 y.2)
        generalize ((w3.setCell ⟨g, 0, none⟩ (.int .i64 y.1)).setCell ⟨g, 1, none⟩ (.int .i64 y.2)).drew = w4 at *
        go_wp2_with fail
        (with_reducible refine (keeps_any HK.out _ _ _).mono ?_)
        rintro e w9 ⟨rfl, rfl⟩
        obtain ⟨p1, p2⟩ := box_cells X4.out
        cases hkk : k false true
        · have HKK := Lib.hid (show d ++ mrg k (x :: l') m' = mrg k l m by rw [← HE.out, HM.out, hkk]; rfl)
          clear hkk hK
          go_wp2_with fail
          clear p1 p2
          go_roundw
          case rel => exact ⟨(x :: l'), m', d, H0.out, HU.out, O4.out, HKK.out, by simp at hd ⊢; omega, B4.out⟩
          case measure => simp [HV.out, lenOf_slice]; try omega
        · have HKK := Lib.hid (show (d ++ [(y.1, y.2)]) ++ mrg k (x :: l') m' = mrg k l m by rw [← HE.out, HM.out, hkk, List.append_assoc]; rfl)
          clear hkk hK
          go_wp2_with (at_builtin; refine wpList_append_oneROW rfl (.tmp 52) (.tmp 54) rfl w4 w.heap.size u9 d y.1 y.2 rfl rfl O4.out (by simp at hd; omega) B4.out.size ?_; intro v8 w8 h8 h9)
          have O8 := Lib.hid h8
          have B8 := Lib.hid (B4.out.trans h9)
          clear h8 h9 p1 p2
          go_wp2_with fail
          go_roundw
          case rel => exact ⟨(x :: l'), m', d ++ [(y.1, y.2)], H0.out, HU.out, O8.out, HKK.out, by simp at hd ⊢; omega, B8.out⟩
          case measure => simp [HV.out, lenOf_slice]; try omega
      · rw [e] at HF
        obtain ⟨ae, c1, rfl, hc2⟩ := h1.head
        have HD := Lib.hid hc2
        obtain ⟨U, ht2, hv2⟩ := run_tailROW H1.out
        have HU := Lib.hid hv2
        have HV := Lib.hid hv2.len
        obtain ⟨A0, c0, hv0, hx0⟩ := id h0
        obtain rfl : u0 = .slice A0 0 c0 := hv0
        clear hc2 hv2 hx0
        have HM := Lib.hid (mrg_right (k := k) e)
        have hK := keeps_enter HK.out
        clear h0 h1 e hn
        go_wp2_with fail
        (with_reducible refine (HF.out _ HB.out).mono ?_)
        rintro e w2 ⟨rfl, hb⟩
        have B2 := Lib.hid (below_after HB.out hb (Nat.le_refl _))
        have O2 := Lib.hid (H9.out.below hb)
        clear hb
        go_wp2_with fail
        have X3 := Lib.hid (box_new w2 0 0)
        have B3 := Lib.hid (B2.out.alloc B2.out.size (.cells #[.int .i64 0, .int .i64 0] 32))
        have O3 := Lib.hid (O2.out.below ((Below.refl w2.heap.size w2).alloc (Nat.le_refl _) (.cells #[.int .i64 0, .int .i64 0] 32)))
        have G3 := Lib.hid B2.out.size
        have Q3 := Lib.hid (owns_apart O2.out)
        generalize w2.alloc (.cells #[.int .i64 0, .int .i64 0] 32) = w3 at *
        generalize w2.heap.size = g at *
        obtain ⟨p1, p2⟩ := HD.out w3 B3.out
        obtain ⟨p3, p4⟩ := box_cells X3.out
        obtain ⟨p5, p6⟩ := box_free X3.out
        go_region
        clear p1 p2 p3 p4 p5 p6
        have X4 := Lib.hid (show Box ((w3.setCell ⟨g, 0, none⟩ (.int .i64 y.1)).setCell ⟨g, 1, none⟩ (.int .i64 y.2)).drew g y.1 y.2 from box_set X3.out y.1 y.2)
        have B4 := Lib.hid (show Below w.heap.size w ((w3.setCell ⟨g, 0, none⟩ (.int .i64 y.1)).setCell ⟨g, 1, none⟩ (.int .i64 y.2)).drew from ((B3.out.setCell G3.out _).setCell G3.out _).drew)
        have O4 := Lib.hid (show Owns ((w3.setCell ⟨g, 0, none⟩ (.int .i64 y.1)).setCell ⟨g, 1, none⟩ (.int .i64 y.2)).drew w.heap.size u9 d from owns_set O3.out Q3.out y.1 y.2)
        generalize ((w3.setCell ⟨g, 0, none⟩ (.int .i64 y.1)).setCell ⟨g, 1, none⟩ (.int .i64 y.2)).drew = w4 at *
        go_wp2_with fail
        (with_reducible refine (keeps_any HK.out _ _ _).mono ?_)
        rintro e w9 ⟨rfl, rfl⟩
        obtain ⟨p1, p2⟩ := box_cells X4.out
        cases hkk : k false true
        · have HKK := Lib.hid (show d ++ mrg k [] m' = mrg k l m by rw [← HE.out, HM.out, hkk]; rfl)
          clear hkk hK
          go_wp2_with fail
          clear p1 p2
          go_roundw
          case rel => exact ⟨[], m', d, H0.out, HU.out, O4.out, HKK.out, by simp at hd ⊢; omega, B4.out⟩
          case measure => simp [HV.out, lenOf_slice]; try omega
        · have HKK := Lib.hid (show (d ++ [(y.1, y.2)]) ++ mrg k [] m' = mrg k l m by rw [← HE.out, HM.out, hkk, List.append_assoc]; rfl)
          clear hkk hK
          go_wp2_with (at_builtin; refine wpList_append_oneROW rfl (.tmp 52) (.tmp 54) rfl w4 w.heap.size u9 d y.1 y.2 rfl rfl O4.out (by simp at hd; omega) B4.out.size ?_; intro v8 w8 h8 h9)
          have O8 := Lib.hid h8
          have B8 := Lib.hid (B4.out.trans h9)
          clear h8 h9 p1 p2
          go_wp2_with fail
          go_roundw
          case rel => exact ⟨[], m', d ++ [(y.1, y.2)], H0.out, HU.out, O8.out, HKK.out, by simp at hd ⊢; omega, B8.out⟩
          case measure => simp [HV.out, lenOf_slice]; try omega
end Go.Proofs.YtloghkiabgnpnaaDoor
