/-
  PROVED HERE: for any numbers, any list, any ID and any text, CodeBack of package coveylaw02 returns true and leaves its arguments as they were: what was written is read, one behind the other, whatever stands behind it; and then that is left. No condition.
-/
import Derived.Test.YtmmpnnpkfghhcaaNums
import Derived.Deep.DeepCutAuto
namespace Go.Proofs.Ytmmpnnpkfghhcaa
open Go.RowKit
theorem num_at (s : ByteArray) (n : Int) (w : World) (hs : s.size ≤ 100000) (hg : good n = true) : Calls Try.prog 9 #[.string s, .int .i64 n] w fun e w' => e = .returned (.tuple #[.string (s ++ bs (encI n)), .int .i64 0]) ∧ Below w.heap.size w w' :=
  num_yes n w (good_yes hg).1 (good_yes hg).2 s (by omega)
theorem rNum_enc (g : Nat) (n : Int) (t : List UInt8) (w : World) (h0 : 0 ≤ n) (h1 : n ≤ 1099511627776) (hr : Rdr w g (encI n ++ t) 0) :
    Calls Try.prog 17 #[.pointer (some ⟨g, 0, none⟩)] w fun e w' => e = .returned (.tuple #[.int .i64 n, .int .i64 0]) ∧ w.grownBy w' (some g) ∧ Rdr w' g t 0 :=
  (rNum_is g 0 _ _ w hr (numS_enc n t h0 h1)).mono fun e w' ⟨he, hg, hr⟩ => ⟨by rw [he, Int.toNat_of_nonneg h0]; rfl, hg, hr⟩
theorem rID_enc (g : Nat) (a i : Int) (t : List UInt8) (w : World) (hv : vid a i = true) (hr : Rdr w g (encID (a, i) ++ t) 0) :
    Calls Try.prog 19 #[.pointer (some ⟨g, 0, none⟩)] w fun e w' => e = .returned (.tuple #[.agg #[.int .i64 a, .int .i64 i], .int .i64 0]) ∧ w.grownBy w' (some g) ∧ Rdr w' g t 0 :=
  (rID_is g _ _ w hr (idP_enc a i t hv)).mono fun e w' ⟨he, hg, hr⟩ => ⟨by
    have := vid_yes hv
    rw [he, Int.toNat_of_nonneg (by omega), Int.toNat_of_nonneg (by omega)]; rfl, hg, hr⟩
theorem rIDs_enc (g : Nat) (l : List (Int × Int)) (t : List UInt8) (w : World) (hl : l.length ≤ 64) (ha : allVid l = true) (hb : risesB l = true) (hr : Rdr w g (encIDs l ++ t) 0) :
    Calls Try.prog 18 #[.pointer (some ⟨g, 0, none⟩)] w (TookIDs g (l, 0, t) w) := rIDs_is g _ l 0 t w hr (idsP_enc l t hl ha hb)
theorem rEnd_now (g : Nat) (l : List UInt8) (w : World) (hr : Rdr w g l 0) :
    Calls Try.prog 21 #[.pointer (some ⟨g, 0, none⟩)] w fun e w' => e = .returned (.int .i64 ((if l = [] then 0 else 4 : Nat) : Int)) ∧ w.grownBy w' (some g) :=
  (rEnd_any g 0 l w hr).mono fun _ _ ⟨he, hg, _⟩ => ⟨he, hg⟩
theorem listOk_yes {l : List (Int × Int)} (h : listOk l = true) : l.length ≤ 64 ∧ allVid l = true ∧ risesB l = true ∧ outL l = encIDs l ∧ errL l = 0 := by
  have h1 : outL l = encIDs l := if_pos h
  have h2 : errL l = 0 := if_pos h
  unfold listOk at h
  simp at h
  exact ⟨h.1, h.2.1, h.2.2, h1, h2⟩
theorem listOk_no {l : List (Int × Int)} (h : listOk l = false) : outL l = [] ∧ errL l ≠ 0 := by
  constructor
  · unfold outL
    rw [h]
    rfl
  · unfold errL
    rw [h, if_neg (by decide)]
    split <;> decide
theorem drop_step {K : List Int} {k : Nat} (h : k < K.length) (T : List UInt8) : (K.drop k).flatMap encI ++ T = encI K[k] ++ ((K.drop (k + 1)).flatMap encI ++ T) := by
  rw [List.drop_eq_getElem_cons h, List.flatMap_cons, List.append_assoc]
theorem below_last {w w6 w9 : World} {g : Nat} (h : Below w.heap.size w w6) (k : Below g w6 w9) (e : w6.heap.size = g) : Below w.heap.size w w9 := h.trans (k.mono (by have := h.size; omega))
theorem nums_cell {w w' : World} {ad : Addr} {c n : Nat} {l : List Int} (h : Nums w (.slice (some ad) n c) l) (hw : Below w.heap.size w w') {k : Nat} (hk : k < l.length) : w'.cell? (ad.add k) = some (.int .i64 l[k]) := by
  obtain ⟨a, e, h1⟩ := h.at_ hw hk
  injection e with e
  rw [e]
  exact h1
set_option maxHeartbeats 2000000 in
set_option maxRecDepth 100000 in
theorem back_small (v : Value) (xs : List Int) (u : Value) (l : List (Int × Int)) (a i : Int) (t : ByteArray) (w : World) (hN : Nums w v xs) (hI : Ids w u l) (hx : xs.length ≤ 100) (hl : l.length ≤ 200) (ht : t.size ≤ 1000) :
    Calls Try.prog 4 #[v, u, .agg #[.int .i64 a, .int .i64 i], .string t] w fun e w' => e = .returned (.bool true) ∧ Below w.heap.size w w' := by
  obtain ⟨A, c, rfl, hz⟩ := id hN
  obtain ⟨A2, c2, rfl, hz2⟩ := id hI
  clear hz hz2
  have HN := Lib.hid hN
  have HI := Lib.hid hI
  have HX := Lib.hid (box_new w a i)
  have B0 := Lib.hid ((Below.refl w.heap.size w).alloc (Nat.le_refl _) (.cells #[.int .i64 a, .int .i64 i] 23))
  clear hN hI
  have d1 : decide ((100 : Int) < (xs.length : Int)) = false := by simp; omega
  have d2 : decide ((200 : Int) < (l.length : Int)) = false := by simp; omega
  have d3 : decide ((1000 : Int) < (t.size : Int)) = false := by simp; omega
  go_enter Try.func4, Try.ntmps4
  go_wp2_with fail
  generalize w.alloc (.cells #[.int .i64 a, .int .i64 i] 23) = w0 at *
  refine (awake_any _).mono ?_
  rintro e w1 ⟨rfl, h⟩
  have B1 := Lib.hid (below_after B0.out h (Nat.le_refl _))
  have X1 := Lib.hid (box_below HX.out h)
  have N1 := Lib.hid (HN.out.below B1.out)
  have I1 := Lib.hid (HI.out.below B1.out)
  clear h HN HI HX
  go_wp2_with fail
  clear d1 d2 d3
  go_loopw [9, 10, 11] (fun s9 s10 s11 wr => ∃ (k : Nat) (q : ByteArray), k ≤ xs.length ∧ s11 = .int .i64 k ∧ s9 = .string q ∧ q = bs (encK (xs.take k)) ∧ OwnsN wr w1.heap.size s10 (kept (xs.take k)) ∧ Below w1.heap.size w1 wr) (fun _ _ s11 _ => xs.length - (intOf s11).toNat)
  case atStart => exact ⟨0, _, by omega, rfl, rfl, rfl, ownsN_nil _ _, Below.refl _ _⟩
  case round =>
    obtain ⟨k, q, hk, rfl, rfl, hq, ho, hw⟩ := hrel
    have HQ := Lib.hid hq
    have HO := Lib.hid ho
    have HW := Lib.hid hw
    have hz : q.size ≤ 600 := by
      rw [hq, bs_size]
      have h1 := encK_len (xs.take k)
      have h2 : (xs.take k).length ≤ xs.length := by simp; omega
      omega
    clear hq ho hw
    by_cases hlt : k < xs.length
    · have hd : decide ((k : Int) < (xs.length : Int)) = true := by simp; omega
      obtain ⟨ad, rfl, c1⟩ := N1.out.at_ HW.out hlt
      have HCell := Lib.hid fun w' hb => nums_cell (w' := w') N1.out hb hlt
      cases hg : good xs[k]
      · have G := Lib.hid (good_no hg)
        have HK := Lib.hid (kept_no hlt hg)
        have HE := Lib.hid (encK_no hlt hg)
        clear hg
        generalize xs[k] = n at *
        go_wp2_with fail
        refine (numB n _ G.out _).mono ?_
        rintro e w2 ⟨rfl, rfl⟩
        rcases G.out with hn | hn
        · have hn2 : ¬ 0 ≤ n := by omega
          go_wp2_with fail
          go_roundw
          case rel => exact ⟨k + 1, q, by omega, by go_num, rfl, by rw [HE.out]; exact HQ.out, by rw [HK.out]; exact HO.out, HW.out⟩
          case measure => simp [intOf]; omega
        · have hn2 : 0 ≤ n := by omega
          have hn3 : ¬ n ≤ 1099511627776 := by omega
          go_wp2_with fail
          go_roundw
          case rel => exact ⟨k + 1, q, by omega, by go_num, rfl, by rw [HE.out]; exact HQ.out, by rw [HK.out]; exact HO.out, HW.out⟩
          case measure => simp [intOf]; omega
      · have HK := Lib.hid (kept_yes hlt hg)
        have HE := Lib.hid (encK_yes hlt hg)
        obtain ⟨hn1, hn2⟩ := good_yes hg
        have hlen := kept_len (xs.take k)
        have htk : (xs.take k).length ≤ xs.length := by simp; omega
        generalize xs[k] = n at *
        have HA := Lib.hid (num_at q n wr (by omega) hg)
        clear hg
        go_wp2_with fail
        refine HA.out.mono ?_
        rintro e w2 ⟨rfl, h⟩
        have W2 := Lib.hid (below_after HW.out h (Nat.le_refl _))
        have O2 := Lib.hid (OwnsN.below HO.out h)
        clear h c1
        have c1 := HCell.out _ W2.out
        have HP := Lib.hid W2.out.size
        go_wp2_with (at_builtin; refine wpList_pushN rfl (.tmp 61) (.tmp 66) rfl w2 w1.heap.size _ _ n rfl rfl O2.out (by omega) HP.out ?_; intro v3 w3 h1 h2; have c3 := HCell.out _ (W2.out.trans h2); have W3 := Lib.hid (W2.out.trans h2); have O3 := Lib.hid h1; clear h1 h2)
        go_roundw
        case rel => exact ⟨k + 1, _, by omega, by go_num, rfl, by rw [HE.out, HQ.out, bs_join], by rw [HK.out]; exact O3.out, W3.out⟩
        case measure => simp [intOf]; omega
    · obtain rfl : k = xs.length := by omega
      have hd : decide ((xs.length : Int) < (xs.length : Int)) = false := by simp
      rw [List.take_length] at HQ HO
      have HKG := Lib.hid fun (k : Nat) (h : k < (kept xs).length) => kept_good h
      have HKE := Lib.hid (show encK xs = (kept xs).flatMap encI from rfl)
      have HKL := kept_len xs
      generalize hK : kept xs = K at *
      have HKK := Lib.hid hK
      clear hK
      have W4 := Lib.hid (B1.out.trans (HW.out.mono B1.out.size))
      have n4 := nums_of_owns HO.out
      obtain ⟨A3, c3, hu, hz9⟩ := id n4
      clear hz9
      subst hu
      have N4 := Lib.hid n4
      clear n4
      have I4 := Lib.hid (I1.out.below HW.out)
      have X4 := Lib.hid (box_below X1.out HW.out)
      clear HO N1 I1 X1 HW B1 B0 hd
      have hd : decide ((xs.length : Int) < (xs.length : Int)) = false := by simp
      have HL := Lib.hid (ids_gen q _ l _ I4.out (by omega))
      go_wp2_with fail
      refine HL.out.mono ?_
      rintro e w5 ⟨rfl, h⟩
      have W5 := Lib.hid (below_after W4.out h (Nat.le_refl _))
      have N5 := Lib.hid (N4.out.below h)
      have I5 := Lib.hid (I4.out.below h)
      have X5 := Lib.hid (box_below X4.out h)
      clear h HL W4 N4 I4 X4
      obtain ⟨b0, b1⟩ := box_cells X5.out
      have hz2 := outL_len l
      have hz3 := outI_len a i
      have hq2 : (q ++ bs (outL l)).size ≤ 2000 := by rw [text_size]; omega
      have HID := Lib.hid (id_gen (q ++ bs (outL l)) a i w5 (by omega))
      have hq3 : (q ++ bs (outL l) ++ bs (outI a i)).size ≤ 3000 := by rw [text_size]; omega
      have HT := Lib.hid (show q ++ bs (outL l) ++ bs (outI a i) ++ t = bs ((K.drop 0).flatMap encI ++ (outL l ++ (outI a i ++ t.data.toList))) by
        rw [List.drop_zero, ← HKE.out, HQ.out, bs_join, bs_join]
        exact WideShapes.bytes_inj (by simp [bs]))
      clear hz2 hz3
      generalize q ++ bs (outL l) ++ bs (outI a i) = q3 at *
      go_wp2_with fail
      refine HID.out.mono ?_
      rintro e w6 ⟨rfl, h⟩
      have W6 := Lib.hid (below_after W5.out h (Nat.le_refl _))
      have N6 := Lib.hid (N5.out.below h)
      have I6 := Lib.hid (I5.out.below h)
      have X6 := Lib.hid (box_below X5.out h)
      clear h HID W5 N5 I5 X5 b0 b1
      go_wp2_with fail
      refine (open_any _ _).mono ?_
      rintro e w7 ⟨rfl, rfl⟩
      have R7 := Lib.hid (rdr_text w6 HT.out)
      have G7 := Lib.hid ((Below.refl w6.heap.size w6).alloc (Nat.le_refl _) (.cells #[.string (q3 ++ t), .int .i64 0] 57))
      generalize w6.alloc (.cells #[.string (q3 ++ t), .int .i64 0] 57) = w7 at *
      generalize hg : w6.heap.size = g at *
      have HGE := Lib.hid hg
      clear hg
      clear HT hz hq2 hq3 hd hk
      go_wp2_with fail
      go_loopw [19] (fun s19 wr => ∃ k : Nat, k ≤ K.length ∧ s19 = .int .i64 k ∧ Rdr wr g ((K.drop k).flatMap encI ++ (outL l ++ (outI a i ++ t.data.toList))) 0 ∧ Below g w6 wr) (fun s19 _ => K.length - (intOf s19).toNat)
      case atStart => exact ⟨0, by omega, rfl, R7.out, G7.out⟩
      case round =>
        obtain ⟨k, hk, rfl, hr, hb⟩ := hrel
        have HR := Lib.hid hr
        have HB := Lib.hid hb
        clear hr hb
        by_cases hlt : k < K.length
        · have hd : decide ((k : Int) < (K.length : Int)) = true := by simp; omega
          have HBW := Lib.hid (show Below w6.heap.size w6 wr by rw [HGE.out]; exact HB.out)
          obtain ⟨ad, rfl, _⟩ := N6.out.at_ HBW.out hlt
          have HCell := Lib.hid fun w' hb => nums_cell (w' := w') N6.out hb hlt
          obtain ⟨hn1, hn2⟩ := HKG.out k hlt
          have HR2 := HR.out
          rw [drop_step hlt] at HR2
          generalize K[k] = n at *
          have HNum := Lib.hid (rNum_enc g n _ wr hn1 hn2 HR2)
          clear HR2
          go_wp2_with fail
          refine HNum.out.mono ?_
          rintro e w8 ⟨rfl, hg, hr⟩
          have R8 := Lib.hid hr
          have B8 := Lib.hid (HB.out.grown hg (by have := HB.out.size; have := HGE.out; omega) (fun k hk => by injection hk; omega))
          have c1 := HCell.out w8 (by rw [HGE.out]; exact B8.out)
          clear hg hr
          go_wp2_with fail
          go_roundw
          case rel => exact ⟨k + 1, by omega, by go_num, R8.out, B8.out⟩
          case measure => simp [intOf]; omega
        · have hd : decide ((k : Int) < (K.length : Int)) = false := by simp; omega
          have R9 := Lib.hid (show Rdr wr g (outL l ++ (outI a i ++ t.data.toList)) 0 by
            have := HR.out
            rw [List.drop_eq_nil_of_le (by omega)] at this
            exact this)
          clear HR
          go_upto_if 131 with fail
          go_cut [8] (fun _ wx => Hid (Rdr wx g (outI a i ++ t.data.toList) 0) ∧ Hid (Below g w6 wx))
          case first =>
            cases hok : listOk l
            · obtain ⟨e1, e2⟩ := listOk_no hok
              have de : ((errL l : Int) == 0) = false := by simp; omega
              have R10 := Lib.hid (show Rdr wr g (outI a i ++ t.data.toList) 0 by have := R9.out; rw [e1] at this; exact this)
              clear e1 e2
              go_wp2_with fail
              go_meet
              exact ⟨R10, HB⟩
            · obtain ⟨e1, e2, e3, e4, e5⟩ := listOk_yes hok
              have de : ((errL l : Int) == 0) = true := by simp; omega
              have HIDs := Lib.hid (rIDs_enc g l (outI a i ++ t.data.toList) wr e1 e2 e3 (by have := R9.out; rw [e4] at this; exact this))
              clear e2 e3 e4 e5
              go_wp2_with fail
              refine HIDs.out.mono ?_
              rintro e w8 ⟨v8, rfl, hg, hr, hi⟩
              have R10 := Lib.hid hr
              have J8 := Lib.hid (hi rfl)
              have B8 := Lib.hid (HB.out.grown hg (by have := HB.out.size; have := HGE.out; omega) (fun k hk => by injection hk; omega))
              have I8 := Lib.hid (I6.out.below (by rw [HGE.out]; exact B8.out))
              clear hg hr hi
              go_wp2_with fail
              refine (same_any _ _ l _ J8.out I8.out (by omega)).mono ?_
              rintro e w9 ⟨rfl, h⟩
              have R11 := Lib.hid (rdr_below R10.out h)
              have B9 := Lib.hid (B8.out.trans (h.mono (by have := B8.out.size; have := HGE.out; omega)))
              clear h
              go_wp2_with fail
              go_meet
              exact ⟨R11, B9⟩
          case rest =>
            obtain ⟨RC, BC⟩ := hcut
            clear R9 HB N6 I6
            go_upto_if 146 with fail
            go_cut [8] (fun _ wx => Hid (Rdr wx g t.data.toList 0) ∧ Hid (Below g w6 wx))
            case first =>
              cases hok : vid a i
              · have e1 : outI a i = [] := by unfold outI; rw [hok]; rfl
                have e2 : errI a i = 4 := by unfold errI; rw [hok]; rfl
                have de : ((errI a i : Int) == 0) = false := by rw [e2]; rfl
                have R10 := Lib.hid (show Rdr wc g t.data.toList 0 by have := RC.out; rw [e1] at this; exact this)
                clear e1 e2
                go_wp2_with fail
                go_meet
                exact ⟨R10, BC⟩
              · have e1 : outI a i = encID (a, i) := by unfold outI; rw [hok]; rfl
                have e2 : errI a i = 0 := by unfold errI; rw [hok]; rfl
                have de : ((errI a i : Int) == 0) = true := by rw [e2]; rfl
                have HID := Lib.hid (rID_enc g a i t.data.toList wc hok (by have := RC.out; rw [e1] at this; exact this))
                clear e1 e2 hok
                go_wp2_with fail
                refine HID.out.mono ?_
                rintro e w8 ⟨rfl, hg, hr⟩
                have R10 := Lib.hid hr
                have B8 := Lib.hid (BC.out.grown hg (by have := BC.out.size; have := HGE.out; omega) (fun k hk => by injection hk; omega))
                have X8 := Lib.hid (box_alloc (box_below X6.out (by rw [HGE.out]; exact B8.out)) (.cells #[.int .i64 a, .int .i64 i] 23))
                have R11 := Lib.hid (rdr_boxed R10.out (.cells #[.int .i64 a, .int .i64 i] 23))
                have B9 := Lib.hid (B8.out.alloc (by have := B8.out.size; have := HGE.out; omega) (.cells #[.int .i64 a, .int .i64 i] 23))
                obtain ⟨b0, b1⟩ := box_cells X8.out
                clear hg hr
                go_wp2_with fail
                go_meet
                exact ⟨R11, B9⟩
            case rest =>
              obtain ⟨RD, BD⟩ := hcut
              rename World => wd
              have hts : t.data.toList.length = t.size := by simp
              have HTS := Lib.hid hts
              clear hts RC BC
              go_wp2_with fail
              refine (rLeft_now g _ _ RD.out).mono ?_
              rw [HTS.out]
              rintro e w8 ⟨rfl, hg, hr⟩
              have R10 := Lib.hid hr
              have B8 := Lib.hid (BD.out.grown hg (by have := BD.out.size; have := HGE.out; omega) (fun k hk => by injection hk; omega))
              clear hg hr
              cases ht0 : t.data.toList with
              | nil =>
                have R11 := Lib.hid (show Rdr w8 g [] 0 by have := R10.out; rw [ht0] at this; exact this)
                have hte : t.toList.isEmpty = true := by rw [bytes_list, ht0]; rfl
                clear ht0
                go_wp2_with fail
                refine (rEnd_now g _ _ R11.out).mono ?_
                rintro e w9 ⟨rfl, hg⟩
                have B9 := Lib.hid (B8.out.grown hg (by have := B8.out.size; have := HGE.out; omega) (fun k hk => by injection hk; omega))
                clear hg
                go_wp2_with fail
                go_ret
                exact ⟨rfl, below_last W6.out B9.out HGE.out⟩
              | cons x y =>
                have R11 := Lib.hid (show Rdr w8 g (x :: y) 0 by have := R10.out; rw [ht0] at this; exact this)
                have hte : t.toList.isEmpty = false := by rw [bytes_list, ht0]; rfl
                clear ht0
                go_wp2_with fail
                refine (rEnd_now g _ _ R11.out).mono ?_
                rintro e w9 ⟨rfl, hg⟩
                have B9 := Lib.hid (B8.out.grown hg (by have := B8.out.size; have := HGE.out; omega) (fun k hk => by injection hk; omega))
                clear hg
                go_wp2_with fail
                go_ret
                exact ⟨rfl, below_last W6.out B9.out HGE.out⟩
set_option maxRecDepth 100000 in
theorem back_great (v : Value) (xs : List Int) (u : Value) (l : List (Int × Int)) (a i : Int) (t : ByteArray) (w : World) (hN : Nums w v xs) (hI : Ids w u l) (hx : 100 < xs.length ∨ 200 < l.length ∨ 1000 < t.size) :
    Calls Try.prog 4 #[v, u, .agg #[.int .i64 a, .int .i64 i], .string t] w fun e w' => e = .returned (.bool true) ∧ Below w.heap.size w w' := by
  obtain ⟨A, c, rfl, hz⟩ := id hN
  obtain ⟨A2, c2, rfl, hz2⟩ := id hI
  clear hz hz2 hN hI
  by_cases h1 : 100 < xs.length
  · have d1 : decide ((100 : Int) < (xs.length : Int)) = true := by simp; omega
    clear hx
    clear h1
    go_enter Try.func4, Try.ntmps4
    go_wp2_with fail
    refine (awake_any _).mono ?_
    rintro e w9 ⟨rfl, h⟩
    have B9 := Lib.hid (below_boxed (Below.refl w.heap.size w) h (Nat.le_refl _))
    clear h
    go_wp2_with fail
    go_ret
    exact ⟨rfl, B9.out⟩
  · have d1 : decide ((100 : Int) < (xs.length : Int)) = false := by simp; omega
    by_cases h2 : 200 < l.length
    · have d2 : decide ((200 : Int) < (l.length : Int)) = true := by simp; omega
      clear h2 hx
      clear h1
      go_enter Try.func4, Try.ntmps4
      go_wp2_with fail
      refine (awake_any _).mono ?_
      rintro e w9 ⟨rfl, h⟩
      have B9 := Lib.hid (below_boxed (Below.refl w.heap.size w) h (Nat.le_refl _))
      clear h
      go_wp2_with fail
      go_ret
      exact ⟨rfl, B9.out⟩
    · have d2 : decide ((200 : Int) < (l.length : Int)) = false := by simp; omega
      have d3 : decide ((1000 : Int) < (t.size : Int)) = true := by simp; omega
      clear h2 hx
      clear h1
      go_enter Try.func4, Try.ntmps4
      go_wp2_with fail
      refine (awake_any _).mono ?_
      rintro e w9 ⟨rfl, h⟩
      have B9 := Lib.hid (below_boxed (Below.refl w.heap.size w) h (Nat.le_refl _))
      clear h
      go_wp2_with fail
      go_ret
      exact ⟨rfl, B9.out⟩
theorem back_any (v : Value) (xs : List Int) (u : Value) (l : List (Int × Int)) (a i : Int) (t : ByteArray) (w : World) (hN : Nums w v xs) (hI : Ids w u l) (_ : t.size ≤ 140737488351232) :
    Calls Try.prog 4 #[v, u, .agg #[.int .i64 a, .int .i64 i], .string t] w fun e w' => e = .returned (.bool true) ∧ Below w.heap.size w w' := by
  by_cases h : xs.length ≤ 100 ∧ l.length ≤ 200 ∧ t.size ≤ 1000
  · exact back_small v xs u l a i t w hN hI h.1 h.2.1 h.2.2
  · exact back_great v xs u l a i t w hN hI (by omega)
section
open Go.ChangeShapes Go.WideShapes Go.ChangeAt
open Go.ChangeMaps (open_string)
set_option maxRecDepth 100000 in
theorem back_lifted (os : Os) (started : os.Started) (H : Type) (enc : TypeId × Value → H) :
    ReturnsInHanded {} Try.checked os 4 .any (Rows.codeBackSpec.pre6 enc Try.prog Try.f4 Rows.codeBackRow.domain false) (Rows.codeBackSpec.post enc Try.prog Try.f4 false true false false) := by
  refine returnsInHanded_of_change_sized (C := Try.checked) Try.own started (by kernel_rfl) Try.func4
    (ChangeSpec.witness6 (enc := enc) (C := Try.checked) false ⟨#[], #[.slice none 0 0, .slice none 0 0, .agg #[.int .i64 0, .int .i64 0], .string ⟨#[]⟩], []⟩ 8 (by kernel_rfl) (by kernel_rfl) (by kernel_rfl) (by kernel_rfl)) ?_
  intro W base args ds gs before hval0 hW _ hsz0 _
  have hval : ∀ (j : Nat) t v, Try.f4.params[j]? = some t → args[j]? = some v → Value.okWide Try.prog W .any base t v := hval0
  have hsz : (DataW.weightsEach Try.prog (Try.f4.params.toList ++ Rows.codeBackSpec.plain.varTypes Try.prog) (ds ++ gs)).all (· ≤ reachBytes) = true := hsz0
  have hW' := hW
  obtain ⟨p, q, hA0, hV, rfl, _, _⟩ := hW
  have hA : DataW.TrodAll enc Try.prog W 0 (fun _ => true) true Try.f4.params.toList args.toList ds p := hA0
  rw [Try.params4] at hA hval hsz
  obtain ⟨v0, v1, v2, v3, d0, d1, d2, d3, p0, p1, p2, p3, rfl, rfl, rfl, h0, h1, h2, h3⟩ := trodAll_four hA
  obtain ⟨rfl, rfl⟩ := trodVars_none hV
  obtain ⟨l0, I0⟩ := open_nums (hval 0 33 v0 rfl rfl) h0
  obtain ⟨l1, I1⟩ := open_ids (hval 1 24 v1 rfl rfl) h1
  obtain ⟨a2, b2, rfl⟩ := open_id (hval 2 23 v2 rfl rfl) h2
  obtain ⟨x3, rfl, rfl, rfl, _⟩ := open_string Try.underlying9 (hval 3 9 v3 rfl rfl) h3
  have r3 : x3.size ≤ 140737488351232 := by have := sized_string hsz (j := 3) (t := 9) rfl rfl; rw [reach_is] at this; simpa using this
  refine (back_any v0 l0 v1 l1 a2 b2 x3 W I0 I1 r3).mono fun e W' ⟨he, hb⟩ => ?_
  subst he
  exact ⟨_, rfl, law_post hW' rfl (by kernel_rfl) Try.underlying4 rfl (by unfold Legible; kernel_rfl) hb⟩
/-- The statement. -/
theorem back_holds : Rows.CodeBackSaid :=
  OpenClaim.holds_of_wide 4 Try.f4 rfl rfl rfl rfl rfl rfl rfl ⟨rfl, rfl, rfl, rfl, rfl⟩ rfl rfl rfl rfl rfl (by kernel_rfl) Try.func4 (by kernel_rfl)
    (of_decide_eq_true (by kernel_rfl)) (by unfold Func.isWrapper; first | (rw [if_pos (by decide +kernel)]; kernel_rfl) | (rw [if_neg (by decide +kernel)]; exact ⟨rfl, rfl⟩))
    (fun os started H enc _ => back_lifted os started H enc)
end
end Go.Proofs.Ytmmpnnpkfghhcaa
