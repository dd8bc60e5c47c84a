/-
  Walks over who is of an ID, of an address, the foremost one, the oldest one. No statement is proved in this text; it holds for every input that its premises let by.
-/
import Derived.Test.YtciolhpkhblnbaaReads
import Derived.Test.YtciolhpkhblnbaaRosG
namespace Go.Proofs.Ytciolhpkhblnbaa
open Go Go.RowKit Ros
def mval (x : Mm) : Value := .agg #[.int .i64 x.1.1, .int .i64 x.1.2, .int .u8 x.2.1, .int .i64 x.2.2]
def noneM : Mm := ((0, 0), 0, 0)
/-- What is answered: a member, and whether there is one. -/
def gotV (o : Option Mm) : Value := .tuple #[mval (o.getD noneM), .bool o.isSome]
theorem found_find {l : List Mm} {p : Mm → Bool} {r : Int} (h : FoundP p l r) : (r = -1 ∧ l.find? p = none) ∨ ∃ k : Nat, ∃ hk : k < l.length, r = k ∧ l.find? p = some l[k] := by
  rcases h with ⟨rfl, h⟩ | ⟨k, hk, rfl, h1, h2⟩
  · exact .inl ⟨rfl, List.find?_eq_none.2 fun x hx => by rw [h x hx]; simp⟩
  · refine .inr ⟨k, hk, rfl, ?_⟩
    have e : l = l.take k ++ l[k] :: l.drop (k + 1) := by rw [← List.drop_eq_getElem_cons hk, List.take_append_drop]
    have h3 : (l.take k).find? p = none := List.find?_eq_none.2 fun x hx => by rw [h2 x hx]; simp
    generalize l[k] = z at *
    rw [e, List.find?_append, h3, List.find?_cons_of_pos h1]
    rfl
set_option maxHeartbeats 4000000 in
theorem get_any (v : Value) (l : List Mm) (a i : Int) (w : World) (h : Ms w v l) (hl : l.length ≤ 100000) :
    Calls Try.prog 17 #[v, .agg #[.int .i64 a, .int .i64 i]] w fun e w' => e = .returned (gotV (getO l (a, i))) ∧ Below w.heap.size w w' := by
  have BB := Lib.hid (below_two w (.cells #[.int .i64 a, .int .i64 i] 30) (.cells #[.int .i64 0, .int .i64 0, .int .u8 0, .int .i64 0] 32))
  have HI := Lib.hid (h.below BB.out)
  have XB := Lib.hid (box_below (box_new w a i) (below_one _ (.cells #[.int .i64 0, .int .i64 0, .int .u8 0, .int .i64 0] 32)))
  have XR : Hid (MBox ((w.alloc (.cells #[.int .i64 a, .int .i64 i] 30)).alloc (.cells #[.int .i64 0, .int .i64 0, .int .u8 0, .int .i64 0] 32)) (w.heap.size + 1) 0 0 0 0) := Lib.hid (by simpa using mbox_new (w.alloc (.cells #[.int .i64 a, .int .i64 i] 30)) 0 0 0 0)
  have HE : Hid (getO l (a, i) = l.find? (isM (a, i))) := Lib.hid rfl
  obtain ⟨A, c, rfl, hz⟩ := h
  clear hz
  go_enter Try.func17, Try.ntmps17
  go_wp2_with fail
  (with_reducible refine (indexM_any (isM_asks w.heap.size a i) _ l _ HI.out XB.out hl (fun _ _ => trivial)).mono ?_)
  rintro e w1 ⟨⟨r, rfl, hf⟩, hb⟩
  have B1 := Lib.hid (below_after BB.out hb (Nat.le_refl _))
  have R1 := Lib.hid (mbox_below XR.out hb)
  have I1 := Lib.hid (HI.out.below hb)
  clear hb
  obtain ⟨z1, z2, z3, z4⟩ := mbox_cells R1.out
  obtain ⟨f1, f2, f3, f4⟩ := mbox_free R1.out
  rcases found_find hf with ⟨rfl, hn⟩ | ⟨k, hk, rfl, hn⟩
  · have HF := Lib.hid (HE.out.trans hn)
    clear hf hn
    go_wp2_with fail
    have R2 := mbox_set R1.out 0 0 0 0
    obtain ⟨q0, q1, q2, q3⟩ := mbox_cells R2
    refine bodyPost_ret (v := gotV none) (by simp [results, Try.results17, go_sem, q0, q1, q2, q3, gotV, mval, noneM]) rfl ?_
    exact ⟨by rw [HF.out], below_setCells B1.out (by omega) 0 [_, _, _, _]⟩
  · have HF := Lib.hid (HE.out.trans hn)
    have i3 : (0 : Int) ≤ (k : Int) := by omega
    have i4 : (k : Int) < (l.length : Int) := by omega
    have hd : decide ((k : Int) < 0) = false := by simp
    obtain ⟨ad, rfl, c1, c2, c3, c4⟩ := Ms.at_ I1.out (Below.refl _ _) hk
    have HM : Hid (l[k] = ((l[k].1.1, l[k].1.2), l[k].2.1, l[k].2.2)) := Lib.hid rfl
    rw [HM.out] at HF
    clear hf hn HM
    generalize l[k].1.1 = x1 at *
    generalize l[k].1.2 = x2 at *
    generalize l[k].2.1 = x3 at *
    generalize l[k].2.2 = x4 at *
    go_wp2_with fail
    have R2 := mbox_set R1.out x1 x2 x3 x4
    obtain ⟨q0, q1, q2, q3⟩ := mbox_cells R2
    refine bodyPost_ret (v := gotV (some ((x1, x2), x3, x4))) (by simp [results, Try.results17, go_sem, q0, q1, q2, q3, gotV, mval]) rfl ?_
    exact ⟨by rw [HF.out], below_setCells B1.out (by omega) 0 [_, _, _, _]⟩
/-- A function that says which of two members is ahead. -/
structure AsksA (K : Nat) (q : Mm → Mm → Bool) : Prop where
  enters : ∀ args W, (callFunc K args).run Try.prog W = .ok (.enter K args) W
  call : ∀ a i s n b j t m W, Calls Try.prog K #[.agg #[.int .i64 a, .int .i64 i, .int .u8 s, .int .i64 n], .agg #[.int .i64 b, .int .i64 j, .int .u8 t, .int .i64 m]] W fun e w' => e = .returned (.bool (q ((a, i), s, n) ((b, j), t, m))) ∧ Below W.heap.size W w'
theorem newer_asks : AsksA 37 newerB where
  enters := fun args W => enters_fn Try.func37 (by kernel_rfl) rfl args W
  call a i s n b j t m W := by
    have HB := Lib.hid (below_two W (.cells #[.int .i64 a, .int .i64 i, .int .u8 s, .int .i64 n] 32) (.cells #[.int .i64 b, .int .i64 j, .int .u8 t, .int .i64 m] 32))
    have HR : Hid (newerB ((a, i), s, n) ((b, j), t, m) = decide (j < i)) := Lib.hid rfl
    go_enter Try.func37, Try.ntmps37
    go_wp2_with fail
    go_ret
    exact ⟨ret_bool (by rw [HR.out]), HB.out⟩
set_option maxHeartbeats 2000000 in
theorem older_asks : AsksA 35 olderB where
  enters := fun args W => enters_fn Try.func35 (by kernel_rfl) rfl args W
  call a i s n b j t m W := by
    have HB := Lib.hid (below_two W (.cells #[.int .i64 a, .int .i64 i, .int .u8 s, .int .i64 n] 32) (.cells #[.int .i64 b, .int .i64 j, .int .u8 t, .int .i64 m] 32))
    have HR : Hid (olderB ((a, i), s, n) ((b, j), t, m) = (decide (n < m) || (decide (n = m) && lss a i b j))) := Lib.hid rfl
    have HC := Lib.hid fun W => less_any a i b j W
    generalize olderB ((a, i), s, n) ((b, j), t, m) = z at *
    generalize lss a i b j = y at *
    by_cases h1 : n < m
    · have hd : decide (n < m) = true := decide_eq_true h1
      have HZ := Lib.hid (show z = true by rw [HR.out, hd]; rfl)
      clear HR h1
      go_enter Try.func35, Try.ntmps35
      go_wp2_with fail
      go_ret
      exact ⟨ret_bool HZ.out.symm, HB.out⟩
    · by_cases h2 : n = m
      · subst h2
        have hd : decide (n < n) = false := by simp
        have HZ := Lib.hid (show z = y by rw [HR.out]; simp)
        clear HR h1
        go_enter Try.func35, Try.ntmps35
        go_wp2_with fail
        (with_reducible refine (HC.out _).mono ?_)
        rintro e w1 ⟨rfl, hb⟩
        have H1 := Lib.hid (below_after HB.out hb (Nat.le_refl _))
        clear hb
        go_wp2_with fail
        go_ret
        exact ⟨ret_bool HZ.out.symm, H1.out⟩
      · have hd : decide (n < m) = false := decide_eq_false h1
        have hd2 : (n == m) = false := beq_eq_false_iff_ne.2 h2
        have HZ := Lib.hid (show z = false by rw [HR.out, hd]; simp [h2])
        clear HR h1 h2
        go_enter Try.func35, Try.ntmps35
        go_wp2_with fail
        go_ret
        exact ⟨ret_bool HZ.out.symm, HB.out⟩
theorem hasNo_asks : AsksM 34 #[] hasNo (fun _ => True) (fun _ => True) where
  enters := fun args W => enters_fn Try.func34 (by kernel_rfl) rfl args W
  kept _ _ _ _ := trivial
  call a i s n W _ _ := by
    have HB := Lib.hid (below_one W (.cells #[.int .i64 a, .int .i64 i, .int .u8 s, .int .i64 n] 32))
    have HR : Hid (hasNo ((a, i), s, n) = decide (0 < n)) := Lib.hid rfl
    go_enter Try.func34, Try.ntmps34
    go_wp2_with fail
    go_ret
    exact ⟨ret_bool (by rw [HR.out]), HB.out⟩
theorem isAt_asks (X : Nat) (p : Int) : AsksM 36 #[.pointer (some ⟨X, 0, none⟩)] (isAt p) (fun W => One W X 3 (.int .i64 p)) (fun _ => True) where
  enters := fun args W => enters_fn Try.func36 (by kernel_rfl) rfl args W
  kept _ _ h hb := one_below h hb
  call a i s n W _ hS := by
    have HB := Lib.hid (below_one W (.cells #[.int .i64 a, .int .i64 i, .int .u8 s, .int .i64 n] 32))
    have HX := Lib.hid (one_below hS HB.out)
    have HR : Hid (isAt p ((a, i), s, n) = decide (a = p)) := Lib.hid rfl
    clear hS
    have c1 := one_cell HX.out
    by_cases h1 : a = p
    · subst h1
      go_enter Try.func36, Try.ntmps36
      go_wp2_with fail
      go_ret
      exact ⟨ret_bool (by rw [HR.out]; simp), HB.out⟩
    · have h3 : (a == p) = false := by simpa using h1
      go_enter Try.func36, Try.ntmps36
      go_wp2_with fail
      go_ret
      exact ⟨ret_bool (by rw [HR.out]; simp [h1]), HB.out⟩
set_option maxHeartbeats 8000000 in
theorem foremost_any {K : Nat} {caps : Array Value} {p : Mm → Bool} {S : World → Prop} (hP : AsksM K caps p S (fun _ => True)) {K2 : Nat} {q : Mm → Mm → Bool} (hQ : AsksA K2 q) (v : Value) (l : List Mm) (w : World) (h : Ms w v l) (hl : l.length ≤ 100000) (hS : S w) (hSg : ∀ g W W', w.heap.size ≤ g → S W → W.grownBy W' (some g) → S W') :
    Calls Try.prog 33 #[v, .func (.func K) #[] caps, .func (.func K2) #[] #[]] w fun e w' => e = .returned (gotV (foreO p q l)) ∧ Below w.heap.size w w' := by
  have HP := Lib.hid hP
  have HQ := Lib.hid hQ
  have hK := hP.enters
  have hK2 := hQ.enters
  have HG := Lib.hid hSg
  have BB := Lib.hid (below_two w (.cells #[.int .i64 0, .int .i64 0, .int .u8 0, .int .i64 0] 32) (.cells #[.int .i64 0, .int .i64 0, .int .u8 0, .int .i64 0] 32))
  have HI := Lib.hid h
  have S0 := Lib.hid (hP.kept _ _ hS BB.out)
  have XR := Lib.hid (mbox_below (mbox_new w 0 0 0 0) (below_one _ (.cells #[.int .i64 0, .int .i64 0, .int .u8 0, .int .i64 0] 32)))
  have XB : Hid (MBox ((w.alloc (.cells #[.int .i64 0, .int .i64 0, .int .u8 0, .int .i64 0] 32)).alloc (.cells #[.int .i64 0, .int .i64 0, .int .u8 0, .int .i64 0] 32)) (w.heap.size + 1) 0 0 0 0) := Lib.hid (by simpa using mbox_new (w.alloc (.cells #[.int .i64 0, .int .i64 0, .int .u8 0, .int .i64 0] 32)) 0 0 0 0)
  obtain ⟨A, c, rfl, hz⟩ := h
  clear hz hP hQ hS hSg
  go_enter Try.func33, Try.ntmps33
  go_wp2_with fail
  go_loopw [9, 14] (fun s9 s14 wr => ∃ (k : Nat) (o : Option Mm), k ≤ l.length ∧ s14 = .int .i64 k ∧ s9 = .bool o.isSome ∧ Hid (foreO p q (l.take k) = o) ∧ Hid (MBox wr (w.heap.size + 1) (o.getD noneM).1.1 (o.getD noneM).1.2 (o.getD noneM).2.1 (o.getD noneM).2.2) ∧ Hid (MBox wr w.heap.size 0 0 0 0) ∧ Hid (S wr) ∧ Hid (Below w.heap.size w wr)) (fun _ s14 _ => l.length - (intOf s14).toNat)
  case atStart => exact ⟨0, none, by omega, rfl, rfl, Lib.hid rfl, XB, XR, S0, BB⟩
  case round =>
    obtain ⟨k, o, hkl, rfl, rfl, HT, HB, HR, HS, HW⟩ := hrel
    have i3 : (0 : Int) ≤ (k : Int) := by omega
    by_cases hlt : k < l.length
    · have hd : decide ((k : Int) < (l.length : Int)) = true := by simp; omega
      have i4 : (k : Int) < (l.length : Int) := by omega
      obtain ⟨ad, rfl, c1, c2, c3, c4⟩ := Ms.at_ HI.out HW.out hlt
      have HN := Lib.hid (foreO_next (p := p) (q := q) hlt)
      rw [HT.out] at HN
      have HM : Hid (l[k] = ((l[k].1.1, l[k].1.2), l[k].2.1, l[k].2.2)) := Lib.hid rfl
      rw [HM.out] at HN
      clear HM
      generalize l[k].1.1 = x1 at *
      generalize l[k].1.2 = x2 at *
      generalize l[k].2.1 = x3 at *
      generalize l[k].2.2 = x4 at *
      have q1 := below_one wr (.cells #[.int .i64 x1, .int .i64 x2, .int .u8 x3, .int .i64 x4] 32)
      have MX := Lib.hid (mbox_new wr x1 x2 x3 x4)
      have MB := Lib.hid (mbox_below HB.out q1)
      have MR := Lib.hid (mbox_below HR.out q1)
      have SX := Lib.hid (HP.out.kept _ _ HS.out q1)
      have BX := Lib.hid (HW.out.trans (q1.mono HW.out.size))
      have HC := Lib.hid fun W hs => HP.out.call x1 x2 x3 x4 W trivial hs
      clear q1
      obtain ⟨y1, y2, y3, y4⟩ := mbox_cells MX.out
      cases hp : p ((x1, x2), x3, x4)
      · rw [hp] at HC HN
        have HF : Hid (foreO p q (l.take (k + 1)) = o) := Lib.hid HN.out
        obtain ⟨z, hz⟩ : ∃ z, Hid (o.isSome = z) := ⟨_, Lib.hid rfl⟩
        rw [hz.out]
        clear hp HN
        go_wp2_with fail
        (with_reducible refine (HC.out _ SX.out).mono ?_)
        rintro e w1 ⟨rfl, hb⟩
        have N1 := Lib.hid (mbox_below MB.out hb)
        have N2 := Lib.hid (mbox_below MR.out hb)
        have N3 := Lib.hid (HP.out.kept _ _ SX.out hb)
        have N4 := Lib.hid (below_after BX.out hb (Nat.le_refl _))
        clear hb y1 y2 y3 y4
        go_wp2_with fail
        go_roundw
        case rel => exact ⟨k + 1, o, by omega, by go_num, by rw [hz.out], HF, N1, N2, N3, N4⟩
        case measure => simp [intOf]; omega
      · rw [hp] at HC HN
        clear hp
        rcases o with _ | ⟨⟨b1, b2⟩, b3, b4⟩
        · have HF : Hid (foreO p q (l.take (k + 1)) = some ((x1, x2), x3, x4)) := Lib.hid HN.out
          clear HN
          go_wp2_with fail
          (with_reducible refine (HC.out _ SX.out).mono ?_)
          rintro e w1 ⟨rfl, hb⟩
          have N0 := Lib.hid (mbox_below MX.out hb)
          have N1 := Lib.hid (mbox_below MB.out hb)
          have N2 := Lib.hid (mbox_below MR.out hb)
          have N3 := Lib.hid (HP.out.kept _ _ SX.out hb)
          have N4 := Lib.hid (below_after BX.out hb (Nat.le_refl _))
          clear hb y1 y2 y3 y4
          obtain ⟨y1, y2, y3, y4⟩ := mbox_cells N0.out
          obtain ⟨z1, z2, z3, z4⟩ := mbox_cells N1.out
          obtain ⟨f1, f2, f3, f4⟩ := mbox_free N1.out
          have G := grown_setCells (World.grownBy.refl w1 (some (w.heap.size + 1))) 0 [.int .i64 x1, .int .i64 x2, .int .u8 x3, .int .i64 x4]
          have P1 := Lib.hid (mbox_set N1.out x1 x2 x3 x4)
          have P2 := Lib.hid ((G.block w.heap.size (mbox_lt N2.out) (by simp)).trans N2.out)
          have P3 := Lib.hid (HG.out _ _ _ (by omega) N3.out G)
          have P4 := Lib.hid (below_setCells N4.out (show w.heap.size ≤ w.heap.size + 1 by omega) 0 [.int .i64 x1, .int .i64 x2, .int .u8 x3, .int .i64 x4])
          clear G
          go_wp2_with fail
          go_roundw
          case rel => exact ⟨k + 1, some ((x1, x2), x3, x4), by omega, by go_num, rfl, HF, P1, P2, P3, P4⟩
          case measure => simp [intOf]; omega
        · have HN : Hid (foreO p q (l.take (k + 1)) = if (true && q ((x1, x2), x3, x4) ((b1, b2), b3, b4)) = true then some ((x1, x2), x3, x4) else some ((b1, b2), b3, b4)) := Lib.hid HN.out
          have HC2 := Lib.hid fun W => HQ.out.call x1 x2 x3 x4 b1 b2 b3 b4 W
          cases hq : q ((x1, x2), x3, x4) ((b1, b2), b3, b4)
          · rw [hq] at HC2 HN
            have HF : Hid (foreO p q (l.take (k + 1)) = some ((b1, b2), b3, b4)) := Lib.hid HN.out
            clear hq HN
            go_wp2_with fail
            (with_reducible refine (HC.out _ SX.out).mono ?_)
            rintro e w1 ⟨rfl, hb⟩
            have N0 := Lib.hid (mbox_below MX.out hb)
            have N1 := Lib.hid (mbox_below MB.out hb)
            have N2 := Lib.hid (mbox_below MR.out hb)
            have N3 := Lib.hid (HP.out.kept _ _ SX.out hb)
            have N4 := Lib.hid (below_after BX.out hb (Nat.le_refl _))
            clear hb y1 y2 y3 y4
            obtain ⟨y1, y2, y3, y4⟩ := mbox_cells N0.out
            obtain ⟨z1, z2, z3, z4⟩ := mbox_cells N1.out
            go_wp2_with fail
            (with_reducible refine (HC2.out _).mono ?_)
            rintro e w2 ⟨rfl, hb⟩
            have P0 := Lib.hid (mbox_below N0.out hb)
            have P1 := Lib.hid (mbox_below N1.out hb)
            have P2 := Lib.hid (mbox_below N2.out hb)
            have P3 := Lib.hid (HP.out.kept _ _ N3.out hb)
            have P4 := Lib.hid (below_after N4.out hb (Nat.le_refl _))
            clear hb y1 y2 y3 y4 z1 z2 z3 z4
            go_wp2_with fail
            go_roundw
            case rel => exact ⟨k + 1, some ((b1, b2), b3, b4), by omega, by go_num, rfl, HF, P1, P2, P3, P4⟩
            case measure => simp [intOf]; omega
          · rw [hq] at HC2 HN
            have HF : Hid (foreO p q (l.take (k + 1)) = some ((x1, x2), x3, x4)) := Lib.hid HN.out
            clear hq HN
            go_wp2_with fail
            (with_reducible refine (HC.out _ SX.out).mono ?_)
            rintro e w1 ⟨rfl, hb⟩
            have N0 := Lib.hid (mbox_below MX.out hb)
            have N1 := Lib.hid (mbox_below MB.out hb)
            have N2 := Lib.hid (mbox_below MR.out hb)
            have N3 := Lib.hid (HP.out.kept _ _ SX.out hb)
            have N4 := Lib.hid (below_after BX.out hb (Nat.le_refl _))
            clear hb y1 y2 y3 y4
            obtain ⟨y1, y2, y3, y4⟩ := mbox_cells N0.out
            obtain ⟨z1, z2, z3, z4⟩ := mbox_cells N1.out
            go_wp2_with fail
            (with_reducible refine (HC2.out _).mono ?_)
            rintro e w2 ⟨rfl, hb⟩
            have P0 := Lib.hid (mbox_below N0.out hb)
            have P1 := Lib.hid (mbox_below N1.out hb)
            have P2 := Lib.hid (mbox_below N2.out hb)
            have P3 := Lib.hid (HP.out.kept _ _ N3.out hb)
            have P4 := Lib.hid (below_after N4.out hb (Nat.le_refl _))
            clear hb y1 y2 y3 y4 z1 z2 z3 z4
            clear N0 N1 N2 N3 N4
            have N0 := P0
            have N1 := P1
            have N2 := P2
            have N3 := P3
            have N4 := P4
            clear P0 P1 P2 P3 P4
            obtain ⟨y1, y2, y3, y4⟩ := mbox_cells N0.out
            obtain ⟨z1, z2, z3, z4⟩ := mbox_cells N1.out
            obtain ⟨f1, f2, f3, f4⟩ := mbox_free N1.out
            have G := grown_setCells (World.grownBy.refl w2 (some (w.heap.size + 1))) 0 [.int .i64 x1, .int .i64 x2, .int .u8 x3, .int .i64 x4]
            have P1 := Lib.hid (mbox_set N1.out x1 x2 x3 x4)
            have P2 := Lib.hid ((G.block w.heap.size (mbox_lt N2.out) (by simp)).trans N2.out)
            have P3 := Lib.hid (HG.out _ _ _ (by omega) N3.out G)
            have P4 := Lib.hid (below_setCells N4.out (show w.heap.size ≤ w.heap.size + 1 by omega) 0 [.int .i64 x1, .int .i64 x2, .int .u8 x3, .int .i64 x4])
            clear G
            go_wp2_with fail
            go_roundw
            case rel => exact ⟨k + 1, some ((x1, x2), x3, x4), by omega, by go_num, rfl, HF, P1, P2, P3, P4⟩
            case measure => simp [intOf]; omega
    · have hd : decide ((k : Int) < (l.length : Int)) = false := by simp; omega
      have HF : Hid (foreO p q l = o) := Lib.hid (by have := HT.out; rwa [List.take_of_length_le (by omega)] at this)
      obtain ⟨z, hz⟩ : ∃ z, Hid (o.isSome = z) := ⟨_, Lib.hid rfl⟩
      rw [hz.out]
      have HV : Hid (gotV o = .tuple #[mval (o.getD noneM), .bool z]) := Lib.hid (by rw [← hz.out]; rfl)
      generalize o.getD noneM = r at *
      obtain ⟨⟨r1, r2⟩, r3, r4⟩ := r
      obtain ⟨y1, y2, y3, y4⟩ := mbox_cells HB.out
      obtain ⟨z1, z2, z3, z4⟩ := mbox_cells HR.out
      obtain ⟨f1, f2, f3, f4⟩ := mbox_free HR.out
      go_wp2_with fail
      obtain ⟨q0, q1, q2, q3⟩ := mbox_cells (mbox_set HR.out r1 r2 r3 r4)
      refine bodyPost_ret (v := .tuple #[mval ((r1, r2), r3, r4), .bool z]) (by simp [results, Try.results33, go_sem, q0, q1, q2, q3, mval]) rfl ?_
      exact ⟨by rw [HF.out, HV.out], below_setCells HW.out (Nat.le_refl _) 0 [_, _, _, _]⟩
set_option maxHeartbeats 2000000 in
theorem at_any (v : Value) (l : List Mm) (a : Int) (w : World) (h : Ms w v l) (hl : l.length ≤ 100000) :
    Calls Try.prog 16 #[v, .int .i64 a] w fun e w' => e = .returned (gotV (foreO (isAt a) newerB l)) ∧ Below w.heap.size w w' := by
  have BB := Lib.hid (below_two w (.cells #[.int .i64 a] 3) (.cells #[.int .i64 0, .int .i64 0, .int .u8 0, .int .i64 0] 32))
  have HI := Lib.hid (h.below BB.out)
  have XO := Lib.hid (one_below (one_new w 3 (.int .i64 a)) (below_one _ (.cells #[.int .i64 0, .int .i64 0, .int .u8 0, .int .i64 0] 32)))
  have XR : Hid (MBox ((w.alloc (.cells #[.int .i64 a] 3)).alloc (.cells #[.int .i64 0, .int .i64 0, .int .u8 0, .int .i64 0] 32)) (w.heap.size + 1) 0 0 0 0) := Lib.hid (by simpa using mbox_new (w.alloc (.cells #[.int .i64 a] 3)) 0 0 0 0)
  have HL : Hid (l.length ≤ 100000) := Lib.hid hl
  have HV := Lib.hid (show gotV (foreO (isAt a) newerB l) = .tuple #[mval ((foreO (isAt a) newerB l).getD noneM), .bool (foreO (isAt a) newerB l).isSome] from rfl)
  clear h
  go_enter Try.func16, Try.ntmps16
  go_wp2_with fail
  (with_reducible refine (foremost_any (isAt_asks w.heap.size a) newer_asks v l _ HI.out HL.out XO.out (fun g W W' hg hS hb => one_grown hS hb (fun e => by have : w.heap.size + 1 + 1 ≤ g := (by simpa using hg); omega))).mono ?_)
  rintro e w1 ⟨rfl, hb⟩
  have B1 := Lib.hid (below_after BB.out hb (Nat.le_refl _))
  have R1 := Lib.hid (mbox_below XR.out hb)
  clear hb
  rw [HV.out]
  generalize (foreO (isAt a) newerB l).isSome = z at *
  generalize (foreO (isAt a) newerB l).getD noneM = r at *
  obtain ⟨⟨r1, r2⟩, r3, r4⟩ := r
  obtain ⟨z1, z2, z3, z4⟩ := mbox_cells R1.out
  obtain ⟨f1, f2, f3, f4⟩ := mbox_free R1.out
  rw [show mval ((r1, r2), r3, r4) = .agg #[.int .i64 r1, .int .i64 r2, .int .u8 r3, .int .i64 r4] from rfl]
  go_wp2_with fail
  obtain ⟨q0, q1, q2, q3⟩ := mbox_cells (mbox_set R1.out r1 r2 r3 r4)
  refine bodyPost_ret (v := .tuple #[.agg #[.int .i64 r1, .int .i64 r2, .int .u8 r3, .int .i64 r4], .bool z]) (by simp [results, Try.results16, go_sem, q0, q1, q2, q3]) rfl ?_
  exact ⟨by rw [HV.out]; rfl, below_setCells B1.out (by omega) 0 [_, _, _, _]⟩
set_option maxHeartbeats 2000000 in
theorem oldest_any (v : Value) (l : List Mm) (w : World) (h : Ms w v l) (hl : l.length ≤ 100000) :
    Calls Try.prog 15 #[v] w fun e w' => e = .returned (gotV (foreO hasNo olderB l)) ∧ Below w.heap.size w w' := by
  have BB := Lib.hid (below_one w (.cells #[.int .i64 0, .int .i64 0, .int .u8 0, .int .i64 0] 32))
  have HI := Lib.hid (h.below BB.out)
  have XR := Lib.hid (mbox_new w 0 0 0 0)
  have HL : Hid (l.length ≤ 100000) := Lib.hid hl
  have HV := Lib.hid (show gotV (foreO hasNo olderB l) = .tuple #[mval ((foreO hasNo olderB l).getD noneM), .bool (foreO hasNo olderB l).isSome] from rfl)
  clear h
  go_enter Try.func15, Try.ntmps15
  go_wp2_with fail
  (with_reducible refine (foremost_any hasNo_asks older_asks v l _ HI.out HL.out trivial (fun _ _ _ _ _ _ => trivial)).mono ?_)
  rintro e w1 ⟨rfl, hb⟩
  have B1 := Lib.hid (below_after BB.out hb (Nat.le_refl _))
  have R1 := Lib.hid (mbox_below XR.out hb)
  clear hb
  rw [HV.out]
  generalize (foreO hasNo olderB l).isSome = z at *
  generalize (foreO hasNo olderB l).getD noneM = r at *
  obtain ⟨⟨r1, r2⟩, r3, r4⟩ := r
  obtain ⟨z1, z2, z3, z4⟩ := mbox_cells R1.out
  obtain ⟨f1, f2, f3, f4⟩ := mbox_free R1.out
  rw [show mval ((r1, r2), r3, r4) = .agg #[.int .i64 r1, .int .i64 r2, .int .u8 r3, .int .i64 r4] from rfl]
  go_wp2_with fail
  obtain ⟨q0, q1, q2, q3⟩ := mbox_cells (mbox_set R1.out r1 r2 r3 r4)
  refine bodyPost_ret (v := .tuple #[.agg #[.int .i64 r1, .int .i64 r2, .int .u8 r3, .int .i64 r4], .bool z]) (by simp [results, Try.results15, go_sem, q0, q1, q2, q3]) rfl ?_
  exact ⟨by rw [HV.out]; rfl, below_setCells B1.out (Nat.le_refl _) 0 [_, _, _, _]⟩
end Go.Proofs.Ytciolhpkhblnbaa
