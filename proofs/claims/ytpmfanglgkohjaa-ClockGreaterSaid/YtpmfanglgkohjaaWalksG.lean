/-
  A walk over the program's way through two clocks, with whatever is called for each ID. No statement is proved in this text; it holds for every input that its premises let by.
-/
import Derived.Test.YtpmfanglgkohjaaWalksF
namespace Go.Proofs.Ytpmfanglgkohjaa
open Go.RowKit Sets Clocks
def lenOf : Value → Nat
  | .slice _ n _ => n
  | _ => 0
theorem lenOf_slice (A : Option Addr) (n c : Nat) : lenOf (.slice A n c) = n := rfl
theorem Lies.len {lo hi : Nat} {w : World} {v : Value} {l : List Tick} (h : Lies lo hi w v l) : lenOf v = l.length := by
  obtain ⟨⟨A, c, rfl, _⟩, _⟩ := h
  rfl
/-- A function that is called for each ID (its number, what it holds): of what has been visited S is true of the world; what lies below b0, and between lo and hi, is kept. -/
structure Visits (K : Nat) (caps : Array Value) (b0 lo : Nat) (S : Nat → World → List Visit → Prop) : Prop where
  enters : ∀ args W, (callFunc K args).run Try.prog W = .ok (.enter K args) W
  kept : ∀ hi W W' V, S hi W V → Below W.heap.size W W' → S hi W' V
  step : ∀ hi W V x y p q, lo ≤ hi → hi ≤ W.heap.size → S hi W V → V.length ≤ 90000 →
    Calls Try.prog K (#[.agg #[.int .i64 x, .int .i64 y], .int .i64 p, .int .i64 q] ++ caps) W fun e w' => e = .returned (.tuple #[]) ∧ S hi w' (V ++ [((x, y), p, q)]) ∧ Below b0 W w' ∧ Mid lo hi W w'
set_option maxHeartbeats 4000000 in
theorem each_any (K : Nat) (caps : Array Value) (b0 : Nat) (S : Nat → World → List Visit → Prop) (v u : Value) (l m : List Tick) (w : World) (hV : Visits K caps b0 w.heap.size S) (hb0 : b0 ≤ w.heap.size)
    (hS : ∀ hi W, w.heap.size ≤ hi → Below w.heap.size w W → S hi W []) (h : Rcs encT 3 w v l) (h2 : Rcs encT 3 w u m) (hl : l.length ≤ 40000) (hm : m.length ≤ 40000) :
    Calls Try.prog 18 #[v, u, .func (.func K) #[] caps] w fun e w' => e = .returned (.tuple #[]) ∧ (∃ hi, S hi w' (both l m)) ∧ Below b0 w w' := by
  have HV := Lib.hid hV
  have HH := Lib.hid hS
  have HI := Lib.hid h
  have HJ := Lib.hid h2
  have hK := hV.enters
  have hl2 := nrm_len l
  have hm2 := nrm_len m
  clear hV hS h h2
  go_enter Try.func18, Try.ntmps18
  go_wp2_with fail
  (with_reducible refine (said_any v l _ HI.out (by omega)).mono ?_)
  rintro e w1 ⟨v1, rfl, hr, hf, hb⟩
  have HR1 := Lib.hid hr
  have HF1 := Lib.hid hf
  have HB1 := Lib.hid hb
  have HJ1 := Lib.hid (HJ.out.below hb)
  clear hr hf hb
  go_wp2_with fail
  (with_reducible refine (said_any u m _ HJ1.out (by omega)).mono ?_)
  rintro e w2 ⟨v2, rfl, hr, hf, hb⟩
  have HB2 := Lib.hid (below_after HB1.out hb (Nat.le_refl _))
  have L1 := Lib.hid (lies_of (hi := w2.heap.size) (HR1.out.below hb) HF1.out (Nat.le_refl _))
  have L2 := Lib.hid (lies_of (lo := w.heap.size) (hi := w2.heap.size) hr (fun ad n c e => Nat.le_trans HB1.out.size (hf ad n c e)) (Nat.le_refl _))
  have S2 := Lib.hid (HH.out w2.heap.size w2 HB2.out.size HB2.out)
  have HZ := Lib.hid HB2.out.size
  have HB := Lib.hid (HB2.out.mono hb0)
  clear hr hf hb HR1 HF1 HB1 HB2 HJ1 HJ HI HH
  obtain ⟨hi, hhi⟩ : ∃ hi, w2.heap.size = hi := ⟨_, rfl⟩
  rw [hhi] at L1 L2 S2 HZ
  have HI2 := Lib.hid (show hi ≤ w2.heap.size by omega)
  clear hhi
  go_wp2_with fail
  go_loopw [0, 1] (fun s0 s1 wr => ∃ a b V n, Hid (Lies w.heap.size hi wr s0 a) ∧ Hid (Lies w.heap.size hi wr s1 b) ∧ Hid (S hi wr V) ∧ Hid (V ++ mg n a b = both l m) ∧ a.length + b.length ≤ n ∧ V.length + n ≤ 80000 ∧ a.length ≤ 40000 ∧ b.length ≤ 40000 ∧ Hid (Below b0 w wr) ∧ Hid (hi ≤ wr.heap.size)) (fun s0 s1 _ => lenOf s0 + lenOf s1)
  case atStart => exact ⟨_, _, [], _, L1, L2, S2, Lib.hid rfl, Nat.le_refl _, by simp; omega, by omega, by omega, HB, HI2⟩
  case round =>
    obtain ⟨a, b, V, n, H0, H1, H2, HE, hn, hVn, ha4, hb4, HW, HS⟩ := hrel
    obtain ⟨A, c, rfl, hz⟩ := id H0.out.1
    obtain ⟨B, c', rfl, hz2⟩ := id H1.out.1
    clear hz hz2
    by_cases he : a = [] ∧ b = []
    · obtain ⟨rfl, rfl⟩ := he
      have HD := Lib.hid (show V = both l m by
        rw [← HE.out]
        cases n with
        | zero => simp [mg]
        | succ n => simp [mg])
      go_wp2_with fail
      go_end0
      exact ⟨rfl, ⟨hi, by rw [← HD.out]; exact H2.out⟩, HW.out⟩
    · obtain ⟨n, rfl⟩ : ∃ k, n = k + 1 := by
        refine ⟨n - 1, ?_⟩
        rcases Nat.eq_zero_or_pos a.length with e1 | e1
        · rcases Nat.eq_zero_or_pos b.length with e2 | e2
          · exact absurd ⟨List.eq_nil_of_length_eq_zero e1, List.eq_nil_of_length_eq_zero e2⟩ he
          · omega
        · omega
      have HNE := Lib.hid he
      have HE2 : Hid ((V ++ [(fstI a b, tkN (fstI a b) a, tkN (fstI a b) b)]) ++ mg n (tkL (fstI a b) a) (tkL (fstI a b) b) = both l m) := Lib.hid (by
        rw [← HE.out, mg, if_neg he, List.append_assoc]
        rfl)
      have HT := Lib.hid (tk_less he)
      have ht1 := tkL_len (fstI a b) a
      have ht2 := tkL_len (fstI a b) b
      have HFI := Lib.hid fun W h k => first_any (.slice A a.length c) (.slice B b.length c') a b W h k (by omega) (by omega) he
      have hdd : (decide (0 < a.length) = true) ∨ (a = [] ∧ decide (0 < b.length) = true) := by
        rcases Nat.eq_zero_or_pos a.length with e1 | e1
        · rcases Nat.eq_zero_or_pos b.length with e2 | e2
          · exact absurd ⟨List.eq_nil_of_length_eq_zero e1, List.eq_nil_of_length_eq_zero e2⟩ he
          · exact .inr ⟨List.eq_nil_of_length_eq_zero e1, decide_eq_true (by omega)⟩
        · exact .inl (decide_eq_true (by omega))
      have R0 := Lib.hid H0.out.1
      have R1 := Lib.hid H1.out.1
      clear he HE
      generalize hf : fstI a b = x at *
      obtain ⟨x, y⟩ := x
      clear hf
      rcases hdd with hd | ⟨rfl, hd2⟩
      all_goals
        try simp only [List.length_nil] at HFI R0 H0
        go_wp2_with fail
        (with_reducible refine (HFI.out _ R0.out R1.out).mono ?_)
        rintro e w3 ⟨rfl, hb⟩
        have X3 := Lib.hid (box_new w3 x y)
        have L3 := Lib.hid (H0.out.mid (mid_below (hb.alloc hb.size (.cells #[.int .i64 x, .int .i64 y] 28)) HS.out))
        have M3 := Lib.hid (H1.out.mid (mid_below (hb.alloc hb.size (.cells #[.int .i64 x, .int .i64 y] 28)) HS.out))
        have S3 := Lib.hid (HV.out.kept _ _ _ _ H2.out (hb.alloc hb.size (.cells #[.int .i64 x, .int .i64 y] 28)))
        have B3 := Lib.hid ((below_after HW.out hb hb0).alloc (Nat.le_trans hb0 (below_after HW.out hb hb0).size) (.cells #[.int .i64 x, .int .i64 y] 28))
        have Z3 := Lib.hid (Nat.le_trans HS.out (hb.alloc hb.size (.cells #[.int .i64 x, .int .i64 y] 28)).size)
        clear hb
        obtain ⟨c1, c2⟩ := box_cells X3.out
        go_wp2_with fail
        (with_reducible refine (take_any _ _ _ _ x y _ L3.out (by omega)).mono ?_)
        rintro e w4 ⟨V1, rfl, hL, hb⟩
        have L4 := Lib.hid (hL.mid (mid_below hb Z3.out))
        have M4 := Lib.hid (M3.out.mid (mid_below hb Z3.out))
        have S4 := Lib.hid (HV.out.kept _ _ _ _ S3.out hb)
        have B4 := Lib.hid (below_after B3.out hb hb0)
        have X4 := Lib.hid (box_below X3.out hb)
        have Z4 := Lib.hid (Nat.le_trans Z3.out hb.size)
        clear hL hb c1 c2
        obtain ⟨c1, c2⟩ := box_cells X4.out
        go_wp2_with fail
        (with_reducible refine (take_any _ _ _ _ x y _ M4.out (by omega)).mono ?_)
        rintro e w5 ⟨V2, rfl, hL, hb⟩
        have M5 := Lib.hid (hL.mid (mid_below hb Z4.out))
        have L5 := Lib.hid (L4.out.mid (mid_below hb Z4.out))
        have S5 := Lib.hid (HV.out.kept _ _ _ _ S4.out hb)
        have B5 := Lib.hid (below_after B4.out hb hb0)
        have X5 := Lib.hid (box_below X4.out hb)
        have Z5 := Lib.hid (Nat.le_trans Z4.out hb.size)
        clear hL hb c1 c2
        obtain ⟨c1, c2⟩ := box_cells X5.out
        have HC := Lib.hid fun p q => HV.out.step hi w5 V x y p q HZ.out Z5.out S5.out (by omega)
        go_wp2_with fail
        (with_reducible refine (HC.out _ _).mono ?_)
        rintro e w6 ⟨rfl, hS, hb, hmid⟩
        have S6 := Lib.hid hS
        have B6 := Lib.hid (B5.out.trans hb)
        have L6 := Lib.hid (L5.out.mid hmid)
        have M6 := Lib.hid (M5.out.mid hmid)
        have Z6 := Lib.hid (Nat.le_trans Z5.out hmid.1)
        clear hS hb hmid c1 c2
        go_wp2_with fail
        go_roundw
        case rel => exact ⟨_, _, _, n, L6, M6, S6, HE2, by have := HT.out; omega, by simp; omega, by omega, by omega, B6, Z6⟩
        case measure =>
          have e1 := L6.out.len
          have e2 := M6.out.len
          have := HT.out
          (try simp only [List.length_nil] at this ht1)
          simp [lenOf_slice, e1, e2]
          omega
end Go.Proofs.Ytpmfanglgkohjaa
