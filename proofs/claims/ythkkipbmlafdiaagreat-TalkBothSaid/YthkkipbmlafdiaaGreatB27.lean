/-
  Contracts and plain facts.
-/
import Derived.Test.YthkkipbmlafdiaaGreatOy
import Derived.Test.YthkkipbmlafdiaaGreatB03
import Derived.Test.YthkkipbmlafdiaaGreatB09
import Derived.Test.YthkkipbmlafdiaaGreatB26
set_option maxRecDepth 20000
namespace Go.Proofs.YthkkipbmlafdiaaGreat
section
open Go.RowKit Sets Clocks
theorem below_set2 {B g : Nat} {a w : World} (h : Below B a w) (hg : B ≤ g) (p q : Int) : Below B a ((w.setCell ⟨g, 0, none⟩ (.int .i64 p)).setCell ⟨g, 1, none⟩ (.int .i64 q)) :=
 (h.setCell (p := ⟨g, 0, none⟩) hg _).setCell (p := ⟨g, 1, none⟩) hg _
theorem fst_both (s t : Tick) (l m : List Tick) : fstI (s :: l) (t :: m) = if lss s.1.1 s.1.2 t.1.1 t.1.2 = true then s.1 else t.1 := by
 rw [fstI];by_cases h : lt s.1 t.1
 ·rw [if_pos h, if_pos ((lss_iff _ _).2 h)]
 ·rw [if_neg h, if_neg (fun e => h ((lss_iff _ _).1 e))]
set_option maxHeartbeats 2000000 in
theorem first_anyCLK (v u : Value) (l m : List Tick) (w : World) (h : Rcs encT 3 w v l) (h2 : Rcs encT 3 w u m) (hl : l.length ≤ 100000) (hm : m.length ≤ 100000) (hn : ¬ (l = [] ∧ m = [])) :
  Calls Tryz.prog 148 #[v, u] w fun e w' => e = .returned (.agg #[.int .i64 (fstI l m).1, .int .i64 (fstI l m).2]) ∧ Below w.heap.size w w' := by
 have HB := hd_ (show Below w.heap.size w (w.alloc (.cells #[.int .i64 0, .int .i64 0] 29)) from (Below.refl _ _).alloc (Nat.le_refl _) _)
 have HX := hd_ (ao_ w 0 0);cases m with
 | nil =>
  cases l with
  | nil => exact absurd ⟨rfl, rfl⟩ hn
  | cons s l =>
   obtain ⟨ad, c, rfl, hc⟩ := h.head;obtain ⟨A, c', rfl, hz⟩ := h2;have HC := hd_ hc;have i3 : (0 : Int) < (l.length : Int) + 1 := by omega
   clear hc h hn hz;go_enter Tryz.func148, Tryz.ntmps148
   go_wp2_with fail;refine wp_region_held_drew (S := fun w' => Hid (Below w.heap.size w w') ∧ Hid (Below (w.alloc (.cells #[.int .i64 0, .int .i64 0] 29)).heap.size (w.alloc (.cells #[.int .i64 0, .int .i64 0] 29)) w')) (by kernel_rfl) ?_ (fun hHeld => ?_)
   ·exact ⟨hd_ HB.out.drew, hd_ (Below.refl _ _).drew⟩
   refine ty_ 0 ?_;refine ty_ 1 ?_;refine ty_ 2 ?_;refine ty_ 3 ?_;(try simp only [Act.put, si0, si1, si2]);refine tn_ 4 ?_;(try simp only [Act.put, si0, si1, si2]);refine tn_ 5 ?_;(try simp only [Act.put, si0, si1, si2]);refine tn_ 6 ?_;(try simp only [Act.put, si0, si1, si2]);refine tn_ 7 ?_;(try simp only [Act.put, si0, si1, si2]);refine tn_ 8 ?_;(try simp only [Act.put, si0, si1, si2]);refine tn_ 9 ?_;(try simp only [Act.put, si0, si1, si2]);refine tn_ 10 ?_;(try simp only [Act.put, si0, si1, si2]);refine tn_ 11 ?_;(try simp only [Act.put, si0, si1, si2]);refine tn_ 12 ?_;(try simp only [Act.put, si0, si1, si2]);refine tn_ 13 ?_;(try simp only [Act.put, si0, si1, si2]);refine tn_ 14 ?_;(try simp only [Act.put, si0, si1, si2]);refine tn_ 15 ?_;(try simp only [Act.put, si0, si1, si2]);refine tn_ 16 ?_;(try simp only [Act.put, si0, si1, si2]);refine tn_ 17 ?_;(try simp only [Act.put, si0, si1, si2]);refine ty_ 18 ?_;(try simp only [Act.put, si0, si1, si2]);refine wd_ ?_;obtain ⟨h1, h2'⟩ := hHeld;have HK := hd_ h1.out;have X1 := hd_ (ag_ HX.out h2'.out);clear h1 h2';obtain ⟨f0, f1⟩ := box_free X1.out;obtain ⟨d0, d1⟩ := ae_ X1.out;obtain ⟨c1, c2, c3⟩ := HC.out _ HK.out;go_wp2_with fail;refine bodyPost_ret (v := .agg #[.int .i64 s.1.1, .int .i64 s.1.2]) (by simp [results, Tryz.results148, go_sem]) rfl ?_
   exact ⟨rfl, ((Below.refl _ _).alloc (Nat.le_refl _) _).drew⟩
 | cons t m =>
  obtain ⟨ae, c', rfl, hc'⟩ := h2.head;have HD := hd_ hc';have j3 : (0 : Int) < (m.length : Int) + 1 := by omega
  have hmz : ((m.length : Int) + 1 == 0) = false := by simp; omega
  cases l with
  | nil =>
   obtain ⟨A, c, rfl, hz⟩ := h;clear hc' h2 hn hz;go_enter Tryz.func148, Tryz.ntmps148
   go_wp2_with fail;refine wp_region_held_drew (S := fun w' => Hid (Below w.heap.size w w') ∧ Hid (Below (w.alloc (.cells #[.int .i64 0, .int .i64 0] 29)).heap.size (w.alloc (.cells #[.int .i64 0, .int .i64 0] 29)) w')) (by kernel_rfl) ?_ (fun hHeld => ?_)
   ·exact ⟨hd_ HB.out.drew, hd_ (Below.refl _ _).drew⟩
   refine ty_ 0 ?_;refine ty_ 1 ?_;refine ty_ 2 ?_;refine ty_ 3 ?_;try simp only [Act.put, si0, si1, si2]
   first | refine ty_ 4 ?_ | refine tn_ 4 ?_
   try simp only [Act.put, si0, si1, si2]
   first | refine ty_ 5 ?_ | refine tn_ 5 ?_
   try simp only [Act.put, si0, si1, si2]
   first | refine ty_ 6 ?_ | refine tn_ 6 ?_
   try simp only [Act.put, si0, si1, si2]
   first | refine ty_ 7 ?_ | refine tn_ 7 ?_
   (try simp only [Act.put, si0, si1, si2]);refine tn_ 8 ?_;(try simp only [Act.put, si0, si1, si2]);refine tn_ 9 ?_;(try simp only [Act.put, si0, si1, si2]);refine tn_ 10 ?_;(try simp only [Act.put, si0, si1, si2]);refine tn_ 11 ?_;(try simp only [Act.put, si0, si1, si2]);refine tn_ 12 ?_;(try simp only [Act.put, si0, si1, si2]);refine tn_ 13 ?_;(try simp only [Act.put, si0, si1, si2]);refine tn_ 14 ?_;(try simp only [Act.put, si0, si1, si2]);refine tn_ 15 ?_;(try simp only [Act.put, si0, si1, si2]);refine tn_ 16 ?_;try simp only [Act.put, si0, si1, si2]
   first | refine ty_ 17 ?_ | refine tn_ 17 ?_
   (try simp only [Act.put, si0, si1, si2]);refine ty_ 18 ?_;(try simp only [Act.put, si0, si1, si2]);refine wd_ ?_;obtain ⟨h1, h2'⟩ := hHeld;have HK := hd_ h1.out;have X1 := hd_ (ag_ HX.out h2'.out);clear h1 h2';obtain ⟨f0, f1⟩ := box_free X1.out;obtain ⟨d0, d1⟩ := ae_ X1.out;obtain ⟨c1, c2, c3⟩ := HD.out _ HK.out;go_wp2_with fail;refine bodyPost_ret (v := .agg #[.int .i64 t.1.1, .int .i64 t.1.2]) (by simp [results, Tryz.results148, go_sem]) rfl ?_
   exact ⟨rfl, ((Below.refl _ _).alloc (Nat.le_refl _) _).drew⟩
  | cons s l =>
   obtain ⟨ad, c, rfl, hc⟩ := h.head;have HC := hd_ hc;have i3 : (0 : Int) < (l.length : Int) + 1 := by omega
   have HF := hd_ (fst_both s t l m);have HL := hd_ fun W => less_anyCLK s.1.1 s.1.2 t.1.1 t.1.2 W
   have HS := hd_ fun w' (hb : Below w.heap.size w w') => And.intro (And.intro (HC.out w' hb).1 (HC.out w' hb).2.1) (And.intro (HD.out w' hb).1 (HD.out w' hb).2.1)
   clear hc hc' h h2 hn;rw [HF.out];clear HF;cases hv : lss s.1.1 s.1.2 t.1.1 t.1.2
   all_goals
    rw [hv] at HL;clear hv;go_enter Tryz.func148, Tryz.ntmps148
    go_wp2_with fail
    go_region_held3 (fun w' => (w'.cell? ad = some (.int .i64 s.1.1) ∧ w'.cell? ⟨ad.block, ad.off + 1, none⟩ = some (.int .i64 s.1.2)) ∧ (w'.cell? ae = some (.int .i64 t.1.1) ∧ w'.cell? ⟨ae.block, ae.off + 1, none⟩ = some (.int .i64 t.1.2)) ∧ Hid (Below w.heap.size w w') ∧ Hid (Below (w.alloc (.cells #[.int .i64 0, .int .i64 0] 29)).heap.size (w.alloc (.cells #[.int .i64 0, .int .i64 0] 29)) w'))
     (first | exact ⟨(HS.out _ HB.out.drew).1, (HS.out _ HB.out.drew).2, hd_ HB.out.drew, hd_ (Below.refl _ _).drew⟩ | exact ⟨(HS.out _ HK.out).1, (HS.out _ HK.out).2, HK, HJ⟩)
     (first | (go_at_call 97; (with_reducible refine (HL.out _).mono ?_); rintro e w' ⟨rfl, hb⟩; have HK := hd_ (ba_ HB.out.drew hb); have HJ := hd_ (ah_ (Below.refl _ _).drew hb (Nat.le_refl _)); clear hb))
   ·have X1 := hd_ (ag_ HX.out HJ.out)
    obtain ⟨f0, f1⟩ := box_free X1.out;obtain ⟨d0, d1⟩ := ae_ X1.out;obtain ⟨c1, c2, c3⟩ := HD.out _ HK.out;go_wp2_with fail;have HZ := hd_ (box_set X1.out t.1.1 t.1.2);obtain ⟨q0, q1⟩ := ae_ HZ.out;refine bodyPost_ret (v := .agg #[.int .i64 t.1.1, .int .i64 t.1.2]) (by simp [results, Tryz.results148, go_sem, q0, q1]) rfl ?_
    exact ⟨rfl, below_set2 HK.out (Nat.le_refl _) _ _⟩
   ·have X1 := hd_ (ag_ HX.out HJ.out)
    obtain ⟨f0, f1⟩ := box_free X1.out;obtain ⟨d0, d1⟩ := ae_ X1.out;obtain ⟨c1, c2, c3⟩ := HC.out _ HK.out;go_wp2_with fail;have HZ := hd_ (box_set X1.out s.1.1 s.1.2);obtain ⟨q0, q1⟩ := ae_ HZ.out;refine bodyPost_ret (v := .agg #[.int .i64 s.1.1, .int .i64 s.1.2]) (by simp [results, Tryz.results148, go_sem, q0, q1]) rfl ?_
    exact ⟨rfl, below_set2 HK.out (Nat.le_refl _) _ _⟩
end
section
open Go.RowKit Sets Clocks
theorem LiesCLK.len {lo hi : Nat} {w : World} {v : Value} {l : List Tick} (h : LiesCLK lo hi w v l) : lenOf v = l.length := by
 obtain ⟨⟨A, c, rfl, _⟩, _⟩ := h;rfl
structure Visits (K : Nat) (caps : Array Value) (b0 lo : Nat) (S : Nat → World → List Visit → Prop) : Prop where
 enters : ∀ args W, (callFunc K args).run Tryz.prog W = .ok (.enter K args) W
 kept : ∀ hi W W' V, S hi W V → Below W.heap.size W W' → S hi W' V
 step : ∀ hi W V x y p q, lo ≤ hi → hi ≤ W.heap.size → S hi W V → V.length ≤ 90000 →
  Calls Tryz.prog K (#[.agg #[.int .i64 x, .int .i64 y], .int .i64 p, .int .i64 q] ++ caps) W fun e w' => e = .returned (.tuple #[]) ∧ S hi w' (V ++ [((x, y), p, q)]) ∧ Below b0 W w' ∧ Mid lo hi W w'
set_option maxHeartbeats 4000000 in
theorem each_any (K : Nat) (caps : Array Value) (b0 : Nat) (S : Nat → World → List Visit → Prop) (v u : Value) (l m : List Tick) (w : World) (hV : Visits K caps b0 w.heap.size S) (hb0 : b0 ≤ w.heap.size)
  (hS : ∀ hi W, w.heap.size ≤ hi → Below w.heap.size w W → S hi W []) (h : Rcs encT 3 w v l) (h2 : Rcs encT 3 w u m) (hl : l.length ≤ 40000) (hm : m.length ≤ 40000) :
  Calls Tryz.prog 90 #[v, u, .func (.func K) #[] caps] w fun e w' => e = .returned (.tuple #[]) ∧ (∃ hi, S hi w' (both l m)) ∧ Below b0 w w' := by
 have HV := hd_ hV;have HH := hd_ hS;have HI := hd_ h;have HJ := hd_ h2;have hK := hV.enters;have hl2 := nrm_len l;have hm2 := nrm_len m;clear hV hS h h2;go_enter Tryz.func90, Tryz.ntmps90
 go_wp2_with fail;(with_reducible refine (said_any v l _ HI.out (by omega)).mono ?_)
 rintro e w1 ⟨v1, rfl, hr, hf, hb⟩;have HR1 := hd_ hr;have HF1 := hd_ hf;have HB1 := hd_ hb;have HJ1 := hd_ (HJ.out.below hb);clear hr hf hb;go_wp2_with fail;(with_reducible refine (said_any u m _ HJ1.out (by omega)).mono ?_)
 rintro e w2 ⟨v2, rfl, hr, hf, hb⟩;have HB2 := hd_ (ba_ HB1.out hb);have L1 := hd_ (lies_of (hi := w2.heap.size) (HR1.out.below hb) HF1.out (Nat.le_refl _));have L2 := hd_ (lies_of (lo := w.heap.size) (hi := w2.heap.size) hr (fun ad n c e => Nat.le_trans HB1.out.size (hf ad n c e)) (Nat.le_refl _))
 have S2 := hd_ (HH.out w2.heap.size w2 HB2.out.size HB2.out);have HZ := hd_ HB2.out.size;have HB := hd_ (HB2.out.mono hb0);clear hr hf hb HR1 HF1 HB1 HB2 HJ1 HJ HI HH;obtain ⟨hi, hhi⟩ : ∃ hi, w2.heap.size = hi := ⟨_, rfl⟩;rw [hhi] at L1 L2 S2 HZ;have HI2 := hd_ (show hi ≤ w2.heap.size by omega)
 clear hhi;go_wp2_with fail;go_loopw [0, 1] (fun s0 s1 wr => ∃ a b V n, Hid (LiesCLK w.heap.size hi wr s0 a) ∧ Hid (LiesCLK w.heap.size hi wr s1 b) ∧ Hid (S hi wr V) ∧ Hid (V ++ mg n a b = both l m) ∧ a.length + b.length ≤ n ∧ V.length + n ≤ 80000 ∧ a.length ≤ 40000 ∧ b.length ≤ 40000 ∧ Hid (Below b0 w wr) ∧ Hid (hi ≤ wr.heap.size)) (fun s0 s1 _ => lenOf s0 + lenOf s1)
 case atStart => exact ⟨_, _, [], _, L1, L2, S2, hd_ rfl, Nat.le_refl _, by simp; omega, by omega, by omega, HB, HI2⟩
 case round =>
  obtain ⟨a, b, V, n, H0, H1, H2, HE, hn, hVn, ha4, hb4, HW, HS⟩ := hrel;obtain ⟨A, c, rfl, hz⟩ := id H0.out.1;obtain ⟨B, c', rfl, hz2⟩ := id H1.out.1;clear hz hz2;by_cases he : a = [] ∧ b = []
  ·obtain ⟨rfl, rfl⟩ := he
   have HD := hd_ (show V = both l m by
    rw [← HE.out];cases n with
    | zero => simp [mg]
    | succ n => simp [mg])
   go_wp2_with fail;go_end0
   exact ⟨rfl, ⟨hi, by rw [← HD.out]; exact H2.out⟩, HW.out⟩
  ·obtain ⟨n, rfl⟩ : ∃ k, n = k + 1 := by
    refine ⟨n - 1, ?_⟩
    rcases Nat.eq_zero_or_pos a.length with e1 | e1
    ·rcases Nat.eq_zero_or_pos b.length with e2 | e2
     ·exact absurd ⟨List.eq_nil_of_length_eq_zero e1, List.eq_nil_of_length_eq_zero e2⟩ he
     ·omega
    ·omega
   have HNE := hd_ he
   have HE2 : Hid ((V ++ [(fstI a b, tkN (fstI a b) a, tkN (fstI a b) b)]) ++ mg n (tkL (fstI a b) a) (tkL (fstI a b) b) = both l m) := hd_ (by
    rw [← HE.out, mg, if_neg he, List.append_assoc];rfl)
   have HT := hd_ (tk_less he);have ht1 := tkL_len (fstI a b) a;have ht2 := tkL_len (fstI a b) b;have HFI := hd_ fun W h k => first_anyCLK (.slice A a.length c) (.slice B b.length c') a b W h k (by omega) (by omega) he
   have hdd : (decide (0 < a.length) = true) ∨ (a = [] ∧ decide (0 < b.length) = true) := by
    rcases Nat.eq_zero_or_pos a.length with e1 | e1
    ·rcases Nat.eq_zero_or_pos b.length with e2 | e2
     ·exact absurd ⟨List.eq_nil_of_length_eq_zero e1, List.eq_nil_of_length_eq_zero e2⟩ he
     ·exact .inr ⟨List.eq_nil_of_length_eq_zero e1, decide_eq_true (by omega)⟩
    ·exact .inl (decide_eq_true (by omega))
   have R0 := hd_ H0.out.1;have R1 := hd_ H1.out.1;clear he HE;generalize hf : fstI a b = x at *;obtain ⟨x, y⟩ := x;clear hf;rcases hdd with hd | ⟨rfl, hd2⟩
   all_goals
    try simp only [List.length_nil] at HFI R0 H0
    go_wp2_with fail;(with_reducible refine (HFI.out _ R0.out R1.out).mono ?_)
    rintro e w3 ⟨rfl, hb⟩;have X3 := hd_ (ao_ w3 x y);have L3 := hd_ (H0.out.mid (mid_below (hb.alloc hb.size (.cells #[.int .i64 x, .int .i64 y] 29)) HS.out));have M3 := hd_ (H1.out.mid (mid_below (hb.alloc hb.size (.cells #[.int .i64 x, .int .i64 y] 29)) HS.out));have S3 := hd_ (HV.out.kept _ _ _ _ H2.out (hb.alloc hb.size (.cells #[.int .i64 x, .int .i64 y] 29)));have B3 := hd_ ((ah_ HW.out hb hb0).alloc (Nat.le_trans hb0 (ah_ HW.out hb hb0).size) (.cells #[.int .i64 x, .int .i64 y] 29));have Z3 := hd_ (Nat.le_trans HS.out (hb.alloc hb.size (.cells #[.int .i64 x, .int .i64 y] 29)).size);clear hb;obtain ⟨c1, c2⟩ := ae_ X3.out;go_wp2_with fail;(with_reducible refine (take_anyCLK _ _ _ _ x y _ L3.out (by omega)).mono ?_)
    rintro e w4 ⟨V1, rfl, hL, hb⟩;have L4 := hd_ (hL.mid (mid_below hb Z3.out));have M4 := hd_ (M3.out.mid (mid_below hb Z3.out));have S4 := hd_ (HV.out.kept _ _ _ _ S3.out hb);have B4 := hd_ (ah_ B3.out hb hb0);have X4 := hd_ (ag_ X3.out hb);have Z4 := hd_ (Nat.le_trans Z3.out hb.size);clear hL hb c1 c2;obtain ⟨c1, c2⟩ := ae_ X4.out;go_wp2_with fail;(with_reducible refine (take_anyCLK _ _ _ _ x y _ M4.out (by omega)).mono ?_)
    rintro e w5 ⟨V2, rfl, hL, hb⟩;have M5 := hd_ (hL.mid (mid_below hb Z4.out));have L5 := hd_ (L4.out.mid (mid_below hb Z4.out));have S5 := hd_ (HV.out.kept _ _ _ _ S4.out hb);have B5 := hd_ (ah_ B4.out hb hb0);have X5 := hd_ (ag_ X4.out hb);have Z5 := hd_ (Nat.le_trans Z4.out hb.size);clear hL hb c1 c2;obtain ⟨c1, c2⟩ := ae_ X5.out;have HC := hd_ fun p q => HV.out.step hi w5 V x y p q HZ.out Z5.out S5.out (by omega)
    go_wp2_with fail;(with_reducible refine (HC.out _ _).mono ?_)
    rintro e w6 ⟨rfl, hS, hb, hmid⟩;have S6 := hd_ hS;have B6 := hd_ (B5.out.trans hb);have L6 := hd_ (L5.out.mid hmid);have M6 := hd_ (M5.out.mid hmid);have Z6 := hd_ (Nat.le_trans Z5.out hmid.1);clear hS hb hmid c1 c2;go_wp2_with fail;go_roundw
    case rel => exact ⟨_, _, _, n, L6, M6, S6, HE2, by have := HT.out; omega, by simp; omega, by omega, by omega, B6, Z6⟩
    case measure =>
     have e1 := L6.out.len;have e2 := M6.out.len;have := HT.out
     (try simp only [List.length_nil] at this ht1)
     simp [lenOf_slice, e1, e2]
     omega
end
section
open Go.RowKit Sets Clocks
theorem one_freeCLK {w : World} {b : Nat} {v : Value} {T : TypeId} (h : w.heap[b]? = some (.cells #[v] T (0, 0))) : w.cell? ⟨b, 0, none⟩ = some v ∧ w.frozen? ⟨b, 0, none⟩ = false := by
 exact ⟨by simp [World.cell?, h], by simp [World.frozen?, h]⟩
theorem one_setCLK {w : World} {b : Nat} {v : Value} {T : TypeId} (h : w.heap[b]? = some (.cells #[v] T (0, 0))) (u : Value) : (w.setCell ⟨b, 0, none⟩ u).heap[b]? = some (.cells #[u] T (0, 0)) := by
 simp [World.setCell, Array.getElem?_modify, h]
theorem Mid.set {lo hi : Nat} {w w' : World} (h : Mid lo hi w w') {g : Nat} (hg : g < lo) (v : Value) : Mid lo hi w (w'.setCell ⟨g, 0, none⟩ v) :=
 ⟨by rw [World.size_setCell]; exact h.1, fun k h1 h2 => by
  rw [Below.heap_setCell w' ⟨g, 0, none⟩ v k (show k ≠ g by omega)]
  exact h.2 k h1 h2⟩
def Notes (B : Nat) (w : World) (V : List Visit) : Prop :=
 w.heap[B]? = some (.cells #[.bool (V.any fun e => decide (e.2.1 < e.2.2))] 4 (0, 0)) ∧ w.heap[B + 1]? = some (.cells #[.bool (V.any fun e => decide (e.2.2 < e.2.1))] 4 (0, 0))
theorem Notes.below {B : Nat} {w w' : World} {V : List Visit} (h : Notes B w V) (hb : Below w.heap.size w w') : Notes B w' V :=
 ⟨(hb.block _ (row_lt h.1)).trans h.1, (hb.block _ (row_lt h.2)).trans h.2⟩
set_option maxHeartbeats 2000000 in
theorem note_step (B hi : Nat) (W : World) (V : List Visit) (x y p q : Int) (h : Notes B W V) (h1 : B + 2 ≤ hi) (h2 : hi ≤ W.heap.size) :
  Calls Tryz.prog 91 #[.agg #[.int .i64 x, .int .i64 y], .int .i64 p, .int .i64 q, .pointer (some ⟨B, 0, none⟩), .pointer (some ⟨B + 1, 0, none⟩)] W fun e w' =>
   e = .returned (.tuple #[]) ∧ Notes B w' (V ++ [((x, y), p, q)]) ∧ Below B W w' ∧ Mid (B + 2) hi W w' := by
 have hb := hd_ (show Below W.heap.size W (W.alloc (.cells #[.int .i64 x, .int .i64 y] 29)) from (Below.refl _ _).alloc (Nat.le_refl _) _)
 have N1 := h.below hb.out;have HM := hd_ (mid_below (lo := B + 2) hb.out h2);have HB := hd_ ((hb.out).mono (show B ≤ W.heap.size by omega))
 have HN : ∀ (b1 b2 : Bool) (w' : World), b1 = ((V.any fun e => decide (e.2.1 < e.2.2)) || decide (p < q)) → b2 = ((V.any fun e => decide (e.2.2 < e.2.1)) || decide (q < p)) →
   w'.heap[B]? = some (.cells #[.bool b1] 4 (0, 0)) → w'.heap[B + 1]? = some (.cells #[.bool b2] 4 (0, 0)) → Notes B w' (V ++ [((x, y), p, q)]) := by
  intro b1 b2 w' e1 e2 k1 k2;refine ⟨?_, ?_⟩
  ·rw [List.any_append, k1, e1]
   simp
  ·rw [List.any_append, k2, e2]
   simp
 have HNN := hd_ HN;obtain ⟨m1, m2⟩ := N1;clear HN h;generalize (V.any fun e => decide (e.2.1 < e.2.2)) = b1 at *
 generalize (V.any fun e => decide (e.2.2 < e.2.1)) = b2 at *
 have M1 := hd_ m1;have M2 := hd_ m2;obtain ⟨c1, f1⟩ := one_freeCLK m1;obtain ⟨c2, f2⟩ := one_freeCLK m2;clear m1 m2;have hne : ¬ B = B + 1 := by omega
 cases b1 <;> cases b2
 all_goals
  go_enter Tryz.func91, Tryz.ntmps91
  go_wp2_with fail;go_end0
  refine ⟨rfl, ?_, ?_, ?_⟩
  ·refine HNN.out _ _ _ ?_ ?_ (by
    rw [Below.heap_setCell _ _ _ _ (show B ≠ B + 1 by omega)]
    exact one_setCLK M1.out _) (one_setCLK (by
    rw [Below.heap_setCell _ _ _ _ (show B + 1 ≠ B by omega)]
    exact M2.out) _)
   ·simp
   ·simp
  ·exact ((HB.out.setCell (p := ⟨B, 0, none⟩) (Nat.le_refl _) _).setCell (p := ⟨B + 1, 0, none⟩) (Nat.le_succ _) _)
  ·exact (HM.out.set (by omega) _).set (by omega) _
theorem note_visits (B : Nat) : Visits 91 #[.pointer (some ⟨B, 0, none⟩), .pointer (some ⟨B + 1, 0, none⟩)] B (B + 2) (fun _ w V => Notes B w V) where
 enters := enters_of Tryz.func91 (by kernel_rfl) rfl
 kept _ _ _ _ h hb := h.below hb
 step hi W V x y p q h1 h2 h _ := note_step B hi W V x y p q h h1 h2
end
end Go.Proofs.YthkkipbmlafdiaaGreat
