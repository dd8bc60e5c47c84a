/-
  Contracts and plain facts.
-/
import Derived.Test.YthkkipbmlafdiaaGreatOy
import Derived.Deep.DeepCutAuto
import Derived.Test.YthkkipbmlafdiaaGreatB02
set_option maxRecDepth 20000
namespace Go.Proofs.YthkkipbmlafdiaaGreat
section
open Go.RowKit
theorem box_free {w : World} {g : Nat} {a i : Int} (h : Box w g a i) : w.frozen? ⟨g, 0, none⟩ = false ∧ w.frozen? ⟨g, 1, none⟩ = false := by
 unfold Box at h;exact ⟨by simp [World.frozen?, h], by simp [World.frozen?, h]⟩
theorem box_set {w : World} {g : Nat} {a i : Int} (h : Box w g a i) (p q : Int) : Box ((w.setCell ⟨g, 0, none⟩ (.int .i64 p)).setCell ⟨g, 1, none⟩ (.int .i64 q)) g p q := by
 unfold Box at *;simp [World.setCell, Array.getElem?_modify, h]
def lenOf : Value → Nat
 | .slice _ n _ => n
 | _ => 0
theorem lenOf_slice (A : Option Addr) (n c : Nat) : lenOf (.slice A n c) = n := rfl
theorem Ids.len {w : World} {v : Value} {l : List (Int × Int)} (h : Ids w v l) : lenOf v = l.length := by
 obtain ⟨A, c, rfl, _⟩ := h;rfl
theorem owns_apart {w : World} {base : Nat} {v : Value} {l : List (Int × Int)} (h : Owns w base v l) : v.ownBlock ≠ some w.heap.size := by
 intro e;exact absurd (World.ownsRow.lt h _ e).2 (by omega)
theorem owns_set {w : World} {base g : Nat} {v : Value} {l : List (Int × Int)} (h : Owns w base v l) (hg : v.ownBlock ≠ some g) (p q : Int) : Owns ((w.setCell ⟨g, 0, none⟩ (.int .i64 p)).setCell ⟨g, 1, none⟩ (.int .i64 q)).drew base v l :=
 World.ownsRow.kept h (row := some g) ⟨rfl, rfl, rfl, by simp [World.setCell], fun k _ hne => by
  have hk : k ≠ g := fun e => hne (by rw [e])
  exact (Below.heap_setCell (w.setCell ⟨g, 0, none⟩ (.int .i64 p)) ⟨g, 1, none⟩ (.int .i64 q) k hk).trans (Below.heap_setCell w ⟨g, 0, none⟩ (.int .i64 p) k hk)⟩ (.inr hg)
theorem heads (l m : List (Int × Int)) (h : ¬ (l = [] ∧ m = [])) :
  (∃ x l', l = x :: l' ∧ headZ l m = -1) ∨ (∃ x l' y m', l = x :: l' ∧ m = y :: m' ∧ headZ l m = 0) ∨ (∃ x l' y m', l = x :: l' ∧ m = y :: m' ∧ headZ l m = 1) ∨ (∃ y m', l = [] ∧ m = y :: m' ∧ headZ l m = 1) := by
 cases l with
 | nil =>
  cases m with
  | nil => exact absurd ⟨rfl, rfl⟩ h
  | cons y m => exact .inr (.inr (.inr ⟨y, m, rfl, rfl, rfl⟩))
 | cons x l =>
  cases m with
  | nil => exact .inl ⟨x, l, rfl, rfl⟩
  | cons y m =>
   have hz : headZ (x :: l) (y :: m) = cmpZ x.1 x.2 y.1 y.2 := rfl
   rw [cmpZ_eq] at hz;split at hz
   ·exact .inl ⟨x, l, rfl, hz⟩
   ·split at hz
    ·exact .inr (.inr (.inl ⟨x, l, y, m, rfl, rfl, hz⟩))
    ·exact .inr (.inl ⟨x, l, y, m, rfl, rfl, hz⟩)
theorem enters_fn {f : FuncId} {fn : Func} {c : Code} (hf : Tryz.prog.funcs[f]? = some fn) (hname : (fn.name == "runtime.NumGoroutine") = false) (hb : fn.body = some c) (args : Array Value) (w : World) : (callFunc f args).run Tryz.prog w = .ok (.enter f args) w := by
 have h1 : fn.name ≠ "runtime.NumGoroutine" := by simpa using hname
 simp [callFunc, hf, h1, hb, mark, go_sem]
theorem keeps_enter {K : Nat} {k : Bool → Bool → Bool} (h : Keeps K k) (args : Array Value) (w : World) : (callFunc K args).run Tryz.prog w = .ok (.enter K args) w := by
 rcases h with ⟨rfl, _⟩ | ⟨rfl, _⟩ | ⟨rfl, _⟩
 ·exact enters_fn Tryz.func186 (by kernel_rfl) rfl args w
 ·exact enters_fn Tryz.func167 (by kernel_rfl) rfl args w
 ·exact enters_fn Tryz.func193 (by kernel_rfl) rfl args w
set_option maxHeartbeats 2000000 in
theorem merged_any (K : Nat) (k : Bool → Bool → Bool) (hK : Keeps K k) (v u : Value) (l m : List (Int × Int)) (w : World) (h : Ids w v l) (h2 : Ids w u m) (hl : l.length ≤ 40000) (hm : m.length ≤ 40000) :
  Calls Tryz.prog 185 #[v, u, .func (.func 102) #[] #[], .func (.func K) #[] #[]] w fun e w' => ∃ v', e = .returned v' ∧ Owns w' w.heap.size v' (mrg k l m) ∧ Below w.heap.size w w' := by
 obtain ⟨A, c, rfl, hz⟩ := id h;obtain ⟨B, d, rfl, hz2⟩ := id h2;clear hz hz2;have HI := hd_ h;have HJ := hd_ h2;have HK := hd_ hK;clear h h2 hK;go_enter Tryz.func185, Tryz.ntmps185
 go_wp2_with (at_make; refine wpList_make_room _ rfl (.tmp 18) rfl _ rfl (by omega) (by omega) ?_; intro v1 w1 h1 h2)
 have HO := hd_ h1;have HW := hd_ h2;clear h1 h2;go_loopw [0, 1, 9] (fun s0 s1 s9 wr => ∃ lk mk d, Ids w s0 lk ∧ Ids w s1 mk ∧ Owns wr w.heap.size s9 d ∧ d ++ mrg k lk mk = mrg k l m ∧ lk.length + mk.length + d.length ≤ l.length + m.length ∧ Below w.heap.size w wr) (fun s0 s1 _ _ => lenOf s0 + lenOf s1)
 case atStart => exact ⟨l, m, [], HI.out, HJ.out, HO.out, rfl, by simp, HW.out⟩
 case round =>
  obtain ⟨lk, mk, d, h0, h1, ho, he, hd, hw⟩ := hrel;have H0 := hd_ h0;have H1 := hd_ h1;have H9 := hd_ ho;have HE := hd_ he;have HB := hd_ hw;clear ho he hw;by_cases hn : lk = [] ∧ mk = []
  ·obtain ⟨rfl, rfl⟩ := hn
   obtain ⟨A0, c0, rfl, _⟩ := h0;obtain ⟨A1, c1, rfl, _⟩ := h1;go_wp2_with fail;go_ret;exact ⟨_, rfl, by have := HE.out; rw [mrg_none, List.append_nil] at this; rw [← this]; exact H9.out, HB.out⟩
  ·have hh := heads lk mk hn
   have HF := hd_ fun W (hb : Below w.heap.size w W) => first_any u0 u1 lk mk W (H0.out.below hb) (H1.out.below hb) (by omega) (by omega)
   rcases hh with ⟨x, l', rfl, e⟩ | ⟨x, l', y, m', rfl, rfl, e⟩ | ⟨x, l', y, m', rfl, rfl, e⟩ | ⟨y, m', rfl, rfl, e⟩
   ·rw [e] at HF
    obtain ⟨ad, c0, rfl, hc⟩ := h0.head;have HC := hd_ hc;obtain ⟨V, ht, hv⟩ := run_tail H0.out;have HT := hd_ hv;have HN := hd_ hv.len;obtain ⟨A1, c1, rfl, hx1⟩ := id h1;clear hc hv hx1;have HM := hd_ (mrg_left (k := k) e);have hK := keeps_enter HK.out;clear h0 h1 e hn;go_wp2_with fail;(with_reducible refine (HF.out _ HB.out).mono ?_)
    rintro e w2 ⟨rfl, hb⟩;have B2 := hd_ (ba_ HB.out hb);have O2 := hd_ (H9.out.below hb);clear hb;go_wp2_with fail;have X3 := hd_ (ao_ w2 0 0);have B3 := hd_ (B2.out.alloc B2.out.size (.cells #[.int .i64 0, .int .i64 0] 29));have O3 := hd_ (O2.out.below ((Below.refl w2.heap.size w2).alloc (Nat.le_refl _) (.cells #[.int .i64 0, .int .i64 0] 29)));have G3 := hd_ B2.out.size;have Q3 := hd_ (owns_apart O2.out);generalize w2.alloc (.cells #[.int .i64 0, .int .i64 0] 29) = w3 at *;generalize w2.heap.size = g at *;obtain ⟨p1, p2⟩ := HC.out w3 B3.out;obtain ⟨p3, p4⟩ := ae_ X3.out;obtain ⟨p5, p6⟩ := box_free X3.out;go_region
    clear p1 p2 p3 p4 p5 p6;have X4 := hd_ (show Box ((w3.setCell ⟨g, 0, none⟩ (.int .i64 x.1)).setCell ⟨g, 1, none⟩ (.int .i64 x.2)).drew g x.1 x.2 from box_set X3.out x.1 x.2)
    have B4 := hd_ (show Below w.heap.size w ((w3.setCell ⟨g, 0, none⟩ (.int .i64 x.1)).setCell ⟨g, 1, none⟩ (.int .i64 x.2)).drew from ((B3.out.setCell G3.out _).setCell G3.out _).drew)
    have O4 := hd_ (show Owns ((w3.setCell ⟨g, 0, none⟩ (.int .i64 x.1)).setCell ⟨g, 1, none⟩ (.int .i64 x.2)).drew w.heap.size u9 d from owns_set O3.out Q3.out x.1 x.2)
    generalize ((w3.setCell ⟨g, 0, none⟩ (.int .i64 x.1)).setCell ⟨g, 1, none⟩ (.int .i64 x.2)).drew = w4 at *;go_wp2_with fail;(with_reducible refine (keeps_any HK.out _ _ _).mono ?_)
    rintro e w9 ⟨rfl, rfl⟩;obtain ⟨p1, p2⟩ := ae_ X4.out;cases hkk : k true false
    ·have HKK := hd_ (show d ++ mrg k l' mk = mrg k l m by rw [← HE.out, HM.out, hkk]; rfl)
     clear hkk hK;go_wp2_with fail;clear p1 p2;go_roundw
     case rel => exact ⟨l', mk, d, HT.out, H1.out, O4.out, HKK.out, by simp at hd ⊢; omega, B4.out⟩
     case measure => simp [HN.out, lenOf_slice]; try omega
    ·have HKK := hd_ (show (d ++ [(x.1, x.2)]) ++ mrg k l' mk = mrg k l m by rw [← HE.out, HM.out, hkk, List.append_assoc]; rfl)
     clear hkk hK;go_wp2_with (at_builtin; refine wpList_append_one rfl (.tmp 52) (.tmp 54) rfl w4 w.heap.size u9 d x.1 x.2 rfl rfl O4.out (by simp at hd; omega) B4.out.size ?_; intro v8 w8 h8 h9)
     have O8 := hd_ h8;have B8 := hd_ (B4.out.trans h9);clear h8 h9 p1 p2;go_wp2_with fail;go_roundw
     case rel => exact ⟨l', mk, d ++ [(x.1, x.2)], HT.out, H1.out, O8.out, HKK.out, by simp at hd ⊢; omega, B8.out⟩
     case measure => simp [HN.out, lenOf_slice]; try omega
   ·rw [e] at HF
    obtain ⟨ad, c0, rfl, hc⟩ := h0.head;have HC := hd_ hc;obtain ⟨V, ht, hv⟩ := run_tail H0.out;have HT := hd_ hv;have HN := hd_ hv.len;obtain ⟨ae, c1, rfl, hc2⟩ := h1.head;have HD := hd_ hc2;obtain ⟨U, ht2, hv2⟩ := run_tail H1.out;have HU := hd_ hv2;have HV := hd_ hv2.len;clear hc hv hc2 hv2;have HM := hd_ (mrg_same (k := k) e);have hK := keeps_enter HK.out;clear h0 h1 e hn;go_wp2_with fail;(with_reducible refine (HF.out _ HB.out).mono ?_)
    rintro e w2 ⟨rfl, hb⟩;have B2 := hd_ (ba_ HB.out hb);have O2 := hd_ (H9.out.below hb);clear hb;go_wp2_with fail;have X3 := hd_ (ao_ w2 0 0);have B3 := hd_ (B2.out.alloc B2.out.size (.cells #[.int .i64 0, .int .i64 0] 29));have O3 := hd_ (O2.out.below ((Below.refl w2.heap.size w2).alloc (Nat.le_refl _) (.cells #[.int .i64 0, .int .i64 0] 29)));have G3 := hd_ B2.out.size;have Q3 := hd_ (owns_apart O2.out);generalize w2.alloc (.cells #[.int .i64 0, .int .i64 0] 29) = w3 at *;generalize w2.heap.size = g at *;obtain ⟨p1, p2⟩ := HC.out w3 B3.out;obtain ⟨p3, p4⟩ := ae_ X3.out;obtain ⟨p5, p6⟩ := box_free X3.out;go_region
    clear p1 p2 p3 p4 p5 p6;have X4 := hd_ (show Box ((w3.setCell ⟨g, 0, none⟩ (.int .i64 x.1)).setCell ⟨g, 1, none⟩ (.int .i64 x.2)).drew g x.1 x.2 from box_set X3.out x.1 x.2)
    have B4 := hd_ (show Below w.heap.size w ((w3.setCell ⟨g, 0, none⟩ (.int .i64 x.1)).setCell ⟨g, 1, none⟩ (.int .i64 x.2)).drew from ((B3.out.setCell G3.out _).setCell G3.out _).drew)
    have O4 := hd_ (show Owns ((w3.setCell ⟨g, 0, none⟩ (.int .i64 x.1)).setCell ⟨g, 1, none⟩ (.int .i64 x.2)).drew w.heap.size u9 d from owns_set O3.out Q3.out x.1 x.2)
    generalize ((w3.setCell ⟨g, 0, none⟩ (.int .i64 x.1)).setCell ⟨g, 1, none⟩ (.int .i64 x.2)).drew = w4 at *;go_wp2_with fail;obtain ⟨p1, p2⟩ := HD.out w4 B4.out;obtain ⟨p3, p4⟩ := ae_ X4.out;obtain ⟨p5, p6⟩ := box_free X4.out;go_region
    clear p1 p2 p3 p4 p5 p6;have X5 := hd_ (show Box ((w4.setCell ⟨g, 0, none⟩ (.int .i64 y.1)).setCell ⟨g, 1, none⟩ (.int .i64 y.2)).drew g y.1 y.2 from box_set X4.out y.1 y.2)
    have B5 := hd_ (show Below w.heap.size w ((w4.setCell ⟨g, 0, none⟩ (.int .i64 y.1)).setCell ⟨g, 1, none⟩ (.int .i64 y.2)).drew from ((B4.out.setCell G3.out _).setCell G3.out _).drew)
    have O5 := hd_ (show Owns ((w4.setCell ⟨g, 0, none⟩ (.int .i64 y.1)).setCell ⟨g, 1, none⟩ (.int .i64 y.2)).drew w.heap.size u9 d from owns_set O4.out Q3.out y.1 y.2)
    generalize ((w4.setCell ⟨g, 0, none⟩ (.int .i64 y.1)).setCell ⟨g, 1, none⟩ (.int .i64 y.2)).drew = w5 at *;go_wp2_with fail;(with_reducible refine (keeps_any HK.out _ _ _).mono ?_)
    rintro e w9 ⟨rfl, rfl⟩;obtain ⟨p1, p2⟩ := ae_ X5.out;cases hkk : k true true
    ·have HKK := hd_ (show d ++ mrg k l' m' = mrg k l m by rw [← HE.out, HM.out, hkk]; rfl)
     clear hkk hK;go_wp2_with fail;clear p1 p2;go_roundw
     case rel => exact ⟨l', m', d, HT.out, HU.out, O5.out, HKK.out, by simp at hd ⊢; omega, B5.out⟩
     case measure => simp [HN.out, HV.out, lenOf_slice]; try omega
    ·have HKK := hd_ (show (d ++ [(y.1, y.2)]) ++ mrg k l' m' = mrg k l m by rw [← HE.out, HM.out, hkk, List.append_assoc]; rfl)
     clear hkk hK;go_wp2_with (at_builtin; refine wpList_append_one rfl (.tmp 52) (.tmp 54) rfl w5 w.heap.size u9 d y.1 y.2 rfl rfl O5.out (by simp at hd; omega) B5.out.size ?_; intro v8 w8 h8 h9)
     have O8 := hd_ h8;have B8 := hd_ (B5.out.trans h9);clear h8 h9 p1 p2;go_wp2_with fail;go_roundw
     case rel => exact ⟨l', m', d ++ [(y.1, y.2)], HT.out, HU.out, O8.out, HKK.out, by simp at hd ⊢; omega, B8.out⟩
     case measure => simp [HN.out, HV.out, lenOf_slice]; try omega
   ·rw [e] at HF
    obtain ⟨ae, c1, rfl, hc2⟩ := h1.head;have HD := hd_ hc2;obtain ⟨U, ht2, hv2⟩ := run_tail H1.out;have HU := hd_ hv2;have HV := hd_ hv2.len;obtain ⟨ad, c0, rfl, hc⟩ := h0.head;clear hc hc2 hv2;have HM := hd_ (mrg_right (k := k) e);have hK := keeps_enter HK.out;clear h0 h1 e hn;go_wp2_with fail;(with_reducible refine (HF.out _ HB.out).mono ?_)
    rintro e w2 ⟨rfl, hb⟩;have B2 := hd_ (ba_ HB.out hb);have O2 := hd_ (H9.out.below hb);clear hb;go_wp2_with fail;have X3 := hd_ (ao_ w2 0 0);have B3 := hd_ (B2.out.alloc B2.out.size (.cells #[.int .i64 0, .int .i64 0] 29));have O3 := hd_ (O2.out.below ((Below.refl w2.heap.size w2).alloc (Nat.le_refl _) (.cells #[.int .i64 0, .int .i64 0] 29)));have G3 := hd_ B2.out.size;have Q3 := hd_ (owns_apart O2.out);generalize w2.alloc (.cells #[.int .i64 0, .int .i64 0] 29) = w3 at *;generalize w2.heap.size = g at *;obtain ⟨p1, p2⟩ := HD.out w3 B3.out;obtain ⟨p3, p4⟩ := ae_ X3.out;obtain ⟨p5, p6⟩ := box_free X3.out;go_region
    clear p1 p2 p3 p4 p5 p6;have X4 := hd_ (show Box ((w3.setCell ⟨g, 0, none⟩ (.int .i64 y.1)).setCell ⟨g, 1, none⟩ (.int .i64 y.2)).drew g y.1 y.2 from box_set X3.out y.1 y.2)
    have B4 := hd_ (show Below w.heap.size w ((w3.setCell ⟨g, 0, none⟩ (.int .i64 y.1)).setCell ⟨g, 1, none⟩ (.int .i64 y.2)).drew from ((B3.out.setCell G3.out _).setCell G3.out _).drew)
    have O4 := hd_ (show Owns ((w3.setCell ⟨g, 0, none⟩ (.int .i64 y.1)).setCell ⟨g, 1, none⟩ (.int .i64 y.2)).drew w.heap.size u9 d from owns_set O3.out Q3.out y.1 y.2)
    generalize ((w3.setCell ⟨g, 0, none⟩ (.int .i64 y.1)).setCell ⟨g, 1, none⟩ (.int .i64 y.2)).drew = w4 at *;go_wp2_with fail;(with_reducible refine (keeps_any HK.out _ _ _).mono ?_)
    rintro e w9 ⟨rfl, rfl⟩;obtain ⟨p1, p2⟩ := ae_ X4.out;cases hkk : k false true
    ·have HKK := hd_ (show d ++ mrg k (x :: l') m' = mrg k l m by rw [← HE.out, HM.out, hkk]; rfl)
     clear hkk hK;go_wp2_with fail;clear p1 p2;go_roundw
     case rel => exact ⟨(x :: l'), m', d, H0.out, HU.out, O4.out, HKK.out, by simp at hd ⊢; omega, B4.out⟩
     case measure => simp [HV.out, lenOf_slice]; try omega
    ·have HKK := hd_ (show (d ++ [(y.1, y.2)]) ++ mrg k (x :: l') m' = mrg k l m by rw [← HE.out, HM.out, hkk, List.append_assoc]; rfl)
     clear hkk hK;go_wp2_with (at_builtin; refine wpList_append_one rfl (.tmp 52) (.tmp 54) rfl w4 w.heap.size u9 d y.1 y.2 rfl rfl O4.out (by simp at hd; omega) B4.out.size ?_; intro v8 w8 h8 h9)
     have O8 := hd_ h8;have B8 := hd_ (B4.out.trans h9);clear h8 h9 p1 p2;go_wp2_with fail;go_roundw
     case rel => exact ⟨(x :: l'), m', d ++ [(y.1, y.2)], H0.out, HU.out, O8.out, HKK.out, by simp at hd ⊢; omega, B8.out⟩
     case measure => simp [HV.out, lenOf_slice]; try omega
   ·rw [e] at HF
    obtain ⟨ae, c1, rfl, hc2⟩ := h1.head;have HD := hd_ hc2;obtain ⟨U, ht2, hv2⟩ := run_tail H1.out;have HU := hd_ hv2;have HV := hd_ hv2.len;obtain ⟨A0, c0, hv0, hx0⟩ := id h0;obtain rfl : u0 = .slice A0 0 c0 := hv0;clear hc2 hv2 hx0;have HM := hd_ (mrg_right (k := k) e);have hK := keeps_enter HK.out;clear h0 h1 e hn;go_wp2_with fail;(with_reducible refine (HF.out _ HB.out).mono ?_)
    rintro e w2 ⟨rfl, hb⟩;have B2 := hd_ (ba_ HB.out hb);have O2 := hd_ (H9.out.below hb);clear hb;go_wp2_with fail;have X3 := hd_ (ao_ w2 0 0);have B3 := hd_ (B2.out.alloc B2.out.size (.cells #[.int .i64 0, .int .i64 0] 29));have O3 := hd_ (O2.out.below ((Below.refl w2.heap.size w2).alloc (Nat.le_refl _) (.cells #[.int .i64 0, .int .i64 0] 29)));have G3 := hd_ B2.out.size;have Q3 := hd_ (owns_apart O2.out);generalize w2.alloc (.cells #[.int .i64 0, .int .i64 0] 29) = w3 at *;generalize w2.heap.size = g at *;obtain ⟨p1, p2⟩ := HD.out w3 B3.out;obtain ⟨p3, p4⟩ := ae_ X3.out;obtain ⟨p5, p6⟩ := box_free X3.out;go_region
    clear p1 p2 p3 p4 p5 p6;have X4 := hd_ (show Box ((w3.setCell ⟨g, 0, none⟩ (.int .i64 y.1)).setCell ⟨g, 1, none⟩ (.int .i64 y.2)).drew g y.1 y.2 from box_set X3.out y.1 y.2)
    have B4 := hd_ (show Below w.heap.size w ((w3.setCell ⟨g, 0, none⟩ (.int .i64 y.1)).setCell ⟨g, 1, none⟩ (.int .i64 y.2)).drew from ((B3.out.setCell G3.out _).setCell G3.out _).drew)
    have O4 := hd_ (show Owns ((w3.setCell ⟨g, 0, none⟩ (.int .i64 y.1)).setCell ⟨g, 1, none⟩ (.int .i64 y.2)).drew w.heap.size u9 d from owns_set O3.out Q3.out y.1 y.2)
    generalize ((w3.setCell ⟨g, 0, none⟩ (.int .i64 y.1)).setCell ⟨g, 1, none⟩ (.int .i64 y.2)).drew = w4 at *;go_wp2_with fail;(with_reducible refine (keeps_any HK.out _ _ _).mono ?_)
    rintro e w9 ⟨rfl, rfl⟩;obtain ⟨p1, p2⟩ := ae_ X4.out;cases hkk : k false true
    ·have HKK := hd_ (show d ++ mrg k [] m' = mrg k l m by rw [← HE.out, HM.out, hkk]; rfl)
     clear hkk hK;go_wp2_with fail;clear p1 p2;go_roundw
     case rel => exact ⟨[], m', d, H0.out, HU.out, O4.out, HKK.out, by simp at hd ⊢; omega, B4.out⟩
     case measure => simp [HV.out, lenOf_slice]; try omega
    ·have HKK := hd_ (show (d ++ [(y.1, y.2)]) ++ mrg k [] m' = mrg k l m by rw [← HE.out, HM.out, hkk, List.append_assoc]; rfl)
     clear hkk hK;go_wp2_with (at_builtin; refine wpList_append_one rfl (.tmp 52) (.tmp 54) rfl w4 w.heap.size u9 d y.1 y.2 rfl rfl O4.out (by simp at hd; omega) B4.out.size ?_; intro v8 w8 h8 h9)
     have O8 := hd_ h8;have B8 := hd_ (B4.out.trans h9);clear h8 h9 p1 p2;go_wp2_with fail;go_roundw
     case rel => exact ⟨[], m', d ++ [(y.1, y.2)], H0.out, HU.out, O8.out, HKK.out, by simp at hd ⊢; omega, B8.out⟩
     case measure => simp [HV.out, lenOf_slice]; try omega
end
section
open Go.RowKit Sets
def Lists (l : List (Int × Int)) (w : World) (e : Ending) (w' : World) : Prop := ∃ v', e = .returned v' ∧ Ids w' v' l ∧ Below w.heap.size w w'
def News (l : List (Int × Int)) (w : World) (e : Ending) (w' : World) : Prop := ∃ v', e = .returned v' ∧ Owns w' w.heap.size v' l ∧ Below w.heap.size w w'
theorem News.lists {l : List (Int × Int)} {w w' : World} {e : Ending} (h : News l w e w') : Lists l w e w' := by
 obtain ⟨v, h1, h2, h3⟩ := h;exact ⟨v, h1, ids_of_owns h2, h3⟩
theorem Owns.mono {w : World} {base b : Nat} {v : Value} {l : List (Int × Int)} (h : Owns w base v l) (hb : b ≤ base) : Owns w b v l := by
 refine ⟨h.1, ?_⟩
 rcases id h.2 with h1 | ⟨g, cap, cur, h1, h2, h3⟩
 ·exact .inl h1
 ·exact .inr ⟨g, cap, cur, h1, Nat.le_trans hb h2, h3⟩
set_option maxHeartbeats 1000000 in
theorem sorted_rising (v : Value) (l : List (Int × Int)) (w : World) (h : Ids w v l) (hl : l.length ≤ 40000) (hr : risesB l = true) :
  Calls Tryz.prog 150 #[v, .func (.func 102) #[] #[]] w (News (setOf l) w) := by
 have HS := hd_ (setOf_self ((risesB_iff l).1 hr));have HR := hd_ hr;have HI := hd_ h;obtain ⟨A, c, rfl, hz⟩ := h;clear hr hz;go_enter Tryz.func150, Tryz.ntmps150
 go_wp2_with fail;(with_reducible refine (rising_gen _ l _ HI.out (by omega)).mono ?_)
 rintro e w1 ⟨rfl, hb⟩;rw [HR.out];have HB := hd_ hb;have HJ := hd_ (HI.out.below hb);clear hb
 go_wp2_with (first
  | (at_make; refine wpList_make_room _ rfl (.tmp 10) rfl _ rfl (by omega) (by omega) ?_; intro v2 w2 h1 h2; have HO := hd_ h1; have H2 := hd_ h2; have HK := hd_ (HJ.out.below h2); have HZ := hd_ h2.size; clear h1 h2)
  | (at_builtin; refine wpList_append_list rfl (.tmp 11) (.tmp 12) rfl _ w1.heap.size v2 _ [] l rfl rfl HO.out HK.out (by simp; omega) HZ.out ?_; intro v3 w3 h1 h2; have HP := hd_ h1; have H3 := hd_ (H2.out.trans h2); clear h1 h2))
 go_ret;exact ⟨v3, rfl, by rw [HS.out]; exact HP.out.mono HB.out.size, ba_ HB.out H3.out⟩
set_option maxHeartbeats 2000000 in
theorem sorted_ind (n : Nat) : ∀ (v : Value) (l : List (Int × Int)) (w : World), Ids w v l → l.length ≤ n → l.length ≤ 40000 →
  Calls Tryz.prog 150 #[v, .func (.func 102) #[] #[]] w (News (setOf l) w) := by
 induction n with
 | zero =>
  intro v l w h h0 hl;exact sorted_rising v l w h hl (by rw [List.eq_nil_of_length_eq_zero (by omega : l.length = 0)]; rfl)
 | succ n ih =>
  intro v l w h hn hl;cases hr : risesB l
  ·have h2 : 2 ≤ l.length := by
    cases l with
    | nil => cases hr
    | cons x l =>
     cases l with
     | nil => cases hr
     | cons y l => simp
   obtain ⟨V, ht, hv⟩ := run_to h (l.length / 2) (by omega)
   obtain ⟨U, hu, hw⟩ := run_from h (l.length / 2) (by omega)
   have hl1 : (l.take (l.length / 2)).length ≤ n := by rw [List.length_take]; omega
   have hl2 : (l.drop (l.length / 2)).length ≤ n := by rw [List.length_drop]; omega
   have hl3 : (l.take (l.length / 2)).length ≤ 40000 := by rw [List.length_take]; omega
   have hl4 : (l.drop (l.length / 2)).length ≤ 40000 := by rw [List.length_drop]; omega
   have HE := hd_ (join_halves l (l.length / 2));have HA := hd_ fun W (hb : Below w.heap.size w W) => ih V _ W (hv.below hb) hl1 hl3
   have HC := hd_ fun W (hb : Below w.heap.size w W) => ih U _ W (hw.below hb) hl2 hl4
   have HM := hd_ fun v1 v2 W h1 h2 => merged_any 186 _ keeps_all v1 v2 (setOf (l.take (l.length / 2))) (setOf (l.drop (l.length / 2))) W h1 h2 (by have := setOf_len (l.take (l.length / 2)); omega) (by have := setOf_len (l.drop (l.length / 2)); omega)
   have HR := hd_ hr;have HI := hd_ h;rw [show ((l.length / 2 : Nat) : Int) = (l.length : Int) / 2 by omega] at ht hu
   obtain ⟨A, c, rfl, hz⟩ := h;clear hr hz hv hw hl1 hl2 hl3 hl4 ih;go_enter Tryz.func150, Tryz.ntmps150
   go_wp2_with fail;(with_reducible refine (rising_gen _ l _ HI.out (by omega)).mono ?_)
   rintro e w1 ⟨rfl, hb⟩;rw [HR.out];have HB := hd_ hb;clear hb;go_wp2_with fail
   go_region_held3 (fun w' => Hid (Below w.heap.size w w'))
    (first | exact hd_ HB.out.drew | exact HK)
    (first
     | (go_at_call 150; (with_reducible refine (HA.out _ HB.out.drew).mono ?_); rintro e w' ⟨r1, rfl, hi, hb⟩; have HK := hd_ (ba_ HB.out.drew hb); have J1 := hd_ hi; clear hb hi)
     | (go_at_call 150; (with_reducible refine (HC.out _ HK.out).mono ?_); rintro e w' ⟨r2, rfl, hi, hb⟩; have HK := hd_ (ba_ HK.out hb); have J1 := hd_ (J1.out.below hb); have J2 := hd_ hi; clear hb hi)
     | (go_at_call 185; (with_reducible refine (HM.out _ _ _ (ids_of_owns J1.out) (ids_of_owns J2.out)).mono ?_); rintro e w' ⟨r3, rfl, hi, hb⟩; have HZ := hd_ HK.out.size; have HK := hd_ (ba_ HK.out hb); have J3 := hd_ hi; clear hb hi))
   go_wp2_with fail;go_ret;exact ⟨_, rfl, by rw [← HE.out, ← mrg_all]; exact J3.out.mono HZ.out, HK.out⟩
  ·exact sorted_rising v l w h hl hr
end
section
open Go.RowKit Sets
theorem set_new (v : Value) (l : List (Int × Int)) (w : World) (h : Ids w v l) (hl : l.length ≤ 40000) : Calls Tryz.prog 92 #[v] w (News (setOf l) w) := by
 have HI := hd_ h;clear h;go_enter Tryz.func92, Tryz.ntmps92
 go_wp2_with fail;refine (sorted_ind l.length v l _ HI.out (Nat.le_refl _) hl).mono ?_
 rintro e w1 ⟨r, rfl, hi, hb⟩;have H1 := hd_ hi;have B1 := hd_ hb;clear hi hb;go_wp2_with fail;go_ret;exact ⟨r, rfl, H1.out, B1.out⟩
theorem set_any (v : Value) (l : List (Int × Int)) (w : World) (h : Ids w v l) (hl : l.length ≤ 40000) : Calls Tryz.prog 92 #[v] w (Lists (setOf l) w) := (set_new v l w h hl).mono fun _ _ h => h.lists
theorem chosen_new (K : Nat) (k : Bool → Bool → Bool) (hK : Keeps K k) (v u : Value) (l m : List (Int × Int)) (w : World) (h : Ids w v l) (h2 : Ids w u m) (hl : l.length ≤ 40000) (hm : m.length ≤ 40000) :
  Calls Tryz.prog 166 #[v, u, .func (.func K) #[] #[]] w (News (mrg k (setOf l) (setOf m)) w) := by
 have HI := hd_ h;have HJ := hd_ h2;have HK := hd_ hK;have hl2 := setOf_len l;have hm2 := setOf_len m;clear h h2 hK;go_enter Tryz.func166, Tryz.ntmps166
 go_wp2_with fail;refine (set_new v l _ HI.out hl).mono ?_
 rintro e w1 ⟨r, rfl, hi, hb⟩;have H1 := hd_ hi;have B1 := hd_ hb;have J1 := hd_ (HJ.out.below hb);clear hi hb;go_wp2_with fail;refine (set_new u m _ J1.out hm).mono ?_
 rintro e w2 ⟨r2, rfl, hi, hb⟩;have H2 := hd_ hi;have B2 := hd_ (ba_ B1.out hb);have K2 := hd_ (H1.out.below hb);clear hi hb;go_wp2_with fail;refine (merged_any K k HK.out r r2 _ _ _ (ids_of_owns K2.out) (ids_of_owns H2.out) (by omega) (by omega)).mono ?_
 rintro e w3 ⟨r3, rfl, hi, hb⟩;have H3 := hd_ hi;have B3 := hd_ (ba_ B2.out hb);clear hi hb;go_wp2_with fail;go_ret;exact ⟨r3, rfl, H3.out.mono B2.out.size, B3.out⟩
theorem join_new (v u : Value) (l m : List (Int × Int)) (w : World) (h : Ids w v l) (h2 : Ids w u m) (hl : l.length ≤ 40000) (hm : m.length ≤ 40000) :
  Calls Tryz.prog 128 #[v, u] w (News (join l m) w) := by
 have HI := hd_ h;have HJ := hd_ h2;clear h h2;go_enter Tryz.func128, Tryz.ntmps128
 go_wp2_with fail;refine (chosen_new 167 _ keeps_or v u l m _ HI.out HJ.out hl hm).mono ?_
 rw [mrg_or];rintro e w3 ⟨r3, rfl, hi, hb⟩;have H3 := hd_ hi;have B3 := hd_ hb;clear hi hb;go_wp2_with fail;go_ret;exact ⟨r3, rfl, H3.out, B3.out⟩
theorem join_any (v u : Value) (l m : List (Int × Int)) (w : World) (h : Ids w v l) (h2 : Ids w u m) (hl : l.length ≤ 40000) (hm : m.length ≤ 40000) :
  Calls Tryz.prog 128 #[v, u] w (Lists (join l m) w) := (join_new v u l m w h h2 hl hm).mono fun _ _ h => h.lists
theorem without_new (v u : Value) (l m : List (Int × Int)) (w : World) (h : Ids w v l) (h2 : Ids w u m) (hl : l.length ≤ 40000) (hm : m.length ≤ 40000) :
  Calls Tryz.prog 171 #[v, u] w (News (without l m) w) := by
 have HI := hd_ h;have HJ := hd_ h2;clear h h2;go_enter Tryz.func171, Tryz.ntmps171
 go_wp2_with fail;refine (chosen_new 193 _ keeps_not v u l m _ HI.out HJ.out hl hm).mono ?_
 rw [mrg_not];rintro e w3 ⟨r3, rfl, hi, hb⟩;have H3 := hd_ hi;have B3 := hd_ hb;clear hi hb;go_wp2_with fail;go_ret;exact ⟨r3, rfl, H3.out, B3.out⟩
theorem del_new (v : Value) (l : List (Int × Int)) (a i : Int) (w : World) (h : Ids w v l) (hl : l.length ≤ 40000) :
  Calls Tryz.prog 132 #[v, .agg #[.int .i64 a, .int .i64 i]] w (News (del l (a, i)) w) := by
 have HI := hd_ h;have HX := hd_ (ao_ w a i);have HO := hd_ (ids_one (w.alloc (.cells #[.int .i64 a, .int .i64 i] 29)) a i);have HB := hd_ (below_two w (.cells #[.int .i64 a, .int .i64 i] 29) (.cells #[.int .i64 a, .int .i64 i] 29));clear h;obtain ⟨p1, p2⟩ := ae_ HX.out;go_enter Tryz.func132, Tryz.ntmps132
 go_wp2_with fail;clear p1 p2;refine (without_new v _ l [(a, i)] _ (HI.out.below HB.out) (by simpa using HO.out) hl (by simp)).mono ?_
 rw [del_is];rintro e w3 ⟨r3, rfl, hi, hb⟩;have H3 := hd_ hi;have B3 := hd_ (ba_ HB.out hb);clear hi hb;go_wp2_with fail;go_ret;exact ⟨r3, rfl, H3.out.mono HB.out.size, B3.out⟩
theorem same_any (v u : Value) (l m : List (Int × Int)) (w : World) (h : Ids w v l) (h2 : Ids w u m) (hl : l.length ≤ 40000) (hm : m.length ≤ 40000) :
  Calls Tryz.prog 43 #[v, u] w fun e w' => e = .returned (.bool (sameB (setOf l) (setOf m))) ∧ Below w.heap.size w w' := by
 have HI := hd_ h;have HJ := hd_ h2;have hl2 := setOf_len l;clear h h2;go_enter Tryz.func43, Tryz.ntmps43
 go_wp2_with fail;refine (set_any v l _ HI.out hl).mono ?_
 rintro e w1 ⟨r, rfl, hi, hb⟩;have H1 := hd_ hi;have B1 := hd_ hb;have J1 := hd_ (HJ.out.below hb);clear hi hb;go_wp2_with fail;refine (set_any u m _ J1.out hm).mono ?_
 rintro e w2 ⟨r2, rfl, hi, hb⟩;have H2 := hd_ hi;have B2 := hd_ (ba_ B1.out hb);have K2 := hd_ (H1.out.below hb);clear hi hb;go_wp2_with fail;refine (equal_any r r2 _ _ _ K2.out H2.out (by omega)).mono ?_
 rintro e w3 ⟨rfl, hb⟩;have B3 := hd_ (ba_ B2.out hb);clear hb;go_wp2_with fail;go_ret;exact ⟨rfl, B3.out⟩
end
end Go.Proofs.YthkkipbmlafdiaaGreat
