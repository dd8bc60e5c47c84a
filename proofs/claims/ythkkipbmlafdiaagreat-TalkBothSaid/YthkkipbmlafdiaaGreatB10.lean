/-
  Contracts and plain facts.
-/
import Derived.Test.YthkkipbmlafdiaaGreatOy
import Derived.Deep.RegionLaw
import Derived.StillTailTactics
import Derived.Test.YthkkipbmlafdiaaGreatB05
import Derived.Test.YthkkipbmlafdiaaGreatB09
set_option maxRecDepth 20000
namespace Go.Proofs.YthkkipbmlafdiaaGreat
section
open Go Go.RowKit Ros
def arrOf (A : Nat → Mm) : Array Mm := ((List.range 13).map A).toArray
theorem arrOf_size (A : Nat → Mm) : (arrOf A).size = 13 := by simp [arrOf]
theorem arrOf_get (A : Nat → Mm) {j : Nat} (hj : j < 13) : (arrOf A)[j]! = A j := by
 rw [getElem!_pos _ j (by rw [arrOf_size]; exact hj)]
 simp [arrOf]
theorem arrOf_toList (A : Nat → Mm) : (arrOf A).toList = (List.range 13).map A := by simp [arrOf]
def zeroM : Nat → Mm := fun _ => ((0, 0), 0, 0)
theorem arrOf_put {A : Nat → Mm} {a : Nat} (ha : a < 13) (i s n : Int) : (arrOf A).setIfInBounds a (((a : Int), i), max (A a).2.1 s, elder (A a).2.2 n) = arrOf (putM A (((a : Int), i), s, n)) := by
 apply Array.ext_getElem?
 intro j;by_cases hj : j < 13
 ·rw [Array.getElem?_eq_getElem (by simp [arrOf_size]; exact hj), Array.getElem?_eq_getElem (by simp [arrOf_size]; exact hj)]
  congr 1
  by_cases e : j = a
  ·subst e
   rw [Array.getElem_setIfInBounds_self];simp [arrOf, putM]
  ·rw [Array.getElem_setIfInBounds_ne (by simpa [arrOf_size] using hj) (fun h => e h.symm)]
   have : ¬ (j : Int) = (a : Int) := by omega
   simp [arrOf, putM, this]
 ·rw [Array.getElem?_eq_none (by simp [arrOf_size]; omega), Array.getElem?_eq_none (by simp [arrOf_size]; omega)]
theorem byAddr_next {ms : List Mm} {k : Nat} (hk : k < ms.length) : byAddr (ms.take (k + 1)) = putM (byAddr (ms.take k)) ms[k] := by
 unfold byAddr;rw [List.take_succ_eq_append_getElem hk, List.foldl_append];rfl
theorem united_is (ms : List Mm) : (arrOf (byAddr ms)).toList.filter (fun t => !noM t) = united ms := by rw [arrOf_toList]; rfl
theorem arr_zero {W : World} {n : Nat} (h : W.heap[n]? = some (.cells #[.int .i64 0, .int .i64 0, .int .u8 0, .int .i64 0, .int .i64 0, .int .i64 0, .int .u8 0, .int .i64 0, .int .i64 0, .int .i64 0, .int .u8 0, .int .i64 0, .int .i64 0, .int .i64 0, .int .u8 0, .int .i64 0, .int .i64 0, .int .i64 0, .int .u8 0, .int .i64 0, .int .i64 0, .int .i64 0, .int .u8 0, .int .i64 0, .int .i64 0, .int .i64 0, .int .u8 0, .int .i64 0, .int .i64 0, .int .i64 0, .int .u8 0, .int .i64 0, .int .i64 0, .int .i64 0, .int .u8 0, .int .i64 0, .int .i64 0, .int .i64 0, .int .u8 0, .int .i64 0, .int .i64 0, .int .i64 0, .int .u8 0, .int .i64 0, .int .i64 0, .int .i64 0, .int .u8 0, .int .i64 0, .int .i64 0, .int .i64 0, .int .u8 0, .int .i64 0] 152 (0, 0))) : RowAtR encM 4 W n (arrOf zeroM) := by
 have ho : OwnsR encM 4 152 W n (.slice (some ⟨n, 0, none⟩) (arrOf zeroM).size 13) (arrOf zeroM).toList := ⟨rfl, .inr ⟨n, 13, _, rfl, Nat.le_refl _, h, by decide, by decide, rfl, rfl⟩⟩
 exact rowAtR_owns encM_len ho
theorem arr_new (w : World) : RowAtR encM 4 (w.alloc (.cells #[.int .i64 0, .int .i64 0, .int .u8 0, .int .i64 0, .int .i64 0, .int .i64 0, .int .u8 0, .int .i64 0, .int .i64 0, .int .i64 0, .int .u8 0, .int .i64 0, .int .i64 0, .int .i64 0, .int .u8 0, .int .i64 0, .int .i64 0, .int .i64 0, .int .u8 0, .int .i64 0, .int .i64 0, .int .i64 0, .int .u8 0, .int .i64 0, .int .i64 0, .int .i64 0, .int .u8 0, .int .i64 0, .int .i64 0, .int .i64 0, .int .u8 0, .int .i64 0, .int .i64 0, .int .i64 0, .int .u8 0, .int .i64 0, .int .i64 0, .int .i64 0, .int .u8 0, .int .i64 0, .int .i64 0, .int .i64 0, .int .u8 0, .int .i64 0, .int .i64 0, .int .i64 0, .int .u8 0, .int .i64 0, .int .i64 0, .int .i64 0, .int .u8 0, .int .i64 0] 152)) w.heap.size (arrOf zeroM) := arr_zero (heap_alloc_new w _)
def Lies (b0 : Nat) (w : World) (V : Value) (l : List Mm) : Prop := ∃ (d : Array Mm) (g c : Nat), V = .slice (some ⟨g, 0, none⟩) d.size c ∧ d.size ≤ c ∧ b0 ≤ g ∧ RowAtR encM 4 w g d ∧ d.toList = l
theorem Lies.reads {b0 : Nat} {w : World} {V : Value} {l : List Mm} (h : Lies b0 w V l) : Ms w V l := by
 obtain ⟨d, g, c, rfl, hc, _, hr, rfl⟩ := h;exact rowAtR_rcs hr hc
theorem Lies.below {b0 : Nat} {w w' : World} {V : Value} {l : List Mm} (h : Lies b0 w V l) (hb : Below w.heap.size w w') : Lies b0 w' V l := by
 obtain ⟨d, g, c, hv, hc, hg, hr, hl⟩ := h;exact ⟨d, g, c, hv, hc, hg, rowAtR_kept hr hb, hl⟩
theorem Lies.mono {b0 b1 : Nat} {w : World} {V : Value} {l : List Mm} (h : Lies b0 w V l) (hb : b1 ≤ b0) : Lies b1 w V l := by
 obtain ⟨d, g, c, hv, hc, hg, hr, hl⟩ := h;exact ⟨d, g, c, hv, hc, by omega, hr, hl⟩
theorem still_tail {P : Program} {id : Nat} {Q : Exit → Act → World → Prop} {a : Act} {w : World} {l : List Oper} (n : Nat) (hm : P.follows .mixedOrders = true) (hB : Region.lexTailB .any l.toArray n = true) (F : World → Prop) (hF : F w.drew)
  (h : ∀ w2, F w2 → wpStill P l.toArray w2 (fun a' => wpList P l.toArray Q (l.drop n) a' w2) (l.take n) a) : (Code.region id l.toArray true).wp P Q a w := wp_region_still_tail n hm hB (h _ hF)
set_option maxHeartbeats 4000000 in
theorem united_any (v : Value) (l : List Mm) (w : World) (h : Ms w v l) (hl : l.length ≤ 100000) (hc : AllC l) :
  Calls Tryz.prog 123 #[v] w fun e w' => ∃ V, e = .returned V ∧ Lies w.heap.size w' V (united l) ∧ Below w.heap.size w w' := by
 have HI := hd_ h;have HC := hd_ hc;obtain ⟨A, c, rfl, hz⟩ := h;clear hz hc;have HA := hd_ (arr_new w);have HB := hd_ (ad_ w (.cells #[.int .i64 0, .int .i64 0, .int .u8 0, .int .i64 0, .int .i64 0, .int .i64 0, .int .u8 0, .int .i64 0, .int .i64 0, .int .i64 0, .int .u8 0, .int .i64 0, .int .i64 0, .int .i64 0, .int .u8 0, .int .i64 0, .int .i64 0, .int .i64 0, .int .u8 0, .int .i64 0, .int .i64 0, .int .i64 0, .int .u8 0, .int .i64 0, .int .i64 0, .int .i64 0, .int .u8 0, .int .i64 0, .int .i64 0, .int .i64 0, .int .u8 0, .int .i64 0, .int .i64 0, .int .i64 0, .int .u8 0, .int .i64 0, .int .i64 0, .int .i64 0, .int .u8 0, .int .i64 0, .int .i64 0, .int .i64 0, .int .u8 0, .int .i64 0, .int .i64 0, .int .i64 0, .int .u8 0, .int .i64 0, .int .i64 0, .int .i64 0, .int .u8 0, .int .i64 0] 152));go_enter Tryz.func123, Tryz.ntmps123
 go_wp2_with fail;go_loopw [9] (fun s9 wr => ∃ k : Nat, k ≤ l.length ∧ s9 = .int .i64 k ∧ Hid (RowAtR encM 4 wr w.heap.size (arrOf (byAddr (l.take k)))) ∧ Hid (Below w.heap.size w wr)) (fun s9 _ => l.length - (intOf s9).toNat)
 case atStart => exact ⟨0, by omega, rfl, HA, HB⟩
 case round =>
  obtain ⟨k, hkl, rfl, HA, HW⟩ := hrel;have i3 : (0 : Int) ≤ (k : Int) := by omega
  by_cases hlt : k < l.length
  ·have hd : decide ((k : Int) < (l.length : Int)) = true := by simp; omega
   have i4 : (k : Int) < (l.length : Int) := by omega
   obtain ⟨ad, rfl, c1, c2, c3, c4⟩ := Ms.at_ HI.out HW.out hlt;have HT := hd_ (byAddr_next hlt);obtain ⟨⟨v1, v2, v3, v4⟩, _⟩ := cnt_iff.1 (HC.out _ (List.getElem_mem hlt));obtain ⟨a, ha⟩ : ∃ a : Nat, l[k].1.1 = (a : Int) := ⟨l[k].1.1.toNat, by omega⟩
   have HE := hd_ (show l[k] = (((a : Int), l[k].1.2), l[k].2.1, l[k].2.2) from Prod.ext (Prod.ext ha rfl) rfl)
   have hk13 : a < 13 := by omega
   have ha0 : (0 : Int) ≤ (a : Int) := by omega
   have ha1 : (a : Int) < 13 := by omega
   rw [HE.out] at HT;rw [ha] at c1;clear ha HE;generalize l[k].1.2 = i at *;generalize l[k].2.1 = s at *;generalize l[k].2.2 = n at *;have HP := hd_ (arrOf_put (A := byAddr (l.take k)) hk13 i s n);rw [← HT.out] at HP;have A1 := hd_ (rowAtR_kept HA.out (ad_ _ (.cells #[.int .i64 a, .int .i64 i, .int .u8 s, .int .i64 n] 31)));have hcell := A1.out.mem (k := a) (by rw [arrOf_size]; exact hk13)
   rw [arrOf_get _ hk13] at hcell;generalize byAddr (l.take k) = AA at *;have hAE : AA a = (((AA a).1.1, (AA a).1.2), (AA a).2.1, (AA a).2.2) := rfl
   generalize (AA a).1.1 = p at *;generalize (AA a).1.2 = q at *;generalize (AA a).2.1 = t at *;generalize (AA a).2.2 = m at *;clear hAE;obtain ⟨⟨r1, r2, r3, r4⟩, f1, f2, f3, f4⟩ := hcell;clear f1 f2 f3 f4;have XM := hd_ (mbox_below (mbox_new wr a i s n) (ad_ _ (.cells #[.int .i64 p, .int .i64 q, .int .u8 t, .int .i64 m] 31)));have XN : Hid (MBox ((wr.alloc (.cells #[.int .i64 a, .int .i64 i, .int .u8 s, .int .i64 n] 31)).alloc (.cells #[.int .i64 p, .int .i64 q, .int .u8 t, .int .i64 m] 31)) (wr.heap.size + 1) p q t m) := hd_ (by simpa using mbox_new (wr.alloc (.cells #[.int .i64 a, .int .i64 i, .int .u8 s, .int .i64 n] 31)) p q t m)
   have A2 := hd_ (rowAtR_kept A1.out (ad_ _ (.cells #[.int .i64 p, .int .i64 q, .int .u8 t, .int .i64 m] 31)));have B2 := hd_ (HW.out.trans ((below_two wr (.cells #[.int .i64 a, .int .i64 i, .int .u8 s, .int .i64 n] 31) (.cells #[.int .i64 p, .int .i64 q, .int .u8 t, .int .i64 m] 31)).mono HW.out.size));obtain ⟨m1, m2, m3, m4⟩ := aw_ XM.out;have hm8 := fun W => max_two8 t s W
   have R3 := hd_ (fun W (hW : RowAtR encM 4 W w.heap.size (arrOf AA)) => rowM_set hW (i := a) (by rw [arrOf_size]; exact hk13) a i (max t s) (elder m n))
   rw [HP.out] at R3;have HEl := hd_ fun W => (elder_any m n W).mono fun e w' (h : e = _ ∧ W = w') => And.intro h.1 h.2.symm
   clear v1 v2 v3 v4;go_wp2_with fail;refine still_tail 17 (Checked.mixed Tryz.checked) (by kernel_rfl) (fun w2 => MBox w2 wr.heap.size a i s n ∧ MBox w2 (wr.heap.size + 1) p q t m ∧ RowAtR encM 4 w2 w.heap.size (arrOf AA) ∧ Below w.heap.size w w2) ⟨XM.out, XN.out, A2.out, below_drewN (n := 1) B2.out⟩ ?_
   rintro w2 ⟨Y1, Y2, Y3, Y4⟩;have Y3h := hd_ Y3;have Y4h := hd_ Y4;obtain ⟨m1, m2, m3, m4⟩ := aw_ Y1;obtain ⟨n1, n2, n3, n4⟩ := aw_ Y2;obtain ⟨⟨b1, b2, b3, b4⟩, f1, f2, f3, f4⟩ := Y3.mem (k := a) (by rw [arrOf_size]; exact hk13)
   clear Y1 Y2 Y3 Y4 XM XN A2 B2;simp only [List.take_succ_cons, List.take_zero, List.drop_succ_cons, List.drop_zero]
   repeat still_step
   still_call (HEl.out _)
   repeat still_step
   refine wpStill_nil ?_
   go_wp2
   go_roundw
   case rel => exact ⟨k + 1, by omega, by go_num, hd_ (R3.out _ Y3h.out), hd_ (below_setM Y4h.out (Nat.le_refl _) _ _ _ _ _)⟩
   case measure => simp [intOf]; omega
  ·have hd : decide ((k : Int) < (l.length : Int)) = false := by simp; omega
   have HA : Hid (RowAtR encM 4 wr w.heap.size (arrOf (byAddr l))) := by have := HA.out; rw [List.take_of_length_le (by omega)] at this; exact hd_ this
   have HU := hd_ (united_is l);generalize byAddr l = AA at *;go_wp2_with fail;have hs := arrOf_size AA;refine (show Calls Tryz.prog 114 #[.slice (some ⟨w.heap.size, 0, none⟩) 13 13, .func (.func 161) #[] #[]] _ _ from hs ▸ (deleteM_any noM_asks w.heap.size 13 (fun _ _ _ _ => trivial) (arrOf AA) _ HA.out trivial (by rw [hs]; omega) (by rw [hs]; omega) (fun _ _ => trivial))).mono ?_
   rintro e w1 ⟨d', rfl, hd', hsz, hR, hb⟩;have HD := hd_ hd';have HR := hd_ hR;have H1 := hd_ (HW.out.trans (aj_ hb (Nat.le_refl _) HW.out.size));have HS : d'.size ≤ 13 := by omega
   clear hd' hR hb hsz hs;go_wp2_with fail;go_ret;exact ⟨_, rfl, ⟨d', _, 13, rfl, HS, Nat.le_refl _, HR.out, HD.out.trans HU.out⟩, H1.out⟩
end
section
open Go Go.RowKit Ros
def OwnM (b0 : Nat) (w : World) (V : Value) (l : List Mm) : Prop := (V = .slice none 0 0 ∧ l = []) ∨ ∃ (d : Array Mm) (g c : Nat), V = .slice (some ⟨g, 0, none⟩) d.size c ∧ d.size ≤ c ∧ b0 ≤ g ∧ RowAtR encM 4 w g d ∧ d.toList = l
def OwnI (b0 : Nat) (w : World) (V : Value) (l : List Id2) : Prop := (V = .slice none 0 0 ∧ l = []) ∨ ∃ (d : Array Id2) (g c : Nat), V = .slice (some ⟨g, 0, none⟩) d.size c ∧ d.size ≤ c ∧ b0 ≤ g ∧ RowAtR encI 2 w g d ∧ d.toList = l
theorem OwnM.reads {b0 : Nat} {w : World} {V : Value} {l : List Mm} (h : OwnM b0 w V l) : Ms w V l := by
 rcases h with ⟨rfl, rfl⟩ | ⟨d, g, c, rfl, hc, _, hr, rfl⟩
 ·exact Rcs.nil w
 ·exact rowAtR_rcs hr hc
theorem OwnI.reads {b0 : Nat} {w : World} {V : Value} {l : List Id2} (h : OwnI b0 w V l) : Ids w V l := by
 rcases h with ⟨rfl, rfl⟩ | ⟨d, g, c, rfl, hc, _, hr, rfl⟩
 ·exact Ids.nil w
 ·exact ids_rcs (rowAtR_rcs hr hc)
theorem ownM_of {b0 : Nat} {w : World} {V : Value} {l : List Mm} (h : OwnsR encM 4 31 w b0 V l) : OwnM b0 w V l := by
 rcases ownsR_split h with ⟨rfl, hn⟩ | ⟨g, cap, rfl, hg, hc⟩
 ·exact .inl ⟨rfl, List.eq_nil_of_length_eq_zero (by omega)⟩
 ·have hlow := (World.ownsRow.lt h g rfl).1
  refine .inr ⟨l.toArray, g, cap, by simp, by simpa using hc, hlow, rowAtR_owns (e := 31) (base := b0) (c := cap) encM_len ?_, by simp⟩
  simpa using h
theorem ownI_of {b0 : Nat} {w : World} {V : Value} {l : List Id2} (h : OwnsR encI 2 29 w b0 V l) : OwnI b0 w V l := by
 rcases ownsR_split h with ⟨rfl, hn⟩ | ⟨g, cap, rfl, hg, hc⟩
 ·exact .inl ⟨rfl, List.eq_nil_of_length_eq_zero (by omega)⟩
 ·have hlow := (World.ownsRow.lt h g rfl).1
  refine .inr ⟨l.toArray, g, cap, by simp, by simpa using hc, hlow, rowAtR_owns (e := 29) (base := b0) (c := cap) encI_len ?_, by simp⟩
  simpa using h
theorem OwnM.below {b0 : Nat} {w w' : World} {V : Value} {l : List Mm} (h : OwnM b0 w V l) (hb : Below w.heap.size w w') : OwnM b0 w' V l := by
 rcases h with h | ⟨d, g, c, hv, hc, hg, hr, hl⟩
 ·exact .inl h
 ·exact .inr ⟨d, g, c, hv, hc, hg, rowAtR_kept hr hb, hl⟩
theorem OwnM.mono {b0 b1 : Nat} {w : World} {V : Value} {l : List Mm} (h : OwnM b0 w V l) (hb : b1 ≤ b0) : OwnM b1 w V l := by
 rcases h with h | ⟨d, g, c, hv, hc, hg, hr, hl⟩
 ·exact .inl h
 ·exact .inr ⟨d, g, c, hv, hc, by omega, hr, hl⟩
set_option maxHeartbeats 1000000 in
theorem deleteI_none {K : Nat} {caps : Array Value} {p : Id2 → Bool} {S : World → Prop} (hP : AsksI K caps p S) (w : World) (hS : S w) :
  Calls Tryz.prog 106 #[.slice none 0 0, .func (.func K) #[] caps] w fun e w' => e = .returned (.slice none 0 0) ∧ Below w.heap.size w w' := by
 have HP := hd_ hP;have HS0 := hd_ hS;have hK := hP.enters;clear hP hS;go_enter Tryz.func106, Tryz.ntmps106
 go_wp2_with fail;(with_reducible refine (indexI_anyROS HP.out _ [] _ (Ids.nil _) HS0.out (by simp)).mono ?_)
 rintro e w1 ⟨⟨r, rfl, hf⟩, hb⟩;have HB := hd_ hb;clear hb;rcases hf with ⟨rfl, _⟩ | ⟨k0, hk0, _⟩
 ·go_wp2_with fail
  go_ret;exact ⟨rfl, HB.out⟩
 ·simp at hk0
theorem deleteI_own {K : Nat} {caps : Array Value} {p : Id2 → Bool} {S : World → Prop} (hP : AsksI K caps p S) (b0 : Nat) (V : Value) (hSg : ∀ (g a c : Nat) W W', V = .slice (some ⟨g, 0, none⟩) a c → S W → W.grownBy W' (some g) → S W') (l : List Id2) (w : World) (h : OwnI b0 w V l) (hS : S w) (hl : l.length ≤ 100000) (hb0 : b0 ≤ w.heap.size) :
  Calls Tryz.prog 106 #[V, .func (.func K) #[] caps] w fun e w' => ∃ V', e = .returned V' ∧ OwnI b0 w' V' (l.filter fun t => !p t) ∧ S w' ∧ Below b0 w w' := by
 rcases h with ⟨rfl, rfl⟩ | ⟨d, g, c, rfl, hc, hg, hr, rfl⟩
 ·refine (deleteI_none hP w hS).mono ?_
  rintro e w' ⟨rfl, hb⟩;exact ⟨_, rfl, .inl ⟨rfl, rfl⟩, hP.kept _ _ hS hb, hb.mono hb0⟩
 ·refine (deleteI_anyROS hP g c (fun W W' => hSg g _ _ W W' rfl) d w hr hS hc (by simpa using hl)).mono ?_
  rintro e w' ⟨d', rfl, hd, hsz, hr', hb⟩;exact ⟨_, rfl, .inr ⟨d', g, c, rfl, by omega, hg, hr', hd⟩, hSg g _ _ _ _ rfl hS hb, aj_ hb hg hb0⟩
set_option maxHeartbeats 1000000 in
theorem deleteM_none {K : Nat} {caps : Array Value} {p : Mm → Bool} {S : World → Prop} {D : Mm → Prop} (hP : AsksM K caps p S D) (w : World) (hS : S w) :
  Calls Tryz.prog 114 #[.slice none 0 0, .func (.func K) #[] caps] w fun e w' => e = .returned (.slice none 0 0) ∧ Below w.heap.size w w' := by
 have HP := hd_ hP;have HS0 := hd_ hS;have hK := hP.enters;clear hP hS;go_enter Tryz.func114, Tryz.ntmps114
 go_wp2_with fail;(with_reducible refine (indexM_any HP.out _ [] _ (Rcs.nil _) HS0.out (by simp) (fun _ h => absurd h (by simp))).mono ?_)
 rintro e w1 ⟨⟨r, rfl, hf⟩, hb⟩;have HB := hd_ hb;clear hb;rcases hf with ⟨rfl, _⟩ | ⟨k0, hk0, _⟩
 ·go_wp2_with fail
  go_ret;exact ⟨rfl, HB.out⟩
 ·simp at hk0
theorem deleteM_own {K : Nat} {caps : Array Value} {p : Mm → Bool} {S : World → Prop} {D : Mm → Prop} (hP : AsksM K caps p S D) (b0 : Nat) (V : Value) (hSg : ∀ (g a c : Nat) W W', V = .slice (some ⟨g, 0, none⟩) a c → S W → W.grownBy W' (some g) → S W') (l : List Mm) (w : World) (h : OwnM b0 w V l) (hS : S w) (hl : l.length ≤ 100000) (hb0 : b0 ≤ w.heap.size) (hD : ∀ x ∈ l, D x) :
  Calls Tryz.prog 114 #[V, .func (.func K) #[] caps] w fun e w' => ∃ V', e = .returned V' ∧ OwnM b0 w' V' (l.filter fun t => !p t) ∧ S w' ∧ Below b0 w w' := by
 rcases h with ⟨rfl, rfl⟩ | ⟨d, g, c, rfl, hc, hg, hr, rfl⟩
 ·refine (deleteM_none hP w hS).mono ?_
  rintro e w' ⟨rfl, hb⟩;exact ⟨_, rfl, .inl ⟨rfl, rfl⟩, hP.kept _ _ hS hb, hb.mono hb0⟩
 ·refine (deleteM_any hP g c (fun W W' => hSg g _ _ W W' rfl) d w hr hS hc (by simpa using hl) hD).mono ?_
  rintro e w' ⟨d', rfl, hd, hsz, hr', hb⟩;exact ⟨_, rfl, .inr ⟨d', g, c, rfl, by omega, hg, hr', hd⟩, hSg g _ _ _ _ rfl hS hb, aj_ hb hg hb0⟩
end
section
open Go Go.RowKit Ros
theorem lots_new (w : World) (t : Nat) (a b : Value) : Lots (w.alloc (.cells #[a, b] t)) w.heap.size t [a, b] := heap_alloc_new w _
theorem two_rcs {α : Type} {enc : α → List Value} {sz : Nat} {w : World} {v u : Value} {l m : List α} (h : Rcs enc sz w v l) (h2 : Rcs enc sz w u m) (k : Nat) (hk : k < [v, u].length) (hk' : k < [l, m].length) : Rcs enc sz w ([v, u][k]) ([l, m][k]) := by
 match k, hk with
 | 0, _ => exact h
 | 1, _ => exact h2
theorem concatM_two (g : Nat) (v u : Value) (l m : List Mm) (w : World) {tt : Nat} (h : Lots w g tt [v, u]) (h1 : Ms w v l) (h2 : Ms w u m) (hl : l.length + m.length ≤ 50000) :
  Calls Tryz.prog 115 #[.slice (some ⟨g, 0, none⟩) 2 2] w fun e w' => ∃ V, e = .returned V ∧ OwnsR encM 4 31 w' w.heap.size V (l ++ m) ∧ Below w.heap.size w w' :=
 (concatM_any g [v, u] [l, m] w h rfl (two_rcs h1 h2) (by simp) (by simpa using hl)).mono fun e w' ⟨V, h1, h2, h3⟩ => ⟨V, h1, by simpa using h2, h3⟩
theorem concatI_two (g : Nat) (v u : Value) (l m : List Id2) (w : World) {tt : Nat} (h : Lots w g tt [v, u]) (h1 : Ids w v l) (h2 : Ids w u m) (hl : l.length + m.length ≤ 50000) :
  Calls Tryz.prog 118 #[.slice (some ⟨g, 0, none⟩) 2 2] w fun e w' => ∃ V, e = .returned V ∧ OwnsR encI 2 29 w' w.heap.size V (l ++ m) ∧ Below w.heap.size w w' :=
 (concatI_any g [v, u] [l, m] w h rfl (two_rcs (rcs_ids h1) (rcs_ids h2)) (by simp) (by simpa using hl)).mono fun e w' ⟨V, h1, h2, h3⟩ => ⟨V, h1, by simpa using h2, h3⟩
theorem badM_filter (l : List Mm) : (l.filter fun t => !badM t) = l.filter cnt := by
 congr 1
 funext t
 simp [badM]
theorem badI_filter (l : List Id2) : (l.filter fun t => !badIROS t) = l.filter vidP := by
 congr 1
 funext t
 simp [badIROS, vidP]
theorem lies_lt {b0 : Nat} {w : World} {V : Value} {l : List Mm} (h : Lies b0 w V l) : ∀ (g a c : Nat), V = .slice (some ⟨g, 0, none⟩) a c → g < w.heap.size := fun g a c hv => by
 obtain ⟨d, g0, c0, e, _, _, hr, _⟩ := h;rw [hv] at e;injection e with e1 e2 e3
 injection e1 with e1
 injection e1 with e1
 rw [e1];exact hr.1
theorem owns_mono {w : World} {b0 b1 : Nat} {v : Value} {l : List Id2} (h : Owns w b0 v l) (hb : b1 ≤ b0) : Owns w b1 v l := by
 obtain ⟨h1, h2⟩ := h;refine ⟨h1, ?_⟩
 rcases h2 with h2 | ⟨g, cap, cur, e, hg, rest⟩
 ·exact .inl h2
 ·exact .inr ⟨g, cap, cur, e, Nat.le_trans hb hg, rest⟩
set_option maxHeartbeats 4000000 in
theorem join_apart (vm vf vn vg : Value) (m n : List Mm) (f g : List Id2) (w : World) (h1 : Ms w vm m) (h2 : Ids w vf f) (h3 : Ms w vn n) (h4 : Ids w vg g) (hl : m.length + n.length ≤ 40000) (hg : f.length + g.length ≤ 40000) :
  Calls Tryz.prog 57 #[vm, vf, vn, vg] w fun e w' => ∃ V U hi, e = .returned (.tuple #[V, U]) ∧ Lies w.heap.size w' V (joinP m f n g).1 ∧ (∀ (g a c : Nat), V = .slice (some ⟨g, 0, none⟩) a c → g < hi) ∧ w.heap.size ≤ hi ∧ Owns w' hi U (joinP m f n g).2 ∧ Below w.heap.size w w' := by
 have H1 := hd_ (h1.below (ad_ w (.cells #[vm, vn] 22)));have H3 := hd_ (h3.below (ad_ w (.cells #[vm, vn] 22)));have HL := hd_ (lots_new w 22 vm vn);have HB := hd_ (ad_ w (.cells #[vm, vn] 22));have H2 := hd_ h2;have H4 := hd_ h4;have HS : Hid (w.heap.size ≤ (w.alloc (.cells #[vm, vn] 22)).heap.size) := hd_ (by simp)
 have HJ : Hid (joinP m f n g = (united (((m ++ n).filter cnt).filter fun x => !goneM (floors ((m ++ n).filter cnt) ((f ++ g).filter vidP)) x), listF (floors ((m ++ n).filter cnt) ((f ++ g).filter vidP)))) := hd_ rfl
 obtain ⟨A1, k1, rfl, hz⟩ := h1;clear hz;obtain ⟨A2, k2, rfl, hz⟩ := h2;clear hz;obtain ⟨A3, k3, rfl, hz⟩ := h3;clear hz;obtain ⟨A4, k4, rfl, hz⟩ := h4;clear hz;go_enter Tryz.func57, Tryz.ntmps57
 go_wp2_with fail;(with_reducible refine (concatM_two w.heap.size _ _ m n _ HL.out H1.out H3.out (by omega)).mono ?_)
 rintro e w1 ⟨V0, rfl, hO, hb⟩;have HO := hd_ ((ownM_of hO).mono HS.out);have B1 := hd_ (ba_ HB.out hb);clear hO hb H1 H3 HL;go_wp2_with fail;(with_reducible refine (deleteM_own badM_asks w.heap.size V0 (fun _ _ _ _ _ _ _ _ => trivial) (m ++ n) _ HO.out trivial (by rw [List.length_append]; omega) B1.out.size (fun _ _ => trivial)).mono ?_)
 rintro e w2 ⟨V1, rfl, hO, -, hb⟩;rw [badM_filter] at hO;have O2 := hd_ hO;have B2 := hd_ (B1.out.trans hb);clear hO hb HO;have X2 := hd_ ((H2.out.below B2.out).below (ad_ w2 (.cells #[.slice A2 f.length k2, .slice A4 g.length k4] 23)));have X4 := hd_ ((H4.out.below B2.out).below (ad_ w2 (.cells #[.slice A2 f.length k2, .slice A4 g.length k4] 23)));have XL := hd_ (lots_new w2 23 (.slice A2 f.length k2) (.slice A4 g.length k4));have XB := hd_ (B2.out.trans ((ad_ w2 (.cells #[.slice A2 f.length k2, .slice A4 g.length k4] 23)).mono B2.out.size));have XO := hd_ (O2.out.below (ad_ w2 (.cells #[.slice A2 f.length k2, .slice A4 g.length k4] 23)));clear O2;go_wp2_with fail;(with_reducible refine (concatI_two w2.heap.size _ _ f g _ XL.out X2.out X4.out (by omega)).mono ?_)
 rintro e w3 ⟨V2, rfl, hO, hb⟩;have O3 := hd_ ((ownI_of hO));have B3 := hd_ (ah_ XB.out hb (by simp))
 have C3 := hd_ hb;clear hO hb X2 X4 XL;go_wp2_with fail;(with_reducible refine (deleteI_own badI_asksROS _ V2 (fun _ _ _ _ _ _ _ _ => trivial) (f ++ g) _ O3.out trivial (by rw [List.length_append]; omega) C3.out.size).mono ?_)
 rintro e w4 ⟨V3, rfl, hO, -, hb⟩;rw [badI_filter] at hO;have O4 := hd_ hO;have M4 := hd_ (XO.out.below (C3.out.trans hb));have B4 := hd_ (XB.out.trans ((C3.out.trans hb).mono XB.out.size));clear hO hb XO C3 O3 B3 B2 XB;have LM := hd_ (Nat.le_trans (List.length_filter_le cnt (m ++ n)) (by rw [List.length_append]; omega : (m ++ n).length ≤ 100000))
 have LI := hd_ (Nat.le_trans (List.length_filter_le vidP (f ++ g)) (by rw [List.length_append]; omega : (f ++ g).length ≤ 100000))
 have CM := hd_ (allC_filter (m ++ n));have CI := hd_ (allV_filter (f ++ g));generalize (m ++ n).filter cnt = ms at *;generalize (f ++ g).filter vidP = gs at *;go_wp2_with fail;(with_reducible refine (raised_any V1 V3 ms gs _ M4.out.reads O4.out.reads LM.out LI.out CM.out CI.out).mono ?_)
 rintro e w5 ⟨F, rfl, hF, hL, hb⟩;have L5 := hd_ (lives_below hL (ad_ w5 (.cells #[.pointer (some ⟨F, 0, none⟩)] 117)));have P5 := hd_ (one_new w5 117 (.pointer (some ⟨F, 0, none⟩)));have M5 := hd_ ((M4.out.below hb).below (ad_ w5 (.cells #[.pointer (some ⟨F, 0, none⟩)] 117)));have B5 := hd_ ((ba_ B4.out hb).trans ((ad_ w5 (.cells #[.pointer (some ⟨F, 0, none⟩)] 117)).mono (ba_ B4.out hb).size))
 have HV4 : Hid (∀ (g a c : Nat), V1 = .slice (some ⟨g, 0, none⟩) a c → g ≠ F ∧ g ≠ w5.heap.size) := hd_ fun g' a c hv => by
  have hs := hb.size;rcases M4.out with ⟨e, _⟩ | ⟨d, g0, c0, e, _, _, hr, _⟩
  ·rw [hv] at e
   cases e
  ·rw [hv] at e
   injection e with e1 e2 e3
   injection e1 with e1
   injection e1 with e1
   have := hr.1
   omega
 have HDc : Hid (∀ x ∈ ms, 0 ≤ x.1.1 ∧ x.1.1 < 13) := hd_ fun x hx => by
  have hcx : cnt x = true := CM.out x hx
  obtain ⟨⟨x1, x2, _⟩, _⟩ := cnt_iff.1 hcx;exact ⟨by omega, by omega⟩
 have HX := hd_ (gone_asks w5.heap.size F (floors ms gs));clear hF hL hb O4 B4 M4;generalize floors ms gs = L at *;go_wp2_with fail;(with_reducible refine (deleteM_own HX.out w.heap.size V1 (fun g' a c W W' hv hS hb => ⟨one_grown hS.1 hb (fun e => absurd e.symm (HV4.out g' a c hv).2), lives_grown hS.2 hb (fun e => absurd e.symm (HV4.out g' a c hv).1)⟩) ms _ M5.out ⟨P5.out, L5.out⟩ LM.out B5.out.size HDc.out).mono ?_)
 rintro e w6 ⟨V4, rfl, hO, ⟨hP, hL⟩, hb⟩;have O6 := hd_ hO;have P6 := hd_ hP;have L6 := hd_ hL;have B6 := hd_ (B5.out.trans hb);have C6 : Hid (AllC (ms.filter fun x => !goneM L x)) := hd_ fun x hx => (show ∀ x ∈ ms, cnt x = true from CM.out) x (List.mem_filter.1 hx).1
 have N6 := hd_ (Nat.le_trans (List.length_filter_le (fun x => !goneM L x) ms) LM.out)
 clear hO hP hL hb P5 L5 M5 B5 HX HV4 CM LM;generalize (ms.filter fun x => !goneM L x) = fs at *
 go_wp2_with fail;have c0 := one_cell P6.out;have HS6 := hd_ B6.out.size;have PS := hd_ fun w' (hb : Below w6.heap.size w6 w') => And.intro (one_cell (a0_ P6.out hb)) (hd_ hb)
 go_region_held3 (fun w' => w'.cell? ⟨w5.heap.size, 0, none⟩ = some (.pointer (some ⟨F, 0, none⟩)) ∧ Hid (Below w6.heap.size w6 w'))
  (first | exact PS.out _ (Below.refl _ _).drew | exact PS.out _ HK.out)
  (first
   | (go_at_call 123; (with_reducible refine (united_any V4 fs _ (O6.out.reads.below (Below.refl _ _).drew) N6.out C6.out).mono ?_); rintro e w' ⟨V5, rfl, hV, hb⟩; have HK := hd_ ((Below.refl w6.heap.size w6).drew.trans hb); have U5 := hd_ hV; clear hb hV)
   | (go_at_call 124; (with_reducible refine (list_any F L _ (lives_below L6.out HK.out)).mono ?_); rintro e w' ⟨V6, rfl, hV, hb⟩; have U6 := hd_ (U5.out.below hb); have Z6 := hd_ (lies_lt U5.out); have Q6 := hd_ hV; have HZ := hd_ HK.out.size; have HK := hd_ (ba_ HK.out hb); clear hb hV))
 go_wp2_with fail;refine bodyPost_ret (v := .tuple #[V5, V6]) (by simp [results, Tryz.results57, go_sem]) rfl ?_
 rw [HJ.out];exact ⟨_, _, _, rfl, U6.out.mono HS6.out, Z6.out, Nat.le_trans HS6.out HZ.out, Q6.out, B6.out.trans (HK.out.mono HS6.out)⟩
theorem join_anyROS (vm vf vn vg : Value) (m n : List Mm) (f g : List Id2) (w : World) (h1 : Ms w vm m) (h2 : Ids w vf f) (h3 : Ms w vn n) (h4 : Ids w vg g) (hl : m.length + n.length ≤ 40000) (hg : f.length + g.length ≤ 40000) :
  Calls Tryz.prog 57 #[vm, vf, vn, vg] w fun e w' => ∃ V U, e = .returned (.tuple #[V, U]) ∧ Lies w.heap.size w' V (joinP m f n g).1 ∧ Owns w' w.heap.size U (joinP m f n g).2 ∧ Below w.heap.size w w' :=
 (join_apart vm vf vn vg m n f g w h1 h2 h3 h4 hl hg).mono fun _ _ ⟨V, U, _, h1, h2, _, h4, h5, h6⟩ => ⟨V, U, h1, h2, owns_mono h5 h4, h6⟩
end
section
open Go Go.RowKit Ros
theorem same_next {α : Type} {l m : List α} {k : Nat} (h : k < l.length) (h' : k < m.length) (ht : l.take k = m.take k) (he : l[k] = m[k]) : l.take (k + 1) = m.take (k + 1) := by
 rw [List.take_succ_eq_append_getElem h, List.take_succ_eq_append_getElem h', ht, he]
theorem same_not {α : Type} {l m : List α} {k : Nat} (h : k < l.length) (h' : k < m.length) (he : l[k] ≠ m[k]) : l ≠ m := fun e => by
 subst e;exact he rfl
end
section
open Go Go.RowKit Sets RowSets
set_option maxHeartbeats 2000000 in
theorem owners_any (v : Value) (qs : List Raw) (w : World) (h : Rcs encW 4 w v qs) (hl : qs.length ≤ 1000) :
  Calls Tryz.prog 164 #[v] w (Lists (qs.map (·.1)) w) := by
 have HI := hd_ h;obtain ⟨A, c, rfl, hz⟩ := h;clear hz;go_enter Tryz.func164, Tryz.ntmps164
 go_wp2_with (at_make; refine wpList_make_all (enc := encI) 23 29 (0, 0) Tryz.underlying23 infoI encI_len (by omega) rfl (by omega) w rfl (.tmp 7) rfl qs.length rfl (by omega) ?_; intro w1 k1 k2 k3; have R1 := hd_ k1; have S1 := hd_ k2; have B1 := hd_ k3; clear k1 k2 k3)
 have hsz0 : (Array.replicate qs.length ((0, 0) : Id2)).size = qs.length := by simp
 obtain ⟨g, hg⟩ : ∃ g, w.heap.size = g := ⟨_, rfl⟩;have HG := hd_ hg;rw [hg] at R1 S1;simp only [hg];clear hg;go_loopw [11] (fun s11 wr => ∃ k : Nat, ∃ dk : Array Id2, k ≤ qs.length ∧ s11 = .int .i64 k ∧ dk.size = qs.length ∧ Hid (RowAtR encI 2 wr g dk) ∧ Hid (dk.toList.take k = (qs.take k).map (·.1)) ∧ Hid (Below w.heap.size w wr)) (fun s11 _ => qs.length - (intOf s11).toNat)
 case atStart => exact ⟨0, _, by omega, rfl, hsz0, R1, hd_ rfl, B1⟩
 case round =>
  obtain ⟨k, dk, hkl, rfl, hds, HR, HT, HW⟩ := hrel;have i3 : (0 : Int) ≤ (k : Int) := by omega
  by_cases hlt : k < qs.length
  ·have hd : decide ((k : Int) < (qs.length : Int)) = true := by simp; omega
   have i4 : (k : Int) < (qs.length : Int) := by omega
   obtain ⟨ad, rfl, c1, c2, c3, c4⟩ := HI.out.raw HW.out hlt;have HX := hd_ (av_ wr qs[k].1.1 qs[k].1.2 qs[k].2.1 (.slice qs[k].2.2.1 qs[k].2.2.2.1 qs[k].2.2.2.2));have HB := hd_ (ad_ wr (.cells #[.int .i64 qs[k].1.1, .int .i64 qs[k].1.2, .int .i64 qs[k].2.1, .slice qs[k].2.2.1 qs[k].2.2.2.1 qs[k].2.2.2.2] 68));have R2 := hd_ (rowAtR_kept HR.out HB.out);have W2 := hd_ (HW.out.trans (HB.out.mono HW.out.size));have HS := hd_ (take_set_snoc (show k < dk.size by omega) ((qs[k].1.1, qs[k].1.2) : Id2))
   have HT2 := hd_ (show (qs.take (k + 1)).map (·.1) = (qs.take k).map (·.1) ++ [(qs[k].1.1, qs[k].1.2)] by rw [take_snoc hlt, List.map_append]; rfl)
   generalize qs[k].1.1 = a at *;generalize qs[k].1.2 = i at *;generalize qs[k].2.1 = n at *;generalize qs[k].2.2.1 = B at *;generalize qs[k].2.2.2.1 = m at *;generalize qs[k].2.2.2.2 = d at *;obtain ⟨x1, x2, x3, x4⟩ := ai_ HX.out;obtain ⟨⟨y1, y2⟩, f1, f2⟩ := R2.out.id (k := k) (by omega)
   have R3 := hd_ (rowI_set R2.out (show k < dk.size by omega) a i)
   have W3 := hd_ (below_setI (g := g) W2.out (by rw [HG.out]; exact Nat.le_refl g) k (.int .i64 a) (.int .i64 i))
   have HF := hd_ (show (dk.setIfInBounds k (a, i)).toList.take (k + 1) = (qs.take (k + 1)).map (·.1) by rw [HS.out, HT2.out, HT.out])
   go_wp2_with fail;go_roundw
   case rel => exact ⟨k + 1, _, by omega, by go_num, by simpa using hds, R3, HF, W3⟩
   case measure => simp [intOf]; omega
  ·obtain rfl : k = qs.length := by omega
   have hd : decide ((qs.length : Int) < (qs.length : Int)) = false := by simp
   have HF := hd_ (show dk.toList = qs.map (·.1) by
    have := HT.out
    rwa [List.take_of_length_le (by simp; omega), List.take_of_length_le (Nat.le_refl _)] at this)
   have HQ := hd_ (rowAtR_rcs HR.out (show dk.size ≤ qs.length by omega))
   rw [hds] at HQ;go_wp2_with fail;go_ret;exact ⟨_, rfl, by rw [← HF.out]; exact ids_rcs HQ.out, HW.out⟩
theorem EachReads.owners {w : World} : ∀ {qs : List Raw} {l : List Row}, EachReads w qs l → qs.map (·.1) = ids l
 | [], [], _ => rfl
 | q :: qs, r :: l, h => by
  rw [List.map_cons, h.2.owners, h.1.1];rfl
 | [], _ :: _, h => h.elim
 | _ :: _, [], h => h.elim
theorem get_first {x : Id2} : ∀ {l : List Row} {k : Nat} (h : k < l.length), l[k].1 = x → (∀ y ∈ (ids l).take k, y ≠ x) → get l x = some l[k].2
 | r :: l, 0, _, e, _ => by
  have e2 : r.1 = x := e
  rw [RowSets.get, if_pos e2];rfl
 | r :: l, k + 1, h, e, hn => by
  have h1 : r.1 ≠ x := hn r.1 (by simp [ids])
  rw [RowSets.get, if_neg h1]
  exact get_first (by simpa using h) e fun y hy => hn y (by
   show y ∈ (r.1 :: ids l).take (k + 1)
   rw [List.take_succ_cons];exact List.mem_cons_of_mem _ hy)
theorem found_get {w : World} {qs : List Raw} {l : List Row} (h : EachReads w qs l) {x : Id2} {r : Int} (hr : FoundP (fun u => isI u x) (qs.map (·.1)) r) :
  (r = -1 ∧ get l x = none) ∨ ∃ k : Nat, ∃ _ : k < qs.length, ∃ h2 : k < l.length, r = k ∧ get l x = some l[k].2 ∧ l[k].1 = x ∧ ∀ y ∈ (ids l).take k, y ≠ x := by
 rw [h.owners] at hr;have hlen := h.len;rcases hr with ⟨e, hn⟩ | ⟨k, hk, e, h1, hn⟩
 ·refine .inl ⟨e, get_none.2 fun hx => ?_⟩
  have := hn x hx
  simp [isI] at this
 ·have hk2 : k < l.length := by simpa [ids] using hk
  have he : l[k].1 = x := by simpa [ids, isI] using h1
  have hn2 : ∀ y ∈ (ids l).take k, y ≠ x := fun y hy => by have := hn y hy; simpa [isI] using this
  exact .inr ⟨k, by omega, hk2, e, get_first hk2 he hn2, he, hn2⟩
end
section
open Go Go.RowKit Sets RowSets
def Small (l : List Row) : Prop := l.length ≤ 1000 ∧ ∀ r ∈ l, r.2.2.length ≤ 20000
end
end Go.Proofs.YthkkipbmlafdiaaGreat
