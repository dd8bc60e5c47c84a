/-
  Contracts and plain facts.
-/
import Derived.Test.YthkkipbmlafdiaaGreatOy
import Derived.Test.YthkkipbmlafdiaaGreatB06
import Derived.Test.YthkkipbmlafdiaaGreatB20
import Derived.Test.YthkkipbmlafdiaaGreatB21
set_option maxRecDepth 20000
namespace Go.Proofs.YthkkipbmlafdiaaGreat
section
open Go Go.RowKit Sets RowSets
theorem rises_at {l : List Id2} (h : Rises l) {i j : Nat} (hj : j < l.length) (hij : i < j) : lt (l[i]'(by omega)) l[j] := List.pairwise_iff_getElem.1 h i j (by omega) hj hij
theorem cmpZ_lt {a i b j : Int} (h : lt (a, i) (b, j)) : cmpZ a i b j = -1 := by
 have : lss a i b j = true := by rw [lss_lt (a, i) (b, j)]; exact decide_eq_true h
 simp [cmpZ, this]
theorem cmpZ_ge {a i b j : Int} (h : ¬ lt (a, i) (b, j)) : ¬ cmpZ a i b j < 0 := by
 have : lss a i b j = false := by rw [lss_lt (a, i) (b, j)]; exact decide_eq_false h
 unfold cmpZ;rw [this];cases lss b j a i <;> simp
theorem cmpZ_self (a i : Int) : cmpZ a i a i = 0 := by
 have : lss a i a i = false := by rw [lss_lt (a, i) (a, i)]; exact decide_eq_false (ap_ _)
 simp [cmpZ, this]
theorem cmpZ_gt {a i b j : Int} (h : lt (b, j) (a, i)) : cmpZ a i b j = 1 := by
 have h1 : lss b j a i = true := by rw [lss_lt (b, j) (a, i)]; exact decide_eq_true h
 have h2 : lss a i b j = false := by rw [lss_lt (a, i) (b, j)]; exact decide_eq_false (lt_asymm h)
 simp [cmpZ, h1, h2]
theorem lt_total {x y : Id2} (h : ¬ lt x y) (hne : x ≠ y) : lt y x := by
 unfold lt at *;rcases Int.lt_trichotomy x.1 y.1 with h1 | h1 | h1
 ·exact absurd (.inl h1) h
 ·rcases Int.lt_trichotomy x.2 y.2 with h2 | h2 | h2
  ·exact absurd (.inr ⟨h1, h2⟩) h
  ·exact absurd (Prod.ext h1 h2) hne
  ·exact .inr ⟨h1.symm, h2⟩
 ·exact .inl h1
def PlaceI (l : List Id2) (X : Id2) (k : Nat) : Prop := k ≤ l.length ∧ (∀ t (h : t < l.length), t < k → lt l[t] X) ∧ ∀ t (h : t < l.length), k ≤ t → ¬ lt l[t] X
theorem place_has {l : List Id2} {X : Id2} {k : Nat} (hk : k < l.length) (e : l[k] = X) : hasB X l = true := by
 unfold hasB;exact decide_eq_true (e ▸ List.getElem_mem hk)
theorem place_not {l : List Id2} {X : Id2} {k : Nat} (hr : Rises l) (h : PlaceI l X k) (hk : k < l.length) (e : l[k] ≠ X) : hasB X l = false := by
 unfold hasB;refine decide_eq_false fun hm => ?_
 obtain ⟨t, ht, e2⟩ := List.mem_iff_getElem.1 hm;have hgt := lt_total (h.2.2 k hk (Nat.le_refl _)) e;rcases Nat.lt_trichotomy t k with h1 | h1 | h1
 ·have := h.2.1 t ht h1
  rw [e2] at this;exact ap_ _ this
 ·subst h1; exact e e2
 ·have := rises_at hr ht h1
  rw [e2] at this;exact lt_asymm this hgt
theorem place_end {l : List Id2} {X : Id2} {k : Nat} (h : PlaceI l X k) (hk : l.length ≤ k) : hasB X l = false := by
 unfold hasB;refine decide_eq_false fun hm => ?_
 obtain ⟨t, ht, e2⟩ := List.mem_iff_getElem.1 hm;have := h.2.1 t ht (by omega)
 rw [e2] at this;exact ap_ _ this
set_option maxHeartbeats 4000000 in
set_option maxRecDepth 100000 in
theorem bin_any (v : Value) (l : List Id2) (x y : Int) (w : World) (h : Ids w v l) (hr : Rises l) (hl : l.length ≤ 100000) :
  Calls Tryz.prog 101 #[v, .agg #[.int .i64 x, .int .i64 y], .func (.func 102) #[] #[]] w fun e w' => ∃ k : Nat, e = .returned (.tuple #[.int .i64 k, .bool (hasB (x, y) l)]) ∧ PlaceI l (x, y) k ∧ Below w.heap.size w w' := by
 have B0 := hd_ (ad_ w (.cells #[.int .i64 x, .int .i64 y] 29));have X0 := hd_ (ao_ w x y);have I0 := hd_ (h.below B0.out);have HR := hd_ hr;obtain ⟨A, c, rfl, hz⟩ := id h;clear hz h hr;go_enter Tryz.func101, Tryz.ntmps101
 go_wp2_with fail;generalize w.alloc (.cells #[.int .i64 x, .int .i64 y] 29) = wb at *;go_loopw [9, 10] (fun s9 s10 wr => ∃ i j : Nat, s9 = .int .i64 i ∧ s10 = .int .i64 j ∧ i ≤ j ∧ j ≤ l.length ∧ Hid (∀ t (h : t < l.length), t < i → lt l[t] (x, y)) ∧ Hid (∀ t (h : t < l.length), j ≤ t → ¬ lt l[t] (x, y)) ∧ Hid (Below wb.heap.size wb wr)) (fun s9 s10 _ => (intOf s10).toNat - (intOf s9).toNat)
 case atStart => exact ⟨0, l.length, rfl, rfl, by omega, by omega, hd_ (fun t h h0 => absurd h0 (by omega)), hd_ (fun t h h0 => absurd h0 (by omega)), hd_ (Below.refl _ _)⟩
 case round =>
  obtain ⟨i, j, rfl, rfl, hij, hjl, HL, HU, HW⟩ := hrel;have XR := hd_ (ag_ X0.out HW.out);obtain ⟨x1, x2⟩ := ae_ XR.out;by_cases hlt : i < j
  ·have hd : decide ((i : Int) < (j : Int)) = true := decide_eq_true (by omega)
   obtain ⟨k, hk⟩ : ∃ k : Nat, ((i : Int) + (j : Int)) / 2 = (k : Int) := ⟨(i + j) / 2, by omega⟩
   have hk1 : k < l.length := by omega
   have i3 : (0 : Int) ≤ (k : Int) := by omega
   have i4 : (k : Int) < (l.length : Int) := by omega
   obtain ⟨ad, rfl, c1, c2⟩ := I0.out.at_ HW.out hk1;have HF := hd_ fun W (hb : Below wr.heap.size wr W) => And.intro ((hb.cell (block_lt_of_cell c1)).trans c1) (And.intro ((hb.cell (block_lt_of_cell c2)).trans c2) (And.intro (ae_ (ag_ XR.out hb)) (hd_ hb)))
   by_cases hc : lt l[k] (x, y)
   ·have HC : Hid (∀ W, Calls Tryz.prog 102 #[.agg #[.int .i64 l[k].1, .int .i64 l[k].2], .agg #[.int .i64 x, .int .i64 y]] W fun e w' => e = .returned (.int .i64 (-1)) ∧ Below W.heap.size W w') := hd_ fun W => by
     have := compare_any l[k].1 l[k].2 x y W
     rw [cmpZ_lt (show lt (l[k].1, l[k].2) (x, y) from hc)] at this
     exact this
    have HL2 : Hid (∀ t (h : t < l.length), t < k + 1 → lt l[t] (x, y)) := hd_ fun t h ht => by
     rcases Nat.lt_or_ge t k with h1 | h1
     ·exact lt_trans (rises_at HR.out hk1 h1) hc
     ·obtain rfl : t = k := by omega
      exact hc
    clear hc HL;generalize l[k].1 = u at *;generalize l[k].2 = v at *;go_wp2_with fail;refine wp_region_held_drew (S := fun w' => w'.cell? (ad.add (k * 2)) = some (.int .i64 u) ∧ w'.cell? ⟨(ad.add (k * 2)).block, (ad.add (k * 2)).off + 1, none⟩ = some (.int .i64 v) ∧ (w'.cell? ⟨w.heap.size, 0, none⟩ = some (.int .i64 x) ∧ w'.cell? ⟨w.heap.size, 1, none⟩ = some (.int .i64 y)) ∧ Hid (Below wr.heap.size wr w')) (by kernel_rfl) ?_ (fun hHeld => ?_)
    ·exact HF.out _ (Below.drew (Below.refl _ _))
    refine ty_ 0 ?_;refine ty_ 1 ?_;refine ty_ 2 ?_;refine ty_ 3 ?_;refine ty_ 4 ?_;refine ty_ 5 ?_;(try simp only [Act.put, si0, si1, si2]);refine a1_ 6 fun Kq hKq => ?_;go_simp;clear hHeld;go_at_call 102; (with_reducible refine (HC.out _).mono ?_); rintro e w7 ⟨rfl, hb⟩; have P7 := hd_ (ah_ (Below.drew (Below.refl _ _)) hb (Nat.le_refl _)); clear hb c1 c2 x1 x2
    refine hKq.out _ _ ?_ (fun hHeld => ?_)
    ·(try dsimp only); exact HF.out _ P7.out
    clear hKq Kq;(try simp only [Act.put, si0, si1, si2]);refine ty_ 7 ?_;(try simp only [Act.put, si0, si1, si2]);refine wd_ ?_;go_wp2_with fail;go_roundw
    case rel => exact ⟨k + 1, j, by go_num, rfl, by omega, by omega, HL2, HU, hd_ (ba_ HW.out P7.out)⟩
    case measure => simp [intOf]; omega
   ·obtain ⟨z, hz⟩ : ∃ z, z = cmpZ l[k].1 l[k].2 x y := ⟨_, rfl⟩
    have HC : Hid (∀ W, Calls Tryz.prog 102 #[.agg #[.int .i64 l[k].1, .int .i64 l[k].2], .agg #[.int .i64 x, .int .i64 y]] W fun e w' => e = .returned (.int .i64 z) ∧ Below W.heap.size W w') := hd_ fun W => by
     rw [hz];exact compare_any l[k].1 l[k].2 x y W
    have hzn : ¬ z < 0 := by rw [hz]; exact cmpZ_ge (show ¬ lt (l[k].1, l[k].2) (x, y) from hc)
    have hdz : decide (z < 0) = false := decide_eq_false hzn
    have HU2 : Hid (∀ t (h : t < l.length), k ≤ t → ¬ lt l[t] (x, y)) := hd_ fun t h ht => by
     rcases Nat.eq_or_lt_of_le ht with h1 | h1
     ·subst h1; exact hc
     ·exact fun h2 => hc (lt_trans (rises_at HR.out h h1) h2)
    clear hc HU hz hzn;generalize l[k].1 = u at *;generalize l[k].2 = v at *;go_wp2_with fail;refine wp_region_held_drew (S := fun w' => w'.cell? (ad.add (k * 2)) = some (.int .i64 u) ∧ w'.cell? ⟨(ad.add (k * 2)).block, (ad.add (k * 2)).off + 1, none⟩ = some (.int .i64 v) ∧ (w'.cell? ⟨w.heap.size, 0, none⟩ = some (.int .i64 x) ∧ w'.cell? ⟨w.heap.size, 1, none⟩ = some (.int .i64 y)) ∧ Hid (Below wr.heap.size wr w')) (by kernel_rfl) ?_ (fun hHeld => ?_)
    ·exact HF.out _ (Below.drew (Below.refl _ _))
    refine ty_ 0 ?_;refine ty_ 1 ?_;refine ty_ 2 ?_;refine ty_ 3 ?_;refine ty_ 4 ?_;refine ty_ 5 ?_;(try simp only [Act.put, si0, si1, si2]);refine a1_ 6 fun Kq hKq => ?_;go_simp;clear hHeld;go_at_call 102; (with_reducible refine (HC.out _).mono ?_); rintro e w7 ⟨rfl, hb⟩; have P7 := hd_ (ah_ (Below.drew (Below.refl _ _)) hb (Nat.le_refl _)); clear hb c1 c2 x1 x2
    refine hKq.out _ _ ?_ (fun hHeld => ?_)
    ·(try dsimp only); exact HF.out _ P7.out
    clear hKq Kq;(try simp only [Act.put, si0, si1, si2]);refine ty_ 7 ?_;(try simp only [Act.put, si0, si1, si2]);refine wd_ ?_;go_wp2_with fail;go_roundw
    case rel => exact ⟨i, k, rfl, rfl, by omega, by omega, HL, HU2, hd_ (ba_ HW.out P7.out)⟩
    case measure => simp [intOf]; omega
  ·obtain rfl : i = j := by omega
   have HP := hd_ (show PlaceI l (x, y) i from ⟨hjl, HL.out, HU.out⟩)
   clear HL HU;have hd : decide ((i : Int) < (i : Int)) = false := decide_eq_false (by omega)
   by_cases hin : i < l.length
   ·have hdn : decide ((i : Int) < (l.length : Int)) = true := decide_eq_true (by omega)
    have i3 : (0 : Int) ≤ (i : Int) := by omega
    have i4 : (i : Int) < (l.length : Int) := by omega
    obtain ⟨ad, rfl, c1, c2⟩ := I0.out.at_ HW.out hin;have HF := hd_ fun W (hb : Below wr.heap.size wr W) => And.intro ((hb.cell (block_lt_of_cell c1)).trans c1) (And.intro ((hb.cell (block_lt_of_cell c2)).trans c2) (And.intro (ae_ (ag_ XR.out hb)) (hd_ hb)))
    have hz : ∃ z, z = cmpZ l[i].1 l[i].2 x y ∧ decide (z = 0) = hasB (x, y) l := by
     refine ⟨_, rfl, ?_⟩
     by_cases e : l[i] = (x, y)
     ·rw [place_has hin e, e]
      exact decide_eq_true (cmpZ_self x y)
     ·rw [place_not HR.out HP.out hin e]
      rw [cmpZ_gt (show lt (x, y) (l[i].1, l[i].2) from lt_total (HP.out.2.2 i hin (Nat.le_refl _)) e)]
      rfl
    obtain ⟨z, hz, hz2⟩ := hz
    have HC : Hid (∀ W, Calls Tryz.prog 102 #[.agg #[.int .i64 l[i].1, .int .i64 l[i].2], .agg #[.int .i64 x, .int .i64 y]] W fun e w' => e = .returned (.int .i64 z) ∧ Below W.heap.size W w') := hd_ fun W => by
     rw [hz];exact compare_any l[i].1 l[i].2 x y W
    have HZ := hd_ hz2;clear hz hz2;generalize l[i].1 = u at *;generalize l[i].2 = v at *;go_wp2_with fail;refine wp_region_held_drew (S := fun w' => w'.cell? (ad.add (i * 2)) = some (.int .i64 u) ∧ w'.cell? ⟨(ad.add (i * 2)).block, (ad.add (i * 2)).off + 1, none⟩ = some (.int .i64 v) ∧ (w'.cell? ⟨w.heap.size, 0, none⟩ = some (.int .i64 x) ∧ w'.cell? ⟨w.heap.size, 1, none⟩ = some (.int .i64 y)) ∧ Hid (Below wr.heap.size wr w')) (by kernel_rfl) ?_ (fun hHeld => ?_)
    ·exact HF.out _ (Below.drew (Below.refl _ _))
    refine ty_ 0 ?_;refine ty_ 1 ?_;refine ty_ 2 ?_;refine ty_ 3 ?_;refine ty_ 4 ?_;try simp only [Act.put, si0, si1, si2]
    first | refine ty_ 5 ?_ | refine tn_ 5 ?_
    try simp only [Act.put, si0, si1, si2]
    first | refine ty_ 6 ?_ | refine tn_ 6 ?_
    try simp only [Act.put, si0, si1, si2]
    first | refine ty_ 7 ?_ | refine tn_ 7 ?_
    try simp only [Act.put, si0, si1, si2]
    first | refine ty_ 8 ?_ | refine tn_ 8 ?_
    try simp only [Act.put, si0, si1, si2]
    first | refine ty_ 9 ?_ | refine tn_ 9 ?_
    try simp only [Act.put, si0, si1, si2]
    first | refine ty_ 10 ?_ | refine tn_ 10 ?_
    (try simp only [Act.put, si0, si1, si2]);refine a1_ 11 fun Kq hKq => ?_;go_simp;clear hHeld;go_at_call 102; (with_reducible refine (HC.out _).mono ?_); rintro e w7 ⟨rfl, hb⟩; have P7 := hd_ (ah_ (Below.drew (Below.refl _ _)) hb (Nat.le_refl _)); clear hb c1 c2 x1 x2
    refine hKq.out _ _ ?_ (fun hHeld => ?_)
    ·(try dsimp only); exact HF.out _ P7.out
    clear hKq Kq;try simp only [Act.put, si0, si1, si2]
    first | refine ty_ 12 ?_ | refine tn_ 12 ?_
    (try simp only [Act.put, si0, si1, si2]);refine ty_ 13 ?_;refine ty_ 14 ?_;refine ty_ 15 ?_;(try simp only [Act.put, si0, si1, si2]);refine wd_ ?_;go_wp2_with fail;refine bodyPost_ret (v := .tuple #[.int .i64 i, .bool (z == 0)]) (by simp [results, Tryz.results101, go_sem]) rfl ?_
    exact ⟨i, by rw [← HZ.out]; rfl, HP.out, ah_ B0.out (ba_ HW.out P7.out) (Nat.le_refl _)⟩
   ·have hdn : decide ((i : Int) < (l.length : Int)) = false := decide_eq_false (by omega)
    have HN := hd_ (place_end HP.out (by omega))
    go_wp2_with fail;go_quiet (fail)
    go_wp2_with fail;refine bodyPost_ret (v := .tuple #[.int .i64 i, .bool false]) (by simp [results, Tryz.results101, go_sem]) rfl ?_
    exact ⟨i, by rw [HN.out], HP.out, ah_ B0.out (below_drewN HW.out) (Nat.le_refl _)⟩
end
section
open Go Go.RowKit Sets RowSets
def FloorsAt (X : Nat) (s : List Id2) (A : Option Addr) (c : Nat) (W : World) : Prop := One W X 23 (.slice A s.length c) ∧ Ids W (.slice A s.length c) s
theorem FloorsAt.below {X : Nat} {s : List Id2} {A : Option Addr} {c : Nat} {W W' : World} (h : FloorsAt X s A c W) (hb : Below W.heap.size W W') : FloorsAt X s A c W' := ⟨a0_ h.1 hb, h.2.below hb⟩
theorem rem_place {fl s : List Id2} (hs : Rises s) (hm : ∀ z, z ∈ s ↔ z ∈ fl) {x : Id2} {k : Nat} (h : PlaceI s x k) : rem fl x = if h : k < s.length then decide (s[k].1 = x.1) else false :=
 rem_next hs hm (fun i h1 h2 => h.2.1 i h1 h2) (fun i h1 h2 => h.2.2 i h1 h2)
set_option maxHeartbeats 2000000 in
theorem goneI_asks (X : Nat) (fl s : List Id2) (A : Option Addr) (c : Nat) (hs : Rises s) (hm : ∀ z, z ∈ s ↔ z ∈ fl) (hl : s.length ≤ 40000) : AsksI 100 #[.pointer (some ⟨X, 0, none⟩)] (fun x => rem fl x) (FloorsAt X s A c) where
 enters := fun args W => enters_fn Tryz.func100 (by kernel_rfl) rfl args W
 kept _ _ h hb := h.below hb
 call a i W hS := by
  have BX := hd_ (ad_ W (.cells #[.int .i64 a, .int .i64 i] 29));have X0 := hd_ (ao_ W a i);have F0 := hd_ (hS.below BX.out);have HP := hd_ fun k (h : PlaceI s (a, i) k) => rem_place hs hm h
  have HR := hd_ hs;clear hS hm;have f1 := one_cell F0.out.1;obtain ⟨x1, x2⟩ := ae_ X0.out;go_enter Tryz.func100, Tryz.ntmps100
  go_wp2_with fail;refine (bin_any _ s a i _ F0.out.2 HR.out (by omega)).mono ?_
  rintro e w1 ⟨k, rfl, hp, hb⟩;have F1 := hd_ (F0.out.below hb);have X1 := hd_ (ag_ X0.out hb);have B1 := hd_ (ba_ BX.out hb);have HE := hd_ (HP.out k hp);clear hp hb f1 x1 x2;have f1 := one_cell F1.out.1;obtain ⟨x1, x2⟩ := ae_ X1.out;have i3 : (0 : Int) ≤ (k : Int) := by omega
  by_cases hk : k < s.length
  ·have hd : decide ((k : Int) < (s.length : Int)) = true := decide_eq_true (by omega)
   have i4 : (k : Int) < (s.length : Int) := by omega
   obtain ⟨ad, rfl, c1, c2⟩ := F1.out.2.at_ (Below.refl _ _) hk;have HE2 := hd_ (show rem fl (a, i) = decide (s[k].1 = a) by rw [HE.out, dif_pos hk])
   clear HE;generalize s[k].1 = u at *;generalize s[k].2 = v at *;go_wp2_with fail;go_quiet (fail)
   go_wp2_with fail;refine bodyPost_ret (results_tmp rfl _ _ _) rfl ?_
   exact ⟨by show Ending.returned (.bool (u == a)) = _; rw [HE2.out]; rfl, below_drewN B1.out⟩
  ·have hd : decide ((k : Int) < (s.length : Int)) = false := decide_eq_false (by omega)
   have HE2 := hd_ (show rem fl (a, i) = false by rw [HE.out, dif_neg hk])
   clear HE;go_wp2_with fail;go_quiet (fail)
   go_wp2_with fail;go_ret;exact ⟨af_ HE2.out.symm, below_drewN B1.out⟩
def FloorsW (X Y : Nat) (s : List Id2) (A : Option Addr) (c : Nat) (W : World) : Prop := One W Y 76 (.func (.func 100) #[] #[.pointer (some ⟨X, 0, none⟩)]) ∧ FloorsAt X s A c W
theorem FloorsW.below {X Y : Nat} {s : List Id2} {A : Option Addr} {c : Nat} {W W' : World} (h : FloorsW X Y s A c W) (hb : Below W.heap.size W W') : FloorsW X Y s A c W' := ⟨a0_ h.1 hb, h.2.below hb⟩
theorem goneW_asks (X Y : Nat) (fl s : List Id2) (A : Option Addr) (c : Nat) (hs : Rises s) (hm : ∀ z, z ∈ s ↔ z ∈ fl) (hl : s.length ≤ 40000) : AsksW 105 #[.pointer (some ⟨Y, 0, none⟩)] (fun x => rem fl x) (FloorsW X Y s A c) where
 enters := fun args W => enters_fn Tryz.func105 (by kernel_rfl) rfl args W
 kept _ _ h hb := h.below hb
 call a i n B m k W hS := by
  have HI := hd_ (goneI_asks X fl s A c hs hm hl);have hK := HI.out.enters;have BX := hd_ (ad_ W (.cells #[.int .i64 a, .int .i64 i, .int .i64 n, .slice B m k] 68));have X0 := hd_ (av_ W a i n (.slice B m k));have F0 := hd_ (hS.below BX.out);have HC := hd_ fun W (h : FloorsAt X s A c W) => HI.out.call a i W h
  clear hS hm hs hl HI;have f1 := one_cell F0.out.1;obtain ⟨x1, x2, x3, x4⟩ := ai_ X0.out;go_enter Tryz.func105, Tryz.ntmps105
  go_wp2_with fail;refine (HC.out _ F0.out.2).mono ?_
  rintro e w1 ⟨rfl, hb⟩;have B1 := hd_ (ba_ BX.out hb);clear hb f1 x1 x2 x3 x4;go_wp2_with fail;go_ret;exact ⟨rfl, B1.out⟩
end
section
open Go Go.RowKit Sets RowSets
theorem rowW_not {w : World} {g : Nat} {d : Array Raw} (h : RowAtR encW 4 w g d) {i : Nat} (hi : i < d.size) (B : Option Addr) (m c : Nat) :
  RowAtR encW 4 (w.setCell ⟨g, i * 4 + 3, none⟩ (.slice B m c)) g (d.setIfInBounds i (d[i]!.1, d[i]!.2.1, B, m, c)) := by
 have hcell := (h.2 i hi 3 (slc d[i]!) rfl).1;refine ⟨by rw [World.size_setCell]; exact h.1, fun k hk j u hu => ?_⟩
 have hk2 : k < d.size := by simpa using hk
 have hset : w.setCell ⟨g, i * 4 + 3, none⟩ (.slice B m c) = w.setCells g (i * 4 + 3) [.slice B m c] := rfl
 rw [hset];by_cases e : k = i ∧ j = 3
 ·obtain ⟨rfl, rfl⟩ := e
  rw [getElem!_pos _ k hk, Array.getElem_setIfInBounds_self] at hu;have hu2 : u = .slice B m c := by simpa [encW, slc] using hu.symm
  subst hu2;refine ⟨?_, ?_⟩
  ·have := World.cell?_setCells_in g [.slice B m c] (k * 4 + 3) w (fun t ht => by
    obtain rfl : t = 0 := by simpa using ht
    rw [Nat.add_zero, hcell]; rfl) 0 (by simp)
   exact this
  ·rw [World.frozen?_setCells]
   exact (h.2 k hk2 3 (slc d[k]!) rfl).2
 ·have hu2 : (encW d[k]!)[j]? = some u := by
   by_cases e1 : k = i
   ·subst e1
    rw [getElem!_pos _ k hk, Array.getElem_setIfInBounds_self] at hu;have hj : j < 4 := (List.getElem?_eq_some_iff.1 hu).1
    have hj3 : j ≠ 3 := fun h => e ⟨rfl, h⟩
    have : j = 0 ∨ j = 1 ∨ j = 2 := by omega
    rcases this with rfl | rfl | rfl <;> exact hu
   ·rw [getElem!_pos _ k hk, Array.getElem_setIfInBounds_ne _ (fun h => e1 h.symm)] at hu
    rw [getElem!_pos d k hk2];exact hu
  have hj : j < 4 := (List.getElem?_eq_some_iff.1 hu2).1
  refine ⟨?_, ?_⟩
  ·rw [World.cell?_setCells_out g [.slice B m c] (i * 4 + 3) w _ (fun _ _ => ?_)]
   ·exact (h.2 k hk2 j u hu2).1
   ·show k * 4 + j < i * 4 + 3 ∨ i * 4 + 3 + 1 ≤ k * 4 + j
    rcases Nat.lt_trichotomy k i with h1 | h1 | h1
    ·omega
    ·subst h1
     have : j ≠ 3 := fun h => e ⟨rfl, h⟩
     omega
    ·omega
  ·rw [World.frozen?_setCells]
   exact (h.2 k hk2 j u hu2).2
def LiesB (g : Nat) (w : World) (q : Raw) (r : Row) : Prop := q.1 = r.1 ∧ q.2.1 = r.2.1 ∧ Ids w (slc q) r.2.2 ∧ ∀ ad, q.2.2.1 = some ad → g < ad.block
theorem LiesB.grown {g b : Nat} {w w' : World} {q : Raw} {r : Row} (h : LiesB g w q r) (hb : w.grownBy w' (some b)) (hne : ∀ ad, q.2.2.1 = some ad → ad.block ≠ b) : LiesB g w' q r := by
 refine ⟨h.1, h.2.1, ?_, h.2.2.2⟩
 obtain ⟨A, c, hv, h0, hc, hk⟩ := h.2.2.1;refine ⟨A, c, hv, h0, hc, fun k hlt => ?_⟩
 obtain ⟨ad, rfl, h1, c1, c2⟩ := hk k hlt;have e : q.2.2.1 = some ad := by unfold slc at hv; injection hv
 have hbl := hb.block ad.block h1 (fun h => hne ad e (by first | exact (Option.some.inj h).symm | exact Option.some.inj h))
 refine ⟨ad, rfl, Nat.lt_of_lt_of_le h1 hb.size, ?_, ?_⟩
 ·rw [World.cell?_of_block (w := w) (by rw [block_of_add]; exact hbl)]
  exact c1
 ·rw [World.cell?_of_block (w := w) (by show w'.heap[(ad.add (k * 2)).block]? = _; rw [block_of_add]; exact hbl)]
  exact c2
theorem LiesB.below {g : Nat} {w w' : World} {q : Raw} {r : Row} (h : LiesB g w q r) (hb : Below w.heap.size w w') : LiesB g w' q r := ⟨h.1, h.2.1, h.2.2.1.below hb, h.2.2.2⟩
theorem eachOwn_filter {w : World} {lo : Nat} {p : Id2 → Bool} : ∀ {qs : List Raw} {l : List Row}, EachOwn w lo qs l → EachOwn w lo (qs.filter fun q => !p q.1) (l.filter fun r => !p r.1)
 | [], [], _ => trivial
 | q :: qs, r :: l, h => by
  have ih := eachOwn_filter (p := p) h.2;have e : q.1 = r.1 := h.1.1
  rcases hp : p r.1 with _ | _
  ·rw [List.filter_cons_of_pos (by rw [e, hp]; rfl), List.filter_cons_of_pos (by rw [hp]; rfl)]
   exact ⟨h.1, ih⟩
  ·rw [List.filter_cons_of_neg (by rw [e, hp]; simp), List.filter_cons_of_neg (by rw [hp]; simp)]
   exact ih
 | [], _ :: _, h => h.elim
 | _ :: _, [], h => h.elim
theorem deleteI_nil {K : Nat} {caps : Array Value} {p : Id2 → Bool} {S : World → Prop} (hP : AsksI K caps p S) (w : World) (hS : S w) :
  Calls Tryz.prog 106 #[.slice none 0 0, .func (.func K) #[] caps] w fun e w' => e = .returned (.slice none 0 0) ∧ Below w.heap.size w w' := by
 have HP := hd_ hP;have HS0 := hd_ hS;clear hP hS;go_enter Tryz.func106, Tryz.ntmps106
 go_wp2_with fail;(with_reducible refine (indexI_any HP.out _ _ _ (Ids.nil w) HS0.out (by simp)).mono ?_)
 rintro e w1 ⟨⟨r, rfl, hf⟩, hb⟩;have HB := hd_ hb;clear hb;rcases hf with ⟨rfl, _⟩ | ⟨k0, hk0, _⟩
 ·go_wp2_with fail
  go_ret;exact ⟨rfl, HB.out⟩
 ·exact absurd hk0 (by simp)
end
end Go.Proofs.YthkkipbmlafdiaaGreat
