/-
  Contracts and plain facts.
-/
import Derived.Test.YthkkipbmlafdiaaGreatOy
import Derived.Test.YthkkipbmlafdiaaGreatB10
import Derived.Test.YthkkipbmlafdiaaGreatB12
import Derived.Test.YthkkipbmlafdiaaGreatB13
import Derived.Test.YthkkipbmlafdiaaGreatB15
set_option maxRecDepth 20000
namespace Go.Proofs.YthkkipbmlafdiaaGreat
section
open Go Go.RowKit Ros
theorem ms_lit (W : World) (l : List Mm) : Ms (W.alloc (.cells (flatR encM l).toArray 31)) (.slice (some ⟨W.heap.size, 0, none⟩) l.length l.length) l := rcs_lit encM_len W l _ 31 (by simp)
end
section
namespace Ros
theorem len_outM (S : Nat → St) : (outM S).length ≤ 13 := by
 unfold outM;have := List.length_filterMap_le (fun k : Nat => if (S k).n = 0 then none else some (((k : Int), (S k).n), (S k).s, (S k).p)) (List.range 13)
 simpa using this
theorem len_outF (S : Nat → St) : (outF S).length ≤ 13 := by
 unfold outF;have := List.length_filterMap_le (fun k : Nat => if (S k).f ≤ 0 then none else some ((k : Int), (S k).f)) (List.range 13)
 simpa using this
def LenOk (L : Ls) : Prop := L.1.length ≤ 100 ∧ L.2.length ≤ 100
theorem lenJ (a b : Ls) : LenOk (joinL a b) := by
 constructor
 ·exact Nat.le_trans (len_outM fun k => kill ((raw a k).or (raw b k))) (by decide)
 ·exact Nat.le_trans (len_outF fun k => kill ((raw a k).or (raw b k))) (by decide)
def Ups {α : Type} (key : α → Int) (l : List α) : Prop := l.Pairwise fun x y => key x < key y
theorem ups_of {α : Type} [Inhabited α] {key : α → Int} : ∀ {l : List α}, (∀ k, k < l.length → k ≠ 0 → key l[k - 1]! < key l[k]!) → Ups key l
 | [], _ => List.Pairwise.nil
 | x :: l, h => by
  have ih : Ups key l := ups_of fun k hk h0 => by
   have := h (k + 1) (by simp; omega) (by omega)
   simp only [Nat.add_sub_cancel] at this;rw [getElem!_pos (x :: l) k (by simp; omega), getElem!_pos (x :: l) (k + 1) (by simp; omega)] at this
   rw [getElem!_pos l (k - 1) (by omega), getElem!_pos l k hk]
   simp only [List.getElem_cons_succ] at this;obtain ⟨q, rfl⟩ : ∃ q, k = q + 1 := ⟨k - 1, by omega⟩
   simpa using this
  refine List.Pairwise.cons (fun y hy => ?_) ih
  match l, h, ih, hy with
  | z :: t, h, ih, hy =>
   have h1 : key x < key z := by simpa using h 1 (by simp) (by omega)
   rcases List.mem_cons.1 hy with rfl | hy
   ·exact h1
   ·have := (List.pairwise_cons.1 ih).1 y hy
    omega
theorem filterMap_same {α β : Type} {f g : α → Option β} : ∀ {l : List α}, (∀ x ∈ l, f x = g x) → l.filterMap f = l.filterMap g
 | [], _ => rfl
 | x :: l, h => by
  rw [List.filterMap_cons, List.filterMap_cons, h x (List.mem_cons_self ..), filterMap_same fun y hy => h y (List.mem_cons_of_mem _ hy)]
theorem by_keys {α : Type} {key : α → Int} : ∀ (n lo : Nat) (l : List α), Ups key l → (∀ x ∈ l, (lo : Int) ≤ key x ∧ key x < ((lo + n : Nat) : Int)) → (List.range' lo n).filterMap (fun k : Nat => l.find? fun x => decide (key x = (k : Int))) = l
 | 0, lo, l, _, hb => by
  cases l with
  | nil => rfl
  | cons x l => have := hb x (List.mem_cons_self ..); omega
 | n + 1, lo, l, hu, hb => by
  rw [List.range'_succ, List.filterMap_cons];cases l with
  | nil =>
   simp only [List.find?_nil];exact by_keys (key := key) n (lo + 1) [] List.Pairwise.nil (fun x hx => by cases hx)
  | cons x l =>
   have hx := hb x (List.mem_cons_self ..);have hc := List.pairwise_cons.1 hu;by_cases e : key x = (lo : Int)
   ·have : (x :: l).find? (fun y => decide (key y = (lo : Int))) = some x := by simp [e]
    rw [this];simp only [];congr 1
    have hl : ∀ y ∈ l, ((lo + 1 : Nat) : Int) ≤ key y ∧ key y < ((lo + 1 + n : Nat) : Int) := fun y hy => by
     have h1 := hc.1 y hy;have h2 := hb y (List.mem_cons_of_mem _ hy);omega
    refine Eq.trans ?_ (by_keys n (lo + 1) l hc.2 hl)
    refine filterMap_same fun k hk => ?_
    have hk2 := List.mem_range'_1.1 hk;have : decide (key x = (k : Int)) = false := by simp; omega
    rw [List.find?_cons, this]
   ·have h0 : (x :: l).find? (fun y => decide (key y = (lo : Int))) = none := by
     rw [List.find?_eq_none];intro y hy;simp only [decide_eq_true_eq];rcases List.mem_cons.1 hy with rfl | hy
     ·exact e
     ·have := hc.1 y hy; omega
    rw [h0];simp only [];refine by_keys n (lo + 1) (x :: l) hu fun y hy => ?_
    have h2 := hb y hy;rcases List.mem_cons.1 hy with rfl | hy
    ·omega
    ·have := hc.1 y hy; omega
theorem filter_find {α : Type} {key : α → Int} {k : Int} : ∀ {l : List α}, Ups key l → l.filter (fun x => decide (key x = k)) = (l.find? fun x => decide (key x = k)).toList
 | [], _ => rfl
 | x :: l, hu => by
  have hc := List.pairwise_cons.1 hu;by_cases e : key x = k
  ·have h0 : l.filter (fun x => decide (key x = k)) = [] := by
    rw [List.filter_eq_nil_iff];intro y hy;have := hc.1 y hy
    simp only [decide_eq_true_eq];omega
   rw [List.filter_cons_of_pos (by simpa using e), h0, List.find?_cons_of_pos (by simpa using e)]
   rfl
  ·rw [List.filter_cons_of_neg (by simpa using e), List.find?_cons_of_neg (by simpa using e)]
   exact filter_find hc.2
structure Valid (m : List Mm) (f : List Id2) : Prop where
 fv : ∀ x ∈ f, vid x.1 x.2 = true
 fu : Ups (fun x : Id2 => x.1) f
 mv : ∀ x ∈ m, vid x.1.1 x.1.2 = true ∧ mayNum x.2.1 x.2.2 = true ∧ goneB f x.1 = false
 mu : Ups (fun x : Mm => x.1.1) m
theorem valid_of {m : List Mm} {f : List Id2} (h : mayB m f = true) : Valid m f := by
 unfold mayB at h;rw [Bool.and_eq_true] at h;obtain ⟨hf, hm⟩ := h;unfold mayF at hf;rw [List.all_eq_true] at hf hm;have hf' : ∀ k, k < f.length → okF f k = true := fun k hk => hf k (List.mem_range.2 hk)
 have hm' : ∀ k, k < m.length → okM m f k = true := fun k hk => hm k (List.mem_range.2 hk)
 refine ⟨fun x hx => ?_, ups_of fun k hk h0 => ?_, fun x hx => ?_, ups_of fun k hk h0 => ?_⟩
 ·obtain ⟨k, hk, rfl⟩ := List.mem_iff_getElem.1 hx
  have := hf' k hk
  rw [okF_is hk, Bool.and_eq_true] at this;exact this.1
 ·have := hf' k hk
  unfold okF at this;rw [Bool.and_eq_true, Bool.or_eq_true] at this;rcases this.2 with h | h
  ·exact absurd (of_decide_eq_true h) h0
  ·exact of_decide_eq_true h
 ·obtain ⟨k, hk, rfl⟩ := List.mem_iff_getElem.1 hx
  have := hm' k hk
  rw [okM_is hk] at this;simp only [Bool.and_eq_true, Bool.not_eq_true'] at this;exact ⟨this.1.1.1, this.1.1.2, this.1.2⟩
 ·have := hm' k hk
  unfold okM at this;rw [Bool.and_eq_true, Bool.or_eq_true] at this;rcases this.2 with h | h
  ·exact absurd (of_decide_eq_true h) h0
  ·exact of_decide_eq_true h
theorem mayNum_cases {s n : Int} (h : mayNum s n = true) : 1 ≤ s ∧ s ≤ 6 ∧ 0 ≤ n ∧ n ≤ 1099511627776 ∧ ((s = 1 ∨ s = 2) → n = 0) ∧ ((s = 3 ∨ s = 4) → 1 ≤ n) := by
 unfold mayNum at h;split at h
 ·have := of_decide_eq_true h; omega
 ·split at h
  ·have := of_decide_eq_true h; omega
  ·split at h
   ·have := of_decide_eq_true h; omega
   ·cases h
theorem mayNum_yes {s n : Int} (h : 1 ≤ s ∧ s ≤ 6 ∧ 0 ≤ n ∧ n ≤ 1099511627776 ∧ ((s = 1 ∨ s = 2) → n = 0) ∧ ((s = 3 ∨ s = 4) → 1 ≤ n)) : mayNum s n = true := by
 unfold mayNum;split
 ·exact decide_eq_true (by omega)
 ·split
  ·exact decide_eq_true (by omega)
  ·split
   ·exact decide_eq_true (by omega)
   ·omega
theorem Valid.cnt {m : List Mm} {f : List Id2} (h : Valid m f) : AllC m := fun x hx => by
 obtain ⟨h1, h2, _⟩ := h.mv x hx;have := mayNum_cases h2
 exact cnt_iff.2 ⟨vid_iff.1 h1, this.1, by omega⟩
theorem floorZ_from (f : List Id2) (a : Int) : ∀ c : Int, f.foldl (fun c x => if x.1 = a then max c x.2 else c) c = max c (floorZ f a) ∨ c < 0 := by
 induction f with
 | nil => intro c; unfold floorZ; simp; omega
 | cons x l ih =>
  intro c;by_cases hc : c < 0
  ·exact .inr hc
  ·refine .inl ?_
   unfold floorZ;rw [List.foldl_cons, List.foldl_cons];by_cases e : x.1 = a
   ·rw [if_pos e, if_pos e]
    rcases ih (max c x.2) with h | h
    ·rw [h]
     rcases ih (max 0 x.2) with h2 | h2
     ·rw [h2]; omega
     ·omega
    ·omega
   ·rw [if_neg e, if_neg e]
    rcases ih c with h | h
    ·rw [h]; rfl
    ·omega
theorem floorZ_cons (x : Id2) (l : List Id2) (a : Int) : floorZ (x :: l) a = if x.1 = a then max x.2 (floorZ l a) else floorZ l a := by
 have hn : ∀ (l : List Id2), 0 ≤ floorZ l a := fun l => by
  rcases floorZ_from l a 0 with h | h
  ·have : floorZ l a = max 0 (floorZ l a) := h
   omega
  ·omega
 show (l.foldl _ (if x.1 = a then max 0 x.2 else 0)) = _
 by_cases e : x.1 = a
 ·rw [if_pos e, if_pos e]
  rcases floorZ_from l a (max 0 x.2) with h | h
  ·rw [h]; have := hn l; omega
  ·omega
 ·rw [if_neg e, if_neg e]; rfl
theorem floor_big (k : Nat) : ∀ {f : List Id2}, AllV f → floorZ f (k : Int) = (bigG k f).f
 | [], _ => rfl
 | x :: l, h => by
  have hl : AllV l := fun y hy => h y (List.mem_cons_of_mem _ hy)
  have ih := floor_big k hl;rw [floorZ_cons];by_cases e : x.1 = (k : Int)
  ·have hf := fit_eg (h x (List.mem_cons_self ..)) e
   rw [if_pos e, bigG_yes e, or_eq hf.good.f0 (show (eg x).n = _ from (fit_bigG hl).2.1.symm), ih]
   rfl
  ·rw [if_neg e, bigG_no e, ih]
theorem big_toList {α : Type} (o : Option α) (g : α → St) : big (o.toList.map g) = match o with | some x => (g x).or St.zero | none => St.zero := by
 cases o <;> rfl
theorem valid_out {m : List Mm} {f : List Id2} (h : Valid m f) : out (fun k => kill (raw (m, f) k)) = (m, f) := by
 have hc := h.cnt;have hv : AllV f := h.fv
 have hraw : ∀ k, raw (m, f) k = (bigM k m).or (bigG k f) := fun k => by
  unfold raw;simp only [];rw [filter_all hc, filter_all hv]
 have hM : ∀ k : Nat, bigM k m = match m.find? (fun x => decide (x.1.1 = (k : Int))) with | some x => (em x).or St.zero | none => St.zero := fun k => by
  unfold bigM;rw [filter_find (key := fun x : Mm => x.1.1) h.mu, big_toList]
  cases m.find? (fun x => decide (x.1.1 = (k : Int))) <;> rfl
 have hG : ∀ k : Nat, bigG k f = match f.find? (fun x => decide (x.1 = (k : Int))) with | some x => (eg x).or St.zero | none => St.zero := fun k => by
  unfold bigG;rw [filter_find (key := fun x : Id2 => x.1) h.fu, big_toList]
  cases f.find? (fun x => decide (x.1 = (k : Int))) <;> rfl
 have hone : ∀ k : Nat, (kill (raw (m, f) k)).f = (bigG k f).f ∧ (if (kill (raw (m, f) k)).n = 0 then none else some (((k : Int), (kill (raw (m, f) k)).n), (kill (raw (m, f) k)).s, (kill (raw (m, f) k)).p)) = m.find? (fun x => decide (x.1.1 = (k : Int))) := fun k => by
  have fG := fit_bigG (k := k) hv;have g0 := fG.1.good.f0;rw [hraw, hM];cases e : m.find? (fun x => decide (x.1.1 = (k : Int))) with
  | none =>
   simp only [];rw [zero_or fG.1.good]
   have hk : kill (bigG k f) = bigG k f := by
    unfold kill;rw [fG.2.1, if_pos g0];exact St.ext4 rfl fG.2.1.symm fG.2.2.1.symm fG.2.2.2.symm
   rw [hk, if_pos fG.2.1];exact ⟨rfl, rfl⟩
  | some x =>
   have hx := List.mem_of_find?_eq_some e;have ha : x.1.1 = (k : Int) := by simpa using List.find?_some e
   obtain ⟨v1, v2, v3⟩ := h.mv x hx;obtain ⟨⟨_, _, u1, u2⟩, _⟩ := cnt_iff.1 (hc x hx);have n6 := mayNum_cases v2
   have hg : (bigG k f).f < x.1.2 := by
    rw [← floor_big k hv];unfold goneB at v3;rw [ha] at v3;have := of_decide_eq_false v3
    omega
   simp only []
   have e1 : (em x).or St.zero = ⟨0, x.1.2, x.2.1, x.2.2⟩ := by
    rw [or_gt (x := em x) (y := St.zero) (by show 0 < x.1.2; omega)]
    refine St.ext4 ?_ rfl rfl (by show max x.2.2 0 = x.2.2; omega)
    show max (max (if x.2.1 = 7 then x.1.2 else 0) 0) 0 = 0
    rw [if_neg (by omega)]
    omega
   rw [e1, or_gt (x := ⟨0, x.1.2, x.2.1, x.2.2⟩) (by rw [fG.2.1]; show 0 < x.1.2; omega)]
   have e2 : (⟨max (max 0 (bigG k f).f) (bigG k f).n, x.1.2, x.2.1, x.2.2⟩ : St) = ⟨(bigG k f).f, x.1.2, x.2.1, x.2.2⟩ := St.ext4 (by show max (max 0 _) (bigG k f).n = _; rw [fG.2.1]; show max (max 0 (bigG k f).f) 0 = (bigG k f).f; omega) rfl rfl rfl
   have e3 : kill ⟨(bigG k f).f, x.1.2, x.2.1, x.2.2⟩ = ⟨(bigG k f).f, x.1.2, x.2.1, x.2.2⟩ := if_neg (by show ¬ x.1.2 ≤ (bigG k f).f; omega)
   show (kill (⟨max (max 0 (bigG k f).f) (bigG k f).n, x.1.2, x.2.1, x.2.2⟩ : St)).f = _ ∧ _
   rw [e2, e3, if_neg (by show ¬ x.1.2 = 0; omega)]
   exact ⟨rfl, by rw [← ha]⟩
 have hrange : List.range 13 = List.range' 0 13 := by decide
 unfold out;refine Prod.ext ?_ ?_
 ·show outM (fun k => kill (raw (m, f) k)) = m
  unfold outM;rw [filterMap_congr_range 13 fun k _ => (hone k).2, hrange]
  exact by_keys 13 0 m h.mu fun x hx => by
   obtain ⟨⟨u1, u2, _⟩, _⟩ := cnt_iff.1 (hc x hx);omega
 ·show outF (fun k => kill (raw (m, f) k)) = f
  unfold outF;rw [filterMap_congr_range (g := fun k : Nat => f.find? (fun x => decide (x.1 = (k : Int)))) 13 fun k _ => ?_, hrange]
  ·exact by_keys 13 0 f h.fu fun x hx => by
    obtain ⟨u1, u2, _⟩ := vid_iff.1 (hv x hx);omega
  ·rw [(hone k).1, hG]
   cases e : f.find? (fun x => decide (x.1 = (k : Int))) with
   | none => rfl
   | some x =>
    have hx := List.mem_of_find?_eq_some e;have ha : x.1 = (k : Int) := by simpa using List.find?_some e
    obtain ⟨_, _, u1, _⟩ := vid_iff.1 (hv x hx);simp only [];rw [or_eq (x := eg x) (y := St.zero) (by show 0 ≤ x.2; omega) rfl]
    have e5 : max (eg x).f St.zero.f = x.2 := by show max x.2 0 = x.2; omega
    show (if max (eg x).f St.zero.f ≤ 0 then none else some ((k : Int), max (eg x).f St.zero.f)) = some x
    rw [e5, if_neg (by omega), ← ha]
theorem valid_self {a : Ls} (h : mayB a.1 a.2 = true) : joinL a a = a := by
 have hv := valid_of h;refine Eq.trans (out_congr fun k _ => ?_) (valid_out hv)
 rw [or_self (fit_raw a k).good]
end Ros
end
section
open Go Go.RowKit Ros
theorem act_eta (a : Act) (n : Nat) (h : a.tmps.size = n) : a = ⟨((List.range n).map fun k => a.tmps.getD k undef).toArray, a.defers⟩ := by
 obtain ⟨t, d⟩ := a;congr 1
 apply Array.ext_getElem?
 intro i;by_cases hi : i < n
 ·have h2 : i < t.size := by rw [show t.size = n from h]; exact hi
  rw [Array.getElem?_eq_getElem h2, Array.getElem?_eq_getElem (by simpa using hi)]
  simp [Array.getD, h2]
 ·have h2 : ¬ i < t.size := by rw [show t.size = n from h]; exact hi
  rw [Array.getElem?_eq_none (by omega), Array.getElem?_eq_none (by simpa using hi)]
end
section
open Go Go.RowKit Sets RowSets
def mayRowB (r : Row) : Bool := vidROW r.1.1 r.1.2 && (decide (1 ≤ r.2.1) && (decide (r.2.1 ≤ 1099511627776) && (allV r.2.2 && (risesB r.2.2 && !hasB r.1 r.2.2))))
set_option maxHeartbeats 2000000 in
theorem mayRow_any (a i n : Int) (A : Option Addr) (m c : Nat) (l : List Id2) (w : World) (h : Ids w (.slice A m c) l) (hl : l.length ≤ 100000) :
  Calls Tryz.prog 96 #[.agg #[.int .i64 a, .int .i64 i, .int .i64 n, .slice A m c]] w fun e w' => e = .returned (.bool (mayRowB ((a, i), n, l))) ∧ Below w.heap.size w w' := by
 have B0 := hd_ (ad_ w (.cells #[.int .i64 a, .int .i64 i, .int .i64 n, .slice A m c] 68));have X0 := hd_ (av_ w a i n (.slice A m c));have HI := hd_ h;have HR : Hid (mayRowB ((a, i), n, l) = (vidROW a i && (decide (1 ≤ n) && (decide (n ≤ 1099511627776) && (allV l && (risesB l && !hasB (a, i) l)))))) := hd_ rfl
 have C1 := hd_ fun W => may_any a i W
 have C2 := hd_ fun W (hb : Below w.heap.size w W) => mayAll_any _ l W (HI.out.below hb) hl
 have C3 := hd_ fun W (hb : Below w.heap.size w W) => rising_any _ l W (HI.out.below hb) hl
 have C4 := hd_ fun W (hb : Below w.heap.size w W) => has_any _ l a i W (HI.out.below hb) hl
 generalize mayRowB ((a, i), n, l) = R at *;generalize vidROW a i = v at *;generalize allV l = p at *;generalize risesB l = q at *;generalize hasB (a, i) l = z at *;clear h;obtain ⟨c1, c2, c3, c4⟩ := ai_ X0.out;cases v
 ·have HE := hd_ (show R = false by rw [HR.out]; rfl)
  go_enter Tryz.func96, Tryz.ntmps96
  go_wp2_with fail;refine (C1.out _).mono ?_
  rintro e w1 ⟨rfl, hb⟩;have B1 := hd_ (ba_ B0.out hb);clear hb;go_wp2_with fail;go_ret;exact ⟨af_ HE.out.symm, B1.out⟩
 ·by_cases h1 : n < 1
  ·have hd : decide (n < 1) = true := decide_eq_true h1
   have HE := hd_ (show R = false by rw [HR.out, decide_eq_false (show ¬ 1 ≤ n by omega)]; rfl)
   go_enter Tryz.func96, Tryz.ntmps96
   go_wp2_with fail;refine (C1.out _).mono ?_
   rintro e w1 ⟨rfl, hb⟩;have B1 := hd_ (ba_ B0.out hb);have X1 := hd_ (ay_ X0.out hb);clear hb c1 c2 c3 c4;obtain ⟨c1, c2, c3, c4⟩ := ai_ X1.out;go_wp2_with fail;go_ret;exact ⟨af_ HE.out.symm, B1.out⟩
  ·by_cases h2 : 1099511627776 < n
   ·have hd : decide (n < 1) = false := decide_eq_false h1
    have hd2 : decide (1099511627776 < n) = true := decide_eq_true h2
    have HE := hd_ (show R = false by rw [HR.out, decide_eq_false (show ¬ n ≤ 1099511627776 by omega)]; simp)
    go_enter Tryz.func96, Tryz.ntmps96
    go_wp2_with fail;refine (C1.out _).mono ?_
    rintro e w1 ⟨rfl, hb⟩;have B1 := hd_ (ba_ B0.out hb);have X1 := hd_ (ay_ X0.out hb);clear hb c1 c2 c3 c4;obtain ⟨c1, c2, c3, c4⟩ := ai_ X1.out;go_wp2_with fail;go_ret;exact ⟨af_ HE.out.symm, B1.out⟩
   ·have hd : decide (n < 1) = false := decide_eq_false h1
    have hd2 : decide (1099511627776 < n) = false := decide_eq_false h2
    have HE := hd_ (show R = (p && (q && !z)) by rw [HR.out, decide_eq_true (show 1 ≤ n by omega), decide_eq_true (show n ≤ 1099511627776 by omega)]; rfl)
    go_enter Tryz.func96, Tryz.ntmps96
    go_wp2_with fail;refine (C1.out _).mono ?_
    rintro e w1 ⟨rfl, hb⟩;have B1 := hd_ (ba_ B0.out hb);have X1 := hd_ (ay_ X0.out hb);clear hb c1 c2 c3 c4;obtain ⟨c1, c2, c3, c4⟩ := ai_ X1.out;go_wp2_with fail;refine (C2.out _ B1.out).mono ?_
    rintro e w2 ⟨rfl, hb⟩;have B2 := hd_ (ba_ B1.out hb);have X2 := hd_ (ay_ X1.out hb);clear hb c1 c2 c3 c4;obtain ⟨c1, c2, c3, c4⟩ := ai_ X2.out;cases p
    ·go_wp2_with fail
     go_ret;exact ⟨af_ HE.out.symm, B2.out⟩
    ·go_wp2_with fail
     refine (C3.out _ B2.out).mono ?_
     rintro e w3 ⟨rfl, hb⟩;have B3 := hd_ (ba_ B2.out hb);have X3 := hd_ (ay_ X2.out hb);clear hb c1 c2 c3 c4;obtain ⟨c1, c2, c3, c4⟩ := ai_ X3.out;cases q
     ·go_wp2_with fail
      go_ret;exact ⟨af_ HE.out.symm, B3.out⟩
     ·go_wp2_with fail
      refine (C4.out _ B3.out).mono ?_
      rintro e w4 ⟨rfl, hb⟩;have B4 := hd_ (ba_ B3.out hb);clear hb c1 c2 c3 c4;cases z
      ·go_wp2_with fail
       go_ret;exact ⟨af_ HE.out.symm, B4.out⟩
      ·go_wp2_with fail
       go_ret;exact ⟨af_ HE.out.symm, B4.out⟩
end
end Go.Proofs.YthkkipbmlafdiaaGreat
