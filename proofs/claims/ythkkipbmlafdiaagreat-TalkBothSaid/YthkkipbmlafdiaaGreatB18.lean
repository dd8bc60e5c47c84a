/-
  Contracts and plain facts.
-/
import Derived.Test.YthkkipbmlafdiaaGreatOy
import Derived.Test.YthkkipbmlafdiaaGreatB16
import Derived.Test.YthkkipbmlafdiaaGreatB17
set_option maxRecDepth 20000
namespace Go.Proofs.YthkkipbmlafdiaaGreat
section
open Go Go.RowKit Sets RowSets
theorem allV_iff (l : List Id2) : allV l = true ↔ ∀ x ∈ l, vidROW x.1 x.2 = true := by
 unfold allV;rw [Bool.not_eq_true', List.any_eq_false];constructor
 ·intro h x hx
  have := h x hx
  unfold badI at this;simpa using this
 ·intro h x hx
  unfold badI;rw [h x hx];simp
def MayRow (r : Row) : Prop := vidROW r.1.1 r.1.2 = true ∧ 1 ≤ r.2.1 ∧ r.2.1 ≤ 1099511627776 ∧ (∀ x ∈ r.2.2, vidROW x.1 x.2 = true) ∧ Rises r.2.2 ∧ r.1 ∉ r.2.2
theorem mayRow_iff (r : Row) : mayRowB r = true ↔ MayRow r := by
 unfold mayRowB MayRow hasB;simp only [Bool.and_eq_true, decide_eq_true_eq, allV_iff, risesB_iff, Bool.not_eq_true', decide_eq_false_iff_not]
def MayRows (l : List Row) : Prop := l.length ≤ 64 ∧ (∀ r ∈ l, MayRow r) ∧ Up l
theorem may_iff (l : List Row) : mayBROW l = true ↔ MayRows l := by
 unfold mayBROW MayRows Up;simp only [Bool.and_eq_true, decide_eq_true_eq, risesB_iff, List.all_eq_true, mayRow_iff]
theorem may_norm {l : List Row} (h : MayRows l) : Norm l := ⟨h.2.2, fun r hr => (h.2.1 r hr).2.2.2.2.1⟩
theorem joinR_cases {a b : List Row} {r : Row} (h : r ∈ joinR a b) : r ∈ a ∨ r ∈ b ∨ ∃ s t, (r.1, r.2.1, s) ∈ a ∧ (r.1, r.2.1, t) ∈ b ∧ r.2.2 = join s t := by
 have h := get_of_mem (up_joinR a b) h;rw [get_joinR] at h;rcases h1 : get a r.1 with _ | s
 ·rw [h1] at h
  exact .inr (.inl (get_mem (show get b r.1 = some r.2 from h)))
 ·rcases h2 : get b r.1 with _ | t
  ·rw [h1, h2, two_none] at h
   exact .inl (by have := get_mem h1; rw [Option.some.inj h] at this; exact this)
  ·rw [h1, h2] at h
   simp only [two] at h;split at h
   ·exact .inl (by have := get_mem h1; rw [Option.some.inj h] at this; exact this)
   ·split at h
    ·exact .inr (.inl (by have := get_mem h2; rw [Option.some.inj h] at this; exact this))
    ·have e := Option.some.inj h
     have e1 : r.2.1 = s.1 := by rw [← e]
     have e2 : r.2.2 = join s.2 t.2 := by rw [← e]
     have e3 : t.1 = s.1 := by omega
     refine .inr (.inr ⟨s.2, t.2, ?_, ?_, e2⟩)
     ·rw [e1]; exact get_mem h1
     ·rw [e1, ← e3]; exact get_mem h2
theorem join_lenROW (s t : List Id2) : (join s t).length ≤ s.length + t.length := by
 unfold join;exact Nat.le_trans (setOf_len _) (by simp)
theorem nots_joinR {a b : List Row} {n m : Nat} (ha : ∀ r ∈ a, r.2.2.length ≤ n) (hb : ∀ r ∈ b, r.2.2.length ≤ m) : ∀ r ∈ joinR a b, r.2.2.length ≤ n + m := by
 intro r hr;rcases joinR_cases hr with h | h | ⟨s, t, h1, h2, e⟩
 ·have := ha r h; omega
 ·have := hb r h; omega
 ·have h3 := ha _ h1
  have h4 := hb _ h2;have h5 := join_lenROW s t;rw [e];dsimp only at h3 h4;omega
theorem rises_sub : ∀ {l m : List Id2}, Rises l → Rises m → (∀ x ∈ l, x ∈ m) → l.length ≤ m.length
 | [], m, _, _, _ => by simp
 | x :: l, [], _, _, h => by have := h x (List.mem_cons_self ..); cases this
 | x :: l, y :: m, hl, hm, h => by
  obtain ⟨l1, l2⟩ := ax_.1 hl;obtain ⟨m1, m2⟩ := ax_.1 hm;by_cases e : x = y
  ·subst e
   have := rises_sub l2 m2 fun z hz => by
    rcases List.mem_cons.1 (h z (List.mem_cons_of_mem _ hz)) with e | e
    ·subst e; exact absurd (l1 z hz) (ap_ _)
    ·exact e
   simp only [List.length_cons]; omega
  ·have hx : x ∈ m := by
    rcases List.mem_cons.1 (h x (List.mem_cons_self ..)) with e2 | e2
    ·exact absurd e2 e
    ·exact e2
   have := rises_sub hl m2 fun z hz => by
    rcases List.mem_cons.1 (h z hz) with e2 | e2
    ·subst e2
     rcases List.mem_cons.1 hz with e3 | e3
     ·exact absurd e3.symm e
     ·exact absurd (l1 z e3) (lt_asymm (m1 x hx))
    ·exact e2
   simp only [List.length_cons] at this ⊢; omega
end
section
namespace Ros
theorem ups_range {α : Type} {h : Nat → Option α} {key : α → Int} (hk : ∀ j y, h j = some y → key y = (j : Int)) : ∀ m, Ups key ((List.range m).filterMap h) ∧ ∀ y ∈ (List.range m).filterMap h, key y < (m : Int)
 | 0 => ⟨List.Pairwise.nil, fun y hy => by cases hy⟩
 | m + 1 => by
  obtain ⟨h1, h2⟩ := ups_range hk m;rw [List.range_succ, List.filterMap_append];refine ⟨List.pairwise_append.2 ⟨h1, ?_, fun x hx y hy => ?_⟩, fun y hy => ?_⟩
  ·cases e : h m <;> simp [e]
  ·cases e : h m with
   | none => simp [e] at hy
   | some z =>
    simp [e] at hy
    subst hy;have := h2 x hx
    rw [hk m y e];exact this
  ·rcases List.mem_append.1 hy with hy | hy
   ·have := h2 y hy; omega
   ·cases e : h m with
    | none => simp [e] at hy
    | some z =>
     simp [e] at hy
     subst hy;rw [hk m y e];omega
theorem ups_outM (S : Nat → St) : Ups (fun x : Mm => x.1.1) (outM S) := (ups_range (key := fun x : Mm => x.1.1) (fun j y hj => by
 split at hj
 ·cases hj
 ·rw [← Option.some.inj hj]) 13).1
theorem ups_outF (S : Nat → St) : Ups (fun x : Id2 => x.1) (outF S) := (ups_range (key := fun x : Id2 => x.1) (fun j y hj => by
 split at hj
 ·cases hj
 ·rw [← Option.some.inj hj]) 13).1
theorem floor_out {S : Nat → St} (h : Norm S) (k : Nat) (hk : k < 13) : floorZ (outF S) (k : Int) = (S k).f := by
 have f0 := (h k).1.good.f0;rw [floor_big k (outF_vid h)];unfold bigG outF
 rw [filter_range (key := fun x : Id2 => x.1) (fun j y hj => by
  split at hj
  ·cases hj
  ·rw [← Option.some.inj hj]) k 13, if_pos hk]
 by_cases e : (S k).f ≤ 0
 ·rw [if_pos e]
  show (0 : Int) = (S k).f
  omega
 ·rw [if_neg e]
  show ((eg ((k : Int), (S k).f)).or St.zero).f = (S k).f
  rw [or_eq (x := eg ((k : Int), (S k).f)) (y := St.zero) f0 rfl];show max (S k).f 0 = (S k).f
  omega
theorem adj_of {α : Type} [Inhabited α] {key : α → Int} {l : List α} (h : Ups key l) {k : Nat} (hk : k < l.length) (h0 : k ≠ 0) : key l[k - 1]! < key l[k]! := by
 rw [getElem!_pos l k hk, getElem!_pos l (k - 1) (by omega)]
 exact List.pairwise_iff_getElem.1 h (k - 1) k (by omega) hk (by omega)
theorem may_of {m : List Mm} {f : List Id2} (h : Valid m f) : mayB m f = true := by
 refine mayB_yes (mayF_yes fun k hk => ?_) fun k hk => ?_
 ·unfold okF
  rw [Bool.and_eq_true, Bool.or_eq_true];refine ⟨?_, ?_⟩
  ·rw [getElem!_pos f k hk]; exact h.fv _ (List.getElem_mem hk)
  ·by_cases e : k = 0
   ·exact .inl (decide_eq_true e)
   ·exact .inr (decide_eq_true (adj_of (key := fun x : Id2 => x.1) h.fu hk e))
 ·unfold okM
  have := h.mv m[k]! (by rw [getElem!_pos m k hk]; exact List.getElem_mem hk)
  rw [this.1, this.2.1, this.2.2];simp only [Bool.true_and, Bool.not_false];rw [Bool.or_eq_true];by_cases e : k = 0
  ·exact .inl (decide_eq_true e)
  ·exact .inr (decide_eq_true (adj_of (key := fun x : Mm => x.1.1) h.mu hk e))
theorem valid_outF {S : Nat → St} (h : Norm S) (g : Mm → Mm) (hg : ∀ x, (g x).1 = x.1) (hn : ∀ x ∈ outM S, mayNum (g x).2.1 (g x).2.2 = true) : Valid ((outM S).map g) (outF S) := by
 refine ⟨outF_vid h, ups_outF S, fun x hx => ?_, ?_⟩
 ·obtain ⟨y, hy, rfl⟩ := List.mem_map.1 hx
  have hc := outM_cnt h y hy;obtain ⟨k, hk, hkn, rfl⟩ := mem_outM.1 hy;rw [hg];refine ⟨?_, hn _ hy, ?_⟩
  ·have := cnt_iff.1 hc
   exact vid_iff.2 this.1
  ·unfold goneB
   show decide ((S k).n ≤ floorZ (outF S) (k : Int)) = false
   rw [floor_out h k hk];have := (h.six hkn).2.2
   exact decide_eq_false (by omega)
 ·unfold Ups
  rw [List.pairwise_map];simp only [hg];exact ups_outM S
def NumOk (x : St) : Prop := x.n ≠ 0 → mayNum x.s x.p = true
theorem numOk_or {x y : St} (gx : Good x) (hx : NumOk x) (hy : NumOk y) : NumOk (x.or y) := by
 rcases Int.lt_trichotomy x.n y.n with h | h | h
 ·rw [or_lt h]; exact hy
 ·rw [or_eq gx.f0 h]
  intro hn;have hn' : y.n ≠ 0 := hn
  have c1 := mayNum_cases (hx (by omega))
  have c2 := mayNum_cases (hy hn');refine mayNum_yes ?_
  show 1 ≤ max x.s y.s ∧ max x.s y.s ≤ 6 ∧ 0 ≤ elder x.p y.p ∧ elder x.p y.p ≤ 1099511627776 ∧ ((max x.s y.s = 1 ∨ max x.s y.s = 2) → elder x.p y.p = 0) ∧ ((max x.s y.s = 3 ∨ max x.s y.s = 4) → 1 ≤ elder x.p y.p)
  have e1 : x.p = 0 → elder x.p y.p = y.p := fun h => by unfold elder; split <;> (try split) <;> omega
  have e2 : y.p = 0 → elder x.p y.p = x.p := fun h => by unfold elder; split <;> (try split) <;> omega
  have e3 : 0 < x.p → 0 < y.p → elder x.p y.p = min x.p y.p := fun h h' => by unfold elder; split <;> (try split) <;> omega
  omega
 ·rw [or_gt h]; exact hx
theorem numOk_big {k : Nat} {ms : List Mm} (hc : AllC ms) (h : ∀ x ∈ ms, mayNum x.2.1 x.2.2 = true) : NumOk (bigM k ms) := by
 induction ms with
 | nil => exact fun h => absurd rfl h
 | cons x l ih =>
  have ih := ih (fun y hy => hc y (List.mem_cons_of_mem _ hy)) (fun y hy => h y (List.mem_cons_of_mem _ hy))
  by_cases e : x.1.1 = (k : Int)
  ·rw [bigM_yes e]
   refine numOk_or (fit_em (hc x (List.mem_cons_self ..)) e).good (fun _ => ?_) ih
   have hx := h x (List.mem_cons_self ..);have := mayNum_cases hx
   show mayNum x.2.1 (max x.2.2 0) = true
   rw [Int.max_eq_left (by omega)]
   exact hx
  ·rw [bigM_no e]; exact ih
theorem numOk_raw {a : Ls} (h : mayB a.1 a.2 = true) (k : Nat) : NumOk (raw a k) := by
 have hv := valid_of h;unfold raw;rw [filter_all hv.cnt, filter_all (show ∀ x ∈ a.2, vidP x = true from hv.fv), bigM_bigG hv.cnt hv.fv]
 exact numOk_big hv.cnt fun x hx => (hv.mv x hx).2.1
theorem valid_join {a b : Ls} (ha : mayB a.1 a.2 = true) (hb : mayB b.1 b.2 = true) : mayB (joinL a b).1 (joinL a b).2 = true := by
 have hn := norm_join a b
 have := may_of (valid_outF hn id (fun _ => rfl) fun x hx => by
  obtain ⟨k, hk, hkn, rfl⟩ := mem_outM.1 hx;have h1 := numOk_or (fit_raw a k).good (numOk_raw ha k) (numOk_raw hb k);unfold kill at hkn ⊢;split at hkn
  ·exact absurd rfl hkn
  ·rename_i hc
   rw [if_neg hc];exact h1 hkn)
 rw [List.map_id] at this;exact this
theorem low_or {i : Int} {x y : St} (h : i ≤ x.f) : i ≤ (x.or y).f := by
 show i ≤ max (max x.f y.f) _
 omega
theorem low_or_r {i : Int} {x y : St} (h : i ≤ y.f) : i ≤ (x.or y).f := by
 show i ≤ max (max x.f y.f) _
 omega
theorem kill_f (x : St) : (kill x).f = x.f := by unfold kill; split <;> rfl
theorem low_big {k : Nat} {gs : List Id2} {x : Id2} (h : x ∈ gs) (e : x.1 = (k : Int)) : x.2 ≤ (bigG k gs).f := by
 induction gs with
 | nil => cases h
 | cons y l ih =>
  rcases List.mem_cons.1 h with rfl | h
  ·rw [bigG_yes e]
   exact low_or (Int.le_refl _)
  ·have ih := ih h
   by_cases e2 : y.1 = (k : Int)
   ·rw [bigG_yes e2]; exact low_or_r ih
   ·rw [bigG_no e2]; exact ih
theorem low_raw {a : Ls} {k : Nat} {x : Id2} (h : x ∈ a.2) (hc : vidP x = true) (e : x.1 = (k : Int)) : x.2 ≤ (raw a k).f := low_or_r (low_big (List.mem_filter.2 ⟨h, hc⟩) e)
def jn (a b : Ls) (k : Nat) : St := kill ((raw a k).or (raw b k))
theorem jn_norm (a b : Ls) : Norm (jn a b) := norm_join a b
theorem join_is (a b : Ls) : joinL a b = out (jn a b) := rfl
theorem low_jn_l {a b : Ls} {k : Nat} {x : Id2} (h : x ∈ a.2) (hc : vidP x = true) (e : x.1 = (k : Int)) : x.2 ≤ (jn a b k).f := by unfold jn; rw [kill_f]; exact low_or (low_raw h hc e)
theorem low_jn_r {a b : Ls} {k : Nat} {x : Id2} (h : x ∈ b.2) (hc : vidP x = true) (e : x.1 = (k : Int)) : x.2 ≤ (jn a b k).f := by unfold jn; rw [kill_f]; exact low_or_r (low_raw h hc e)
end Ros
end
section
namespace Ros
theorem never_floor {la lb : Ls} {g : Id2} (h : g ∈ la.2 ∨ g ∈ lb.2) (hv : vidP g = true) : g.2 ≤ floorZ (joinL la lb).2 g.1 := by
 obtain ⟨v1, v2, v3, v4⟩ := vid_iff.1 hv;obtain ⟨k, e⟩ : ∃ k : Nat, g.1 = (k : Int) := ⟨g.1.toNat, by omega⟩
 rw [join_is, e, show (out (jn la lb)).2 = outF (jn la lb) from rfl, floor_out (jn_norm la lb) k (by omega)]
 rcases h with h | h
 ·exact low_jn_l h hv e
 ·exact low_jn_r h hv e
end Ros
end
section
open Go Go.RowKit Sets RowSets
def Sorted (qs : List Raw) : Prop := Rises (qs.map (·.1))
theorem sorted_cmp {qs : List Raw} (h : Sorted qs) {i j : Nat} (hij : i < j) (hj : j < qs.length) : cmpZ qs[j].1.1 qs[j].1.2 (qs[i]'(by omega)).1.1 (qs[i]'(by omega)).1.2 = 1 := by
 have hl : lt (qs[i]'(by omega)).1 qs[j].1 := by
  have := List.pairwise_iff_getElem.1 h i j (by simpa using (by omega : i < qs.length)) (by simpa using hj) hij
  simpa using this
 rw [cmpZ_eq, if_neg (lt_asymm hl), if_pos hl]
set_option maxHeartbeats 2000000 in
theorem insertion_any (v : Value) (qs : List Raw) (a b : Nat) (w : World) (h : Rcs encW 4 w v qs) (hs : Sorted qs) (hl : qs.length ≤ 100000) (hab : a ≤ b) (hb : b ≤ qs.length) :
  Calls Tryz.prog 213 #[v, .int .i64 a, .int .i64 b, .func (.func 190) #[] #[]] w fun e w' => e = .returned (.tuple #[]) ∧ Below w.heap.size w w' := by
 have HI := hd_ h;have HO := hd_ hs;obtain ⟨A, c, rfl, hz⟩ := h;clear hz hs;have j0 : IntKind.i64.wrap ((a : Int) + 1) = (a : Int) + 1 := IntWalk.i64_in _ ⟨by omega, by omega⟩
 go_enter Tryz.func213, Tryz.ntmps213
 go_wp2_with fail;clear j0;go_loopw [8] (fun s8 wr => ∃ k : Nat, a < k ∧ k ≤ b + 1 ∧ s8 = .int .i64 k ∧ Hid (Below w.heap.size w wr)) (fun s8 _ => b + 1 - (intOf s8).toNat)
 case atStart => exact ⟨a + 1, by omega, by omega, by go_num, hd_ (Below.refl _ _)⟩
 case round =>
  obtain ⟨k, hak, hkb, rfl, HW⟩ := hrel;obtain ⟨j, rfl⟩ : ∃ j, k = j + 1 := ⟨k - 1, by omega⟩
  by_cases hlt : j + 1 < b
  ·have hd : decide (((j : Int) + 1) < (b : Int)) = true := decide_eq_true (by omega)
   have hd2 : decide ((a : Int) < ((j : Int) + 1)) = true := decide_eq_true (by omega)
   have hk1 : j + 1 < qs.length := by omega
   have hk2 : j < qs.length := by omega
   have HC := hd_ (sorted_cmp HO.out (show j < j + 1 by omega) hk1)
   have i1 : IntKind.i64.wrap ((j : Int) + 1 - 1) = (j : Int) := by rw [IntWalk.i64_in _ ⟨by omega, by omega⟩]; omega
   have i2 : IntKind.i64.wrap (j : Int) = (j : Int) := IntWalk.i64_in _ ⟨by omega, by omega⟩
   have i3 : (0 : Int) ≤ (j : Int) := by omega
   have i4 : (j : Int) < (qs.length : Int) := by omega
   have i5 : (0 : Int) ≤ (j : Int) + 1 := by omega
   have i6 : (j : Int) + 1 < (qs.length : Int) := by omega
   have i7 : ((j : Int) + 1).toNat = j + 1 := by omega
   obtain ⟨ad, rfl⟩ := HI.out.addr (by omega)
   have HS := hd_ fun w' (hb : Below w.heap.size w w') => And.intro (HI.out.raw hb (k := j + 1) hk1) (And.intro (HI.out.raw hb (k := j) hk2) hb)
   generalize qs[j + 1].1.1 = a1 at *;generalize qs[j + 1].1.2 = i1 at *;generalize qs[j + 1].2.1 = n1 at *;generalize qs[j + 1].2.2.1 = B1 at *;generalize qs[j + 1].2.2.2.1 = m1 at *;generalize qs[j + 1].2.2.2.2 = d1 at *;generalize qs[j].1.1 = a2 at *;generalize qs[j].1.2 = i2 at *;generalize qs[j].2.1 = n2 at *;generalize qs[j].2.2.1 = B2 at *;generalize qs[j].2.2.2.1 = m2 at *;generalize qs[j].2.2.2.2 = d2 at *
   have HQ := hd_ fun w' (hb : Below w.heap.size w w') => (show (w'.cell? (ad.add ((j + 1) * 4)) = some (.int .i64 a1) ∧ w'.cell? ⟨(ad.add ((j + 1) * 4)).block, (ad.add ((j + 1) * 4)).off + 1, none⟩ = some (.int .i64 i1) ∧ w'.cell? ⟨(ad.add ((j + 1) * 4)).block, (ad.add ((j + 1) * 4)).off + 2, none⟩ = some (.int .i64 n1) ∧ w'.cell? ⟨(ad.add ((j + 1) * 4)).block, (ad.add ((j + 1) * 4)).off + 3, none⟩ = some (.slice B1 m1 d1)) ∧ (w'.cell? (ad.add (j * 4)) = some (.int .i64 a2) ∧ w'.cell? ⟨(ad.add (j * 4)).block, (ad.add (j * 4)).off + 1, none⟩ = some (.int .i64 i2) ∧ w'.cell? ⟨(ad.add (j * 4)).block, (ad.add (j * 4)).off + 2, none⟩ = some (.int .i64 n2) ∧ w'.cell? ⟨(ad.add (j * 4)).block, (ad.add (j * 4)).off + 3, none⟩ = some (.slice B2 m2 d2)) ∧ Hid (Below w.heap.size w w') from by
    obtain ⟨⟨x, e, x1⟩, ⟨y, e2, y1⟩, hb⟩ := HS.out w' hb;injection e with e
    injection e2 with e2
    subst e e2;exact ⟨x1, y1, hd_ hb⟩)
   clear HS;go_wp2_with fail;refine wp_loop_rounds 1 ?_
   rw [rounds_succ];go_wp2_with fail
   go_region_held3 (fun w' => (w'.cell? (ad.add ((j + 1) * 4)) = some (.int .i64 a1) ∧ w'.cell? ⟨(ad.add ((j + 1) * 4)).block, (ad.add ((j + 1) * 4)).off + 1, none⟩ = some (.int .i64 i1) ∧ w'.cell? ⟨(ad.add ((j + 1) * 4)).block, (ad.add ((j + 1) * 4)).off + 2, none⟩ = some (.int .i64 n1) ∧ w'.cell? ⟨(ad.add ((j + 1) * 4)).block, (ad.add ((j + 1) * 4)).off + 3, none⟩ = some (.slice B1 m1 d1)) ∧ (w'.cell? (ad.add (j * 4)) = some (.int .i64 a2) ∧ w'.cell? ⟨(ad.add (j * 4)).block, (ad.add (j * 4)).off + 1, none⟩ = some (.int .i64 i2) ∧ w'.cell? ⟨(ad.add (j * 4)).block, (ad.add (j * 4)).off + 2, none⟩ = some (.int .i64 n2) ∧ w'.cell? ⟨(ad.add (j * 4)).block, (ad.add (j * 4)).off + 3, none⟩ = some (.slice B2 m2 d2)) ∧ Hid (Below w.heap.size w w'))
    (first | exact HQ.out _ HW.out.drew | exact HQ.out _ HK.out)
    (first | (go_at_call 190; (with_reducible refine (cmpW_any _ _ _ _ _ _ _ _ _ _ _ _ _).mono ?_); rw [HC.out]; rintro e w' ⟨rfl, hb⟩; have HK := hd_ (ba_ HW.out.drew hb); clear hb))
   go_wp2_with fail;go_roundw
   case rel => exact ⟨j + 2, by omega, by omega, by go_num, Hid.out (by assumption)⟩
   case measure => simp [intOf]; omega
  ·have hd : decide (((j : Int) + 1) < (b : Int)) = false := decide_eq_false (by omega)
   go_wp2_with fail;go_end0
   exact ⟨rfl, HW.out⟩
end
end Go.Proofs.YthkkipbmlafdiaaGreat
