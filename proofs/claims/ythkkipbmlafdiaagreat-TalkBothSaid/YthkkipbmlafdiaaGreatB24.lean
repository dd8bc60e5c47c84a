/-
  Contracts and plain facts.
-/
import Derived.Test.YthkkipbmlafdiaaGreatOy
import Derived.Deep.DeepCutAuto
import Derived.Test.YthkkipbmlafdiaaGreatB17
import Derived.Test.YthkkipbmlafdiaaGreatB21
import Derived.Test.YthkkipbmlafdiaaGreatB23
set_option maxRecDepth 20000
namespace Go.Proofs.YthkkipbmlafdiaaGreat
section
open Go Go.RowKit Sets RowSets
def setE (l : List Row) (of : Id2) (not : List Id2) : List Row × Int :=
 if (vidROW of.1 of.2 && allV not) = true then
  match get l of with
  | none => (setG l of not, 0)
  | some s => if setOf s.2 = del not of then (l, 0) else if 1099511627776 ≤ s.1 then (l, 40) else (setG l of not, 0)
 else (l, 4)
theorem setE_bad {l : List Row} {of : Id2} {not : List Id2} (h : (vidROW of.1 of.2 && allV not) = false) : setE l of not = (l, 4) := by
 unfold setE;rw [if_neg (by rw [h]; simp)]
theorem setE_none {l : List Row} {of : Id2} {not : List Id2} (h : (vidROW of.1 of.2 && allV not) = true) (hg : get l of = none) : setE l of not = (setG l of not, 0) := by
 unfold setE;rw [if_pos h, hg]
theorem setE_same {l : List Row} {of : Id2} {not : List Id2} {s : Says} (h : (vidROW of.1 of.2 && allV not) = true) (hg : get l of = some s) (e : setOf s.2 = del not of) : setE l of not = (l, 0) := by
 unfold setE;rw [if_pos h, hg];exact if_pos e
theorem setE_large {l : List Row} {of : Id2} {not : List Id2} {s : Says} (h : (vidROW of.1 of.2 && allV not) = true) (hg : get l of = some s) (e : setOf s.2 ≠ del not of) (hv : 1099511627776 ≤ s.1) : setE l of not = (l, 40) := by
 unfold setE;rw [if_pos h, hg];show (if setOf s.2 = del not of then (l, 0) else if 1099511627776 ≤ s.1 then (l, 40) else (setG l of not, 0)) = _
 rw [if_neg e, if_pos hv]
theorem setE_more {l : List Row} {of : Id2} {not : List Id2} {s : Says} (h : (vidROW of.1 of.2 && allV not) = true) (hg : get l of = some s) (e : setOf s.2 ≠ del not of) (hv : ¬ 1099511627776 ≤ s.1) : setE l of not = (changeG of (s.1 + 1, del not of) l, 0) := by
 unfold setE;rw [if_pos h, hg];show (if setOf s.2 = del not of then (l, 0) else if 1099511627776 ≤ s.1 then (l, 40) else (setG l of not, 0)) = _
 rw [if_neg e, if_neg hv];unfold setG;rw [hg];show ((if setOf s.2 = del not of then l else _), _) = _
 rw [if_neg e]
theorem setG_none_nil {l : List Row} {of : Id2} {not : List Id2} (hg : get l of = none) (e : del not of = []) : setG l of not = l := by
 unfold setG;rw [hg];exact if_pos e
theorem setG_none {l : List Row} {of : Id2} {not : List Id2} (hg : get l of = none) (e : del not of ≠ []) : setG l of not = insertG (of, 1, del not of) l := by
 unfold setG;rw [hg];exact if_neg e
theorem changeG_at (x : Id2) (s : Says) : ∀ (l : List Row) (k : Nat) (hk : k < l.length), l[k].1 = x → (∀ y ∈ (ids l).take k, y ≠ x) → changeG x s l = l.set k (x, s)
 | [], k, hk, _, _ => by simp at hk
 | u :: l, 0, _, h1, _ => by
  have h2 : u.1 = x := h1
  rw [changeG, if_pos h2];rfl
 | u :: l, k + 1, hk, h1, h => by
  have h2 : u.1 ≠ x := h u.1 (by simp [ids])
  rw [changeG, if_neg h2, changeG_at x s l k (by simpa using hk) (by simpa using h1) fun y hy => h y (by simp only [ids, List.map_cons, List.take_succ_cons]; exact List.mem_cons_of_mem _ hy)]
  rfl
theorem EachReads.set {w : World} {q : Raw} {r : Row} (hq : Reads w q r) : ∀ {qs : List Raw} {l : List Row} (k : Nat), EachReads w qs l → EachReads w (qs.set k q) (l.set k r)
 | [], [], _, h => h
 | _ :: _, _ :: _, 0, h => ⟨hq, h.2⟩
 | _ :: _, _ :: _, k + 1, h => ⟨h.1, EachReads.set hq k h.2⟩
 | [], _ :: _, _, h => h.elim
 | _ :: _, [], _, h => h.elim
theorem EachOwn.at_ {w : World} {lo : Nat} : ∀ {qs : List Raw} {l : List Row}, EachOwn w lo qs l → ∀ (k : Nat) (h : k < qs.length) (h' : k < l.length), OwnRow w lo qs[k] l[k]
 | _ :: _, _ :: _, h, 0, _, _ => h.1
 | _ :: _, _ :: _, h, k + 1, h1, h2 => EachOwn.at_ h.2 k (by simpa using h1) (by simpa using h2)
structure SetI (w0 : World) (g : Nat) (d : Array Raw) (l : List Row) (x y : Int) (w : World) : Prop where
 row : RowAtR encW 4 w g d
 own : EachOwn w (g + 1) d.toList l
 box : Box w w0.heap.size x y
 below : Below w0.heap.size w0 w
 lt : w0.heap.size < g
 size : d.size = l.length
theorem SetI.step {w0 : World} {g : Nat} {d : Array Raw} {l : List Row} {x y : Int} {w w' : World} (h : SetI w0 g d l x y w) (hb : Below w.heap.size w w') : SetI w0 g d l x y w' :=
 ⟨rowAtR_kept h.row hb, h.own.below hb, ag_ h.box hb, ba_ h.below hb, h.lt, h.size⟩
theorem SetI.rows {w0 : World} {g : Nat} {d : Array Raw} {l : List Row} {x y : Int} {w : World} (h : SetI w0 g d l x y w) : RowsAt w (.slice (some ⟨g, 0, none⟩) d.size d.size) l :=
 ⟨d.toList, rowAtR_rcs h.row (Nat.le_refl _), h.own.reads⟩
structure SetX (w0 : World) (g : Nat) (d : Array Raw) (l : List Row) (not : List Id2) (x y : Int) (X : Nat) (v : Int) (B : Option Addr) (m c : Nat) (w : World) : Prop where
 base : SetI w0 g d l x y w
 row : WBox w X x y v (.slice B m c)
 own : OwnsI w (g + 1) (.slice B m c) (del not (x, y))
 ne : (Value.slice B m c).ownBlock ≠ some X
 lt : g < X
 ap : ∀ q ∈ d.toList, (slc q).ownBlock ≠ some X
theorem SetX.step {w0 : World} {g : Nat} {d : Array Raw} {l : List Row} {not : List Id2} {x y : Int} {X : Nat} {v : Int} {B : Option Addr} {m c : Nat} {w w' : World} (h : SetX w0 g d l not x y X v B m c w) (hb : Below w.heap.size w w') : SetX w0 g d l not x y X v B m c w' :=
 ⟨h.base.step hb, ay_ h.row hb, h.own.below hb, h.ne, h.lt, h.ap⟩
theorem del_len (l : List Id2) (x : Id2) : (del l x).length ≤ l.length := by
 unfold del;exact Nat.le_trans (setOf_len _) (List.length_filter_le _ _)
theorem setX_done {w0 : World} {g : Nat} {d : Array Raw} {l : List Row} {not : List Id2} {x y : Int} {X : Nat} {B : Option Addr} {m c : Nat} {w W : World} (h : SetI w0 g d l x y w) (hb : Below w.heap.size w W) (hX : w.heap.size ≤ X) (hY : WBox W X 0 0 0 (.slice none 0 0)) (ho : OwnsI W w.heap.size (.slice B m c) (del not (x, y))) (hne : (Value.slice B m c).ownBlock ≠ some X) :
  Below w.heap.size w ((((W.setCell ⟨X, 0, none⟩ (.int .i64 x)).setCell ⟨X, 1, none⟩ (.int .i64 y)).setCell ⟨X, 2, none⟩ (.int .i64 1)).setCell ⟨X, 3, none⟩ (.slice B m c)) ∧
   SetX w0 g d l not x y X 1 B m c ((((W.setCell ⟨X, 0, none⟩ (.int .i64 x)).setCell ⟨X, 1, none⟩ (.int .i64 y)).setCell ⟨X, 2, none⟩ (.int .i64 1)).setCell ⟨X, 3, none⟩ (.slice B m c)) := by
 have hF := below_set4 (g := X) hb hX (.int .i64 x) (.int .i64 y) (.int .i64 1) (.slice B m c);have hg : g < w.heap.size := h.row.1
 refine ⟨hF, h.step hF, wbox_set hY x y 1 _, ?_, hne, by omega, fun q hq e => ?_⟩
 ·exact OwnsR.mono (OwnsR.grown ho (grown_set4 (World.grownBy.refl _ (some X)) (.int .i64 x) (.int .i64 y) (.int .i64 1) (.slice B m c)) hne) (by omega)
 ·have := (h.own.lt q hq X e).2
  omega
theorem setX_new {w0 : World} {g : Nat} {d : Array Raw} {l : List Row} {not : List Id2} {x y : Int} {B : Option Addr} {m c : Nat} {w W : World} (h : SetI w0 g d l x y w) (hb : Below w.heap.size w W) (ho : OwnsI W w.heap.size (.slice B m c) (del not (x, y))) :
  Below w.heap.size w (W.alloc (.cells #[.int .i64 x, .int .i64 y, .int .i64 1, .slice B m c] 68)) ∧
   SetX w0 g d l not x y W.heap.size 1 B m c (W.alloc (.cells #[.int .i64 x, .int .i64 y, .int .i64 1, .slice B m c] 68)) := by
 have hF := ah_ hb (ad_ W (.cells #[.int .i64 x, .int .i64 y, .int .i64 1, .slice B m c] 68)) (Nat.le_refl _);have hg : g < w.heap.size := h.row.1
 have hs : w.heap.size ≤ W.heap.size := hb.size
 refine ⟨hF, h.step hF, av_ W x y 1 _, ?_, fun e => ?_, by omega, fun q hq e => ?_⟩
 ·exact OwnsR.mono (OwnsR.below ho (ad_ W _)) (by omega)
 ·have := (World.ownsRow.lt ho _ e).2
  omega
 ·have := (h.own.lt q hq _ e).2
  omega
theorem setX_ver {w0 : World} {g : Nat} {d : Array Raw} {l : List Row} {not : List Id2} {x y : Int} {X : Nat} {v : Int} {B : Option Addr} {m c : Nat} {w : World} (h : SetX w0 g d l not x y X v B m c w) (u : Int) : SetX w0 g d l not x y X u B m c (w.setCell ⟨X, 2, none⟩ (.int .i64 u)) := by
 have hgr : w.grownBy (w.setCell ⟨X, 2, none⟩ (.int .i64 u)) (some X) := grown_setCells (World.grownBy.refl _ _) 2 [.int .i64 u]
 have hb := h.base.below;have hX : w0.heap.size < X := Nat.lt_trans h.base.lt h.lt
 refine ⟨⟨?_, ?_, ?_, ?_, h.base.lt, h.base.size⟩, wbox_num h.row u, OwnsR.grown h.own hgr h.ne, h.ne, h.lt, h.ap⟩
 ·exact rowAtR_block h.base.row (by rw [World.size_setCell]; exact Nat.le_refl _) (Below.heap_setCell _ _ _ _ (by have := h.lt; show g ≠ X; omega))
 ·exact EachOwn.apart hgr h.base.own (fun q hq b e e2 => h.ap q hq (by rw [e]; exact e2.symm))
 ·exact (Below.heap_setCell _ _ _ _ (by show w0.heap.size ≠ X; omega)).trans h.base.box
 ·exact below_setCells hb (by omega) 2 [.int .i64 u]
theorem setX_put {w0 : World} {g : Nat} {d : Array Raw} {l : List Row} {not : List Id2} {x y : Int} {X : Nat} {v : Int} {B : Option Addr} {m c : Nat} {w : World} (h : SetX w0 g d l not x y X v B m c w) {k : Nat} (hk : k < d.size) :
  RowsAt ((((w.setCell ⟨g, k * 4, none⟩ (.int .i64 x)).setCell ⟨g, k * 4 + 1, none⟩ (.int .i64 y)).setCell ⟨g, k * 4 + 2, none⟩ (.int .i64 v)).setCell ⟨g, k * 4 + 3, none⟩ (.slice B m c)) (.slice (some ⟨g, 0, none⟩) d.size d.size) (l.set k ((x, y), v, del not (x, y))) ∧
  Below w0.heap.size w0 ((((w.setCell ⟨g, k * 4, none⟩ (.int .i64 x)).setCell ⟨g, k * 4 + 1, none⟩ (.int .i64 y)).setCell ⟨g, k * 4 + 2, none⟩ (.int .i64 v)).setCell ⟨g, k * 4 + 3, none⟩ (.slice B m c)) := by
 have hr := rowW_set h.base.row hk x y v B m c;have hgr := grown_setW (World.grownBy.refl w (some g)) k (.int .i64 x) (.int .i64 y) (.int .i64 v) (.slice B m c);have he := h.base.own.grown hgr (Nat.lt_succ_self g);have ho := OwnsR.grown h.own hgr (ownsR_ne h.own (Nat.lt_succ_self g));refine ⟨⟨(d.setIfInBounds k ((x, y), v, B, m, c)).toList, ?_, ?_⟩, below_setW h.base.below (Nat.le_of_lt h.base.lt) k _ _ _ _⟩
 ·have := rowAtR_rcs (c := d.size) hr (by simp)
  simpa using this
 ·rw [Array.toList_setIfInBounds]
  exact EachReads.set (show Reads _ ((x, y), v, B, m, c) ((x, y), v, del not (x, y)) from ⟨rfl, rfl, ownsI_ids ho⟩) k he.reads
set_option maxHeartbeats 4000000 in
theorem set_bad1 (v vn : Value) (l : List Row) (x y : Int) (not : List Id2) (w : World) (h : RowsAt w v l) (hn : Ids w vn not) (hl : l.length ≤ 1000) (hN : ∀ r ∈ l, r.2.2.length ≤ 40000) (hnot : not.length ≤ 40000) (hver : ∀ r ∈ l, -9223372036854775808 ≤ r.2.1) (hv : vidROW x y = false) :
  Calls Tryz.prog 70 #[v, .agg #[.int .i64 x, .int .i64 y], vn] w fun e w' => ∃ V, e = .returned (.tuple #[V, .int .i64 (setE l (x, y) not).2]) ∧ RowsAt w' V (setE l (x, y) not).1 ∧ Below w.heap.size w w' := by
 have B0 := hd_ (ad_ w (.cells #[.int .i64 x, .int .i64 y] 29));have X0 := hd_ (ao_ w x y);have H0 := hd_ (h.below B0.out);have HNT := hd_ fun W (hb : Below w.heap.size w W) => hn.below hb
 have HL := hd_ hl;have HN := hd_ hN;have HT := hd_ hnot;have HVER := hd_ hver;clear h hn hl hN hnot hver;have HV := hd_ fun W => hv ▸ may_any x y W
 have HE := hd_ (setE_bad (l := l) (of := (x, y)) (not := not) (by show (vidROW x y && allV not) = false; rw [hv]; rfl))
 clear hv;go_enter Tryz.func70, Tryz.ntmps70
 go_wp2_with fail;(with_reducible refine (copiedAll_any v l _ H0.out HL.out (fun r hr => by have := HN.out r hr; omega)).mono ?_)
 rintro e w1 ⟨g, d, rfl, hg, hr, ho, ha, hb⟩;have S1 := hd_ (show SetI w g d l x y w1 from ⟨hr, ho, ag_ X0.out hb, ba_ B0.out hb, by simp at hg; omega, by have := ho.len; simpa using this⟩)
 clear hg hr ho ha hb;obtain ⟨c1, c2⟩ := ae_ S1.out.box;go_wp2_with fail;(with_reducible refine (HV.out w1).mono ?_)
 rintro e w2 ⟨rfl, hb⟩;have S2 := hd_ (S1.out.step hb);clear c1 c2 hb;go_wp2_with fail;refine bodyPost_ret (v := .tuple #[.slice (some ⟨g, 0, none⟩) d.size d.size, .int .i64 4]) (by simp [results, Tryz.results70, go_sem]) rfl ?_
 rw [HE.out];exact ⟨_, rfl, S2.out.rows, S2.out.below⟩
set_option maxHeartbeats 4000000 in
theorem set_bad2 (v vn : Value) (l : List Row) (x y : Int) (not : List Id2) (w : World) (h : RowsAt w v l) (hn : Ids w vn not) (hl : l.length ≤ 1000) (hN : ∀ r ∈ l, r.2.2.length ≤ 40000) (hnot : not.length ≤ 40000) (hver : ∀ r ∈ l, -9223372036854775808 ≤ r.2.1) (hv : vidROW x y = true) (ha : allV not = false) :
  Calls Tryz.prog 70 #[v, .agg #[.int .i64 x, .int .i64 y], vn] w fun e w' => ∃ V, e = .returned (.tuple #[V, .int .i64 (setE l (x, y) not).2]) ∧ RowsAt w' V (setE l (x, y) not).1 ∧ Below w.heap.size w w' := by
 have B0 := hd_ (ad_ w (.cells #[.int .i64 x, .int .i64 y] 29));have X0 := hd_ (ao_ w x y);have H0 := hd_ (h.below B0.out);have HNT := hd_ fun W (hb : Below w.heap.size w W) => hn.below hb
 have HL := hd_ hl;have HN := hd_ hN;have HT := hd_ hnot;have HVER := hd_ hver;clear h hn hl hN hnot hver;have HV := hd_ fun W => hv ▸ may_any x y W
 have HM := hd_ fun W (h : Ids W vn not) => ha ▸ mayAll_any vn not W h (by have := HT.out; omega)
 have HE := hd_ (setE_bad (l := l) (of := (x, y)) (not := not) (by show (vidROW x y && allV not) = false; rw [ha, Bool.and_false]))
 clear hv ha;go_enter Tryz.func70, Tryz.ntmps70
 go_wp2_with fail;(with_reducible refine (copiedAll_any v l _ H0.out HL.out (fun r hr => by have := HN.out r hr; omega)).mono ?_)
 rintro e w1 ⟨g, d, rfl, hg, hr, ho, ha, hb⟩;have S1 := hd_ (show SetI w g d l x y w1 from ⟨hr, ho, ag_ X0.out hb, ba_ B0.out hb, by simp at hg; omega, by have := ho.len; simpa using this⟩)
 clear hg hr ho ha hb;obtain ⟨c1, c2⟩ := ae_ S1.out.box;go_wp2_with fail;(with_reducible refine (HV.out w1).mono ?_)
 rintro e w2 ⟨rfl, hb⟩;have S2 := hd_ (S1.out.step hb);clear c1 c2 hb;go_wp2_with fail;(with_reducible refine (HM.out w2 (HNT.out _ S2.out.below)).mono ?_)
 rintro e w3 ⟨rfl, hb⟩;have S3 := hd_ (S2.out.step hb);clear hb;go_wp2_with fail;refine bodyPost_ret (v := .tuple #[.slice (some ⟨g, 0, none⟩) d.size d.size, .int .i64 4]) (by simp [results, Tryz.results70, go_sem]) rfl ?_
 rw [HE.out];exact ⟨_, rfl, S3.out.rows, S3.out.below⟩
set_option maxHeartbeats 4000000 in
theorem set_good (v vn : Value) (l : List Row) (x y : Int) (not : List Id2) (w : World) (h : RowsAt w v l) (hn : Ids w vn not) (hl : l.length ≤ 1000) (hN : ∀ r ∈ l, r.2.2.length ≤ 40000) (hnot : not.length ≤ 40000) (hver : ∀ r ∈ l, -9223372036854775808 ≤ r.2.1) (hv : vidROW x y = true) (ha : allV not = true) :
  Calls Tryz.prog 70 #[v, .agg #[.int .i64 x, .int .i64 y], vn] w fun e w' => ∃ V, e = .returned (.tuple #[V, .int .i64 (setE l (x, y) not).2]) ∧ RowsAt w' V (setE l (x, y) not).1 ∧ Below w.heap.size w w' := by
 have B0 := hd_ (ad_ w (.cells #[.int .i64 x, .int .i64 y] 29));have X0 := hd_ (ao_ w x y);have H0 := hd_ (h.below B0.out);have HNT := hd_ fun W (hb : Below w.heap.size w W) => hn.below hb
 have HL := hd_ hl;have HN := hd_ hN;have HT := hd_ hnot;have HVER := hd_ hver;clear h hn hl hN hnot hver;have HV := hd_ fun W => hv ▸ may_any x y W
 have HM := hd_ fun W (h : Ids W vn not) => ha ▸ mayAll_any vn not W h (by have := HT.out; omega)
 have HOK := hd_ (show (vidROW x y && allV not) = true by rw [hv, ha]; rfl)
 clear hv ha;go_enter Tryz.func70, Tryz.ntmps70
 go_wp2_with fail;(with_reducible refine (copiedAll_any v l _ H0.out HL.out (fun r hr => by have := HN.out r hr; omega)).mono ?_)
 rintro e w1 ⟨g, d, rfl, hg, hr, ho, ha, hb⟩;have S1 := hd_ (show SetI w g d l x y w1 from ⟨hr, ho, ag_ X0.out hb, ba_ B0.out hb, by simp at hg; omega, by have := ho.len; simpa using this⟩)
 clear hg hr ho ha hb;obtain ⟨c1, c2⟩ := ae_ S1.out.box;go_wp2_with fail;(with_reducible refine (HV.out w1).mono ?_)
 rintro e w2 ⟨rfl, hb⟩;have S2 := hd_ (S1.out.step hb);clear c1 c2 hb;go_wp2_with fail;(with_reducible refine (HM.out w2 (HNT.out _ S2.out.below)).mono ?_)
 rintro e w3 ⟨rfl, hb⟩;have S3 := hd_ (S2.out.step hb);clear hb;go_upto_region 4 with fail;obtain ⟨c1, c2⟩ := ae_ S3.out.box;have HD := hd_ fun W (hb : Below w3.heap.size w3 W) => del_new vn not x y W (HNT.out _ (ba_ S3.out.below hb)) HT.out
 go_cut [9] (fun s9 wx => ∃ X B m c, s9 = .pointer (some ⟨X, 0, none⟩) ∧ Hid (SetX w g d l not x y X 1 B m c wx))
 case first =>
  refine wp_region_held_drew (S := fun w' => (w'.cell? ⟨w.heap.size, 0, none⟩ = some (.int .i64 x) ∧ w'.cell? ⟨w.heap.size, 1, none⟩ = some (.int .i64 y)) ∧ Hid (Below w3.heap.size w3 w')) (by kernel_rfl) ?_ (fun hHeld => ?_)
  ·exact ⟨ae_ (S3.out.step (Below.drew (Below.refl _ _))).box, hd_ (Below.drew (Below.refl _ _))⟩
  refine ty_ 0 ?_;refine ty_ 1 ?_;refine ty_ 2 ?_;(try simp only [Act.put, si0, si1, si2]);refine ar_ [3, 5] ?_;refine ac_ (fun Kq hKq => ?_) (ac_ (fun Kq hKq => ?_) an_)
  ·go_simp
   clear hHeld;go_at_call 132; (with_reducible refine (HD.out _ (Below.drew (Below.refl _ _))).mono ?_); rintro e w4 ⟨v4, rfl, ho, hb⟩; have P3 := hd_ (ah_ (Below.drew (Below.refl _ _)) hb (Nat.le_refl _)); have hX4 : w3.heap.size ≤ w4.heap.size := P3.out.size; have O3 := hd_ ((ownsI_of ho).mono (show w3.heap.size ≤ _ from Nat.le_refl _)); clear hb ho; obtain ⟨B, m, c, rfl⟩ := slice_of_owns O3.out
   refine hKq.out _ _ ?_ (fun hHeld => ?_)
   ·(try dsimp only); exact ⟨ae_ (S3.out.step P3.out).box, hd_ P3.out⟩
   clear hKq Kq;(try simp only [Act.put, si0, si1, si2]);refine ty_ 4 ?_;(try simp only [Act.put, si0, si1, si2]);refine a1_ 5 fun Kq hKq => ?_;go_simp;clear hHeld;have P5 := hd_ (ah_ P3.out (ad_ w4 (.cells #[.int .i64 0, .int .i64 0, .int .i64 0, .slice none 0 0] 68)) (Nat.le_refl _)); have Y5 := hd_ (av_ w4 0 0 0 (.slice none 0 0)); have O5 := hd_ (OwnsR.below O3.out (ad_ w4 (.cells #[.int .i64 0, .int .i64 0, .int .i64 0, .slice none 0 0] 68)))
   refine hKq.out _ _ ?_ (fun hHeld => ?_)
   ·(try dsimp only); exact ⟨ae_ (S3.out.step P5.out).box, hd_ P5.out⟩
   clear hKq Kq;(try simp only [Act.put, si0, si1, si2]);refine a1_ 6 fun Kq hKq => ?_;obtain ⟨y1, y2, y3, y4⟩ := ai_ Y5.out;obtain ⟨f1, f2, f3, f4⟩ := wbox_free Y5.out;go_simp;clear hHeld;have Q6 := hd_ (setX_new S3.out P3.out O3.out); clear y1 y2 y3 y4 f1 f2 f3 f4
   refine hKq.out _ _ ?_ (fun hHeld => ?_)
   ·(try dsimp only); exact ⟨ae_ (S3.out.step Q6.out.1).box, hd_ Q6.out.1⟩
   clear hKq Kq;(try simp only [Act.put, si0, si1, si2]);refine wd_ ?_;go_wp2_with fail;go_meet;exact ⟨_, _, _, _, rfl, hd_ Q6.out.2⟩
  ·go_simp
   clear hHeld;have P5 := hd_ (show Below w3.heap.size w3 (w3.alloc (.cells #[.int .i64 0, .int .i64 0, .int .i64 0, .slice none 0 0] 68)).drew from Below.drew (ad_ w3 (.cells #[.int .i64 0, .int .i64 0, .int .i64 0, .slice none 0 0] 68))); have Y5 := hd_ (show WBox (w3.alloc (.cells #[.int .i64 0, .int .i64 0, .int .i64 0, .slice none 0 0] 68)).drew w3.heap.size 0 0 0 (.slice none 0 0) from av_ w3 0 0 0 (.slice none 0 0))
   refine hKq.out _ _ ?_ (fun hHeld => ?_)
   ·(try dsimp only); exact ⟨ae_ (S3.out.step P5.out).box, hd_ P5.out⟩
   clear hKq Kq;(try simp only [Act.put, si0, si1, si2]);refine a1_ 3 fun Kq hKq => ?_;go_simp;clear hHeld;go_at_call 132; (with_reducible refine (HD.out _ P5.out).mono ?_); rintro e w4 ⟨v4, rfl, ho, hb⟩; have P3 := hd_ (ba_ P5.out hb); have hX4 : w3.heap.size ≤ w4.heap.size := P3.out.size; have Y3 := hd_ (ay_ Y5.out hb); have O3 := hd_ ((ownsI_of ho).mono (show w3.heap.size + 1 ≤ _ by simp)); clear hb ho; obtain ⟨B, m, c, rfl⟩ := slice_of_owns O3.out
   refine hKq.out _ _ ?_ (fun hHeld => ?_)
   ·(try dsimp only); exact ⟨ae_ (S3.out.step P3.out).box, hd_ P3.out⟩
   clear hKq Kq;(try simp only [Act.put, si0, si1, si2]);refine ty_ 4 ?_;(try simp only [Act.put, si0, si1, si2]);refine a1_ 6 fun Kq hKq => ?_;obtain ⟨y1, y2, y3, y4⟩ := ai_ Y3.out;obtain ⟨f1, f2, f3, f4⟩ := wbox_free Y3.out;go_simp;clear hHeld;have Q6 := hd_ (setX_done S3.out P3.out (Nat.le_refl _) Y3.out (OwnsR.mono O3.out (by omega)) (ownsR_ne O3.out (by omega))); clear y1 y2 y3 y4 f1 f2 f3 f4
   refine hKq.out _ _ ?_ (fun hHeld => ?_)
   ·(try dsimp only); exact ⟨ae_ (S3.out.step Q6.out.1).box, hd_ Q6.out.1⟩
   clear hKq Kq;(try simp only [Act.put, si0, si1, si2]);refine wd_ ?_;go_wp2_with fail;go_meet;exact ⟨_, _, _, _, rfl, hd_ Q6.out.2⟩
 case rest =>
  obtain ⟨X, B, m, c, rfl, XC⟩ := hcut;clear c1 c2 HD S2 S1 HV HM H0 X0 B0;obtain ⟨c1, c2⟩ := ae_ XC.out.base.box
  have hm : m = (del not (x, y)).length := by
   obtain ⟨A', c', e, _⟩ := rcs_owns encI_len XC.out.own;injection e with e1 e2 e3
  have HM := hd_ hm;clear hm;have hds : d.size ≤ 1000 := by have := S3.out.size; have := HL.out; omega
  go_wp2_with fail;(with_reducible refine (find_any _ d.toList x y _ (rowAtR_rcs XC.out.base.row (Nat.le_refl _)) (by simp; omega)).mono ?_)
  rintro e w5 ⟨⟨r, rfl, hr⟩, hb⟩;have X5 := hd_ (XC.out.step hb);have hr := found_get X5.out.base.own.reads hr;clear hb c1 c2;obtain ⟨y1, y2, y3, y4⟩ := ai_ X5.out.row;rcases hr with ⟨rfl, hg⟩ | ⟨k, hk, hk2, rfl, hg, he, hbef⟩
  ·by_cases h0 : m = 0
   ·have HE := hd_ (show setE l (x, y) not = (l, 0) by rw [setE_none HOK.out hg, setG_none_nil hg (List.eq_nil_of_length_eq_zero (HM.out ▸ h0))])
    subst h0;clear hg;go_wp2_with fail;refine bodyPost_ret (v := .tuple #[.slice (some ⟨g, 0, none⟩) d.size d.size, .int .i64 0]) (by simp [results, Tryz.results70, go_sem]) rfl ?_
    rw [HE.out];exact ⟨_, rfl, X5.out.base.rows, X5.out.base.below⟩
   ·have HE := hd_ (show setE l (x, y) not = (insertG ((x, y), 1, del not (x, y)) l, 0) by rw [setE_none HOK.out hg, setG_none hg (fun e => h0 (by rw [HM.out, e]; rfl))])
    have hm0 : ((m : Int) == 0) = false := by simpa using h0
    have hm1 : ¬ ((m : Int) = 0) := by omega
    clear hg h0;have HC := hd_ fun W (hb : Below w5.heap.size w5 W) => insertRow_any g d l x y 1 B m c (del not (x, y)) W (X5.out.step hb).base.row (X5.out.step hb).base.own.reads (ownsI_ids (X5.out.step hb).own) hds
    go_wp2_with fail;go_quiet (fail)
    go_wp2_with fail;(with_reducible refine (HC.out _ (below_drewN (Below.refl _ _))).mono ?_)
    rintro e w7 ⟨V, rfl, hr, hb⟩;have R7 := hd_ hr;have B7 := hd_ (ah_ (below_drewN X5.out.base.below) hb (Nat.le_refl _));clear hr hb;go_wp2_with fail;refine bodyPost_ret (v := .tuple #[V, .int .i64 0]) (by simp [results, Tryz.results70, go_sem]) rfl ?_
    rw [HE.out];exact ⟨_, rfl, R7.out, B7.out⟩
  ·have hkd : k < d.size := by simpa using hk
   have i3 : (0 : Int) ≤ (k : Int) := by omega
   have i4 : (k : Int) < (d.size : Int) := by omega
   have hdk : d.toList[k] = d[k]! := by rw [getElem!_pos d _ hkd]; simp
   have hrow := X5.out.base.own.at_ k hk hk2;rw [hdk] at hrow;have HROW := hd_ hrow;have HLK := hd_ (HN.out l[k] (List.getElem_mem hk2));have HE0 := hd_ fun (e : setOf l[k].2.2 = del not (x, y)) => setE_same HOK.out hg e
   have HE1 := hd_ fun (e : setOf l[k].2.2 ≠ del not (x, y)) (hv : 1099511627776 ≤ l[k].2.1) => setE_large HOK.out hg e hv
   have HE2 := hd_ (show setOf l[k].2.2 ≠ del not (x, y) → ¬ 1099511627776 ≤ l[k].2.1 → setE l (x, y) not = (l.set k ((x, y), l[k].2.1 + 1, del not (x, y)), 0) from fun e hv => (setE_more HOK.out hg e hv).trans (by rw [changeG_at (x, y) _ l k hk2 he hbef]))
   have i7 := HVER.out l[k] (List.getElem_mem hk2);have hkv : d[k]!.2.1 = l[k].2.1 := hrow.2.1
   have HC := hd_ fun W (hb : Below w5.heap.size w5 W) => same_any (.slice d[k]!.2.2.1 d[k]!.2.2.2.1 d[k]!.2.2.2.2) (.slice B m c) l[k].2.2 (del not (x, y)) W (ownsI_ids (OwnsR.below HROW.out.2.2 hb)) (ownsI_ids (OwnsR.below X5.out.own hb)) HLK.out (by have := HT.out; have := del_len not (x, y); omega)
   rw [setOf_self (rises_del not (x, y))] at HC;have HF := hd_ fun W (hb : Below w5.heap.size w5 W) => And.intro ((X5.out.step hb).base.row.row hkd) (ai_ (X5.out.step hb).row)
   have HKV := hd_ hkv;clear hg he hbef hdk hrow hkv hk;generalize d[k]! = q at *;simp only [HKV.out] at HF;obtain ⟨⟨⟨r1, r2, r3, r4⟩, _⟩, _⟩ := HF.out _ (Below.refl _ _);generalize hu : l[k].2.1 = u at *;have HU := hd_ hu;clear hu;by_cases hs : setOf l[k].2.2 = del not (x, y)
   ·have HE := hd_ (HE0.out hs)
    rw [show sameB (setOf l[k].2.2) (del not (x, y)) = true from decide_eq_true hs] at HC
    clear hs HE0 HE1 HE2;go_wp2_with fail;refine wp_region_held_drew (S := fun w' => (w'.cell? ⟨g, k * 4, none⟩ = some (.int .i64 q.1.1) ∧ w'.cell? ⟨g, k * 4 + 1, none⟩ = some (.int .i64 q.1.2) ∧ w'.cell? ⟨g, k * 4 + 2, none⟩ = some (.int .i64 u) ∧ w'.cell? ⟨g, k * 4 + 3, none⟩ = some (.slice q.2.2.1 q.2.2.2.1 q.2.2.2.2)) ∧ (w'.cell? ⟨X, 0, none⟩ = some (.int .i64 x) ∧ w'.cell? ⟨X, 1, none⟩ = some (.int .i64 y) ∧ w'.cell? ⟨X, 2, none⟩ = some (.int .i64 1) ∧ w'.cell? ⟨X, 3, none⟩ = some (.slice B m c)) ∧ Hid (Below w5.heap.size w5 w')) (by kernel_rfl) ?_ (fun hHeld => ?_)
    ·exact ⟨(HF.out _ (Below.drew (Below.refl _ _))).1.1, (HF.out _ (Below.drew (Below.refl _ _))).2, hd_ (Below.drew (Below.refl _ _))⟩
    refine ty_ 0 ?_;refine ty_ 1 ?_;refine ty_ 2 ?_;try simp only [Act.put, si0, si1, si2]
    first | refine ty_ 3 ?_ | refine tn_ 3 ?_
    try simp only [Act.put, si0, si1, si2]
    first | refine ty_ 4 ?_ | refine tn_ 4 ?_
    try simp only [Act.put, si0, si1, si2]
    first | refine ty_ 5 ?_ | refine tn_ 5 ?_
    try simp only [Act.put, si0, si1, si2]
    first | refine ty_ 6 ?_ | refine tn_ 6 ?_
    try simp only [Act.put, si0, si1, si2]
    first | refine ty_ 7 ?_ | refine tn_ 7 ?_
    try simp only [Act.put, si0, si1, si2]
    first | refine ty_ 8 ?_ | refine tn_ 8 ?_
    try simp only [Act.put, si0, si1, si2]
    first | refine ty_ 9 ?_ | refine tn_ 9 ?_
    (try simp only [Act.put, si0, si1, si2]);refine a1_ 10 fun Kq hKq => ?_;go_simp;clear hHeld;go_at_call 43; (with_reducible refine (HC.out _ (Below.drew (Below.refl _ _))).mono ?_); rintro e w6 ⟨rfl, hb⟩; have P6 := hd_ (ah_ (Below.drew (Below.refl _ _)) hb (Nat.le_refl _)); have X6 := hd_ (X5.out.step P6.out); clear hb r1 r2 r3 r4 y1 y2 y3 y4
    refine hKq.out _ _ ?_ (fun hHeld => ?_)
    ·(try dsimp only); exact ⟨(HF.out _ P6.out).1.1, (HF.out _ P6.out).2, hd_ P6.out⟩
    clear hKq Kq;(try simp only [Act.put, si0, si1, si2]);refine ty_ 11 ?_;refine ty_ 12 ?_;(try simp only [Act.put, si0, si1, si2]);refine wd_ ?_;go_wp2_with fail;refine bodyPost_ret (v := .tuple #[.slice (some ⟨g, 0, none⟩) d.size d.size, .int .i64 0]) (by simp [results, Tryz.results70, go_sem]) rfl ?_
    rw [HE.out];exact ⟨_, rfl, X6.out.base.rows, X6.out.base.below⟩
   ·have HS := hd_ hs
    rw [show sameB (setOf l[k].2.2) (del not (x, y)) = false from decide_eq_false hs] at HC
    clear hs HE0;go_wp2_with fail;refine wp_region_held_drew (S := fun w' => (w'.cell? ⟨g, k * 4, none⟩ = some (.int .i64 q.1.1) ∧ w'.cell? ⟨g, k * 4 + 1, none⟩ = some (.int .i64 q.1.2) ∧ w'.cell? ⟨g, k * 4 + 2, none⟩ = some (.int .i64 u) ∧ w'.cell? ⟨g, k * 4 + 3, none⟩ = some (.slice q.2.2.1 q.2.2.2.1 q.2.2.2.2)) ∧ (w'.cell? ⟨X, 0, none⟩ = some (.int .i64 x) ∧ w'.cell? ⟨X, 1, none⟩ = some (.int .i64 y) ∧ w'.cell? ⟨X, 2, none⟩ = some (.int .i64 1) ∧ w'.cell? ⟨X, 3, none⟩ = some (.slice B m c)) ∧ Hid (Below w5.heap.size w5 w')) (by kernel_rfl) ?_ (fun hHeld => ?_)
    ·exact ⟨(HF.out _ (Below.drew (Below.refl _ _))).1.1, (HF.out _ (Below.drew (Below.refl _ _))).2, hd_ (Below.drew (Below.refl _ _))⟩
    refine ty_ 0 ?_;refine ty_ 1 ?_;refine ty_ 2 ?_;try simp only [Act.put, si0, si1, si2]
    first | refine ty_ 3 ?_ | refine tn_ 3 ?_
    try simp only [Act.put, si0, si1, si2]
    first | refine ty_ 4 ?_ | refine tn_ 4 ?_
    try simp only [Act.put, si0, si1, si2]
    first | refine ty_ 5 ?_ | refine tn_ 5 ?_
    try simp only [Act.put, si0, si1, si2]
    first | refine ty_ 6 ?_ | refine tn_ 6 ?_
    try simp only [Act.put, si0, si1, si2]
    first | refine ty_ 7 ?_ | refine tn_ 7 ?_
    try simp only [Act.put, si0, si1, si2]
    first | refine ty_ 8 ?_ | refine tn_ 8 ?_
    try simp only [Act.put, si0, si1, si2]
    first | refine ty_ 9 ?_ | refine tn_ 9 ?_
    (try simp only [Act.put, si0, si1, si2]);refine a1_ 10 fun Kq hKq => ?_;go_simp;clear hHeld;go_at_call 43; (with_reducible refine (HC.out _ (Below.drew (Below.refl _ _))).mono ?_); rintro e w6 ⟨rfl, hb⟩; have P6 := hd_ (ah_ (Below.drew (Below.refl _ _)) hb (Nat.le_refl _)); have X6 := hd_ (X5.out.step P6.out); clear hb r1 r2 r3 r4 y1 y2 y3 y4
    refine hKq.out _ _ ?_ (fun hHeld => ?_)
    ·(try dsimp only); exact ⟨(HF.out _ P6.out).1.1, (HF.out _ P6.out).2, hd_ P6.out⟩
    clear hKq Kq;(try simp only [Act.put, si0, si1, si2]);refine ty_ 11 ?_;refine ty_ 12 ?_;(try simp only [Act.put, si0, si1, si2]);refine wd_ ?_;obtain ⟨⟨⟨r1, r2, r3, r4⟩, g1, g2, g3, g4⟩, _⟩ := HF.out _ P6.out;obtain ⟨y1, y2, y3, y4⟩ := ai_ X6.out.row;obtain ⟨f1, f2, f3, f4⟩ := wbox_free X6.out.row;by_cases hv : 1099511627776 ≤ u
    ·have HE := hd_ (HE1.out HS.out hv)
     have hd : decide ((1099511627776 : Int) ≤ u) = true := by simpa using hv
     clear HE1 HE2;go_wp2_with fail;refine bodyPost_ret (v := .tuple #[.slice (some ⟨g, 0, none⟩) d.size d.size, .int .i64 40]) (by simp [results, Tryz.results70, go_sem]) rfl ?_
     rw [HE.out];exact ⟨_, rfl, X6.out.base.rows, X6.out.base.below⟩
    ·have HE := hd_ (HE2.out HS.out (by omega))
     have hd : decide ((1099511627776 : Int) ≤ u) = false := by simpa using hv
     clear HE1 HE2;have i5 : -9223372036854775808 ≤ u + 1 := by omega
     have i6 : u + 1 ≤ 9223372036854775807 := by omega
     have X7 := hd_ (setX_ver X6.out (u + 1));go_upto_region 14 with fail;generalize w6.setCell ⟨X, 2, none⟩ (.int .i64 (u + 1)) = w7 at *;clear r1 r2 r3 r4 g1 g2 g3 g4 y1 y2 y3 y4 f1 f2 f3 f4;obtain ⟨⟨r1, r2, r3, r4⟩, g1, g2, g3, g4⟩ := X7.out.base.row.row hkd;obtain ⟨y1, y2, y3, y4⟩ := ai_ X7.out.row;have Q8 := hd_ (setX_put X7.out hkd);go_wp2_with fail;refine bodyPost_ret (v := .tuple #[.slice (some ⟨g, 0, none⟩) d.size d.size, .int .i64 0]) (by simp [results, Tryz.results70, go_sem]) rfl ?_
     rw [HE.out];exact ⟨_, rfl, Q8.out.1, Q8.out.2⟩
theorem setRows_any (v vn : Value) (l : List Row) (x y : Int) (not : List Id2) (w : World) (h : RowsAt w v l) (hn : Ids w vn not) (hl : l.length ≤ 1000) (hN : ∀ r ∈ l, r.2.2.length ≤ 40000) (hnot : not.length ≤ 40000) (hver : ∀ r ∈ l, -9223372036854775808 ≤ r.2.1) :
  Calls Tryz.prog 70 #[v, .agg #[.int .i64 x, .int .i64 y], vn] w fun e w' => ∃ V, e = .returned (.tuple #[V, .int .i64 (setE l (x, y) not).2]) ∧ RowsAt w' V (setE l (x, y) not).1 ∧ Below w.heap.size w w' := by
 rcases hv : vidROW x y with _ | _
 ·exact set_bad1 v vn l x y not w h hn hl hN hnot hver hv
 ·rcases ha : allV not with _ | _
  ·exact set_bad2 v vn l x y not w h hn hl hN hnot hver hv ha
  ·exact set_good v vn l x y not w h hn hl hN hnot hver hv ha
end
end Go.Proofs.YthkkipbmlafdiaaGreat
