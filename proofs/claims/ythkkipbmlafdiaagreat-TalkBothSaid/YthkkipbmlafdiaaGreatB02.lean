/-
  Contracts and plain facts.
-/
import Derived.Test.YthkkipbmlafdiaaGreatOy
import Derived.Laws.AppendOwnNone
import Derived.Test.YthkkipbmlafdiaaGreatB01
set_option maxRecDepth 20000
namespace Go.Proofs.YthkkipbmlafdiaaGreat
section
open Go.RowKit
theorem info23 : (Tryz.prog.info? 29).map (fun i => (i.zero, i.size, i.bytes)) = some (some (.agg #[.int .i64 0, .int .i64 0]), 2, 16) := by kernel_rfl
def Ids (w : World) (v : Value) (l : List (Int × Int)) : Prop :=
 ∃ A c, v = .slice A l.length c ∧ (A = none → c = 0) ∧ l.length ≤ c ∧ ∀ k (h : k < l.length), ∃ ad, A = some ad ∧ ad.block < w.heap.size ∧ w.cell? (ad.add (k * 2)) = some (.int .i64 l[k].1) ∧ w.cell? ⟨(ad.add (k * 2)).block, (ad.add (k * 2)).off + 1, none⟩ = some (.int .i64 l[k].2)
theorem block_of_add (a : Addr) (n : Nat) : (a.add n).block = a.block := by unfold Addr.add; split <;> rfl
theorem add_odd (a : Addr) (k : Nat) : a.add (k * 2 + 1) = ⟨(a.add (k * 2)).block, (a.add (k * 2)).off + 1, none⟩ := by
 unfold Addr.add;rw [if_neg (by omega)]
 split
 ·rename_i h
  simp
  try omega
 ·simp
  try omega
theorem add_add (a : Addr) (j k : Nat) (hj : 0 < j) : (a.add j).add k = a.add (j + k) := by
 unfold Addr.add;rw [if_neg (show ¬ j = 0 by omega), if_neg (show ¬ j + k = 0 by omega)]
 split
 ·rename_i h
  subst h;rfl
 ·simp
  omega
theorem Ids.below {w w' : World} {v : Value} {l : List (Int × Int)} (h : Ids w v l) (hb : Below w.heap.size w w') : Ids w' v l := by
 obtain ⟨A, c, hv, h0, hc, hk⟩ := h;refine ⟨A, c, hv, h0, hc, fun k h => ?_⟩
 obtain ⟨ad, h1, h2, h3, h4⟩ := hk k h;exact ⟨ad, h1, Nat.lt_of_lt_of_le h2 hb.size, (hb.cell (by rw [block_of_add]; exact h2)).trans h3, (hb.cell (by show (ad.add (k * 2)).block < _; rw [block_of_add]; exact h2)).trans h4⟩
theorem Ids.at_ {w w' : World} {A : Option Addr} {c n : Nat} {l : List (Int × Int)} (h : Ids w (.slice A n c) l) (hw : Below w.heap.size w w') {k : Nat} (hk : k < l.length) :
  ∃ ad, A = some ad ∧ w'.cell? (ad.add (k * 2)) = some (.int .i64 l[k].1) ∧ w'.cell? ⟨(ad.add (k * 2)).block, (ad.add (k * 2)).off + 1, none⟩ = some (.int .i64 l[k].2) := by
 obtain ⟨A', c', hv, _, _, hc⟩ := h;injection hv with e1 e2 e3
 subst e1;obtain ⟨ad, h1, h2, h3, h4⟩ := hc k hk;exact ⟨ad, h1, (hw.cell (by rw [block_of_add]; exact h2)).trans h3, (hw.cell (by show (ad.add (k * 2)).block < _; rw [block_of_add]; exact h2)).trans h4⟩
theorem cell1 {w w' : World} {ad : Addr} {c n : Nat} {l : List (Int × Int)} (h : Ids w (.slice (some ad) n c) l) (hw : Below w.heap.size w w') {k : Nat} (hk : k < l.length) : w'.cell? (ad.add (k * 2)) = some (.int .i64 l[k].1) := by
 obtain ⟨a, e, h1, _⟩ := h.at_ hw hk;injection e with e
 rw [e];exact h1
theorem cell2 {w w' : World} {ad : Addr} {c n : Nat} {l : List (Int × Int)} (h : Ids w (.slice (some ad) n c) l) (hw : Below w.heap.size w w') {k : Nat} (hk : k < l.length) : w'.cell? ⟨(ad.add (k * 2)).block, (ad.add (k * 2)).off + 1, none⟩ = some (.int .i64 l[k].2) := by
 obtain ⟨a, e, _, h2⟩ := h.at_ hw hk;injection e with e
 rw [e];exact h2
theorem Ids.shape {w : World} {v : Value} {l : List (Int × Int)} (h : Ids w v l) : (v = .slice none 0 0 ∧ l = []) ∨ ∃ ad c, v = .slice (some ad) l.length c ∧ l.length ≤ c := by
 obtain ⟨A, c, rfl, h0, hc, hk⟩ := h;cases A with
 | none =>
  obtain rfl := h0 rfl;have : l = [] := List.eq_nil_of_length_eq_zero (by omega)
  subst this;exact .inl ⟨rfl, rfl⟩
 | some ad => exact .inr ⟨ad, c, rfl, hc⟩
theorem Ids.nil (w : World) : Ids w (.slice none 0 0) [] := ⟨none, 0, rfl, fun _ => rfl, by simp, fun k hk => absurd hk (by simp)⟩
theorem Ids.take {w : World} {A : Option Addr} {n c k : Nat} {l : List (Int × Int)} (h : Ids w (.slice A n c) l) (hk : k ≤ l.length) : Ids w (.slice A k c) (l.take k) := by
 obtain ⟨A', c', hv, h0, hc, hx⟩ := h;injection hv with e1 e2 e3
 subst e1 e3;refine ⟨A, c, by rw [List.length_take, Nat.min_eq_left hk], h0, by rw [List.length_take, Nat.min_eq_left hk]; omega, fun j hj => ?_⟩
 rw [List.length_take, Nat.min_eq_left hk] at hj;obtain ⟨ad, h1, h2, h3, h4⟩ := hx j (by omega)
 exact ⟨ad, h1, h2, by rw [List.getElem_take]; exact h3, by rw [List.getElem_take]; exact h4⟩
theorem Ids.drop {w : World} {ad : Addr} {n c k : Nat} {l : List (Int × Int)} (h : Ids w (.slice (some ad) n c) l) (hk : k ≤ l.length) (hc : k < c) (h0 : 0 < k) : Ids w (.slice (some (ad.add (k * 2))) (n - k) (c - k)) (l.drop k) := by
 obtain ⟨A', c', hv, hn, hc2, hx⟩ := h;injection hv with e1 e2 e3
 subst e1 e3;refine ⟨some (ad.add (k * 2)), c - k, by rw [List.length_drop, e2], (fun h => by cases h), by rw [List.length_drop]; omega, fun j hj => ?_⟩
 rw [List.length_drop] at hj;obtain ⟨ad', h1, h2, h3, h4⟩ := hx (k + j) (by omega)
 injection h1 with h1
 subst h1;have e : (ad.add (k * 2)).add (j * 2) = ad.add ((k + j) * 2) := by rw [add_add _ _ _ (by omega)]; congr 1; omega
 refine ⟨_, rfl, by rw [block_of_add]; exact h2, ?_, ?_⟩
 ·rw [e, List.getElem_drop]; exact h3
 ·rw [e, List.getElem_drop]; exact h4
theorem Ids.none_left {w : World} {A : Option Addr} (l : List (Int × Int)) {k : Nat} (hk : l.length ≤ k) (c' : Nat) (ha : A = none → c' = 0) : Ids w (.slice A 0 c') (l.drop k) := by
 rw [List.drop_of_length_le hk];exact ⟨A, c', rfl, ha, by simp, fun j hj => absurd hj (by simp)⟩
def flat : List (Int × Int) → List Value
 | [] => []
 | x :: l => .int .i64 x.1 :: .int .i64 x.2 :: flat l
theorem flat_len (l : List (Int × Int)) : (flat l).length = l.length * 2 := by
 induction l with
 | nil => rfl
 | cons x l ih => simp [flat, ih]; omega
theorem flat_append (a b : List (Int × Int)) : flat (a ++ b) = flat a ++ flat b := by
 induction a with
 | nil => rfl
 | cons x a ih => simp [flat, ih]
theorem flat_one (l : List (Int × Int)) : ∀ u ∈ flat l, u.oneCell' = true := by
 induction l with
 | nil => simp [flat]
 | cons x l ih => simpa [flat, Value.oneCell'] using ih
theorem flat_at (l : List (Int × Int)) : ∀ (k : Nat) (h : k < l.length), (flat l)[k * 2]? = some (.int .i64 l[k].1) ∧ (flat l)[k * 2 + 1]? = some (.int .i64 l[k].2) := by
 induction l with
 | nil => intro k h; simp at h
 | cons x l ih =>
  intro k h;cases k with
  | zero => exact ⟨rfl, rfl⟩
  | succ k =>
   have := ih k (by simpa using h)
   rw [show (k + 1) * 2 = k * 2 + 1 + 1 by omega, show k * 2 + 1 + 1 + 1 = (k * 2 + 1) + 1 + 1 by omega]
   simpa [flat] using this
theorem flat_split {l : List (Int × Int)} {j : Nat} {u : Value} (h : (flat l)[j]? = some u) : ∃ k, ∃ hk : k < l.length, (j = k * 2 ∧ u = .int .i64 l[k].1) ∨ (j = k * 2 + 1 ∧ u = .int .i64 l[k].2) := by
 have hj : j < l.length * 2 := by
  have := (List.getElem?_eq_some_iff.1 h).1
  rwa [flat_len] at this
 refine ⟨j / 2, by omega, ?_⟩
 have h2 := flat_at l (j / 2) (by omega)
 rcases Nat.mod_two_eq_zero_or_one j with e | e
 ·have e2 : j / 2 * 2 = j := by omega
  refine .inl ⟨e2.symm, ?_⟩
  have := h2.1
  rw [e2, h] at this;exact Option.some.inj this
 ·have e2 : j / 2 * 2 + 1 = j := by omega
  refine .inr ⟨e2.symm, ?_⟩
  have := h2.2
  rw [e2, h] at this;exact Option.some.inj this
def Owns (w : World) (base : Nat) (v : Value) (l : List (Int × Int)) : Prop := w.ownsRow base 29 2 v l.length (flat l)
theorem Owns.below {w w' : World} {base : Nat} {v : Value} {l : List (Int × Int)} (h : Owns w base v l) (hb : Below w.heap.size w w') : Owns w' base v l :=
 World.ownsRow.kept h ⟨hb.os, hb.tape, hb.output, hb.size, fun k hk _ => hb.block k hk⟩ (row := none) (by cases hv : v.ownBlock <;> simp)
theorem owns_split {w : World} {base n : Nat} {v : Value} {xs : List Value} (h : w.ownsRow base 29 2 v n xs) : (v = .slice none 0 0 ∧ n = 0) ∨ ∃ g cap, v = .slice (some ⟨g, 0, none⟩) n cap ∧ g < w.heap.size ∧ n ≤ cap := by
 rcases id h.2 with h1 | ⟨g, cap, cur, h1, _, _, hn, _⟩
 ·exact .inl h1
 ·exact .inr ⟨g, cap, h1, (World.ownsRow.lt h g (by rw [h1]; rfl)).2, hn⟩
theorem ids_of_owns {w : World} {base : Nat} {v : Value} {l : List (Int × Int)} (h : Owns w base v l) : Ids w v l := by
 rcases owns_split h with ⟨rfl, hn⟩ | ⟨g, cap, rfl, hg, hc⟩
 ·have : l = [] := List.eq_nil_of_length_eq_zero (by omega)
  subst this;exact Ids.nil w
 ·refine ⟨some ⟨g, 0, none⟩, cap, rfl, (fun h => by cases h), hc, fun k hk => ⟨_, rfl, hg, ?_, ?_⟩⟩
  ·exact World.ownsRow.cells h (g := g) rfl _ _ (flat_at l k hk).1
  ·rw [← add_odd]
   exact World.ownsRow.cells h (g := g) rfl _ _ (flat_at l k hk).2
theorem ids_one (w : World) (a i : Int) : Ids (w.alloc (.cells #[.int .i64 a, .int .i64 i] 29)) (.slice (some ⟨w.heap.size, 0, none⟩) 1 1) [(a, i)] := by
 have h := ae_ (ao_ w a i);refine ⟨some ⟨w.heap.size, 0, none⟩, 1, rfl, (fun h => by cases h), by simp, fun k hk => ⟨_, rfl, by simp, ?_, ?_⟩⟩
 ·obtain rfl : k = 0 := by simpa using hk
  exact h.1
 ·obtain rfl : k = 0 := by simpa using hk
  exact h.2
theorem wpList_append_list {ops : Array Oper} {rest : List Oper} {o : Oper} {a : Act} {Q : Exit → Act → World → Prop} (hgd : o.guard = none) (s x : Operand)
  (ho : o.op = .call { callee := .builtin .append, args := #[s, x], argTypes := #[23, 23] })
  (wr : World) (base : Nat) (v u : Value) (d l : List (Int × Int)) (hs : a.eval s = v) (hx : a.eval x = u)
  (hown : Owns wr base v d) (hI : Ids wr u l) (hl : d.length + l.length ≤ 100000) (hb : base ≤ wr.heap.size)
  (h : ∀ v' w', Owns w' base v' (d ++ l) → Below base wr w' → wpList Tryz.prog ops Q rest (a.put o.dst v') w') :
  wpList Tryz.prog ops Q (o :: rest) a wr := by
 obtain ⟨i0, hi, hz0, hz1, hz2⟩ := info_parts info23;obtain ⟨A, c, rfl, h0, hc, hk⟩ := hI;cases A with
 | none =>
  obtain rfl := h0 rfl;have hn : l = [] := List.eq_nil_of_length_eq_zero (by omega)
  subst hn;refine wpList_append_own_none hgd s x 23 ho base 29 i0 2 Tryz.underlying23 hi _ d.length (flat d) hs hown hx (h _ _ (by rw [List.append_nil]; exact hown) (Below.refl _ _))
 | some ad =>
  refine wpList_append_own _ hgd s x 23 ho base 29 i0 (.agg #[.int .i64 0, .int .i64 0]) 2 16 Tryz.underlying23 hi hz0 hz1 hz2 rfl (by decide) v d.length (flat d) hs hown ad l.length c (flat l) hx (flat_len l)
   (fun j u hu => ?_) (flat_one l) (by unfold maxLen; omega) (by omega) hb ?_
  ·obtain ⟨k, hlt, hj⟩ := flat_split hu
   obtain ⟨ad', e, h1, h2, h3⟩ := hk k hlt;injection e with e
   subst e;rcases hj with ⟨rfl, rfl⟩ | ⟨rfl, rfl⟩
   ·exact h2
   ·rw [add_odd]
    exact h3
  ·intro v' w' h1 h2 _
   refine h v' w' ?_ ((Below.refl base wr).grown h2 hb fun k hk => (World.ownsRow.lt hown k hk).1)
   unfold Owns;rw [flat_append, List.length_append];exact h1
theorem wpList_append_one {ops : Array Oper} {rest : List Oper} {o : Oper} {a : Act} {Q : Exit → Act → World → Prop} (hgd : o.guard = none) (s x : Operand)
  (ho : o.op = .call { callee := .builtin .append, args := #[s, x], argTypes := #[23, 23] })
  (wr : World) (base : Nat) (v : Value) (d : List (Int × Int)) (p q : Int) (hs : a.eval s = v) (hx : a.eval x = .slice (some ⟨wr.heap.size, 0, none⟩) 1 1)
  (hown : Owns wr base v d) (hl : d.length ≤ 99999) (hb : base ≤ wr.heap.size)
  (h : ∀ v' w', Owns w' base v' (d ++ [(p, q)]) → Below base wr w' → wpList Tryz.prog ops Q rest (a.put o.dst v') w') :
  wpList Tryz.prog ops Q (o :: rest) a (wr.alloc (.cells #[.int .i64 p, .int .i64 q] 29)) := by
 refine wpList_append_list hgd s x ho _ base v _ d [(p, q)] hs hx (hown.below ((Below.refl _ _).alloc (Nat.le_refl _) _)) (ids_one wr p q) (by simp; omega) (by simp; omega) fun v' w' h1 h2 => h v' w' h1 ?_
 exact ((Below.refl base wr).alloc hb _).trans h2
theorem wpList_make_room {ops : Array Oper} {rest : List Oper} {o : Oper} {a : Act} {Q : Exit → Act → World → Prop} (w : World) (hgd : o.guard = none) (x : Operand) (hop : o.op = .makeSlice 23 (.const (.int .i64 0)) x) (C : Int) (hx : a.eval x = .int .i64 C) (h0 : 0 ≤ C) (hn : C ≤ 100000)
  (h : ∀ v' w', Owns w' w.heap.size v' [] → Below w.heap.size w w' → wpList Tryz.prog ops Q rest (a.put o.dst v') w') : wpList Tryz.prog ops Q (o :: rest) a w := by
 obtain ⟨i0, hi, hz0, hz1, hz2⟩ := info_parts info23;obtain ⟨n, rfl⟩ := Int.eq_ofNat_of_zero_le h0
 exact wpList_make_own w hgd _ x 23 hop w.heap.size 29 i0 (.agg #[.int .i64 0, .int .i64 0]) 2 Tryz.underlying23 hi hz0 hz1 .i64 .i64 n n rfl hx rfl (by rw [hz2]; omega) (by unfold maxLen; omega) (Nat.le_refl _)
  fun w' h1 h2 => h _ w' h1 ((Below.refl w.heap.size w).grown h2 (Nat.le_refl _) (fun k hk => by cases hk))
end
section
open Go.RowKit
set_option maxHeartbeats 1000000 in
theorem rising_gen (v : Value) (l : List (Int × Int)) (w : World) (h : Ids w v l) (hl : l.length ≤ 100000) :
  Calls Tryz.prog 155 #[v, .func (.func 102) #[] #[]] w fun e w' => e = .returned (.bool (risesB l)) ∧ Below w.heap.size w w' := by
 obtain ⟨A, c, rfl, hz⟩ := id h;clear hz;have HI := hd_ h;clear h;go_enter Tryz.func155, Tryz.ntmps155
 go_wp2
 go_loopw [5] (fun s3 wr => ∃ k : Nat, 1 ≤ k ∧ k ≤ l.length + 1 ∧ s3 = .int .i64 k ∧ risesB (l.take k) = true ∧ Below w.heap.size w wr) (fun s3 _ => l.length - (intOf s3).toNat)
 case atStart => exact ⟨1, by omega, by omega, rfl, risesB_one l, Below.refl _ _⟩
 case round =>
  obtain ⟨k, hk1, hkl, rfl, hr, hw⟩ := hrel;have HR := hd_ hr;clear hr;have HW := hd_ hw;clear hw;by_cases hlt : k < l.length
  ·have hd : decide ((k : Int) < (l.length : Int)) = true := by simp; omega
   obtain ⟨j, rfl⟩ : ∃ j, k = j + 1 := ⟨k - 1, by omega⟩
   obtain ⟨ad, rfl, c1, c2⟩ := HI.out.at_ HW.out hlt;obtain ⟨ad', e, c3, c4⟩ := HI.out.at_ HW.out (k := j) (by omega)
   injection e with e
   subst e;have i1 : IntKind.i64.wrap ((j : Int) + 1 - 1) = (j : Int) := by rw [IntWalk.i64_in _ ⟨by omega, by omega⟩]; omega
   have HS := hd_ fun w' (hb : Below w.heap.size w w') => And.intro (cell1 HI.out hb hlt) (And.intro (cell2 HI.out hb hlt) (And.intro (cell1 HI.out hb (k := j) (by omega)) (And.intro (cell2 HI.out hb (k := j) (by omega)) (hd_ hb))))
   have i2 : IntKind.i64.wrap (j : Int) = (j : Int) := IntWalk.i64_in _ ⟨by omega, by omega⟩
   have i3 : (0 : Int) ≤ (j : Int) := by omega
   have i4 : (j : Int) < (l.length : Int) := by omega
   have i5 : (0 : Int) ≤ (j : Int) + 1 := by omega
   have i6 : (j : Int) + 1 < (l.length : Int) := by omega
   have i7 : ((j : Int) + 1).toNat = j + 1 := by omega
   have hcm : (cmpZ l[j].1 l[j].2 l[j+1].1 l[j+1].2 = -1 ∧ lss l[j].1 l[j].2 l[j+1].1 l[j+1].2 = true) ∨ (0 ≤ cmpZ l[j].1 l[j].2 l[j+1].1 l[j+1].2 ∧ lss l[j].1 l[j].2 l[j+1].1 l[j+1].2 = false) := by
    cases hv : lss l[j].1 l[j].2 l[j+1].1 l[j+1].2
    ·right
     refine ⟨?_, rfl⟩
     unfold cmpZ;rw [hv];split
     ·rename_i h; cases h
     ·split <;> omega
    ·left
     exact ⟨by unfold cmpZ; rw [hv]; rfl, rfl⟩
   have HC := hd_ fun W => compare_any l[j].1 l[j].2 l[j+1].1 l[j+1].2 W
   have HT := hd_ (risesB_take hlt);have HN := hd_ fun h => risesB_not hlt h
   generalize hz : cmpZ l[j].1 l[j].2 l[j+1].1 l[j+1].2 = z at *;clear hz;rcases hcm with ⟨hv, hv2⟩ | ⟨hv, hv2⟩
   ·have HV2 := hd_ hv2
    subst hv;clear hv2;go_wp2_with fail
    go_region_held3 (fun w' => w'.cell? (ad.add ((j + 1) * 2)) = some (.int .i64 l[j+1].1) ∧ w'.cell? ⟨(ad.add ((j + 1) * 2)).block, (ad.add ((j + 1) * 2)).off + 1, none⟩ = some (.int .i64 l[j+1].2) ∧ w'.cell? (ad.add (j * 2)) = some (.int .i64 l[j].1) ∧ w'.cell? ⟨(ad.add (j * 2)).block, (ad.add (j * 2)).off + 1, none⟩ = some (.int .i64 l[j].2) ∧ Hid (Below w.heap.size w w'))
     (first | exact HS.out _ HW.out.drew | exact HS.out _ HK.out)
     (first | (go_at_call 102; (with_reducible refine (HC.out _).mono ?_); rintro e w' ⟨rfl, hb⟩; have HK := hd_ (ah_ (Hid.out (by go_split_ands; assumption)) hb (Nat.le_refl _)); clear hb))
    clear c1 c2 c3 c4;go_wp2_with fail;go_roundw
    case rel => exact ⟨j + 2, by omega, by omega, by go_num, by rw [HT.out, HR.out, HV2.out]; rfl, Hid.out (by assumption)⟩
    case measure => simp [intOf]; omega
   ·have HV2 := hd_ hv2
    clear hv2;go_wp2_with fail
    go_region_held3 (fun w' => w'.cell? (ad.add ((j + 1) * 2)) = some (.int .i64 l[j+1].1) ∧ w'.cell? ⟨(ad.add ((j + 1) * 2)).block, (ad.add ((j + 1) * 2)).off + 1, none⟩ = some (.int .i64 l[j+1].2) ∧ w'.cell? (ad.add (j * 2)) = some (.int .i64 l[j].1) ∧ w'.cell? ⟨(ad.add (j * 2)).block, (ad.add (j * 2)).off + 1, none⟩ = some (.int .i64 l[j].2) ∧ Hid (Below w.heap.size w w'))
     (first | exact HS.out _ HW.out.drew | exact HS.out _ HK.out)
     (first | (go_at_call 102; (with_reducible refine (HC.out _).mono ?_); rintro e w' ⟨rfl, hb⟩; have HK := hd_ (ah_ (Hid.out (by go_split_ands; assumption)) hb (Nat.le_refl _)); clear hb))
    clear c1 c2 c3 c4;go_wp2_with fail;go_ret;exact ⟨af_ (HN.out HV2.out).symm, Hid.out (by assumption)⟩
  ·have hd : decide ((k : Int) < (l.length : Int)) = false := by simp; omega
   go_wp2_with fail;go_ret;exact ⟨af_ (by have := HR.out; rw [List.take_of_length_le (by omega)] at this; exact this.symm), HW.out⟩
end
section
open Go.RowKit
def sameB (l m : List (Int × Int)) : Bool := decide (l = m)
theorem sameB_len {l m : List (Int × Int)} (h : l.length ≠ m.length) : sameB l m = false := by
 unfold sameB;exact decide_eq_false fun e => h (by rw [e])
theorem sameB_at {l m : List (Int × Int)} {k : Nat} (h : k < l.length) (h2 : k < m.length) (hn : ¬ (l[k].1 = m[k].1 ∧ l[k].2 = m[k].2)) : sameB l m = false := by
 unfold sameB;refine decide_eq_false fun e => hn ?_
 subst e;exact ⟨rfl, rfl⟩
theorem take_same {l m : List (Int × Int)} {k : Nat} (h : k < l.length) (h2 : k < m.length) (ht : l.take k = m.take k) (e1 : l[k].1 = m[k].1) (e2 : l[k].2 = m[k].2) : l.take (k + 1) = m.take (k + 1) := by
 rw [List.take_succ_eq_append_getElem h, List.take_succ_eq_append_getElem h2, ht, Prod.ext e1 e2]
theorem sameB_all {l m : List (Int × Int)} {k : Nat} (hl : l.length = m.length) (hk : l.length ≤ k) (ht : l.take k = m.take k) : sameB l m = true := by
 rw [List.take_of_length_le hk, List.take_of_length_le (by omega)] at ht
 unfold sameB;exact decide_eq_true ht
set_option maxHeartbeats 1000000 in
theorem ids_any (v u : Value) (l m : List (Int × Int)) (w : World) (h : Ids w v l) (k : Ids w u m) (hl : l.length ≤ 100000) :
  Calls Tryz.prog 137 #[v, u] w fun e w' => e = .returned (.bool (sameB l m)) ∧ Below w.heap.size w w' := by
 obtain ⟨A, c, rfl, hz⟩ := id h;obtain ⟨B, d, rfl, hz2⟩ := id k;clear hz hz2;have HI := hd_ h;have HJ := hd_ k;clear h k;by_cases hlm : l.length = m.length
 ·have hd : ((l.length : Int) != (m.length : Int)) = false := by simp; omega
  have HL := hd_ hlm;go_enter Tryz.func137, Tryz.ntmps137
  clear hlm;go_wp2_with fail;clear hd;go_loopw [5] (fun s5 wr => ∃ k : Nat, k ≤ l.length ∧ s5 = .int .i64 k ∧ l.take k = m.take k ∧ Below w.heap.size w wr) (fun s5 _ => l.length - (intOf s5).toNat)
  case atStart => exact ⟨0, by omega, rfl, rfl, Below.refl _ _⟩
  case round =>
   obtain ⟨k, hkl, rfl, ht, hw⟩ := hrel;have HW := hd_ hw;have HT := hd_ ht;clear hw ht;by_cases hlt : k < l.length
   ·have hd : decide ((k : Int) < (l.length : Int)) = true := by simp; omega
    have hlt2 : k < m.length := by have := HL.out; omega
    have i3 : (0 : Int) ≤ (k : Int) := by omega
    have i4 : (k : Int) < (l.length : Int) := by omega
    have i5 : (k : Int) < (m.length : Int) := by omega
    obtain ⟨ad, rfl, c1, c2⟩ := HI.out.at_ HW.out hlt;obtain ⟨ae, rfl, c3, c4⟩ := HJ.out.at_ HW.out hlt2;have HN := hd_ fun hn => sameB_at hlt hlt2 hn
    have HS := hd_ fun e1 e2 => take_same hlt hlt2 HT.out e1 e2
    generalize l[k].1 = a at *;generalize l[k].2 = i at *;generalize m[k].1 = b at *;generalize m[k].2 = j at *;by_cases hab : a = b
    ·subst hab
     by_cases hij : i = j
     ·subst hij
      go_wp2_with fail;go_quiet (fail)
      go_wp2_with fail;go_roundw
      case rel => exact ⟨k + 1, by omega, by go_num, by first | exact HS.out rfl rfl | exact HS.out trivial trivial, below_drewN HW.out⟩
      case measure => simp [intOf]; omega
     ·have h2 : (i == j) = false := by simpa using hij
      go_wp2_with fail;go_quiet (fail)
      go_wp2_with fail;go_ret;exact ⟨af_ (HN.out fun h => hij h.2).symm, below_drewN HW.out⟩
    ·have h2 : (a == b) = false := by simpa using hab
     go_wp2_with fail;go_quiet (fail)
     go_wp2_with fail;go_ret;exact ⟨af_ (HN.out fun h => hab h.1).symm, below_drewN HW.out⟩
   ·have hd : decide ((k : Int) < (l.length : Int)) = false := by simp; omega
    have HS := hd_ (sameB_all HL.out (by omega) HT.out)
    go_wp2_with fail;go_ret;exact ⟨af_ HS.out.symm, HW.out⟩
 ·have hd : ((l.length : Int) != (m.length : Int)) = true := by simp; omega
  have HS := hd_ (sameB_len hlm);clear hlm;go_enter Tryz.func137, Tryz.ntmps137
  go_wp2_with fail;go_ret;exact ⟨af_ HS.out.symm, Below.refl _ _⟩
set_option maxHeartbeats 1000000 in
theorem equal_any (v u : Value) (l m : List (Int × Int)) (w : World) (h : Ids w v l) (k : Ids w u m) (hl : l.length ≤ 100000) :
  Calls Tryz.prog 83 #[v, u] w fun e w' => e = .returned (.bool (sameB l m)) ∧ Below w.heap.size w w' := by
 obtain ⟨A, c, rfl, hz⟩ := id h;obtain ⟨B, d, rfl, hz2⟩ := id k;clear hz hz2;have HI := hd_ h;have HJ := hd_ k;clear h k;by_cases hlm : l.length = m.length
 ·have hd : ((l.length : Int) != (m.length : Int)) = false := by simp; omega
  have HL := hd_ hlm;go_enter Tryz.func83, Tryz.ntmps83
  clear hlm;go_wp2_with fail;clear hd;go_loopw [13] (fun s5 wr => ∃ k : Nat, k ≤ l.length ∧ s5 = .int .i64 k ∧ l.take k = m.take k ∧ Below w.heap.size w wr) (fun s5 _ => l.length - (intOf s5).toNat)
  case atStart => exact ⟨0, by omega, rfl, rfl, Below.refl _ _⟩
  case round =>
   obtain ⟨k, hkl, rfl, ht, hw⟩ := hrel;have HW := hd_ hw;have HT := hd_ ht;clear hw ht;by_cases hlt : k < l.length
   ·have hd : decide ((k : Int) < (l.length : Int)) = true := by simp; omega
    have hlt2 : k < m.length := by have := HL.out; omega
    have i3 : (0 : Int) ≤ (k : Int) := by omega
    have i4 : (k : Int) < (l.length : Int) := by omega
    have i5 : (k : Int) < (m.length : Int) := by omega
    obtain ⟨ad, rfl, c1, c2⟩ := HI.out.at_ HW.out hlt;obtain ⟨ae, rfl, c3, c4⟩ := HJ.out.at_ HW.out hlt2;have HN := hd_ fun hn => sameB_at hlt hlt2 hn
    have HS := hd_ fun e1 e2 => take_same hlt hlt2 HT.out e1 e2
    generalize l[k].1 = a at *;generalize l[k].2 = i at *;generalize m[k].1 = b at *;generalize m[k].2 = j at *;by_cases hab : a = b
    ·subst hab
     by_cases hij : i = j
     ·subst hij
      go_wp2_with fail;go_quiet (fail)
      go_wp2_with fail;go_roundw
      case rel => exact ⟨k + 1, by omega, by go_num, by first | exact HS.out rfl rfl | exact HS.out trivial trivial, below_drewN HW.out⟩
      case measure => simp [intOf]; omega
     ·have h2 : (i == j) = false := by simpa using hij
      go_wp2_with fail;go_quiet (fail)
      go_wp2_with fail;go_ret;exact ⟨af_ (HN.out fun h => hij h.2).symm, below_drewN HW.out⟩
    ·have h2 : (a == b) = false := by simpa using hab
     go_wp2_with fail;go_quiet (fail)
     go_wp2_with fail;go_ret;exact ⟨af_ (HN.out fun h => hab h.1).symm, below_drewN HW.out⟩
   ·have hd : decide ((k : Int) < (l.length : Int)) = false := by simp; omega
    have HS := hd_ (sameB_all HL.out (by omega) HT.out)
    go_wp2_with fail;go_ret;exact ⟨af_ HS.out.symm, HW.out⟩
 ·have hd : ((l.length : Int) != (m.length : Int)) = true := by simp; omega
  have HS := hd_ (sameB_len hlm);clear hlm;go_enter Tryz.func83, Tryz.ntmps83
  go_wp2_with fail;go_ret;exact ⟨af_ HS.out.symm, Below.refl _ _⟩
end
section
open Go.RowKit
def hasB (x : Int × Int) (l : List (Int × Int)) : Bool := decide (x ∈ l)
theorem hasB_yes {a i : Int} {l : List (Int × Int)} {k : Nat} (h : k < l.length) (e1 : l[k].1 = a) (e2 : l[k].2 = i) : hasB (a, i) l = true := by
 unfold hasB;refine decide_eq_true ?_
 have : l[k] = (a, i) := Prod.ext e1 e2
 rw [← this];exact List.getElem_mem h
theorem hasB_next {a i : Int} {l : List (Int × Int)} {k : Nat} (h : k < l.length) (hn : hasB (a, i) (l.take k) = false) (hne : ¬ (l[k].1 = a ∧ l[k].2 = i)) : hasB (a, i) (l.take (k + 1)) = false := by
 unfold hasB at *;have hn := of_decide_eq_false hn;refine decide_eq_false fun hm => ?_
 rw [List.take_succ_eq_append_getElem h] at hm;rcases List.mem_append.1 hm with e | e
 ·exact hn e
 ·have : (a, i) = l[k] := by simpa using e
  exact hne ⟨by rw [← this], by rw [← this]⟩
theorem hasB_none (x : Int × Int) (l : List (Int × Int)) : hasB x (l.take 0) = false := by simp [hasB]
theorem hasB_all {x : Int × Int} {l : List (Int × Int)} {k : Nat} (h : l.length ≤ k) (hn : hasB x (l.take k) = false) : hasB x l = false := by
 rwa [List.take_of_length_le h] at hn
theorem box_drewN {w : World} {g n : Nat} {a i : Int} (h : Box w g a i) : Box (w.drewN n) g a i := h
def Found (x : Int × Int) (l : List (Int × Int)) (w : World) (e : Ending) (w' : World) : Prop := ∃ z : Int, e = .returned (.int .i64 z) ∧ decide (0 ≤ z) = hasB x l ∧ Below w.heap.size w w'
theorem found {x : Int × Int} {l : List (Int × Int)} {w w' : World} {z : Int} (h : decide (0 ≤ z) = hasB x l) (hb : Below w.heap.size w w') : Found x l w (.returned (.int .i64 z)) w' := ⟨z, rfl, h, hb⟩
set_option maxHeartbeats 1000000 in
theorem index_any (v : Value) (l : List (Int × Int)) (a i : Int) (w : World) (h : Ids w v l) (hl : l.length ≤ 100000) :
  Calls Tryz.prog 146 #[v, .agg #[.int .i64 a, .int .i64 i]] w (Found (a, i) l w) := by
 obtain ⟨A, c, rfl, hz⟩ := id h;clear hz;have HI := hd_ h;have HX := hd_ (ao_ w a i);have HB := hd_ ((Below.refl w.heap.size w).alloc (Nat.le_refl _) (.cells #[.int .i64 a, .int .i64 i] 29));clear h;go_enter Tryz.func146, Tryz.ntmps146
 go_wp2_with fail;go_loopw [8] (fun s5 wr => ∃ k : Nat, k ≤ l.length ∧ s5 = .int .i64 k ∧ hasB (a, i) (l.take k) = false ∧ Box wr w.heap.size a i ∧ Below w.heap.size w wr) (fun s5 _ => l.length - (intOf s5).toNat)
 case atStart => exact ⟨0, by omega, rfl, hasB_none _ _, HX.out, HB.out⟩
 case round =>
  obtain ⟨k, hkl, rfl, ht, hx, hw⟩ := hrel;have HW := hd_ hw;have HT := hd_ ht;have HY := hd_ hx;clear hw ht hx;by_cases hlt : k < l.length
  ·have hd : decide ((k : Int) < (l.length : Int)) = true := by simp; omega
   have i3 : (0 : Int) ≤ (k : Int) := by omega
   have i4 : (k : Int) < (l.length : Int) := by omega
   obtain ⟨ad, rfl, c1, c2⟩ := HI.out.at_ HW.out hlt;obtain ⟨c3, c4⟩ := ae_ HY.out;have HN := hd_ fun e1 e2 => hasB_yes (a := a) (i := i) hlt e1 e2
   have HS := hd_ fun hn => hasB_next hlt HT.out hn
   generalize l[k].1 = b at *;generalize l[k].2 = j at *;by_cases hab : a = b
   ·subst hab
    by_cases hij : i = j
    ·subst hij
     have HF := hd_ (show decide ((0 : Int) ≤ (k : Int)) = hasB (a, i) l by rw [HN.out rfl rfl]; simp)
     clear HN HS;go_wp2_with fail;go_quiet (fail)
     go_wp2_with fail;go_ret;exact found HF.out (below_drewN HW.out)
    ·have h2 : (i == j) = false := by simpa using hij
     have HF := hd_ (HS.out fun h => hij h.2.symm)
     clear HN HS;go_wp2_with fail;go_quiet (fail)
     go_wp2_with fail;go_roundw
     case rel => exact ⟨k + 1, by omega, by go_num, HF.out, box_drewN HY.out, below_drewN HW.out⟩
     case measure => simp [intOf]; omega
   ·have h2 : (a == b) = false := by simpa using hab
    have HF := hd_ (HS.out fun h => hab h.1.symm)
    clear HN HS;go_wp2_with fail;go_quiet (fail)
    go_wp2_with fail;go_roundw
    case rel => exact ⟨k + 1, by omega, by go_num, HF.out, box_drewN HY.out, below_drewN HW.out⟩
    case measure => simp [intOf]; omega
  ·have hd : decide ((k : Int) < (l.length : Int)) = false := by simp; omega
   have HS := hd_ (hasB_all (by omega) HT.out)
   go_wp2_with fail;go_ret;exact found (by rw [HS.out]; rfl) HW.out
theorem contains_any (v : Value) (l : List (Int × Int)) (a i : Int) (w : World) (h : Ids w v l) (hl : l.length ≤ 100000) :
  Calls Tryz.prog 89 #[v, .agg #[.int .i64 a, .int .i64 i]] w fun e w' => e = .returned (.bool (hasB (a, i) l)) ∧ Below w.heap.size w w' := by
 have HX := hd_ (ao_ w a i);have HB := hd_ ((Below.refl w.heap.size w).alloc (Nat.le_refl _) (.cells #[.int .i64 a, .int .i64 i] 29));have HI := hd_ (h.below HB.out);clear h;go_enter Tryz.func89, Tryz.ntmps89
 go_wp2_with fail;refine (index_any v l a i _ HI.out hl).mono ?_
 rintro e w1 ⟨z, rfl, hz, hb⟩;have HZ := hd_ hz;have H1 := hd_ (ba_ HB.out hb);clear hz hb;by_cases h0 : 0 ≤ z
 ·have hd := decide_eq_true h0
  have HR := hd_ (show true = hasB (a, i) l by rw [← HZ.out, hd])
  clear h0;go_wp2_with fail;go_ret;exact ⟨af_ HR.out, H1.out⟩
 ·have hd := decide_eq_false h0
  have HR := hd_ (show false = hasB (a, i) l by rw [← HZ.out, hd])
  clear h0;go_wp2_with fail;go_ret;exact ⟨af_ HR.out, H1.out⟩
theorem has_any (v : Value) (l : List (Int × Int)) (a i : Int) (w : World) (h : Ids w v l) (hl : l.length ≤ 100000) :
  Calls Tryz.prog 40 #[v, .agg #[.int .i64 a, .int .i64 i]] w fun e w' => e = .returned (.bool (hasB (a, i) l)) ∧ Below w.heap.size w w' := by
 have HB := hd_ ((Below.refl w.heap.size w).alloc (Nat.le_refl _) (.cells #[.int .i64 a, .int .i64 i] 29));have HI := hd_ (h.below HB.out);clear h;go_enter Tryz.func40, Tryz.ntmps40
 go_wp2_with fail;refine (contains_any v l a i _ HI.out hl).mono ?_
 rintro e w1 ⟨rfl, hb⟩;have H1 := hd_ (ba_ HB.out hb);clear hb;go_wp2_with fail;go_ret;exact ⟨rfl, H1.out⟩
theorem rising_any (v : Value) (l : List (Int × Int)) (w : World) (h : Ids w v l) (hl : l.length ≤ 100000) :
  Calls Tryz.prog 107 #[v] w fun e w' => e = .returned (.bool (risesB l)) ∧ Below w.heap.size w w' := by
 have HI := hd_ h;clear h;go_enter Tryz.func107, Tryz.ntmps107
 go_wp2_with fail;refine (rising_gen v l _ HI.out hl).mono ?_
 rintro e w1 ⟨rfl, hb⟩;have H1 := hd_ hb;clear hb;go_wp2_with fail;go_ret;exact ⟨rfl, H1.out⟩
end
section
open Go.RowKit
theorem elem24 : Tryz.prog.elem 23 = 29 := by kernel_rfl
theorem size23 (W : World) : (sizeOf 29).run Tryz.prog W = .ok 2 W := by kernel_rfl
theorem under24 : Tryz.prog.underlying 23 = some (.slice (Tryz.prog.elem 23)) := by rw [elem24]; exact Tryz.underlying23
theorem add_zero' (a : Addr) : a.add 0 = a := by unfold Addr.add; rw [if_pos rfl]
theorem Ids.sliced {w : World} {A : Option Addr} {c k h : Nat} {l : List (Int × Int)} (hi : Ids w (.slice A l.length c) l) (h1 : k ≤ h) (h2 : h ≤ l.length) : Ids w (sliced A k h c 2) ((l.take h).drop k) := by
 have ht := hi.take h2;obtain ⟨A', c', hv, h0, hc, _⟩ := id hi;injection hv with e1 e2 e3
 subst e1 e3;unfold Go.sliced;have hl : (l.take h).length = h := by rw [List.length_take, Nat.min_eq_left h2]
 split
 ·rename_i e
  have hk : h - k = 0 := by omega
  rw [hk];exact Ids.none_left _ (by omega) _ fun hn => by rw [e]; omega
 ·rename_i e
  cases A with
  | none => exact absurd (h0 rfl) (by omega)
  | some ad =>
   rcases Nat.eq_zero_or_pos k with rfl | hk
   ·simp only [Option.map, Nat.zero_mul, Nat.sub_zero, List.drop_zero, add_zero']
    exact ht
   ·have := Ids.drop ht (k := k) (by omega) (by omega) hk
    exact this
theorem run_from {w : World} {v : Value} {l : List (Int × Int)} (h : Ids w v l) (k : Nat) (hk : k ≤ l.length) :
  ∃ V, (∀ W, (Instr.slice 23 v (some (.int .i64 (k : Int))) none none).run Tryz.prog W = .ok V W) ∧ Ids w V (l.drop k) := by
 obtain ⟨A, c, rfl, h0, hc, hx⟩ := id h;refine ⟨sliced A k l.length c 2, fun W => ?_, ?_⟩
 ·rw [run_slice_l (w := W) (P := Tryz.prog) 23 A l.length c under24 .i64 (k : Int) (by omega) (by omega)]
  rw [elem24, size23];rfl
 ·have := h.sliced hk (Nat.le_refl _)
  rwa [List.take_length] at this
theorem run_to {w : World} {v : Value} {l : List (Int × Int)} (h : Ids w v l) (k : Nat) (hk : k ≤ l.length) :
  ∃ V, (∀ W, (Instr.slice 23 v none (some (.int .i64 (k : Int))) none).run Tryz.prog W = .ok V W) ∧ Ids w V (l.take k) := by
 obtain ⟨A, c, rfl, h0, hc, hx⟩ := id h;refine ⟨sliced A 0 k c 2, fun W => ?_, ?_⟩
 ·rw [run_slice_h (w := W) (P := Tryz.prog) 23 A l.length c under24 .i64 (k : Int) (by omega) (by omega)]
  rw [elem24, size23];rfl
 ·exact h.sliced (Nat.zero_le _) hk
theorem run_tail {w : World} {v : Value} {x : Int × Int} {l : List (Int × Int)} (h : Ids w v (x :: l)) :
  ∃ V, (∀ W, (Instr.slice 23 v (some (.int .i64 1)) none none).run Tryz.prog W = .ok V W) ∧ Ids w V l := run_from h 1 (by simp)
theorem Ids.head {w : World} {v : Value} {x : Int × Int} {l : List (Int × Int)} (h : Ids w v (x :: l)) :
  ∃ ad c, v = .slice (some ad) (l.length + 1) c ∧ ∀ w', Below w.heap.size w w' → w'.cell? ad = some (.int .i64 x.1) ∧ w'.cell? ⟨ad.block, ad.off + 1, none⟩ = some (.int .i64 x.2) := by
 obtain ⟨A, c, rfl, h0, hc, hx⟩ := id h;obtain ⟨ad, rfl, _⟩ := hx 0 (by simp)
 refine ⟨ad, c, rfl, fun w' hb => ?_⟩
 have h1 := cell1 h hb (k := 0) (by simp)
 have h2 := cell2 h hb (k := 0) (by simp)
 rw [Nat.zero_mul, add_zero'] at h1 h2;exact ⟨h1, h2⟩
set_option maxHeartbeats 1000000 in
theorem first_any (v u : Value) (l m : List (Int × Int)) (w : World) (h : Ids w v l) (k : Ids w u m) (hl : l.length ≤ 100000) (hm : m.length ≤ 100000) :
  Calls Tryz.prog 200 #[v, u, .func (.func 102) #[] #[]] w fun e w' => e = .returned (.int .i64 (headZ l m)) ∧ Below w.heap.size w w' := by
 cases m with
 | nil =>
  obtain ⟨B, d, rfl, hz⟩ := id k;clear hz k h;have h5 := hd_ (show headZ l [] = -1 by cases l <;> rfl)
  go_enter Tryz.func200, Tryz.ntmps200
  go_wp2_with fail;go_ret;exact ⟨ret_int h5.out.symm, Below.refl _ _⟩
 | cons y m =>
  obtain ⟨ae, d, rfl, hm2⟩ := k.head;have HM := hd_ hm2;clear hm2;have hd1 : ((m.length : Int) + 1 == 0) = false := by simp; omega
  cases l with
  | nil =>
   obtain ⟨A, c, rfl, hz⟩ := id h;clear hz k h;go_enter Tryz.func200, Tryz.ntmps200
   go_wp2_with fail;go_ret;exact ⟨rfl, Below.refl _ _⟩
  | cons x l =>
   obtain ⟨ad, c, rfl, hl2⟩ := h.head;have HL := hd_ hl2;clear hl2 h k;have hd2 : ((l.length : Int) + 1 == 0) = false := by simp; omega
   have HS := hd_ fun w' (hb : Below w.heap.size w w') => And.intro (HL.out w' hb) (And.intro (HM.out w' hb) (hd_ hb))
   have HR := hd_ (show headZ (x :: l) (y :: m) = cmpZ x.1 x.2 y.1 y.2 from rfl)
   have i3 : (0 : Int) < (l.length : Int) + 1 := by omega
   have i4 : (0 : Int) < (m.length : Int) + 1 := by omega
   go_enter Tryz.func200, Tryz.ntmps200
   go_wp2_with fail
   go_region_held3 (fun w' => (w'.cell? ad = some (.int .i64 x.1) ∧ w'.cell? ⟨ad.block, ad.off + 1, none⟩ = some (.int .i64 x.2)) ∧ (w'.cell? ae = some (.int .i64 y.1) ∧ w'.cell? ⟨ae.block, ae.off + 1, none⟩ = some (.int .i64 y.2)) ∧ Hid (Below w.heap.size w w'))
     (first | exact HS.out _ (Below.refl _ _).drew | exact HS.out _ (Below.refl _ _) | exact HS.out _ HK.out)
     (first | (go_at_call 102; (with_reducible refine (compare_any _ _ _ _ _).mono ?_); rintro e w' ⟨rfl, hb⟩; have HK := hd_ (ah_ (Hid.out (by go_split_ands; assumption)) hb (Nat.le_refl _)); clear hb))
   go_wp2_with fail;go_ret;exact ⟨ret_int HR.out.symm, Hid.out (by assumption)⟩
end
end Go.Proofs.YthkkipbmlafdiaaGreat
