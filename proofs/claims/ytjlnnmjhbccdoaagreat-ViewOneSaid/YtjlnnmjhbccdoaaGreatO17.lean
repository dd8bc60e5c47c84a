/-
  Carried over and put together: contracts of this program's functions, and plain facts. No statement is proved in this text.
-/
import Derived.Test.YtjlnnmjhbccdoaaGreatO00
import Derived.Test.YtjlnnmjhbccdoaaGreatO16
set_option maxRecDepth 20000
namespace Go.Proofs.YtjlnnmjhbccdoaaGreat
open Go Go.RowKit Sets RowSets
set_option maxHeartbeats 4000000 in
theorem stable_any (v : Value) (qs : List Raw) (w : World) (h : Rcs encW 4 w v qs) (hs : Sorted qs) (hl : qs.length ≤ 100000) :
  Calls Tryz.prog 189 #[v, .int .i64 qs.length, .func (.func 178) #[] #[]] w fun e w' => e = .returned (.tuple #[]) ∧ Below w.heap.size w w' := by
 have HI := Lib.hid h
 have HO := Lib.hid hs
 obtain ⟨A, c, rfl, hz⟩ := h
 clear hz hs
 generalize hN : qs.length = N at *
 have HN := Lib.hid hN
 have CI := Lib.hid fun (a b : Nat) (h1 : a ≤ b) (h2 : b ≤ N) W (hb : Below w.heap.size w W) => insertion_any (.slice A N c) qs a b W (HI.out.below hb) HO.out (by have := HN.out; omega) h1 (by have := HN.out; omega)
 have CS := Lib.hid fun (a m b : Nat) (h1 : a < m) (h2 : m < b) (h3 : b ≤ N) W (hb : Below w.heap.size w W) => sym_any (b - a) (.slice A N c) qs a m b W (Nat.le_refl _) (HI.out.below hb) HO.out (by have := HN.out; omega) h1 h2 (by have := HN.out; omega)
 clear hN HI HO
 go_enter Tryz.func189, Tryz.ntmps189
 go_wp2_with fail
 go_loopw [7, 8] (fun s7 s8 wr => ∃ a b : Nat, s7 = .int .i64 a ∧ s8 = .int .i64 b ∧ Hid (b = a + 20) ∧ a ≤ N ∧ Hid (Below w.heap.size w wr)) (fun s7 _ _ => N - (intOf s7).toNat)
 case atStart => exact ⟨0, 20, rfl, rfl, Lib.hid rfl, by omega, Lib.hid (Below.refl _ _)⟩
 case round =>
  obtain ⟨a, b, rfl, rfl, HAB, haN, HW⟩ := hrel
  by_cases hlt : b ≤ N
  ·have hd : decide (b ≤ N) = true := decide_eq_true hlt
   go_wp2_with fail
   (with_reducible refine (CI.out a b (by have := HAB.out; omega) hlt _ HW.out).mono ?_)
   rintro e w1 ⟨rfl, hb⟩
   have HB := Lib.hid (below_after HW.out hb (Nat.le_refl _))
   clear hb
   go_wp2_with fail
   go_roundw
   case rel => exact ⟨b, b + 20, rfl, by go_num, Lib.hid rfl, by omega, HB⟩
   case measure => have := HAB.out; simp [intOf]; omega
  ·have hd : decide (b ≤ N) = false := decide_eq_false hlt
   go_wp2_with fail
   (with_reducible refine (CI.out a N haN (Nat.le_refl _) _ HW.out).mono ?_)
   rintro e w1 ⟨rfl, hb⟩
   have HB := Lib.hid (below_after HW.out hb (Nat.le_refl _))
   clear hb HW hd hlt HAB haN
   go_wp2_with fail
   go_loopw [6] (fun s6 wr => ∃ z : Nat, s6 = .int .i64 z ∧ 20 ≤ z ∧ z ≤ 2 * N + 20 ∧ Hid (Below w.heap.size w wr)) (fun s6 _ => 2 * N + 21 - (intOf s6).toNat)
   case atStart => exact ⟨20, rfl, by omega, by omega, HB⟩
   case round =>
    obtain ⟨z, rfl, hz1, hz2, HW⟩ := hrel
    by_cases hzN : z < N
    ·have hd : decide (z < N) = true := decide_eq_true hzN
     obtain ⟨y, hy⟩ : ∃ y : Nat, 2 * (z : Int) = (y : Int) := ⟨2 * z, by omega⟩
     have hy2 : (z : Int) * 2 = (y : Int) := by omega
     have hyw : IntKind.i64.wrap (y : Int) = (y : Int) := IntWalk.i64_in _ ⟨by omega, by omega⟩
     go_wp2_with fail
     go_loopw [7, 8] (fun s7 s8 wr => ∃ a b : Nat, s7 = .int .i64 a ∧ s8 = .int .i64 b ∧ Hid (b = a + y) ∧ a ≤ N ∧ Hid (Below w.heap.size w wr)) (fun s7 _ _ => N - (intOf s7).toNat)
     case atStart => exact ⟨0, y, rfl, rfl, Lib.hid (by omega), by omega, HW⟩
     case round =>
      obtain ⟨a, b, rfl, rfl, HAB, haN, HV⟩ := hrel
      obtain ⟨m, hm⟩ : ∃ m : Nat, (a : Int) + (z : Int) = (m : Int) := ⟨a + z, by omega⟩
      have hmw : IntKind.i64.wrap (m : Int) = (m : Int) := IntWalk.i64_in _ ⟨by omega, by omega⟩
      by_cases hlt : b ≤ N
      ·have hd2 : decide (b ≤ N) = true := decide_eq_true hlt
       go_wp2_with fail
       (with_reducible refine (CS.out a m b (by omega) (by have := HAB.out; omega) hlt _ HV.out).mono ?_)
       rintro e w1 ⟨rfl, hb⟩
       have HB2 := Lib.hid (below_after HV.out hb (Nat.le_refl _))
       clear hb
       go_wp2_with fail
       go_roundw
       case rel => exact ⟨b, b + y, rfl, by go_num, Lib.hid rfl, by omega, HB2⟩
       case measure => have := HAB.out; simp [intOf]; omega
      ·have hd2 : decide (b ≤ N) = false := decide_eq_false hlt
       by_cases hmN : m < N
       ·have hd3 : decide (m < N) = true := decide_eq_true hmN
        go_wp2_with fail
        (with_reducible refine (CS.out a m N (by omega) hmN (Nat.le_refl _) _ HV.out).mono ?_)
        rintro e w1 ⟨rfl, hb⟩
        have HB2 := Lib.hid (below_after HV.out hb (Nat.le_refl _))
        clear hb
        go_wp2_with fail
        go_roundw
        case rel => exact ⟨y, rfl, by omega, by omega, HB2⟩
        case measure => simp [intOf]; omega
       ·have hd3 : decide (m < N) = false := decide_eq_false hmN
        go_wp2_with fail
        go_roundw
        case rel => exact ⟨y, rfl, by omega, by omega, HV⟩
        case measure => simp [intOf]; omega
    ·have hd : decide (z < N) = false := decide_eq_false hzN
     go_wp2_with fail
     go_end0
     exact ⟨rfl, HW.out⟩
end Go.Proofs.YtjlnnmjhbccdoaaGreat
namespace Go.Proofs.YtjlnnmjhbccdoaaGreat
open Go Go.RowKit Sets RowSets
theorem sortStable_any (v : Value) (qs : List Raw) (w : World) (h : Rcs encW 4 w v qs) (hs : Sorted qs) (hl : qs.length ≤ 100000) :
  Calls Tryz.prog 177 #[v, .func (.func 178) #[] #[]] w fun e w' => e = .returned (.tuple #[]) ∧ Below w.heap.size w w' := by
 have HI := Lib.hid h
 obtain ⟨A, c, rfl, hz⟩ := h
 clear hz
 go_enter Tryz.func177, Tryz.ntmps177
 go_wp2_with fail
 refine (stable_any _ qs w HI.out hs hl).mono ?_
 rintro e w1 ⟨rfl, hb⟩
 have HB := Lib.hid hb
 clear hb
 go_wp2_with fail
 go_end0
 exact ⟨rfl, HB.out⟩
theorem sorted_apart {qs : List Raw} (h : Sorted qs) {j : Nat} (hj : j + 1 < qs.length) : isI (qs[j + 1].1.1, qs[j + 1].1.2) (qs[j].1.1, qs[j].1.2) = false := by
 have hl : lt qs[j].1 qs[j + 1].1 := by
  have := List.pairwise_iff_getElem.1 h j (j + 1) (by simpa using (by omega : j < qs.length)) (by simpa using hj) (by omega)
  simpa using this
 refine decide_eq_false fun e => lt_irrefl qs[j].1 ?_
 have e2 : qs[j + 1].1 = qs[j].1 := e
 rw [e2] at hl
 exact hl
set_option maxHeartbeats 2000000 in
theorem compactW_any (v : Value) (qs : List Raw) (w : World) (h : Rcs encW 4 w v qs) (hs : Sorted qs) (hl : qs.length ≤ 100000) :
  Calls Tryz.prog 179 #[v, .func (.func 180) #[] #[]] w fun e w' => e = .returned v ∧ Below w.heap.size w w' := by
 have HI := Lib.hid h
 have HO := Lib.hid hs
 obtain ⟨A, c, rfl, hz⟩ := h
 clear hz hs
 by_cases h2 : qs.length < 2
 ·have hd : decide ((qs.length : Int) < 2) = true := by simp; omega
  go_enter Tryz.func179, Tryz.ntmps179
  go_wp2_with fail
  go_ret
  exact ⟨rfl, Below.refl _ _⟩
 ·have hd0 : decide ((qs.length : Int) < 2) = false := by simp; omega
  go_enter Tryz.func179, Tryz.ntmps179
  go_wp2_with fail
  go_loopw [5] (fun s5 wr => ∃ j : Nat, s5 = .int .i64 ((j : Int) + 1) ∧ j + 1 ≤ qs.length ∧ Hid (Below w.heap.size w wr)) (fun s5 _ => qs.length + 1 - (intOf s5).toNat)
  case atStart => exact ⟨0, rfl, by omega, Lib.hid (Below.refl _ _)⟩
  case round =>
   obtain ⟨j, rfl, hjl, HW⟩ := hrel
   by_cases hlt : j + 1 < qs.length
   ·have hd : decide (((j : Int) + 1) < (qs.length : Int)) = true := decide_eq_true (by omega)
    have hk1 : j + 1 < qs.length := hlt
    have hk2 : j < qs.length := by omega
    have HC := Lib.hid (sorted_apart HO.out hk1)
    have i1 : IntKind.i64.wrap ((j : Int) + 1 - 1) = (j : Int) := by rw [IntWalk.i64_in _ ⟨by omega, by omega⟩]; omega
    have i2 : IntKind.i64.wrap (j : Int) = (j : Int) := IntWalk.i64_in _ ⟨by omega, by omega⟩
    have i3 : (0 : Int) ≤ (j : Int) := by omega
    have i4 : (j : Int) < (qs.length : Int) := by omega
    have i5 : (0 : Int) ≤ (j : Int) + 1 := by omega
    have i6 : (j : Int) + 1 < (qs.length : Int) := by omega
    have i7 : ((j : Int) + 1).toNat = j + 1 := by omega
    obtain ⟨ad, rfl⟩ := HI.out.addr (by omega)
    have HS := Lib.hid fun w' (hb : Below w.heap.size w w') => And.intro (HI.out.raw hb (k := j + 1) hk1) (And.intro (HI.out.raw hb (k := j) hk2) hb)
    generalize qs[j + 1].1.1 = a1 at *
    generalize qs[j + 1].1.2 = i1 at *
    generalize qs[j + 1].2.1 = n1 at *
    generalize qs[j + 1].2.2.1 = B1 at *
    generalize qs[j + 1].2.2.2.1 = m1 at *
    generalize qs[j + 1].2.2.2.2 = d1 at *
    generalize qs[j].1.1 = a2 at *
    generalize qs[j].1.2 = i2 at *
    generalize qs[j].2.1 = n2 at *
    generalize qs[j].2.2.1 = B2 at *
    generalize qs[j].2.2.2.1 = m2 at *
    generalize qs[j].2.2.2.2 = d2 at *
    have HQ := Lib.hid fun w' (hb : Below w.heap.size w w') => (show (w'.cell? (ad.add ((j + 1) * 4)) = some (.int .i64 a1) ∧ w'.cell? ⟨(ad.add ((j + 1) * 4)).block, (ad.add ((j + 1) * 4)).off + 1, none⟩ = some (.int .i64 i1) ∧ w'.cell? ⟨(ad.add ((j + 1) * 4)).block, (ad.add ((j + 1) * 4)).off + 2, none⟩ = some (.int .i64 n1) ∧ w'.cell? ⟨(ad.add ((j + 1) * 4)).block, (ad.add ((j + 1) * 4)).off + 3, none⟩ = some (.slice B1 m1 d1)) ∧ (w'.cell? (ad.add (j * 4)) = some (.int .i64 a2) ∧ w'.cell? ⟨(ad.add (j * 4)).block, (ad.add (j * 4)).off + 1, none⟩ = some (.int .i64 i2) ∧ w'.cell? ⟨(ad.add (j * 4)).block, (ad.add (j * 4)).off + 2, none⟩ = some (.int .i64 n2) ∧ w'.cell? ⟨(ad.add (j * 4)).block, (ad.add (j * 4)).off + 3, none⟩ = some (.slice B2 m2 d2)) ∧ Hid (Below w.heap.size w w') from by
     obtain ⟨⟨x, e, x1⟩, ⟨y, e2, y1⟩, hb⟩ := HS.out w' hb
     injection e with e
     injection e2 with e2
     subst e e2
     exact ⟨x1, y1, Lib.hid hb⟩)
    clear HS
    go_wp2_with fail
    go_region_held3 (fun w' => (w'.cell? (ad.add ((j + 1) * 4)) = some (.int .i64 a1) ∧ w'.cell? ⟨(ad.add ((j + 1) * 4)).block, (ad.add ((j + 1) * 4)).off + 1, none⟩ = some (.int .i64 i1) ∧ w'.cell? ⟨(ad.add ((j + 1) * 4)).block, (ad.add ((j + 1) * 4)).off + 2, none⟩ = some (.int .i64 n1) ∧ w'.cell? ⟨(ad.add ((j + 1) * 4)).block, (ad.add ((j + 1) * 4)).off + 3, none⟩ = some (.slice B1 m1 d1)) ∧ (w'.cell? (ad.add (j * 4)) = some (.int .i64 a2) ∧ w'.cell? ⟨(ad.add (j * 4)).block, (ad.add (j * 4)).off + 1, none⟩ = some (.int .i64 i2) ∧ w'.cell? ⟨(ad.add (j * 4)).block, (ad.add (j * 4)).off + 2, none⟩ = some (.int .i64 n2) ∧ w'.cell? ⟨(ad.add (j * 4)).block, (ad.add (j * 4)).off + 3, none⟩ = some (.slice B2 m2 d2)) ∧ Hid (Below w.heap.size w w'))
     (first | exact HQ.out _ HW.out.drew | exact HQ.out _ HK.out)
     (first | (go_at_call 180; (with_reducible refine (eqW_any _ _ _ _ _ _ _ _ _ _ _ _ _).mono ?_); rw [HC.out]; rintro e w' ⟨rfl, hb⟩; have HK := Lib.hid (below_after HW.out.drew hb (Nat.le_refl _)); clear hb))
    go_wp2_with fail
    go_roundw
    case rel => exact ⟨j + 1, by go_num, by omega, Hid.out (by assumption)⟩
    case measure => simp [intOf]; omega
   ·have hd : decide (((j : Int) + 1) < (qs.length : Int)) = false := decide_eq_false (by omega)
    go_wp2_with fail
    go_ret
    exact ⟨rfl, HW.out⟩
theorem firsts_any (v : Value) (qs : List Raw) (w : World) (h : Rcs encW 4 w v qs) (hs : Sorted qs) (hl : qs.length ≤ 100000) :
  Calls Tryz.prog 152 #[v] w fun e w' => ∃ v', e = .returned v' ∧ OwnsW w' w.heap.size v' qs ∧ Below w.heap.size w w' := by
 have HI := Lib.hid h
 have HO := Lib.hid hs
 clear h hs
 go_enter Tryz.func152, Tryz.ntmps152
 go_wp2_with fail
 refine (cloneW_any v qs w HI.out hl).mono ?_
 rintro e w1 ⟨v1, rfl, ho, hb⟩
 have O1 := Lib.hid ho
 have B1 := Lib.hid hb
 clear ho hb
 go_wp2_with fail
 refine (sortStable_any v1 qs w1 (rcs_owns encW_len O1.out) HO.out hl).mono ?_
 rintro e w2 ⟨rfl, hb⟩
 have B2 := Lib.hid (below_after B1.out hb (Nat.le_refl _))
 have O2 := Lib.hid (O1.out.below hb)
 clear hb
 go_wp2_with fail
 refine (compactW_any v1 qs w2 (rcs_owns encW_len O2.out) HO.out hl).mono ?_
 rintro e w3 ⟨rfl, hb⟩
 have B3 := Lib.hid (below_after B2.out hb (Nat.le_refl _))
 have O3 := Lib.hid (O2.out.below hb)
 clear hb
 go_wp2_with fail
 go_ret
 exact ⟨_, rfl, O3.out, B3.out⟩
end Go.Proofs.YtjlnnmjhbccdoaaGreat
namespace Go.Proofs.YtjlnnmjhbccdoaaGreat.RowSets
open Go.Proofs.YtjlnnmjhbccdoaaGreat.Sets
def hd (x : Id2) : List Row → Option Row
 | [] => none
 | r :: _ => if r.1 = x then some r else none
def tl (x : Id2) : List Row → List Row
 | [] => []
 | r :: l => if r.1 = x then l else r :: l
theorem hd_cons (x : Id2) (r : Row) (l : List Row) : hd x (r :: l) = if r.1 = x then some r else none := rfl
theorem tl_cons (x : Id2) (r : Row) (l : List Row) : tl x (r :: l) = if r.1 = x then l else r :: l := rfl
def pairsL : List Id2 → List Row → List Row → List (Option Row × Option Row)
 | [], _, _ => []
 | x :: xs, a, b => (hd x a, hd x b) :: pairsL xs (tl x a) (tl x b)
def rowOf (l : List Row) (x : Id2) : Option Row := (get l x).map fun s => (x, s)
theorem hd_is {x : Id2} {xs : List Id2} {a : List Row} (ha : Up a) (hx : Rises (x :: xs)) (hs : ∀ y ∈ ids a, y ∈ x :: xs) : hd x a = rowOf a x := by
 cases a with
 | nil => rfl
 | cons r a =>
  rw [hd_cons]
  unfold rowOf
  rw [RowSets.get]
  by_cases e : r.1 = x
  ·rw [if_pos e, if_pos e, ← e]
   rfl
  ·rw [if_neg e, if_neg e]
   have hr : lt x r.1 := by
    have h1 := hs r.1 (by simp [ids])
    rcases List.mem_cons.1 h1 with h2 | h2
    ·exact absurd h2 e
    ·exact (rises_cons.1 hx).1 _ h2
   have hn : get a x = none := get_none.2 fun hm => by
    obtain ⟨u, hu, eu⟩ := List.mem_map.1 hm
    have h3 := (up_cons.1 ha).1 u hu
    rw [eu] at h3
    exact lt_asymm hr h3
   rw [hn]
   rfl
theorem tl_up {x : Id2} {a : List Row} (ha : Up a) : Up (tl x a) := by
 cases a with
 | nil => exact ha
 | cons r a =>
  rw [tl_cons]
  split
  ·exact (up_cons.1 ha).2
  ·exact ha
theorem tl_sub {x : Id2} {xs : List Id2} {a : List Row} (ha : Up a) (hx : Rises (x :: xs)) (hs : ∀ y ∈ ids a, y ∈ x :: xs) : ∀ y ∈ ids (tl x a), y ∈ xs := by
 cases a with
 | nil => intro y hy; simp [tl, ids] at hy
 | cons r a =>
  have h1 := hs r.1 (by simp [ids])
  rw [tl_cons]
  by_cases e : r.1 = x
  ·rw [if_pos e]
   intro y hy
   rcases List.mem_cons.1 (hs y (List.mem_cons_of_mem _ hy)) with h2 | h2
   ·obtain ⟨u, hu, eu⟩ := List.mem_map.1 hy
    have h3 := (up_cons.1 ha).1 u hu
    rw [eu, h2, e] at h3
    exact absurd h3 (lt_irrefl _)
   ·exact h2
  ·rw [if_neg e]
   have hr : lt x r.1 := by
    rcases List.mem_cons.1 h1 with h2 | h2
    ·exact absurd h2 e
    ·exact (rises_cons.1 hx).1 _ h2
   intro y hy
   rcases List.mem_cons.1 (hs y hy) with h2 | h2
   ·rcases List.mem_cons.1 (show y ∈ r.1 :: ids a from hy) with h3 | h3
    ·exact absurd (h3.symm.trans h2) e
    ·obtain ⟨u, hu, eu⟩ := List.mem_map.1 h3
     have h4 := (up_cons.1 ha).1 u hu
     rw [eu, h2] at h4
     exact absurd h4 (lt_asymm hr)
   ·exact h2
theorem tl_get {x y : Id2} (h : y ≠ x) (a : List Row) : get (tl x a) y = get a y := by
 cases a with
 | nil => rfl
 | cons r a =>
  rw [tl_cons]
  by_cases e : r.1 = x
  ·rw [if_pos e, RowSets.get, if_neg (fun h2 => h (h2.symm.trans e))]
  ·rw [if_neg e]
theorem pairsL_is : ∀ {xs : List Id2} {a b : List Row}, Rises xs → Up a → Up b → (∀ y ∈ ids a, y ∈ xs) → (∀ y ∈ ids b, y ∈ xs) → pairsL xs a b = xs.map fun x => (rowOf a x, rowOf b x)
 | [], _, _, _, _, _, _, _ => rfl
 | x :: xs, a, b, hx, ha, hb, hsa, hsb => by
  rw [pairsL, List.map_cons, hd_is ha hx hsa, hd_is hb hx hsb, pairsL_is (rises_cons.1 hx).2 (tl_up ha) (tl_up hb) (tl_sub ha hx hsa) (tl_sub hb hx hsb)]
  congr 1
  refine List.map_congr_left fun y hy => ?_
  have hne : y ≠ x := fun e => lt_irrefl x (by have := (rises_cons.1 hx).1 y hy; rwa [e] at this)
  unfold rowOf
  rw [tl_get hne, tl_get hne]
def joinedO : Option Row → Option Row → Row
 | some r, none => r
 | none, some s => s
 | some r, some s => if s.2.1 < r.2.1 then r else if r.2.1 < s.2.1 then s else (r.1, r.2.1, join r.2.2 s.2.2)
 | none, none => ((0, 0), 0, [])
theorem joined_two {a b : List Row} {x : Id2} (h : x ∈ ids a ∨ x ∈ ids b) : two (get a x) (get b x) = some (joinedO (rowOf a x) (rowOf b x)).2 ∧ (joinedO (rowOf a x) (rowOf b x)).1 = x := by
 unfold rowOf
 rcases ha : get a x with _ | s
 ·rcases hb : get b x with _ | t
  ·rcases h with h | h
   ·exact absurd h (get_none.1 ha)
   ·exact absurd h (get_none.1 hb)
  ·exact ⟨rfl, rfl⟩
 ·rcases hb : get b x with _ | t
  ·exact ⟨rfl, rfl⟩
  ·simp only [two, Option.map_some, joinedO]
   by_cases h1 : t.1 < s.1
   ·rw [if_pos h1, if_pos h1]; exact ⟨rfl, rfl⟩
   ·by_cases h2 : s.1 < t.1
    ·rw [if_neg h1, if_neg h1, if_pos h2, if_pos h2]; exact ⟨rfl, rfl⟩
    ·rw [if_neg h1, if_neg h1, if_neg h2, if_neg h2]; exact ⟨rfl, rfl⟩
theorem filterMap_map {f : Id2 → Option Row} {g : Id2 → Row} : ∀ {l : List Id2}, (∀ x ∈ l, f x = some (g x)) → l.filterMap f = l.map g
 | [], _ => rfl
 | x :: l, h => by
  rw [List.filterMap_cons_some (h x (List.mem_cons_self ..)), List.map_cons, filterMap_map fun y hy => h y (List.mem_cons_of_mem _ hy)]
theorem mem_pairs_sub (a b : List Row) : (∀ y ∈ ids a, y ∈ join (ids a) (ids b)) ∧ ∀ y ∈ ids b, y ∈ join (ids a) (ids b) := ⟨fun _ hy => (mem_join _ _ _).2 (.inl hy), fun _ hy => (mem_join _ _ _).2 (.inr hy)⟩
theorem joinR_pairs {a b : List Row} (ha : Up a) (hb : Up b) : (pairsL (join (ids a) (ids b)) a b).map (fun p => joinedO p.1 p.2) = joinR a b := by
 rw [pairsL_is (rises_join _ _) ha hb (mem_pairs_sub a b).1 (mem_pairs_sub a b).2, List.map_map]
 unfold joinR table join
 rw [filterMap_map (g := fun x => joinedO (rowOf a x) (rowOf b x))]
 ·rfl
 ·intro x hx
  have hm := (mem_setOf _ _).1 hx
  obtain ⟨h1, h2⟩ := joined_two (List.mem_append.1 hm)
  show (two (get a x) (get b x)).map (fun s => (x, s)) = _
  rw [h1]
  show some (x, (joinedO (rowOf a x) (rowOf b x)).2) = _
  congr 1
  exact Prod.ext h2.symm rfl
theorem pairs_some {a b : List Row} (ha : Up a) (hb : Up b) : ∀ p ∈ pairsL (join (ids a) (ids b)) a b, p.1 ≠ none ∨ p.2 ≠ none := by
 rw [pairsL_is (rises_join _ _) ha hb (mem_pairs_sub a b).1 (mem_pairs_sub a b).2]
 intro p hp
 obtain ⟨x, hx, rfl⟩ := List.mem_map.1 hp
 rcases (mem_join _ _ _).1 hx with h | h
 ·obtain ⟨s, hs⟩ := get_some h
  exact .inl (by simp [rowOf, hs])
 ·obtain ⟨s, hs⟩ := get_some h
  exact .inr (by simp [rowOf, hs])
def insertG (r : Row) : List Row → List Row
 | [] => [r]
 | u :: l => if lt u.1 r.1 then u :: insertG r l else r :: u :: l
def changeG (x : Id2) (s : Says) : List Row → List Row
 | [] => []
 | u :: l => if u.1 = x then (x, s) :: l else u :: changeG x s l
def setG (l : List Row) (of : Id2) (not : List Id2) : List Row :=
 match get l of with
 | none => if del not of = [] then l else insertG (of, 1, del not of) l
 | some s => if setOf s.2 = del not of then l else changeG of (s.1 + 1, del not of) l
theorem place_insert {r : Row} : ∀ {l : List Row}, r.1 ∉ ids l → place r l = insertG r l
 | [], _ => rfl
 | u :: l, h => by
  have h1 : u.1 ≠ r.1 := fun e => h (by simp [ids, e])
  have h2 : r.1 ∉ ids l := fun hm => h (List.mem_cons_of_mem _ hm)
  rw [place, insertG, if_neg h1, place_insert h2]
theorem place_change {x : Id2} {s : Says} : ∀ {l : List Row}, Up l → x ∈ ids l → place (x, s) l = changeG x s l
 | [], _, h => by simp [ids] at h
 | u :: l, hl, h => by
  rw [place, changeG]
  by_cases e : u.1 = x
  ·rw [if_pos e, if_pos e]
  ·have h2 : x ∈ ids l := by
    rcases List.mem_cons.1 (show x ∈ u.1 :: ids l from h) with h | h
    ·exact absurd h.symm e
    ·exact h
   have h3 : lt u.1 x := by
    obtain ⟨v, hv, ev⟩ := List.mem_map.1 h2
    rw [← ev]
    exact (up_cons.1 hl).1 v hv
   rw [if_neg e, if_neg e, if_pos h3, place_change (up_cons.1 hl).2 h2]
theorem setG_up {l : List Row} (of : Id2) (not : List Id2) (h : Up l) : setG l of not = setR l of not := by
 unfold setG setR
 rcases hg : get l of with _ | s
 ·show (if del not of = [] then l else insertG (of, 1, del not of) l) = if setOf (nots none) = wanted of not then l else place (of, vers none + 1, wanted of not) l
  by_cases e : del not of = []
  ·rw [if_pos e, if_pos (show setOf (nots none) = wanted of not from e.symm)]
  ·rw [if_neg e, if_neg (fun h2 : setOf (nots none) = wanted of not => e h2.symm), place_insert (get_none.1 hg)]
   rfl
 ·show (if setOf s.2 = del not of then l else changeG of (s.1 + 1, del not of) l) = if setOf (nots (some s)) = wanted of not then l else place (of, vers (some s) + 1, wanted of not) l
  have hm : of ∈ ids l := List.mem_map_of_mem (get_mem hg)
  by_cases e : setOf s.2 = del not of
  ·rw [if_pos e, if_pos (show setOf (nots (some s)) = wanted of not from e)]
  ·rw [if_neg e, if_neg (show ¬ setOf (nots (some s)) = wanted of not from e), place_change h hm]
   rfl
theorem rem_next {fl : List Id2} {s : List Id2} (hs : Rises s) (hm : ∀ z, z ∈ s ↔ z ∈ fl) {x : Id2} {k : Nat} (hlo : ∀ i (h : i < s.length), i < k → lt s[i] x) (hhi : ∀ i (h : i < s.length), k ≤ i → ¬ lt s[i] x) :
  rem fl x = if h : k < s.length then decide (s[k].1 = x.1) else false := by
 by_cases hk : k < s.length
 ·rw [dif_pos hk]
  have hnl := hhi k hk (Nat.le_refl _)
  by_cases e : s[k].1 = x.1
  ·rw [decide_eq_true e]
   refine List.any_eq_true.2 ⟨s[k], (hm _).1 (List.getElem_mem hk), ?_⟩
   have : x.2 ≤ s[k].2 := by unfold lt at hnl; omega
   rw [decide_eq_true e, decide_eq_true this]
   rfl
  ·rw [decide_eq_false e]
   refine List.any_eq_false.2 fun f hf => ?_
   intro hc
   rw [Bool.and_eq_true, decide_eq_true_iff, decide_eq_true_iff] at hc
   obtain ⟨i, hi, ei⟩ := List.mem_iff_getElem.1 ((hm f).2 hf)
   have h1 : k ≤ i := by
    rcases Nat.lt_or_ge i k with h | h
    ·have := hlo i hi h
     rw [ei] at this
     unfold lt at this
     omega
    ·exact h
   have h2 : s[k] = f ∨ lt s[k] f := by
    rcases Nat.lt_or_ge k i with h | h
    ·right
     rw [← ei]
     exact List.pairwise_iff_getElem.1 hs k i hk hi h
    ·left
     rw [← ei]
     congr 1
     omega
   rcases h2 with h2 | h2
   ·exact e (by rw [h2]; exact hc.1)
   ·unfold lt at h2 hnl
    omega
 ·rw [dif_neg hk]
  refine List.any_eq_false.2 fun f hf => ?_
  intro hc
  rw [Bool.and_eq_true, decide_eq_true_iff, decide_eq_true_iff] at hc
  obtain ⟨i, hi, ei⟩ := List.mem_iff_getElem.1 ((hm f).2 hf)
  have := hlo i hi (by omega)
  rw [ei] at this
  unfold lt at this
  omega
end Go.Proofs.YtjlnnmjhbccdoaaGreat.RowSets
