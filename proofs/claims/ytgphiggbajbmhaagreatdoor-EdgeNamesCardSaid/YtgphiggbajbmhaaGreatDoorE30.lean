/-
  Carried over and put together: contracts of this program's functions, and plain facts. No statement is proved in this text.
-/
import Derived.Deep.DeepCutAuto
import Derived.Test.YtgphiggbajbmhaaGreatDoorE02
import Derived.Test.YtgphiggbajbmhaaGreatDoorE09
import Derived.Test.YtgphiggbajbmhaaGreatDoorE15
import Derived.Test.YtgphiggbajbmhaaGreatDoorE21
import Derived.Test.YtgphiggbajbmhaaGreatDoorE29
set_option maxRecDepth 20000
namespace Go.Proofs.YtgphiggbajbmhaaGreatDoor
open Go Go.RowKit Ros
theorem find_head {l : List Mm} {y : Id2} : l.find? (isM y) = (l.filter fun x => decide (kM x = y)).head? := by
 rw [List.head?_filter]
 rfl
theorem same_find {l m : List Mm} (h : Stab.Same kM l m) (y : Id2) : m.find? (isM y) = l.find? (isM y) := by rw [find_head, find_head, h.2 y]
theorem isM_iff {y : Id2} {x : Mm} : isM y x = true ↔ x.1 = y := by simp [isM]
theorem cptM_spec : ∀ (l : List Mm) (p : Option Id2), Stab.Sorted kM l → (∀ q, p = some q → ∀ t ∈ l, ¬ Sets.lt t.1 q) →
  Sets.Rises ((cptM p l).map (·.1)) ∧ (∀ q, p = some q → ∀ t ∈ cptM p l, Sets.lt q t.1) ∧ (∀ t ∈ cptM p l, t ∈ l) ∧ (∀ y, (∀ q, p = some q → q ≠ y) → (cptM p l).find? (isM y) = l.find? (isM y))
 | [], _, _, _ => ⟨Sets.rises_nil, (fun _ _ t h => by cases h), (fun t h => by cases h), fun _ _ => rfl⟩
 | t :: l, p, hs, hp => by
  obtain ⟨h1, h2⟩ := Stab.sorted_cons.1 hs
  rw [cptM]
  by_cases e : p = some t.1
  ·rw [if_pos e]
   obtain ⟨r1, r2, r3, r4⟩ := cptM_spec l p h2 (fun q hq x hx => hp q hq x (List.mem_cons_of_mem _ hx))
   refine ⟨r1, r2, fun x hx => List.mem_cons_of_mem _ (r3 x hx), fun y hy => ?_⟩
   rw [r4 y hy, List.find?_cons_of_neg (fun hz => hy t.1 e (isM_iff.1 hz))]
  ·rw [if_neg e]
   obtain ⟨r1, r2, r3, r4⟩ := cptM_spec l (some t.1) h2 (fun q hq x hx => by
    obtain rfl : t.1 = q := Option.some.inj hq
    exact h1 x hx)
   refine ⟨?_, ?_, ?_, ?_⟩
   ·rw [List.map_cons, Sets.rises_cons]
    refine ⟨fun y hy => ?_, r1⟩
    obtain ⟨x, hx, rfl⟩ := List.mem_map.1 hy
    exact r2 t.1 rfl x hx
   ·intro q hq x hx
    have hqt : Sets.lt q t.1 := by
     have := hp q hq t (by simp)
     rcases Sets.lt_total q t.1 with h | h | h
     ·exact h
     ·exact absurd (by rw [hq, h]) e
     ·exact absurd h this
    rcases List.mem_cons.1 hx with rfl | hx
    ·exact hqt
    ·exact Sets.lt_trans hqt (r2 t.1 rfl x hx)
   ·intro x hx
    rcases List.mem_cons.1 hx with rfl | hx
    ·exact List.mem_cons_self
    ·exact List.mem_cons_of_mem _ (r3 x hx)
   ·intro y hy
    by_cases c : t.1 = y
    ·rw [List.find?_cons_of_pos (isM_iff.2 c), List.find?_cons_of_pos (isM_iff.2 c)]
    ·rw [List.find?_cons_of_neg (fun h => c (isM_iff.1 h)), List.find?_cons_of_neg (fun h => c (isM_iff.1 h))]
     exact r4 y (fun q hq => by
      obtain rfl : t.1 = q := Option.some.inj hq
      exact c)
def idsM (l : List Mm) : List Id2 := l.map (·.1)
def firstsL (l : List Mm) : List Mm := (Sets.setOf (idsM l)).map fun y => (getO l y).getD noneM
theorem stab_lt_ne {a b : Sets.Id2} (h : Sets.lt a b) : a ≠ b := fun e => Sets.lt_irrefl a (by rw [← e] at h; exact h)
theorem getO_some {l : List Mm} {x : Mm} (h : Sets.Rises (idsM l)) (hx : x ∈ l) : getO l x.1 = some x := by
 induction l with
 | nil => cases hx
 | cons a l ih =>
  unfold idsM at h
  rw [List.map_cons, Sets.rises_cons] at h
  unfold getO
  rcases List.mem_cons.1 hx with rfl | hx
  ·exact List.find?_cons_of_pos (isM_iff.2 rfl)
  ·have hl := h.1 x.1 (List.mem_map.2 ⟨x, hx, rfl⟩)
   rw [List.find?_cons_of_neg (fun e => stab_lt_ne hl (isM_iff.1 e))]
   exact ih h.2 hx
theorem firsts_is {l M : List Mm} (h : Stab.Sorted kM M) (hs : Stab.Same kM l M) : cptM none M = firstsL l := by
 obtain ⟨r1, -, r3, r4⟩ := cptM_spec M none h (fun q hq => by cases hq)
 have hf : ∀ y, getO (cptM none M) y = getO l y := fun y => (r4 y (fun q hq => by cases hq)).trans (same_find hs y)
 have hm : idsM (cptM none M) = Sets.setOf (idsM l) := by
  refine Sets.rises_ext r1 (Sets.rises_setOf _) fun y => ?_
  rw [Sets.mem_setOf]
  constructor
  ·intro hy
   obtain ⟨x, hx, rfl⟩ := List.mem_map.1 hy
   exact List.mem_map.2 ⟨x, hs.mem.2 (r3 x hx), rfl⟩
  ·intro hy
   obtain ⟨x, hx, rfl⟩ := List.mem_map.1 hy
   have h1 := hf x.1
   have h2 : (getO l x.1).isSome := by
    unfold getO
    rw [List.find?_isSome]
    exact ⟨x, hx, isM_iff.2 rfl⟩
   rw [← h1] at h2
   obtain ⟨z, hz⟩ := Option.isSome_iff_exists.1 h2
   have h3 := List.find?_some hz
   exact List.mem_map.2 ⟨z, List.mem_of_find?_eq_some hz, isM_iff.1 h3⟩
 unfold firstsL
 rw [← hm]
 unfold idsM
 rw [List.map_map]
 conv => lhs; rw [← List.map_id (cptM none M)]
 refine List.map_congr_left fun x hx => ?_
 show x = (getO l x.1).getD noneM
 rw [← hf, getO_some r1 hx]
 rfl
theorem firstsL_len (l : List Mm) : (firstsL l).length ≤ l.length := by
 unfold firstsL
 rw [List.length_map]
 exact Nat.le_trans (Sets.setOf_len _) (by simp [idsM])
abbrev OwnsMm (w : World) (base : Nat) (v : Value) (l : List Mm) : Prop := OwnsR encM 4 34 w base v l
set_option maxHeartbeats 1000000 in
theorem cloneM_any (v : Value) (l : List Mm) (w : World) (h : Ms w v l) (hl : l.length ≤ 100000) :
  Calls Tryz.prog 165 #[v] w fun e w' => ∃ v', e = .returned v' ∧ OwnsMm w' w.heap.size v' l ∧ Below w.heap.size w w' := by
 have q24 : ∀ (w : World) (a : Option Addr) (n c n' c' : Nat), (binOp .eql 22 (.slice a n c) (.slice none n' c')).run Tryz.prog w = .ok (.bool a.isNone) w := fun w a n c n' c' => Lib.run_eql_slice_nil w _ _ a n c n' c' Tryz.underlying22
 rcases h.shape with ⟨rfl, rfl⟩ | ⟨ad, c, rfl, hc⟩
 ·go_enter Tryz.func165, Tryz.ntmps165
  go_wp2
  go_ret
  exact ⟨_, rfl, OwnsR.nil _ _ _, Below.refl _ _⟩
 ·have HI := Lib.hid h
  clear h
  go_enter Tryz.func165, Tryz.ntmps165
  go_wp2_with (at_builtin; refine wpList_append_recs 22 34 Tryz.underlying22 info32 rfl encM_len (by omega) encM_one (by omega) rfl (.tmp 5) (.tmp 6) rfl _ w.heap.size _ _ [] l rfl rfl (World.ownsRow_made w #[] 0 (Nat.le_refl _) (Nat.zero_le _) (by simp)) (HI.out.below ((Below.refl _ _).alloc (Nat.le_refl _) _)) (by simp; omega) (by simp) ?_; intro v' w' h1 h2)
  go_wp2
  go_ret
  exact ⟨_, rfl, h1, ((Below.refl _ _).alloc (Nat.le_refl _) _).trans h2⟩
theorem insertion_nil (w : World) : Calls Tryz.prog 196 #[.slice none 0 0, .int .i64 0, .int .i64 0, .func (.func 167) #[] #[]] w fun e w' => e = .returned (.tuple #[]) ∧ w = w' := by
 go_enter Tryz.func196, Tryz.ntmps196
 go_wp2_with fail
 refine wp_loop_rounds 1 ?_
 rw [rounds_succ]
 go_wp2_with fail
 go_end0
 exact ⟨rfl, rfl⟩
theorem stable_nil (w : World) : Calls Tryz.prog 180 #[.slice none 0 0, .int .i64 0, .func (.func 167) #[] #[]] w fun e w' => e = .returned (.tuple #[]) ∧ w = w' := by
 go_enter Tryz.func180, Tryz.ntmps180
 go_wp2_with fail
 refine wp_loop_rounds 1 ?_
 rw [rounds_succ]
 go_wp2_with fail
 (with_reducible refine (insertion_nil _).mono ?_)
 rintro e w' ⟨rfl, rfl⟩
 go_wp2_with fail
 refine wp_loop_rounds 1 ?_
 rw [rounds_succ]
 go_wp2_with fail
 go_end0
 exact ⟨rfl, rfl⟩
theorem sortStable_nil (w : World) : Calls Tryz.prog 166 #[.slice none 0 0, .func (.func 167) #[] #[]] w fun e w' => e = .returned (.tuple #[]) ∧ w = w' := by
 go_enter Tryz.func166, Tryz.ntmps166
 go_wp2_with fail
 (with_reducible refine (stable_nil _).mono ?_)
 rintro e w' ⟨rfl, rfl⟩
 go_wp2_with fail
 go_end0
 exact ⟨rfl, rfl⟩
theorem compact_nil (w : World) : Calls Tryz.prog 168 #[.slice none 0 0, .func (.func 169) #[] #[]] w fun e w' => e = .returned (.slice none 0 0) ∧ w = w' := by
 go_enter Tryz.func168, Tryz.ntmps168
 go_wp2_with fail
 go_ret
 exact ⟨rfl, rfl⟩
theorem ownsM_row {w : World} {base g n c : Nat} {l : List Mm} (h : OwnsMm w base (.slice (some ⟨g, 0, none⟩) n c) l) : n = l.length ∧ RowL w g l ∧ l.length ≤ c := by
 obtain ⟨A, c', hv, -, hc, -⟩ := rcs_owns encM_len h
 injection hv with e1 e2 e3
 subst e2 e3
 exact ⟨rfl, rowAtR_owns encM_len (d := l.toArray) (c := c) (by simpa using h), hc⟩
theorem firsts_anyAGR (v : Value) (l : List Mm) (w : World) (h : Ms w v l) (h20 : l.length < 20) :
  Calls Tryz.prog 139 #[v] w fun e w' => ∃ v', e = .returned v' ∧ Ms w' v' (firstsL l) ∧ Below w.heap.size w w' := by
 have hl : l.length ≤ 100000 := by omega
 have HI := Lib.hid h
 clear h
 go_enter Tryz.func139, Tryz.ntmps139
 go_wp2_with fail
 (with_reducible refine (cloneM_any v l w HI.out hl).mono ?_)
 rintro e w1 ⟨v1, rfl, ho, hb⟩
 rcases ownsR_split ho with ⟨rfl, hn⟩ | ⟨g, cap, rfl, hg, hc⟩
 ·have e0 : l = [] := List.eq_nil_of_length_eq_zero (by omega)
  subst e0
  have B1 := Lib.hid hb
  clear ho hb
  go_wp2_with fail
  (with_reducible refine (sortStable_nil _).mono ?_)
  rintro e w2 ⟨rfl, rfl⟩
  go_wp2_with fail
  (with_reducible refine (compact_nil _).mono ?_)
  rintro e w2 ⟨rfl, rfl⟩
  go_wp2_with fail
  go_ret
  exact ⟨_, rfl, Rcs.nil _, B1.out⟩
 ·obtain ⟨-, hr, hcc⟩ := ownsM_row ho
  have HR := Lib.hid hr
  have HC := Lib.hid hcc
  have B1 := Lib.hid hb
  have HG := Lib.hid (World.ownsRow.lt ho g rfl).1
  clear ho hb hr hcc hc hg
  go_wp2_with fail
  (with_reducible refine (sortStable_anyAGR g cap l w1 HR.out h20).mono ?_)
  rintro e w2 ⟨rfl, M, s1, s2, s3, s4⟩
  have S1 := Lib.hid s1
  have S2 := Lib.hid s2
  have S3 := Lib.hid s3
  have S4 := Lib.hid s4
  have HL := Lib.hid s2.1
  clear s1 s2 s3 s4 HR
  have HK : Hid (Calls Tryz.prog 168 #[.slice (some ⟨g, 0, none⟩) l.length cap, .func (.func 169) #[] #[]] w2 fun e w' => ∃ d' : Array Mm, e = .returned (.slice (some ⟨g, 0, none⟩) d'.size cap) ∧ d'.toList = cptM none M ∧ RowAtR encM 4 w' g d' ∧ w2.grownBy w' (some g)) := Lib.hid (by
   have := compact_anyAGR g cap M.toArray w2 S3.out (by have := HL.out; have := HC.out; simp; omega) (by have := HL.out; simp; omega)
   rw [show M.toArray.size = l.length by have := HL.out; simp; omega] at this
   simpa using this)
  go_wp2_with fail
  (with_reducible refine HK.out.mono ?_)
  rintro e w3 ⟨d', rfl, hd, hr, hg⟩
  have HD := Lib.hid (hd.trans (firsts_is S1.out S2.out))
  have HR := Lib.hid hr
  have HB := Lib.hid (show Below w.heap.size w w3 from B1.out.trans (below_grown (grown_trans S4.out hg) HG.out B1.out.size))
  clear hd hr hg
  have HZ : Hid (d'.size ≤ cap) := Lib.hid (by
   have h1 := firstsL_len l
   rw [← HD.out] at h1
   have := HC.out
   simp at h1
   omega)
  go_wp2_with fail
  go_ret
  exact ⟨_, rfl, by rw [← HD.out]; exact rowAtR_rcs HR.out HZ.out, HB.out⟩
end Go.Proofs.YtgphiggbajbmhaaGreatDoor
namespace Go.Proofs.YtgphiggbajbmhaaGreatDoor
namespace Agr
open Sets
abbrev Mm := Ros.Mm
abbrev Row := RowSets.Row
def st (m : List Mm) (y : Sets.Id2) : Int := ((getO m y).getD noneM).2.1
def isMem (m : List Mm) (y : Sets.Id2) : Bool := (getO m y).isSome
theorem isMem_iff {m : List Mm} {y : Sets.Id2} : isMem m y = true ↔ y ∈ idsM m := by
 unfold isMem getO idsM
 rw [List.find?_isSome, List.mem_map]
 constructor
 ·rintro ⟨x, hx, h⟩
  exact ⟨x, hx, isM_iff.1 h⟩
 ·rintro ⟨x, hx, rfl⟩
  exact ⟨x, hx, isM_iff.2 rfl⟩
theorem getO_id {m : List Mm} {y : Sets.Id2} (h : y ∈ idsM m) : ((getO m y).getD noneM).1 = y := by
 have h1 := isMem_iff.2 h
 obtain ⟨x, hx⟩ := Option.isSome_iff_exists.1 h1
 rw [hx]
 exact isM_iff.1 (List.find?_some hx)
def chosenL (p : Int → Bool) (m : List Mm) : List Sets.Id2 := ((firstsL m).filter fun x => p x.2.1).map (·.1)
theorem chosenL_is (p : Int → Bool) (m : List Mm) : chosenL p m = (setOf (idsM m)).filter fun y => p (st m y) := by
 unfold chosenL firstsL
 rw [List.filter_map, List.map_map]
 have h : ∀ y ∈ (setOf (idsM m)).filter ((fun x => p x.2.1) ∘ fun y => (getO m y).getD noneM), ((fun x : Mm => x.1) ∘ fun y => (getO m y).getD noneM) y = id y := fun y hy => getO_id ((mem_setOf _ _).1 (List.mem_filter.1 hy).1)
 rw [List.map_congr_left h, List.map_id]
 rfl
theorem rises_chosen (p : Int → Bool) (m : List Mm) : Rises (chosenL p m) := by
 rw [chosenL_is]
 exact List.Pairwise.filter _ (rises_setOf _)
theorem chosen_len (p : Int → Bool) (m : List Mm) : (chosenL p m).length ≤ m.length := by
 unfold chosenL
 rw [List.length_map]
 exact Nat.le_trans (List.length_filter_le _ _) (firstsL_len m)
def notL (m : List Mm) (rs : List Row) : List Sets.Id2 := rs.flatMap fun r => if r.1 ∈ chosenL (fun s => decide (s < 6)) m then del r.2.2 r.1 else []
def nr (m : List Mm) (rs : List Row) : List Sets.Id2 := Sets.both (notL m rs) (chosenL (fun _ => true) m)
theorem nr_len (m : List Mm) (rs : List Row) : (nr m rs).length ≤ m.length := by
 unfold nr
 rw [both_comm]
 refine Nat.le_trans (setOf_len _) (Nat.le_trans (List.length_filter_le _ _) (chosen_len _ _))
def voterB (s : Int) : Bool := decide (s = 3) || decide (s = 4)
def awaitB (s : Int) : Bool := !decide (s = 5) && !decide (s = 6)
def seenB (s l : List Sets.Id2) : Bool := decide (0 < l.length) && decide ((without l s).length = 0)
def allB (m : List Mm) (rs : List Row) (s : List Sets.Id2) : Bool := seenB s (chosenL voterB m) && decide ((Sets.both (chosenL awaitB m) (nr m rs)).length = 0)
def rankP (a b : Int) (s : Int) : Bool := decide (a ≤ s) && decide (s ≤ b)
def ofRank (m : List Mm) (rs : List Row) (a b : Int) : List Sets.Id2 := without (chosenL (rankP a b) m) (nr m rs)
def leadO (m : List Mm) (rs : List Row) : Option Sets.Id2 :=
 match ofRank m rs 3 4 with
 | y :: _ => some y
 | [] => match ofRank m rs 2 2 with
  | y :: _ => some y
  | [] => match ofRank m rs 1 1 with
   | y :: _ => some y
   | [] => none
def rk (s : Int) : Int := if s = 3 ∨ s = 4 then 1 else if s = 2 then 2 else if s = 1 then 3 else 0
end Agr
end Go.Proofs.YtgphiggbajbmhaaGreatDoor
namespace Go.Proofs.YtgphiggbajbmhaaGreatDoor
open Go Go.RowKit
theorem both_new (v u : Value) (l m : List (Int × Int)) (w : World) (h : Ids w v l) (h2 : Ids w u m) (hl : l.length ≤ 40000) (hm : m.length ≤ 40000) :
  Calls Tryz.prog 137 #[v, u] w (News (Sets.both l m) w) := by
 have HI := Lib.hid h
 have HJ := Lib.hid h2
 clear h h2
 go_enter Tryz.func137, Tryz.ntmps137
 go_wp2_with fail
 refine (chosen_new 164 _ keeps_and v u l m _ HI.out HJ.out hl hm).mono ?_
 rw [mrg_and]
 rintro e w3 ⟨r3, rfl, hi, hb⟩
 have H3 := Lib.hid hi
 have B3 := Lib.hid hb
 clear hi hb
 go_wp2_with fail
 go_ret
 exact ⟨r3, rfl, H3.out, B3.out⟩
structure AsksU (K : Nat) (caps : Array Value) (p : Int → Bool) (S : World → Prop) : Prop where
 enters : ∀ args W, (callFunc K args).run Tryz.prog W = .ok (.enter K args) W
 call : ∀ s W, S W → Calls Tryz.prog K (#[.int .u8 s] ++ caps) W fun e w' => e = .returned (.bool (p s)) ∧ Below W.heap.size W w'
 kept : ∀ W W', S W → Below W.heap.size W W' → S W'
theorem low_asks : AsksU 136 #[] (fun s => decide (s < 6)) (fun _ => True) where
 enters := fun args W => enters_fn Tryz.func136 (by kernel_rfl) rfl args W
 call := fun s W _ => by
  show Calls Tryz.prog 136 #[.int .u8 s] W _
  go_enter Tryz.func136, Tryz.ntmps136
  go_wp2_with fail
  go_ret
  exact ⟨rfl, Below.refl _ _⟩
 kept := fun _ _ _ _ => trivial
theorem all_asks : AsksU 138 #[] (fun _ => true) (fun _ => True) where
 enters := fun args W => enters_fn Tryz.func138 (by kernel_rfl) rfl args W
 call := fun s W _ => by
  show Calls Tryz.prog 138 #[.int .u8 s] W _
  go_enter Tryz.func138, Tryz.ntmps138
  go_wp2_with fail
  go_ret
  exact ⟨rfl, Below.refl _ _⟩
 kept := fun _ _ _ _ => trivial
theorem await_asks : AsksU 141 #[] Agr.awaitB (fun _ => True) where
 enters := fun args W => enters_fn Tryz.func141 (by kernel_rfl) rfl args W
 call := fun s W _ => by
  show Calls Tryz.prog 141 #[.int .u8 s] W _
  by_cases h : s = 5
  ·subst h
   go_enter Tryz.func141, Tryz.ntmps141
   go_wp2_with fail
   go_ret
   exact ⟨rfl, Below.refl _ _⟩
  ·have h1 : (s == 5) = false := by simpa using h
   have h2 : (s != 5) = true := by simpa using h
   by_cases k : s = 6
   ·subst k
    clear h h1 h2
    go_enter Tryz.func141, Tryz.ntmps141
    go_wp2_with fail
    go_ret
    exact ⟨rfl, Below.refl _ _⟩
   ·have k1 : (s == 6) = false := by simpa using k
    have k2 : (s != 6) = true := by simpa using k
    have HR := Lib.hid (show true = Agr.awaitB s by simp [Agr.awaitB, h, k])
    clear h k
    go_enter Tryz.func141, Tryz.ntmps141
    go_wp2_with fail
    go_ret
    exact ⟨ret_bool HR.out, Below.refl _ _⟩
 kept := fun _ _ _ _ => trivial
theorem voter_asks : AsksU 143 #[] Agr.voterB (fun _ => True) where
 enters := fun args W => enters_fn Tryz.func143 (by kernel_rfl) rfl args W
 call := fun s W _ => by
  show Calls Tryz.prog 143 #[.int .u8 s] W _
  by_cases h : s = 3
  ·subst h
   go_enter Tryz.func143, Tryz.ntmps143
   go_wp2_with fail
   go_ret
   exact ⟨rfl, Below.refl _ _⟩
  ·have h1 : (s == 3) = false := by simpa using h
   by_cases k : s = 4
   ·subst k
    clear h h1
    go_enter Tryz.func143, Tryz.ntmps143
    go_wp2_with fail
    go_ret
    exact ⟨rfl, Below.refl _ _⟩
   ·have k1 : (s == 4) = false := by simpa using k
    have HR := Lib.hid (show false = Agr.voterB s by simp [Agr.voterB, h, k])
    clear h k
    go_enter Tryz.func143, Tryz.ntmps143
    go_wp2_with fail
    go_ret
    exact ⟨ret_bool HR.out, Below.refl _ _⟩
 kept := fun _ _ _ _ => trivial
def RBox (w : World) (g : Nat) (a b : Int) : Prop := w.heap[g]? = some (.cells #[.int .u8 a, .int .u8 b] 118 (0, 0))
theorem rbox_cells {w : World} {g : Nat} {a b : Int} (h : RBox w g a b) : w.cell? ⟨g, 0, none⟩ = some (.int .u8 a) ∧ w.cell? ⟨g, 1, none⟩ = some (.int .u8 b) := by
 unfold RBox at h
 constructor <;> simp [World.cell?, h]
theorem rbox_lt {w : World} {g : Nat} {a b : Int} (h : RBox w g a b) : g < w.heap.size := row_lt h
theorem rbox_below {w w' : World} {g : Nat} {a b : Int} (h : RBox w g a b) (hb : Below w.heap.size w w') : RBox w' g a b := (hb.block _ (rbox_lt h)).trans h
theorem rank_asks (X : Nat) (a b : Int) : AsksU 91 #[.pointer (some ⟨X, 0, none⟩)] (Agr.rankP a b) (fun W => RBox W X a b) where
 enters := fun args W => enters_fn Tryz.func91 (by kernel_rfl) rfl args W
 call := fun s W hS => by
  show Calls Tryz.prog 91 #[.int .u8 s, .pointer (some ⟨X, 0, none⟩)] W _
  obtain ⟨c1, c2⟩ := rbox_cells hS
  clear hS
  by_cases h : a ≤ s
  ·have h1 : decide (a ≤ s) = true := decide_eq_true h
   have HR := Lib.hid (show decide (s ≤ b) = Agr.rankP a b s by simp [Agr.rankP, h1])
   clear h
   go_enter Tryz.func91, Tryz.ntmps91
   go_wp2_with fail
   go_ret
   exact ⟨ret_bool HR.out, Below.refl _ _⟩
  ·have h1 : decide (a ≤ s) = false := decide_eq_false h
   have HR := Lib.hid (show false = Agr.rankP a b s by simp [Agr.rankP, h1])
   clear h
   go_enter Tryz.func91, Tryz.ntmps91
   go_wp2_with fail
   go_ret
   exact ⟨ret_bool HR.out, Below.refl _ _⟩
 kept := fun _ _ h hb => rbox_below h hb
theorem chosen_next {p : Int → Bool} {l : List Agr.Mm} {k : Nat} (hk : k < l.length) : ((l.take (k + 1)).filter fun x => p x.2.1).map (·.1) = ((l.take k).filter fun x => p x.2.1).map (·.1) ++ if p l[k].2.1 then [l[k].1] else [] := by
 rw [List.take_succ_eq_append_getElem hk, List.filter_append, List.map_append]
 congr 1
 rcases h : p l[k].2.1 with _ | _ <;> simp [h]
set_option maxHeartbeats 2000000 in
theorem agrChosen_any {K : Nat} {caps : Array Value} {p : Int → Bool} {S : World → Prop} (hP : AsksU K caps p S) (v : Value) (V : Vw) (w : World) (h : VAt w v V) (hS : S w) (h20 : V.m.length < 20) :
  Calls Tryz.prog 90 #[v, .func (.func K) #[] caps] w (News (Agr.chosenL p V.m) w) := by
 have hl : V.m.length ≤ 100000 := by omega
 obtain ⟨a, b, c, d, e, rfl, hr⟩ := h
 have HP := Lib.hid hP
 have hK := hP.enters
 have X1 := Lib.hid (vbox_new w a b c d e)
 have BB := Lib.hid (below_one w (.cells #[.slice a.1 a.2.1 a.2.2, .slice b.1 b.2.1 b.2.2, .slice c.1 c.2.1 c.2.2, .slice d.1 d.2.1 d.2.2, .slice e.1 e.2.1 e.2.2] 27))
 have RA := Lib.hid (hr.below BB.out)
 have S1 := Lib.hid (hP.kept _ _ hS BB.out)
 obtain ⟨p0, p1, p2, p3, p4⟩ := vbox_cells X1.out
 clear hr hP hS
 go_enter Tryz.func90, Tryz.ntmps90
 go_wp2_with fail
 clear p0 p1 p2 p3 p4
 (with_reducible refine (firsts_anyAGR _ V.m _ RA.out.m h20).mono ?_)
 rintro e2 w1 ⟨v1, rfl, hm, hb⟩
 obtain ⟨A, N, cap, hv, hN⟩ : ∃ A N cap, v1 = .slice A N cap ∧ N = (firstsL V.m).length := by
  obtain ⟨A, cap, hv, -⟩ := hm
  exact ⟨A, _, cap, hv, rfl⟩
 subst hv
 have HM := Lib.hid hm
 have B1 := Lib.hid (below_after BB.out hb (Nat.le_refl _))
 have S2 := Lib.hid (HP.out.kept _ _ S1.out hb)
 have HN := Lib.hid hN
 have hNl : N ≤ 100000 := by have := firstsL_len V.m; omega
 clear hm hb hN S1 X1 RA
 have HC : Hid (Agr.chosenL p V.m = ((firstsL V.m).filter fun x => p x.2.1).map (·.1)) := Lib.hid rfl
 generalize firstsL V.m = F at *
 go_wp2_with fail
 go_loopw [12, 5] (fun s12 s5 wr => ∃ k : Nat, s12 = .int .i64 k ∧ k ≤ N ∧ Hid (Owns wr w1.heap.size s5 (((F.take k).filter fun x => p x.2.1).map (·.1))) ∧ Hid (Below w1.heap.size w1 wr) ∧ Hid (Below w.heap.size w wr)) (fun s12 _ _ => N - (intOf s12).toNat)
 case atStart => exact ⟨0, rfl, by omega, Lib.hid (owns_nil _ _), Lib.hid (Below.refl _ _), B1⟩
 case round =>
  obtain ⟨k, rfl, hk, HO, HB, HW⟩ := hrel
  by_cases hlt : k < N
  ·have hd : decide ((k : Int) < (N : Int)) = true := decide_eq_true (by omega)
   have i3 : (0 : Int) ≤ (k : Int) := by omega
   have i4 : (k : Int) < (N : Int) := by omega
   have hkF : k < F.length := by have := HN.out; omega
   obtain ⟨ad, rfl, c1, c2, c3, c4⟩ := HM.out.at_ HB.out hkF
   have HNx := Lib.hid (chosen_next (p := p) hkF)
   have S3 := Lib.hid (HP.out.kept _ _ S2.out HB.out)
   have HCall := Lib.hid fun W (hs : S W) => HP.out.call F[k].2.1 W hs
   have HX := Lib.hid (mbox_new wr F[k].1.1 F[k].1.2 F[k].2.1 F[k].2.2)
   have BX := Lib.hid (below_one wr (.cells #[.int .i64 F[k].1.1, .int .i64 F[k].1.2, .int .u8 F[k].2.1, .int .i64 F[k].2.2] 34))
   have SX := Lib.hid (HP.out.kept _ _ S3.out BX.out)
   have HE : Hid (F[k].1 = (F[k].1.1, F[k].1.2)) := Lib.hid rfl
   rw [HE.out] at HNx
   have hOl : (((F.take k).filter fun x => p x.2.1).map (·.1)).length ≤ k := by
    rw [List.length_map]
    exact Nat.le_trans (List.length_filter_le _ _) (List.length_take_le _ _)
   have HOl := Lib.hid hOl
   clear HE hOl
   generalize F[k].1.1 = x1 at *
   generalize F[k].1.2 = x2 at *
   generalize F[k].2.1 = x3 at *
   generalize F[k].2.2 = x4 at *
   clear hkF
   rcases hp : p x3 with _ | _
   ·rw [hp] at HNx HCall
    clear hp
    go_wp2_with fail
    (with_reducible refine (HCall.out _ SX.out).mono ?_)
    rintro e3 w2 ⟨rfl, hb⟩
    have B2 := Lib.hid (below_after BX.out hb (Nat.le_refl _))
    have O2 := Lib.hid (HO.out.below B2.out)
    clear hb
    have HNy := Lib.hid (HNx.out.trans (List.append_nil _))
    go_wp2_with fail
    go_roundw
    case rel => exact ⟨k + 1, by go_num, by omega, Lib.hid (by rw [HNy.out]; exact O2.out), Lib.hid (below_after HB.out B2.out (Nat.le_refl _)), Lib.hid (below_after HW.out B2.out (Nat.le_refl _))⟩
    case measure => simp [intOf]; omega
   ·rw [hp] at HNx HCall
    clear hp
    go_wp2_with fail
    (with_reducible refine (HCall.out _ SX.out).mono ?_)
    rintro e3 w2 ⟨rfl, hb⟩
    have B2 := Lib.hid (below_after BX.out hb (Nat.le_refl _))
    have O2 := Lib.hid (HO.out.below B2.out)
    have X2 := Lib.hid (mbox_below HX.out hb)
    have W2 := Lib.hid (below_after HW.out B2.out (Nat.le_refl _))
    have Z2 := Lib.hid (below_after HB.out B2.out (Nat.le_refl _))
    obtain ⟨m1, m2, m3, m4⟩ := mbox_cells X2.out
    clear hb c1 c2 c3 c4
    go_wp2_with (first | (at_builtin; refine wpList_append_one rfl (.tmp 20) (.tmp 23) rfl w2 w1.heap.size _ _ x1 x2 rfl rfl O2.out (by have := HOl.out; omega) Z2.out.size ?_; intro v9 w9 h1 h2))
    have HNy := Lib.hid (HNx.out.trans (show _ = _ ++ [(x1, x2)] from rfl))
    refine ⟨⟨k + 1, by go_num, by omega, Lib.hid (by rw [HNy.out]; exact h1), Lib.hid (Z2.out.trans h2), Lib.hid (W2.out.trans (h2.mono B1.out.size))⟩, by simp [intOf]; omega⟩
  ·have hd : decide ((k : Int) < (N : Int)) = false := decide_eq_false (by omega)
   go_wp2_with fail
   go_ret
   exact ⟨_, rfl, by
    rw [HC.out]
    have := HO.out
    rw [List.take_of_length_le (show F.length ≤ k by have := HN.out; omega)] at this
    exact this.mono B1.out.size, HW.out⟩
end Go.Proofs.YtgphiggbajbmhaaGreatDoor
namespace Go.Proofs.YtgphiggbajbmhaaGreatDoor
open Go Go.RowKit
structure FitA (V : Vw) : Prop where
 m : V.m.length < 20
 r : V.r.length ≤ 1000
 s : V.s.length ≤ 1000
 n : (V.r.map fun r => r.2.2.length).sum ≤ 30000
theorem notL_len (m : List Agr.Mm) : ∀ rs : List Agr.Row, (Agr.notL m rs).length ≤ (rs.map fun r => r.2.2.length).sum
 | [] => Nat.le_refl _
 | r :: rs => by
  have ih := notL_len m rs
  unfold Agr.notL at ih ⊢
  rw [List.flatMap_cons, List.length_append, List.map_cons, List.sum_cons]
  have h : (if r.1 ∈ Agr.chosenL (fun s => decide (s < 6)) m then Sets.del r.2.2 r.1 else []).length ≤ r.2.2.length := by
   split
   ·exact Nat.le_trans (Sets.setOf_len _) (List.length_filter_le _ _)
   ·simp
  omega
theorem sum_take {l : List Nat} (k : Nat) : (l.take k).sum ≤ l.sum := by
 conv => rhs; rw [← List.take_append_drop k l]
 rw [List.sum_append]
 omega
theorem sum_at {l : List Nat} {k : Nat} (h : k < l.length) : (l.take k).sum + l[k] ≤ l.sum := by
 have := sum_take (l := l) (k + 1)
 rw [List.take_succ_eq_append_getElem h, List.sum_append] at this
 simpa using this
theorem notL_next {m : List Agr.Mm} {rs : List Agr.Row} {k : Nat} (hk : k < rs.length) : Agr.notL m (rs.take (k + 1)) = Agr.notL m (rs.take k) ++ if hasB rs[k].1 (Agr.chosenL (fun s => decide (s < 6)) m) then Sets.del rs[k].2.2 rs[k].1 else [] := by
 unfold Agr.notL
 rw [List.take_succ_eq_append_getElem hk, List.flatMap_append]
 congr 1
 rw [List.flatMap_singleton]
 unfold hasB
 by_cases c : rs[k].1 ∈ Agr.chosenL (fun s => decide (s < 6)) m <;> simp [c]
structure AgV (g : Nat) (a b c d e : SL) (V : Vw) (W : World) : Prop where
 x : VBox W g a b c d e
 r : RV W a b c d e V
theorem AgV.below {g : Nat} {a b c d e : SL} {V : Vw} {W W' : World} (h : AgV g a b c d e V W) (hb : Below W.heap.size W W') : AgV g a b c d e V W' := ⟨vbox_below h.x hb, h.r.below hb⟩
theorem agV_new {w : World} {a b c d e : SL} {V : Vw} (hr : RV w a b c d e V) : AgV w.heap.size a b c d e V (w.alloc (.cells #[.slice a.1 a.2.1 a.2.2, .slice b.1 b.2.1 b.2.2, .slice c.1 c.2.1 c.2.2, .slice d.1 d.2.1 d.2.2, .slice e.1 e.2.1 e.2.2] 27)) := ⟨vbox_new w a b c d e, hr.below (below_one w _)⟩
theorem AgV.at_ {g : Nat} {a b c d e : SL} {V : Vw} {W : World} (h : AgV g a b c d e V W) : VAt W (.agg #[.slice a.1 a.2.1 a.2.2, .slice b.1 b.2.1 b.2.2, .slice c.1 c.2.1 c.2.2, .slice d.1 d.2.1 d.2.2, .slice e.1 e.2.1 e.2.2]) V := h.r.at_
set_option maxHeartbeats 4000000 in
theorem notReached_any (v : Value) (V : Vw) (w : World) (h : VAt w v V) (hV : FitA V) :
  Calls Tryz.prog 89 #[v] w (News (Agr.nr V.m V.r) w) := by
 obtain ⟨a, b, c, d, e, rfl, hr⟩ := h
 have G1 := Lib.hid (agV_new hr)
 have BB := Lib.hid (below_one w (.cells #[.slice a.1 a.2.1 a.2.2, .slice b.1 b.2.1 b.2.2, .slice c.1 c.2.1 c.2.2, .slice d.1 d.2.1 d.2.2, .slice e.1 e.2.1 e.2.2] 27))
 have HV := Lib.hid hV
 have hcl := rows_len hr.r
 have hc1 : c.2.1 ≤ 1000 := by rw [hcl]; exact hV.r
 have HCL := Lib.hid hcl
 clear hr hV hcl
 obtain ⟨p0, p1, p2, p3, p4⟩ := vbox_cells G1.out.x
 go_enter Tryz.func89, Tryz.ntmps89
 go_wp2_with fail
 generalize w.alloc (.cells #[.slice a.1 a.2.1 a.2.2, .slice b.1 b.2.1 b.2.2, .slice c.1 c.2.1 c.2.2, .slice d.1 d.2.1 d.2.2, .slice e.1 e.2.1 e.2.2] 27) = w1 at *
 obtain ⟨g, hg⟩ : ∃ g, g = w.heap.size := ⟨_, rfl⟩
 rw [← hg] at G1 p0 p1 p2 p3 p4
 rw [← hg]
 clear p0 p1 p2 p3 p4
 (with_reducible refine (agrChosen_any low_asks _ V w1 G1.out.at_ trivial HV.out.m).mono ?_)
 rintro e2 w2 ⟨v1, rfl, ho, hb⟩
 have G2 := Lib.hid (G1.out.below hb)
 have B2 := Lib.hid (below_after BB.out hb (Nat.le_refl _))
 have I2 := Lib.hid (ids_of_owns ho)
 clear ho hb G1 hg
 obtain ⟨p0, p1, p2, p3, p4⟩ := vbox_cells G2.out.x
 go_wp2_with fail
 clear p0 p1 p2 p3 p4
 go_loopw [14, 4] (fun s14 s4 wr => ∃ k : Nat, s14 = .int .i64 k ∧ k ≤ c.2.1 ∧ Hid (Owns wr w2.heap.size s4 (Agr.notL V.m (V.r.take k))) ∧ Hid (Below w2.heap.size w2 wr)) (fun s14 _ _ => c.2.1 - (intOf s14).toNat)
 case atStart => exact ⟨0, rfl, by omega, Lib.hid (owns_nil _ _), Lib.hid (Below.refl _ _)⟩
 case round =>
  obtain ⟨k, rfl, hk, HO, HB⟩ := hrel
  by_cases hlt : k < c.2.1
  ·have hd : decide ((k : Int) < (c.2.1 : Int)) = true := decide_eq_true (by omega)
   have i3 : (0 : Int) ≤ (k : Int) := by omega
   have i4 : (k : Int) < (c.2.1 : Int) := by omega
   have hkr : k < V.r.length := by have := HCL.out; omega
   obtain ⟨ad, B, x, y, hA, hs, hc⟩ := rows_cells G2.out.r.r hkr
   have HA := Lib.hid hA
   have HS := Lib.hid hs
   obtain ⟨c1, c2, c3, c4⟩ := hc _ HB.out
   have HNx := Lib.hid (notL_next (m := V.m) hkr)
   have HLen : Hid ((Agr.notL V.m (V.r.take k)).length + V.r[k].2.2.length ≤ 30000) := Lib.hid (by
    have h1 := notL_len V.m (V.r.take k)
    have h2 := sum_at (l := V.r.map fun r => r.2.2.length) (k := k) (by simpa using hkr)
    have h3 := HV.out.n
    have h4 : ((V.r.take k).map fun r => r.2.2.length).sum + V.r[k].2.2.length ≤ (V.r.map fun r => r.2.2.length).sum := by
     rw [List.map_take]
     simpa using h2
    exact Nat.le_trans (Nat.add_le_add_right h1 _) (Nat.le_trans h4 h3))
   have HE : Hid (V.r[k].1 = (V.r[k].1.1, V.r[k].1.2)) := Lib.hid rfl
   rw [HE.out] at HNx
   clear hA hs hc HE
   generalize V.r[k].1.1 = x1 at *
   generalize V.r[k].1.2 = x2 at *
   generalize V.r[k].2.1 = x3 at *
   generalize V.r[k].2.2 = not at *
   have HX := Lib.hid (wbox_new wr x1 x2 x3 (.slice B x y))
   have BX := Lib.hid (below_one wr (.cells #[.int .i64 x1, .int .i64 x2, .int .i64 x3, .slice B x y] 65))
   have IX := Lib.hid ((I2.out.below HB.out).below BX.out)
   clear hkr
   rw [HA.out]
   rcases hh : hasB (x1, x2) (Agr.chosenL (fun s => decide (s < 6)) V.m) with _ | _
   ·have HH := Lib.hid hh
    rw [hh] at HNx
    clear hh
    go_wp2_with fail
    (with_reducible refine (bin_any _ _ x1 x2 _ IX.out (Agr.rises_chosen _ _) (by have := Agr.chosen_len (fun s => decide (s < 6)) V.m; have := HV.out.m; omega)).mono ?_)
    rw [HH.out]
    rintro e3 w3 ⟨z, rfl, -, hb⟩
    have B3 := Lib.hid (below_after BX.out hb (Nat.le_refl _))
    have O3 := Lib.hid (HO.out.below B3.out)
    clear hb c1 c2 c3 c4
    have HNy := Lib.hid (HNx.out.trans (List.append_nil _))
    go_wp2_with fail
    go_roundw
    case rel => exact ⟨k + 1, by go_num, by omega, Lib.hid (by rw [HNy.out]; exact O3.out), Lib.hid (below_after HB.out B3.out (Nat.le_refl _))⟩
    case measure => simp [intOf]; omega
   ·have HH := Lib.hid hh
    rw [hh] at HNx
    clear hh
    go_wp2_with fail
    (with_reducible refine (bin_any _ _ x1 x2 _ IX.out (Agr.rises_chosen _ _) (by have := Agr.chosen_len (fun s => decide (s < 6)) V.m; have := HV.out.m; omega)).mono ?_)
    rw [HH.out]
    rintro e3 w3 ⟨z, rfl, -, hb⟩
    have B3 := Lib.hid (below_after BX.out hb (Nat.le_refl _))
    have X3 := Lib.hid (wbox_below HX.out hb)
    have S3 := Lib.hid ((HS.out.below HB.out).below B3.out)
    obtain ⟨m1, m2, m3, m4⟩ := wbox_cells X3.out
    clear hb c1 c2 c3 c4
    go_wp2_with fail
    (with_reducible refine (del_new _ not x1 x2 w3 S3.out (by have := HLen.out; omega)).mono ?_)
    rintro e4 w4 ⟨v4, rfl, ho, hb⟩
    have B4 := Lib.hid (below_after B3.out hb (Nat.le_refl _))
    have O4 := Lib.hid (HO.out.below B4.out)
    have I4 := Lib.hid (ids_of_owns ho)
    have Z4 := Lib.hid (below_after HB.out B4.out (Nat.le_refl _))
    clear ho hb m1 m2 m3 m4
    have HL4 : Hid ((Agr.notL V.m (V.r.take k)).length + (Sets.del not (x1, x2)).length ≤ 100000) := Lib.hid (by
     have := HLen.out
     have : (Sets.del not (x1, x2)).length ≤ not.length := Nat.le_trans (Sets.setOf_len _) (List.length_filter_le _ _)
     omega)
    have HNy := Lib.hid (HNx.out.trans (show _ = _ ++ Sets.del not (x1, x2) from rfl))
    go_wp2_with (first | (at_builtin; refine wpList_append_list rfl (.tmp 26) (.tmp 31) rfl w4 w2.heap.size _ _ _ _ rfl rfl O4.out I4.out HL4.out Z4.out.size ?_; intro v9 w9 h1 h2))
    refine ⟨⟨k + 1, by go_num, by omega, Lib.hid (by rw [HNy.out]; exact h1), Lib.hid (Z4.out.trans h2)⟩, by simp [intOf]; omega⟩
  ·have hd : decide ((k : Int) < (c.2.1 : Int)) = false := decide_eq_false (by omega)
   have O1 : Hid (Owns wr w2.heap.size u4 (Agr.notL V.m V.r)) := Lib.hid (by
    have := HO.out
    rwa [List.take_of_length_le (by have := HCL.out; omega)] at this)
   have G3 := Lib.hid (G2.out.below HB.out)
   obtain ⟨p0, p1, p2, p3, p4⟩ := vbox_cells G3.out.x
   go_wp2_with fail
   clear p0 p1 p2 p3 p4
   (with_reducible refine (agrChosen_any all_asks _ V wr G3.out.at_ trivial HV.out.m).mono ?_)
   rintro e3 w3 ⟨v3, rfl, ho, hb⟩
   have I3 := Lib.hid (ids_of_owns ho)
   have O3 := Lib.hid (ids_of_owns (O1.out.below hb))
   have B3 := Lib.hid (below_after (below_after B2.out HB.out (Nat.le_refl _)) hb (Nat.le_refl _))
   clear ho hb
   go_wp2_with fail
   (with_reducible refine (both_new _ _ _ _ w3 O3.out I3.out (Nat.le_trans (notL_len V.m V.r) (Nat.le_trans HV.out.n (by omega))) (by have := Agr.chosen_len (fun _ => true) V.m; have := HV.out.m; omega)).mono ?_)
   rintro e4 w4 ⟨v4, rfl, ho, hb⟩
   have O4 := Lib.hid (ho.mono B3.out.size)
   have B4 := Lib.hid (below_after B3.out hb (Nat.le_refl _))
   clear ho hb
   go_wp2_with fail
   go_ret
   exact ⟨_, rfl, O4.out, B4.out⟩
end Go.Proofs.YtgphiggbajbmhaaGreatDoor
