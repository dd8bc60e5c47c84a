/-
  Carried over: contracts of this program's functions. No statement is proved in this text.
-/
import Derived.Test.YtkoeplgkiogjlaaXAccA
set_option maxRecDepth 20000
namespace Go.Proofs.Ytkoeplgkiogjlaa
theorem limit_start (d : Dt) (x : Int) : (d.start x).limit = d.limit := by
  unfold Dt.start
  split <;> rfl
theorem late_mono {d : Dt} {x y : Int} (h : x ≤ y) (hl : d.late x = true) : d.late y = true := by
  unfold Dt.late at *
  rw [Bool.and_eq_true] at *
  refine ⟨hl.1, ?_⟩
  have := of_decide_eq_true hl.2
  apply decide_eq_true
  unfold Dt.time clampI at *
  omega
theorem late_heard {d : Dt} (h : d.Ok) (x : Int) : (d.heard x).late x = false := by
  have h1 := Dt.limit_range (Dt.heard_ok h x)
  have h2 : (d.heard x).mn = d.mn := rfl
  have h3 := h.mn
  have h4 := h.l1
  have h5 : (d.heard x).time x - (d.heard x).la = 0 := by
    show clampI x (d.time x) 1099511627776 - d.time x = 0
    unfold Dt.time clampI
    omega
  unfold Dt.late
  rw [h5, decide_eq_false (by omega), Bool.and_false]
/-- The last time that was told, of all steps. -/
def lastI (l : List St) : Int := l.foldl (fun a s => max a (min s.2 1099511627776)) 0
theorem lastI_take {l : List St} {k : Nat} (h : k < l.length) : lastI (l.take (k + 1)) = max (lastI (l.take k)) (min l[k].2 1099511627776) := by
  unfold lastI
  rw [List.take_succ_eq_append_getElem h, List.foldl_append]
  rfl
theorem lastI_gen (l : List St) : ∀ (a : Int) (d : Dt), d.la ≤ a → a ≤ 1099511627776 → (runD d l).la ≤ l.foldl (fun a s => max a (min s.2 1099511627776)) a ∧ l.foldl (fun a s => max a (min s.2 1099511627776)) a ≤ 1099511627776 ∧ a ≤ l.foldl (fun a s => max a (min s.2 1099511627776)) a := by
  induction l with
  | nil => intro a d h1 h2; exact ⟨h1, h2, Int.le_refl _⟩
  | cons s l ih =>
    intro a d h1 h2
    have hs : (stepD d s).la ≤ max a (min s.2 1099511627776) := by
      unfold stepD Dt.start Dt.heard
      split
      · split
        · omega
        · show clampI s.2 d.la 1099511627776 ≤ _
          unfold clampI
          omega
      · show clampI s.2 d.la 1099511627776 ≤ _
        unfold clampI
        omega
    have := ih (max a (min s.2 1099511627776)) (stepD d s) hs (by omega)
    exact ⟨this.1, this.2.1, by have := this.2.2; show a ≤ l.foldl _ (max a (min s.2 1099511627776)); omega⟩
theorem runD_keeps (l : List St) : ∀ d : Dt, (runD d l).mn = d.mn ∧ (runD d l).mx = d.mx ∧ (runD d l).wi = d.wi := by
  induction l with
  | nil => intro d; exact ⟨rfl, rfl, rfl⟩
  | cons s l ih =>
    intro d
    have h1 : (stepD d s).mn = d.mn ∧ (stepD d s).mx = d.mx ∧ (stepD d s).wi = d.wi := by
      unfold stepD Dt.start Dt.heard
      split
      · split <;> exact ⟨rfl, rfl, rfl⟩
      · exact ⟨rfl, rfl, rfl⟩
    obtain ⟨e1, e2, e3⟩ := ih (stepD d s)
    exact ⟨e1.trans h1.1, e2.trans h1.2.1, e3.trans h1.2.2⟩
/-- Of somebody who was heard at a time that is no less than the last one. -/
theorem heard_la {d : Dt} {x : Int} (h1 : d.la ≤ x) (h2 : x ≤ 1099511627776) : (d.heard x).la = x := by
  show clampI x d.la 1099511627776 = x
  unfold clampI
  omega
theorem late_ticks {d : Dt} {x t : Int} (h1 : d.la = x) (h2 : d.bg = true) (h3 : 0 ≤ t) (h4 : x + t ≤ 1099511627776) : d.late (x + t) = decide (d.limit < t) := by
  unfold Dt.late Dt.time clampI
  rw [h2, h1, Bool.true_and]
  congr 2
  omega
theorem bounds_all {d : Dt} (h : d.Ok) {x t : Int} (h1 : d.la = x) (h2 : d.bg = true) (h3 : 0 ≤ t) (h4 : x + t ≤ 1099511627776) : (t ≤ d.mn → d.late (x + t) = false) ∧ (d.mx < t → d.late (x + t) = true) := by
  have := Dt.limit_range h
  rw [late_ticks h1 h2 h3 h4]
  exact ⟨fun e => decide_eq_false (by omega), fun e => decide_eq_true (by omega)⟩
theorem sum_same {l : List Int} {g : Int} (h : ∀ y ∈ l, y = g) : sumI l = l.length * g := by
  induction l with
  | nil => simp [sumI]
  | cons x l ih =>
    rw [sum_cons, ih fun y hy => h y (List.mem_cons_of_mem _ hy), h x (by simp), List.length_cons]
    rw [show ((l.length + 1 : Nat) : Int) = (l.length : Int) + 1 from rfl, Int.add_mul]
    omega
theorem mean_same {n : Nat} {g : Int} (h : 0 < n) (hg : 0 ≤ g) : (2 * ((n : Int) * g) + n - 1).tdiv n = 2 * g := by
  have h0 : 0 ≤ (n : Int) * g := Int.mul_nonneg (by omega) hg
  rw [Int.tdiv_eq_ediv_of_nonneg (by omega), show 2 * ((n : Int) * g) + n - 1 = (n - 1 : Int) + n * (2 * g) by rw [Int.mul_left_comm]; omega, Int.add_mul_ediv_left _ _ (by omega), Int.ediv_eq_zero_of_lt (by omega) (by omega)]
  omega
/-- Somebody who was heard k times, each g ticks. -/
structure Sted (mn mx wi g : Int) (k : Nat) (d : Dt) : Prop where
  mn : d.mn = mn
  mx : d.mx = mx
  wi : d.wi = wi
  same : ∀ y ∈ d.ga, y = g
  la : d.la = if k = 0 then 0 else ((k : Int) - 1) * g
  bg : d.bg = decide (0 < k)
  some : 2 ≤ k → 0 < d.ga.length
theorem Sted.first (mn mx wi g : Int) : Sted mn mx wi g 0 (Dt.new mn mx wi) := ⟨rfl, rfl, rfl, (fun y hy => by cases hy), rfl, rfl, (fun h => by omega)⟩
theorem Sted.next {mn mx wi g : Int} {k : Nat} {d : Dt} (h : Sted mn mx wi g k d) (hd : d.Ok) (hg : 0 ≤ g) (hb : (k : Int) * g ≤ 1099511627776) : Sted mn mx wi g (k + 1) (d.heard (k * g)) := by
  have hla : d.la ≤ k * g := by
    rw [h.la]
    split
    · exact Int.mul_nonneg (by omega) hg
    · exact Int.mul_le_mul_of_nonneg_right (by omega) hg
  have ht : d.time (k * g) = k * g := heard_la hla hb
  refine ⟨h.mn, h.mx, h.wi, ?_, ?_, rfl, fun hk => ?_⟩
  · show ∀ y ∈ (if d.bg = true then recd d.wi d.ga (d.time (k * g) - d.la) else d.ga), y = g
    intro y hy
    split at hy
    · rename_i hbg
      rw [h.bg] at hbg
      have hk := of_decide_eq_true hbg
      rcases recd_mem hy with hy | rfl
      · exact h.same y hy
      · rw [ht, h.la, if_neg (by omega), Int.sub_mul]
        omega
    · exact h.same y hy
  · rw [heard_la hla hb, if_neg (by omega)]
    congr 1
    omega
  · show 0 < (if d.bg = true then recd d.wi d.ga (d.time (k * g) - d.la) else d.ga).length
    rw [if_pos (by rw [h.bg]; exact decide_eq_true (by omega))]
    exact (recd_len hd.wi hd.len).2
theorem Sted.limit {mn mx wi g : Int} {k : Nat} {d : Dt} (h : Sted mn mx wi g k d) (hg : 0 ≤ g) (hk : 2 ≤ k) : d.limit = clampI (2 * g) mn mx := by
  have hp := h.some hk
  unfold Dt.limit
  rw [if_neg (by omega), sum_same h.same, mean_same hp hg, h.mn, h.mx]
/-- The last n of a list. -/
def lastn (n : Int) (l : List Int) : List Int := l.drop ((l.length : Int) - n).toNat
theorem recd_lastn {wi : Int} (h : 1 ≤ wi) (l : List Int) (x : Int) : recd wi (lastn wi l) x = lastn wi (l ++ [x]) := by
  unfold recd lastn
  rw [List.drop_drop, List.length_drop, List.length_append, List.length_singleton, List.drop_append_of_le_length (by omega)]
  congr 2
  unfold clampI
  omega
theorem lastn_more {wi : Int} {l m : List Int} (h : wi ≤ (m.length : Int)) : lastn wi (l ++ m) = lastn wi m := by
  unfold lastn
  rw [List.length_append, List.drop_append, List.drop_of_length_le (by omega), List.nil_append]
  congr 1
  omega
theorem lastn_all {wi : Int} {l : List Int} (h : (l.length : Int) ≤ wi) : lastn wi l = l := by
  unfold lastn
  rw [show ((l.length : Int) - wi).toNat = 0 by omega, List.drop_zero]
/-- A detector that was heard last at x, and whose gaps are the last ones of a list. -/
structure Win (mn mx wi : Int) (x : Int) (all : List Int) (d : Dt) : Prop where
  em : d.mn = mn
  ex : d.mx = mx
  ew : d.wi = wi
  la : d.la = x
  bg : d.bg = true
  ga : d.ga = lastn wi all
theorem Win.next {mn mx wi x g : Int} {all : List Int} {d : Dt} (h : Win mn mx wi x all d) (hw : 1 ≤ wi) (hg : 0 ≤ g) (hx : x + g ≤ 1099511627776) : Win mn mx wi (x + g) (all ++ [g]) (d.heard (x + g)) := by
  have hla : d.la ≤ x + g := by rw [h.la]; omega
  have ht : d.time (x + g) = x + g := heard_la hla hx
  refine ⟨h.em, h.ex, h.ew, heard_la hla hx, rfl, ?_⟩
  show (if d.bg = true then recd d.wi d.ga (d.time (x + g) - d.la) else d.ga) = _
  rw [if_pos h.bg, ht, h.la, h.ew, h.ga, show x + g - x = g by omega, recd_lastn hw]
/-- Whoever is heard at x, no less than the last time. -/
theorem Win.begin {d : Dt} (h : d.Ok) {x : Int} (h1 : d.la ≤ x) (h2 : x ≤ 1099511627776) : ∃ all, Win d.mn d.mx d.wi x all (d.heard x) :=
  ⟨(d.heard x).ga, rfl, rfl, rfl, heard_la h1 h2, rfl, (lastn_all (Dt.heard_ok h x).len).symm⟩
theorem Win.same {mn mx wi x : Int} {X Y all : List Int} {d c : Dt} (h : Win mn mx wi x (X ++ all) d) (k : Win mn mx wi x (Y ++ all) c) (hw : wi ≤ (all.length : Int)) : d = c := by
  obtain ⟨a1, a2, a3, a4, a5, a6⟩ := h
  obtain ⟨b1, b2, b3, b4, b5, b6⟩ := k
  rw [lastn_more hw] at a6 b6
  cases d
  cases c
  simp_all
theorem late_over {d : Dt} (h : d.Ok) (hb : d.bg = true) (hx : d.la + d.limit + 1 ≤ 1099511627776) : d.late (d.la + d.limit + 1) = true := by
  have h1 := Dt.limit_range h
  have h2 := h.mn
  rw [show d.la + d.limit + 1 = d.la + (d.limit + 1) by omega, late_ticks rfl hb (by omega) (by omega)]
  exact decide_eq_true (by omega)
end Go.Proofs.Ytkoeplgkiogjlaa
