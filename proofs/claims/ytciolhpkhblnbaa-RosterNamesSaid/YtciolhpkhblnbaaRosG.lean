/-
  Plain mathematics of members and floors: of two lives the newer one is there; what one more changes; who is the oldest. No program is spoken of here, and no statement is proved in this text.
-/
import Derived.Test.YtciolhpkhblnbaaRosF
namespace Go.Proofs.Ytciolhpkhblnbaa
namespace Ros
def newerB (x y : Mm) : Bool := decide (y.1.2 < x.1.2)
def lssB (a i b j : Int) : Bool := decide (a < b ∨ a = b ∧ i < j)
def olderB (x y : Mm) : Bool := decide (x.2.2 < y.2.2) || (decide (x.2.2 = y.2.2) && lssB x.1.1 x.1.2 y.1.1 y.1.2)
def hasNo (x : Mm) : Bool := decide (0 < x.2.2)
def isAt (y : Int) (x : Mm) : Bool := decide (x.1.1 = y)
def foreF (p : Mm → Bool) (q : Mm → Mm → Bool) (b : Option Mm) (x : Mm) : Option Mm := if p x && (match b with | none => true | some y => q x y) then some x else b
theorem foreO_is (p : Mm → Bool) (q : Mm → Mm → Bool) (l : List Mm) : foreO p q l = l.foldl (foreF p q) none := rfl
theorem fore_stay {p : Mm → Bool} {q : Mm → Mm → Bool} : ∀ {l : List Mm} (b : Option Mm), (∀ y ∈ l, p y = false) → l.foldl (foreF p q) b = b
  | [], _, _ => rfl
  | x :: l, b, h => by
    rw [List.foldl_cons]
    have hx := h x (List.mem_cons_self ..)
    have : foreF p q b x = b := by unfold foreF; rw [hx]; rfl
    rw [this]
    exact fore_stay b fun y hy => h y (List.mem_cons_of_mem _ hy)
theorem fore_one {p : Mm → Bool} {q : Mm → Mm → Bool} : ∀ {l : List Mm}, l.Pairwise (fun x y => p x = true → p y = false) → foreO p q l = l.find? p
  | [], _ => rfl
  | x :: l, h => by
    obtain ⟨h1, h2⟩ := List.pairwise_cons.1 h
    rw [foreO_is, List.foldl_cons]
    rcases hp : p x with _ | _
    · have : foreF p q none x = none := by unfold foreF; rw [hp]; rfl
      rw [this, ← foreO_is, fore_one h2, List.find?_cons_of_neg (by rw [hp]; simp)]
    · have : foreF p q none x = some x := by unfold foreF; rw [hp]; rfl
      rw [this, fore_stay _ fun y hy => h1 y hy hp, List.find?_cons_of_pos hp]
theorem at_one (S : Nat → St) (a : Int) (q : Mm → Mm → Bool) : foreO (isAt a) q (outM S) = (outM S).find? (isAt a) := fore_one ((ups_outM S).imp fun {x y} h hx => by
  have e : x.1.1 = a := of_decide_eq_true hx
  have h' : x.1.1 < y.1.1 := h
  exact decide_eq_false (by omega))
theorem at_out {S : Nat → St} {a : Int} {k : Nat} (hk : k < 13) (e : a = (k : Int)) (q : Mm → Mm → Bool) : foreO (isAt a) q (outM S) = if (S k).n ≠ 0 then some ((a, (S k).n), (S k).s, (S k).p) else none := by
  rw [at_one]
  by_cases c : (S k).n ≠ 0
  · rw [if_pos c]
    have hm : ((a, (S k).n), (S k).s, (S k).p) ∈ outM S := mem_outM.2 ⟨k, hk, c, by rw [e]⟩
    rcases hf : (outM S).find? (isAt a) with _ | z
    · have := List.find?_eq_none.1 hf _ hm
      simp [isAt] at this
    · have hz := List.mem_of_find?_eq_some hf
      have hz2 : z.1.1 = a := by simpa [isAt] using List.find?_some hf
      obtain ⟨j, hj, hjn, rfl⟩ := mem_outM.1 hz
      have hjk : (j : Int) = (k : Int) := by rw [← e, ← hz2]
      have hjk : j = k := by omega
      subst hjk
      rw [e]
  · rw [if_neg c, List.find?_eq_none]
    intro z hz hz2
    have hz2 : z.1.1 = a := by simpa [isAt] using hz2
    obtain ⟨j, hj, hjn, rfl⟩ := mem_outM.1 hz
    have hjk : (j : Int) = (k : Int) := by rw [← e, ← hz2]
    have hjk : j = k := by omega
    subst hjk
    exact c hjn
theorem at_out_none {S : Nat → St} {a : Int} (h : ∀ k : Nat, k < 13 → a ≠ (k : Int)) (q : Mm → Mm → Bool) : foreO (isAt a) q (outM S) = none := by
  rw [at_one, List.find?_eq_none]
  intro z hz hz2
  have hz2 : z.1.1 = a := by simpa [isAt] using hz2
  obtain ⟨j, hj, hjn, rfl⟩ := mem_outM.1 hz
  exact h j hj hz2.symm
theorem floor_out_none {S : Nat → St} {a : Int} (h : ∀ k : Nat, k < 13 → a ≠ (k : Int)) : floorZ (outF S) a = 0 := floorZ_none fun x hx e => by
  obtain ⟨j, hj, hjn, rfl⟩ := mem_outF.1 hx
  exact h j hj e.symm
/-- Of two lives of an address. -/
theorem life_facts (la : Ls) {a i s n j t m : Int} (hx : cnt ((a, i), s, n) = true) (hy : cnt ((a, j), t, m) = true) (hij : i < j) :
    getO (joinL la ([((a, i), s, n), ((a, j), t, m)], [])).1 (a, i) = none ∧ goneB (joinL la ([((a, i), s, n), ((a, j), t, m)], [])).2 (a, i) = true ∧
    ((goneB (joinL la ([((a, i), s, n), ((a, j), t, m)], [])).2 (a, j) = true ∧ getO (joinL la ([((a, i), s, n), ((a, j), t, m)], [])).1 (a, j) = none ∧ ∀ z, foreO (isAt a) newerB (joinL la ([((a, i), s, n), ((a, j), t, m)], [])).1 = some z → j ≤ z.1.2) ∨
     (goneB (joinL la ([((a, i), s, n), ((a, j), t, m)], [])).2 (a, j) = false ∧ ∃ st no, getO (joinL la ([((a, i), s, n), ((a, j), t, m)], [])).1 (a, j) = some ((a, j), st, no) ∧ foreO (isAt a) newerB (joinL la ([((a, i), s, n), ((a, j), t, m)], [])).1 = some ((a, j), st, no))) := by
  rw [join_is]
  have hn := jn_norm la ([((a, i), s, n), ((a, j), t, m)], [])
  obtain ⟨⟨a1, a2, i1, i2⟩, _⟩ := cnt_iff.1 hx
  obtain ⟨⟨_, _, j1, j2⟩, _⟩ := cnt_iff.1 hy
  have a1 : 1 ≤ a := a1
  have a2 : a ≤ 12 := a2
  have i1 : 1 ≤ i := i1
  have j1 : 1 ≤ j := j1
  obtain ⟨k, e⟩ : ∃ k : Nat, a = (k : Int) := ⟨a.toNat, by omega⟩
  have hk : k < 13 := by omega
  have hcy : Cov (em ((a, j), t, m)) (jn la ([((a, i), s, n), ((a, j), t, m)], []) k) := cov_jn_r (by simp) hy e
  have hlx : i ≤ (jn la ([((a, i), s, n), ((a, j), t, m)], []) k).f := by
    unfold jn
    rw [kill_f]
    refine low_or_r (low_or ?_)
    have hf : (([((a, i), s, n), ((a, j), t, m)] : List Mm).filter cnt) = [((a, i), s, n), ((a, j), t, m)] := by simp [hx, hy]
    show i ≤ (bigM k (([((a, i), s, n), ((a, j), t, m)] : List Mm).filter cnt)).f
    rw [hf, bigM_yes (x := ((a, i), s, n)) e, bigM_yes (x := ((a, j), t, m)) e]
    have h0 : (em ((a, j), t, m)).or (bigM k []) = em ((a, j), t, m) := or_zero (fit_em hy e).good
    rw [h0, or_lt (x := em ((a, i), s, n)) (y := em ((a, j), t, m)) hij]
    show i ≤ max (max _ _) i
    omega
  generalize jn la ([((a, i), s, n), ((a, j), t, m)], []) = S at *
  have hg : ∀ c : Int, goneB (out S).2 (a, c) = decide (c ≤ (S k).f) := fun c => gone_out hn hk e
  have hget : ∀ c : Int, getO (out S).1 (a, c) = if (S k).n ≠ 0 ∧ (S k).n = c then some ((a, c), (S k).s, (S k).p) else none := fun c => get_out hk e
  have hat : foreO (isAt a) newerB (out S).1 = if (S k).n ≠ 0 then some ((a, (S k).n), (S k).s, (S k).p) else none := at_out hk e newerB
  rw [hg, hg, hget, hget, hat]
  refine ⟨?_, decide_eq_true hlx, ?_⟩
  · rw [if_neg]
    rintro ⟨c1, c2⟩
    have := (hn.six c1).2.2
    omega
  · by_cases hgy : j ≤ (S k).f
    · refine .inl ⟨decide_eq_true hgy, ?_, fun z hz => ?_⟩
      · rw [if_neg]
        rintro ⟨c1, c2⟩
        have := (hn.six c1).2.2
        omega
      · by_cases c : (S k).n ≠ 0
        · rw [if_pos c] at hz
          have hz := Option.some.inj hz
          subst hz
          have := (hn.six c).2.2
          show j ≤ (S k).n
          omega
        · rw [if_neg c] at hz
          cases hz
    · right
      have h1 : (S k).n = j := by
        rcases hcy with h | h
        · exact absurd h hgy
        · exact h.1
      have h2 : (S k).n ≠ 0 := by omega
      refine ⟨decide_eq_false hgy, (S k).s, (S k).p, ?_, ?_⟩
      · rw [if_pos ⟨h2, h1⟩]
      · rw [if_pos h2, h1]
/-- What is never back. -/
theorem never_got (la lb : Ls) (y : Id2) : ∀ z, getO (joinL la lb).1 y = some z → goneB (joinL la lb).2 y = false := fun z hz => by
  rw [join_is] at *
  have hn := jn_norm la lb
  by_cases hr : ∃ k : Nat, k < 13 ∧ y.1 = (k : Int)
  · obtain ⟨k, hk, e⟩ := hr
    have hg := get_out (S := jn la lb) hk e
    rw [show (out (jn la lb)).1 = outM (jn la lb) from rfl, hg] at hz
    rw [show (out (jn la lb)).2 = outF (jn la lb) from rfl, gone_out hn hk e]
    split at hz
    · rename_i c
      have := (hn.six c.1).2.2
      exact decide_eq_false (by omega)
    · cases hz
  · have := get_out_none (S := jn la lb) (y := y) fun k hk e => hr ⟨k, hk, e⟩
    rw [show (out (jn la lb)).1 = outM (jn la lb) from rfl, this] at hz
    cases hz
theorem never_floor {la lb : Ls} {g : Id2} (h : g ∈ la.2 ∨ g ∈ lb.2) (hv : vidP g = true) : g.2 ≤ floorZ (joinL la lb).2 g.1 := by
  obtain ⟨v1, v2, v3, v4⟩ := vid_iff.1 hv
  obtain ⟨k, e⟩ : ∃ k : Nat, g.1 = (k : Int) := ⟨g.1.toNat, by omega⟩
  rw [join_is, e, show (out (jn la lb)).2 = outF (jn la lb) from rfl, floor_out (jn_norm la lb) k (by omega)]
  rcases h with h | h
  · exact low_jn_l h hv e
  · exact low_jn_r h hv e
theorem never_member {la lb : Ls} {x : Mm} (h : x ∈ la.1 ∨ x ∈ lb.1) (hc : cnt x = true) :
    (getO (joinL la lb).1 x.1 = none ∧ goneB (joinL la lb).2 x.1 = true) ∨ ∃ z, getO (joinL la lb).1 x.1 = some z ∧ x.2.1 ≤ z.2.1 ∧ (0 < x.2.2 → 0 < z.2.2 ∧ z.2.2 ≤ x.2.2) := by
  obtain ⟨⟨v1, v2, v3, v4⟩, _⟩ := cnt_iff.1 hc
  obtain ⟨k, e⟩ : ∃ k : Nat, x.1.1 = (k : Int) := ⟨x.1.1.toNat, by omega⟩
  have hk : k < 13 := by omega
  have hn := jn_norm la lb
  have hcov : Cov (em x) (jn la lb k) := by
    rcases h with h | h
    · exact cov_jn_l h hc e
    · exact cov_jn_r h hc e
  rw [join_is, show (out (jn la lb)).1 = outM (jn la lb) from rfl, show (out (jn la lb)).2 = outF (jn la lb) from rfl, get_out hk e, gone_out hn hk e]
  have e1 : (em x).n = x.1.2 := rfl
  rcases hcov with h1 | ⟨h1, h2, h3⟩
  · left
    refine ⟨?_, decide_eq_true h1⟩
    rw [if_neg]
    rintro ⟨c1, c2⟩
    have := (hn.six c1).2.2
    omega
  · right
    refine ⟨_, if_pos ⟨by omega, h1⟩, h2, fun h => ?_⟩
    have e2 : (em x).p = x.2.2 := by show max x.2.2 0 = x.2.2; omega
    rw [e2] at h3
    exact h3 h
/-- One more member changes nothing of other addresses. -/
theorem set_facts (la : Ls) (x : Mm) {a : Int} (h : a ≠ x.1.1) : foreO (isAt a) newerB (joinL la ([], [])).1 = foreO (isAt a) newerB (joinL la ([x], [])).1 ∧ floorZ (joinL la ([], [])).2 a = floorZ (joinL la ([x], [])).2 a := by
  rw [join_is, join_is]
  by_cases hr : ∃ k : Nat, k < 13 ∧ a = (k : Int)
  · obtain ⟨k, hk, e⟩ := hr
    have hs : jn la ([], []) k = jn la ([x], []) k := by
      unfold jn
      congr 2
      unfold raw
      simp only [List.filter_nil]
      rw [show bigG k [] = St.zero from rfl]
      congr 1
      by_cases hc : cnt x = true
      · rw [List.filter_cons_of_pos hc, List.filter_nil, bigM_no (by omega)]
      · rw [List.filter_cons_of_neg hc, List.filter_nil]
    refine ⟨?_, ?_⟩
    · show foreO (isAt a) newerB (outM _) = foreO (isAt a) newerB (outM _)
      rw [at_out hk e, at_out hk e, hs]
    · show floorZ (outF _) a = floorZ (outF _) a
      rw [e, floor_out (jn_norm _ _) k hk, floor_out (jn_norm _ _) k hk, hs]
  · have hr' : ∀ k : Nat, k < 13 → a ≠ (k : Int) := fun k hk e => hr ⟨k, hk, e⟩
    refine ⟨?_, ?_⟩
    · show foreO (isAt a) newerB (outM _) = foreO (isAt a) newerB (outM _)
      rw [at_out_none hr', at_out_none hr']
    · show floorZ (outF _) a = floorZ (outF _) a
      rw [floor_out_none hr', floor_out_none hr']
theorem oldest_from : ∀ (l : List Mm) (b : Option Mm), (∀ z, b = some z → 0 < z.2.2) → (∀ z, l.foldl (foreF hasNo olderB) b = some z → 0 < z.2.2) ∧ (∀ y, b = some y → ∃ z, l.foldl (foreF hasNo olderB) b = some z ∧ z.2.2 ≤ y.2.2) ∧ ∀ x ∈ l, 0 < x.2.2 → ∃ z, l.foldl (foreF hasNo olderB) b = some z ∧ z.2.2 ≤ x.2.2
  | [], b, hb => ⟨hb, fun y hy => ⟨y, hy, Int.le_refl _⟩, fun x hx => by cases hx⟩
  | x :: l, b, hb => by
    rw [List.foldl_cons]
    have hF : (foreF hasNo olderB b x = some x ∧ 0 < x.2.2 ∧ ∀ y, b = some y → x.2.2 ≤ y.2.2) ∨ (foreF hasNo olderB b x = b ∧ (0 < x.2.2 → ∃ y, b = some y ∧ y.2.2 ≤ x.2.2)) := by
      unfold foreF
      by_cases hp : 0 < x.2.2
      · have h1 : hasNo x = true := decide_eq_true hp
        rw [h1]
        rcases b with _ | y
        · exact .inl ⟨rfl, hp, fun y hy => by cases hy⟩
        · rcases hq : olderB x y with _ | _
          · right
            refine ⟨by simp [hq], fun _ => ⟨y, rfl, ?_⟩⟩
            unfold olderB at hq
            rw [Bool.or_eq_false_iff] at hq
            have := of_decide_eq_false hq.1
            omega
          · left
            refine ⟨by simp [hq], hp, fun z hz => ?_⟩
            have hz := Option.some.inj hz
            subst hz
            unfold olderB at hq
            rw [Bool.or_eq_true, Bool.and_eq_true] at hq
            rcases hq with h | h
            · have := of_decide_eq_true h; omega
            · have := of_decide_eq_true h.1; omega
      · have h1 : hasNo x = false := decide_eq_false hp
        rw [h1]
        exact .inr ⟨rfl, fun h => absurd h hp⟩
    rcases hF with ⟨e, hp, hle⟩ | ⟨e, hle⟩
    · obtain ⟨i1, i2, i3⟩ := oldest_from l (some x) (fun z hz => by have hz := Option.some.inj hz; subst hz; exact hp)
      rw [e]
      obtain ⟨z, hz, hzx⟩ := i2 x rfl
      refine ⟨i1, fun y hy => ⟨z, hz, by have := hle y hy; omega⟩, fun y hy hpy => ?_⟩
      rcases List.mem_cons.1 hy with rfl | hy
      · exact ⟨z, hz, hzx⟩
      · exact i3 y hy hpy
    · obtain ⟨i1, i2, i3⟩ := oldest_from l b hb
      rw [e]
      refine ⟨i1, i2, fun y hy hpy => ?_⟩
      rcases List.mem_cons.1 hy with rfl | hy
      · obtain ⟨y2, h1, h2⟩ := hle hpy
        obtain ⟨z, hz, hzy⟩ := i2 y2 h1
        exact ⟨z, hz, by omega⟩
      · exact i3 y hy hpy
theorem oldest_facts {l : List Mm} {x : Mm} (h : x ∈ l) (hp : 0 < x.2.2) : ∃ z, foreO hasNo olderB l = some z ∧ 1 ≤ z.2.2 ∧ z.2.2 ≤ x.2.2 := by
  obtain ⟨h1, _, h3⟩ := oldest_from l none (fun z hz => by cases hz)
  obtain ⟨z, hz, hzx⟩ := h3 x h hp
  exact ⟨z, hz, by have := h1 z hz; omega, hzx⟩
theorem next_facts (l : List Mm) : 1 ≤ nextZ l ∧ ∀ x ∈ l, x.2.2 < 1099511627776 → x.2.2 < nextZ l := by
  have h0 := topZ_nn l
  unfold nextZ
  refine ⟨by split <;> omega, fun x hx hlt => ?_⟩
  have := topZ_ge hx
  split <;> omega
end Ros
end Go.Proofs.Ytciolhpkhblnbaa
