/-
  Plain mathematics of members and floors: what is known of one address, put together. No program is spoken of here, and no statement is proved in this text.
-/
namespace Go.Proofs.Ytciolhpkhblnbaa
namespace Ros
/-- An ID: address, life. -/
abbrev Id2 := Int × Int
/-- A member: its ID, its status, its number. -/
abbrev Mm := Id2 × Int × Int
/-- Of two numbers the lesser one above 0. -/
def elder (a b : Int) : Int := if a ≤ 0 then max b 0 else if b ≤ 0 then a else min a b
theorem elder_comm (a b : Int) : elder a b = elder b a := by unfold elder; split <;> split <;> omega
theorem elder_assoc (a b c : Int) : elder (elder a b) c = elder a (elder b c) := by unfold elder; repeat' split <;> omega
theorem elder_self {a : Int} (h : 0 ≤ a) : elder a a = a := by unfold elder; repeat' split <;> omega
theorem elder_zero {a : Int} (h : 0 ≤ a) : elder a 0 = a := by unfold elder; repeat' split <;> omega
theorem zero_elder (a : Int) : elder 0 a = max a 0 := by unfold elder; repeat' split <;> omega
theorem elder_nn (a b : Int) : 0 ≤ elder a b := by unfold elder; repeat' split <;> omega
theorem elder_max (a b : Int) : elder a (max b 0) = elder a b := by unfold elder; repeat' split <;> omega
/-- What is known of an address: its floor, its newest life, that one's status and number. -/
structure St where
  f : Int
  n : Int
  s : Int
  p : Int
deriving DecidableEq
theorem St.ext4 {x y : St} (h1 : x.f = y.f) (h2 : x.n = y.n) (h3 : x.s = y.s) (h4 : x.p = y.p) : x = y := by
  cases x; cases y; simp_all
def St.zero : St := ⟨0, 0, 0, 0⟩
/-- Two together. -/
def St.or (x y : St) : St :=
  ⟨max (max x.f y.f) (if x.n = y.n then 0 else min x.n y.n), max x.n y.n, if x.n = y.n then max x.s y.s else if x.n < y.n then y.s else x.s, if x.n = y.n then elder x.p y.p else if x.n < y.n then y.p else x.p⟩
/-- Nothing is below 0; where there is no life there is no status. -/
structure Good (x : St) : Prop where
  f0 : 0 ≤ x.f
  n0 : 0 ≤ x.n
  s0 : 0 ≤ x.s
  p0 : 0 ≤ x.p
  zs : x.n = 0 → x.s = 0
  zp : x.n = 0 → x.p = 0
theorem good_zero : Good St.zero := ⟨by decide, by decide, by decide, by decide, fun _ => rfl, fun _ => rfl⟩
theorem or_comm (x y : St) : x.or y = y.or x := by
  refine St.ext4 ?_ ?_ ?_ ?_ <;> simp only [St.or]
  · by_cases h : x.n = y.n
    · rw [if_pos h, if_pos h.symm]; omega
    · rw [if_neg h, if_neg (show ¬ y.n = x.n from fun e => h e.symm)]; omega
  · omega
  · by_cases h : x.n = y.n
    · rw [if_pos h, if_pos h.symm]; omega
    · rw [if_neg h, if_neg (show ¬ y.n = x.n from fun e => h e.symm)]
      by_cases h2 : x.n < y.n
      · rw [if_pos h2, if_neg (by omega)]
      · rw [if_neg h2, if_pos (by omega)]
  · by_cases h : x.n = y.n
    · rw [if_pos h, if_pos h.symm, elder_comm]
    · rw [if_neg h, if_neg (show ¬ y.n = x.n from fun e => h e.symm)]
      by_cases h2 : x.n < y.n
      · rw [if_pos h2, if_neg (by omega)]
      · rw [if_neg h2, if_pos (by omega)]
theorem or_n (x y : St) : (x.or y).n = max x.n y.n := rfl
theorem or_lt {x y : St} (h : x.n < y.n) : x.or y = ⟨max (max x.f y.f) x.n, y.n, y.s, y.p⟩ := by
  refine St.ext4 ?_ ?_ ?_ ?_ <;> simp only [St.or]
  · rw [if_neg (by omega)]; omega
  · omega
  · rw [if_neg (by omega), if_pos h]
  · rw [if_neg (by omega), if_pos h]
theorem or_gt {x y : St} (h : y.n < x.n) : x.or y = ⟨max (max x.f y.f) y.n, x.n, x.s, x.p⟩ := by
  rw [or_comm, or_lt h, Int.max_comm y.f x.f]
theorem or_eq {x y : St} (hx : 0 ≤ x.f) (h : x.n = y.n) : x.or y = ⟨max x.f y.f, y.n, max x.s y.s, elder x.p y.p⟩ := by
  refine St.ext4 ?_ ?_ ?_ ?_ <;> simp only [St.or]
  · rw [if_pos h]; omega
  · omega
  · rw [if_pos h]
  · rw [if_pos h]
theorem or_good {x y : St} (hx : Good x) (hy : Good y) : Good (x.or y) := by
  obtain ⟨a1, a2, a3, a4, a5, a6⟩ := hx
  obtain ⟨b1, b2, b3, b4, b5, b6⟩ := hy
  rcases Int.lt_trichotomy x.n y.n with h | h | h
  · rw [or_lt h]; exact ⟨by show 0 ≤ max (max x.f y.f) x.n; omega, b2, b3, b4, b5, b6⟩
  · rw [or_eq a1 h]
    refine ⟨by show 0 ≤ max x.f y.f; omega, b2, by show 0 ≤ max x.s y.s; omega, elder_nn _ _, fun e => ?_, fun e => ?_⟩
    · have e' : y.n = 0 := e
      show max x.s y.s = 0
      rw [a5 (by omega), b5 e']; rfl
    · have e' : y.n = 0 := e
      show elder x.p y.p = 0
      rw [a6 (by omega), b6 e']; rfl
  · rw [or_gt h]; exact ⟨by show 0 ≤ max (max x.f y.f) y.n; omega, a2, a3, a4, a5, a6⟩
theorem or_assoc {x y z : St} (hx : Good x) (hy : Good y) (hz : Good z) : (x.or y).or z = x.or (y.or z) := by
  have a := hx.f0
  have b := hy.f0
  have c := hz.f0
  have a' := hx.n0
  have b' := hy.n0
  have c' := hz.n0
  have ha := (or_good hx hy).f0
  have hb := (or_good hy hz).f0
  rcases Int.lt_trichotomy x.n y.n with h | h | h <;> rcases Int.lt_trichotomy y.n z.n with k | k | k
  · rw [or_lt h, or_lt k, or_lt (x := ⟨_, y.n, y.s, y.p⟩) (by exact k), or_lt (x := x) (by show x.n < z.n; omega)]
    refine St.ext4 ?_ rfl rfl rfl
    show max (max (max (max x.f y.f) x.n) z.f) y.n = max (max x.f (max (max y.f z.f) y.n)) x.n
    omega
  · rw [or_lt h, or_eq b k, or_eq (x := ⟨max (max x.f y.f) x.n, y.n, y.s, y.p⟩) (by show 0 ≤ max (max x.f y.f) x.n; omega) k, or_lt (x := x) (by show x.n < z.n; omega)]
    refine St.ext4 ?_ rfl rfl rfl
    show max (max (max x.f y.f) x.n) z.f = max (max x.f (max y.f z.f)) x.n
    omega
  · rw [or_lt h, or_gt k, or_gt (x := ⟨_, y.n, y.s, y.p⟩) (by exact k), or_lt (x := x) (by exact h)]
    refine St.ext4 ?_ rfl rfl rfl
    show max (max (max (max x.f y.f) x.n) z.f) z.n = max (max x.f (max (max y.f z.f) z.n)) x.n
    omega
  · rw [or_eq a h, or_lt k, or_lt (x := ⟨_, y.n, _, _⟩) (by exact k), or_lt (x := x) (by show x.n < z.n; omega)]
    refine St.ext4 ?_ rfl rfl rfl
    show max (max (max x.f y.f) z.f) y.n = max (max x.f (max (max y.f z.f) y.n)) x.n
    omega
  · rw [or_eq a h, or_eq b k, or_eq (x := ⟨max x.f y.f, y.n, max x.s y.s, elder x.p y.p⟩) (by show 0 ≤ max x.f y.f; omega) k, or_eq (x := x) a (by show x.n = z.n; omega)]
    refine St.ext4 ?_ rfl ?_ (elder_assoc _ _ _)
    · show max (max x.f y.f) z.f = max x.f (max y.f z.f)
      omega
    · show max (max x.s y.s) z.s = max x.s (max y.s z.s)
      omega
  · rw [or_eq a h, or_gt k, or_gt (x := ⟨_, y.n, _, _⟩) (by exact k), or_eq (x := x) a (by exact h)]
    refine St.ext4 ?_ rfl rfl rfl
    show max (max (max x.f y.f) z.f) z.n = max x.f (max (max y.f z.f) z.n)
    omega
  · rw [or_gt h, or_lt k]
    rcases Int.lt_trichotomy x.n z.n with m | m | m
    · rw [or_lt (x := ⟨_, x.n, x.s, x.p⟩) (by exact m), or_lt (x := x) (by exact m)]
      refine St.ext4 ?_ rfl rfl rfl
      show max (max (max (max x.f y.f) y.n) z.f) x.n = max (max x.f (max (max y.f z.f) y.n)) x.n
      omega
    · rw [or_eq (x := ⟨max (max x.f y.f) y.n, x.n, x.s, x.p⟩) (by show 0 ≤ max (max x.f y.f) y.n; omega) m, or_eq (x := x) a (by exact m)]
      refine St.ext4 ?_ rfl rfl rfl
      show max (max (max x.f y.f) y.n) z.f = max x.f (max (max y.f z.f) y.n)
      omega
    · rw [or_gt (x := ⟨_, x.n, x.s, x.p⟩) (by exact m), or_gt (x := x) (by exact m)]
      refine St.ext4 ?_ rfl rfl rfl
      show max (max (max (max x.f y.f) y.n) z.f) z.n = max (max x.f (max (max y.f z.f) y.n)) z.n
      omega
  · rw [or_gt h, or_eq b k, or_gt (x := ⟨_, x.n, x.s, x.p⟩) (by show z.n < x.n; omega), or_gt (x := x) (by show z.n < x.n; omega)]
    refine St.ext4 ?_ rfl rfl rfl
    show max (max (max (max x.f y.f) y.n) z.f) z.n = max (max x.f (max y.f z.f)) z.n
    omega
  · rw [or_gt h, or_gt k, or_gt (x := ⟨_, x.n, x.s, x.p⟩) (by show z.n < x.n; omega), or_gt (x := x) (by show y.n < x.n; omega)]
    refine St.ext4 ?_ rfl rfl rfl
    show max (max (max (max x.f y.f) y.n) z.f) z.n = max (max x.f (max (max y.f z.f) z.n)) y.n
    omega
theorem or_self {x : St} (h : Good x) : x.or x = x := by
  rw [or_eq h.f0 rfl]
  exact St.ext4 (by show max x.f x.f = x.f; omega) rfl (by show max x.s x.s = x.s; omega) (elder_self h.p0)
theorem or_zero {x : St} (h : Good x) : x.or St.zero = x := by
  have f0 := h.f0
  have n0 := h.n0
  have s0 := h.s0
  rcases Int.lt_or_le 0 x.n with k | k
  · rw [or_gt (y := St.zero) k]
    exact St.ext4 (by show max (max x.f 0) 0 = x.f; omega) rfl rfl rfl
  · have e : x.n = 0 := by omega
    rw [or_eq (y := St.zero) h.f0 e]
    exact St.ext4 (by show max x.f 0 = x.f; omega) e.symm (by show max x.s 0 = x.s; omega) (elder_zero h.p0)
theorem zero_or {x : St} (h : Good x) : St.zero.or x = x := by rw [or_comm, or_zero h]
/-- A life at its floor, or below, is none. -/
def kill (x : St) : St := if x.n ≤ x.f then ⟨x.f, 0, 0, 0⟩ else x
theorem kill_good {x : St} (h : Good x) : Good (kill x) := by
  unfold kill
  split
  · exact ⟨h.f0, Int.le_refl _, Int.le_refl _, Int.le_refl _, fun _ => rfl, fun _ => rfl⟩
  · exact h
theorem kill_kill {x : St} (h : Good x) : kill (kill x) = kill x := by
  unfold kill
  by_cases k : x.n ≤ x.f
  · rw [if_pos k]
    have := h.f0
    exact if_pos this
  · rw [if_neg k, if_neg k]
theorem kill_or {x y : St} (hx : Good x) (hy : Good y) : kill ((kill x).or y) = kill (x.or y) := by
  by_cases k : x.n ≤ x.f
  · have e : kill x = ⟨x.f, 0, 0, 0⟩ := if_pos k
    have f0 := hx.f0
    have g0 := hy.f0
    have n0 := hx.n0
    have m0 := hy.n0
    rw [e]
    rcases Int.lt_trichotomy x.n y.n with h | h | h
    · rw [or_lt h, or_lt (x := ⟨x.f, 0, 0, 0⟩) (by show 0 < y.n; omega)]
      congr 1
      exact St.ext4 (by show max (max x.f y.f) 0 = max (max x.f y.f) x.n; omega) rfl rfl rfl
    · rw [or_eq f0 h]
      have r : kill ⟨max x.f y.f, y.n, max x.s y.s, elder x.p y.p⟩ = ⟨max x.f y.f, 0, 0, 0⟩ := if_pos (by show y.n ≤ max x.f y.f; omega)
      rw [r]
      rcases Int.lt_or_le 0 y.n with m | m
      · rw [or_lt (x := ⟨x.f, 0, 0, 0⟩) m]
        have r2 : kill ⟨max (max x.f y.f) 0, y.n, y.s, y.p⟩ = ⟨max (max x.f y.f) 0, 0, 0, 0⟩ := if_pos (by show y.n ≤ max (max x.f y.f) 0; omega)
        rw [r2]
        exact St.ext4 (by show max (max x.f y.f) 0 = max x.f y.f; omega) rfl rfl rfl
      · rw [or_eq (x := ⟨x.f, 0, 0, 0⟩) f0 (by show 0 = y.n; omega)]
        exact if_pos (by show y.n ≤ max x.f y.f; omega)
    · rw [or_gt h]
      have r : kill ⟨max (max x.f y.f) y.n, x.n, x.s, x.p⟩ = ⟨max (max x.f y.f) y.n, 0, 0, 0⟩ := if_pos (by show x.n ≤ max (max x.f y.f) y.n; omega)
      rw [r]
      rcases Int.lt_or_le 0 y.n with m | m
      · rw [or_lt (x := ⟨x.f, 0, 0, 0⟩) m]
        have r2 : kill ⟨max (max x.f y.f) 0, y.n, y.s, y.p⟩ = ⟨max (max x.f y.f) 0, 0, 0, 0⟩ := if_pos (by show y.n ≤ max (max x.f y.f) 0; omega)
        rw [r2]
        exact St.ext4 (by show max (max x.f y.f) 0 = max (max x.f y.f) y.n; omega) rfl rfl rfl
      · rw [or_eq (x := ⟨x.f, 0, 0, 0⟩) f0 (by show 0 = y.n; omega)]
        have r2 : kill ⟨max x.f y.f, y.n, max 0 y.s, elder 0 y.p⟩ = ⟨max x.f y.f, 0, 0, 0⟩ := if_pos (by show y.n ≤ max x.f y.f; omega)
        rw [r2]
        exact St.ext4 (by show max x.f y.f = max (max x.f y.f) y.n; omega) rfl rfl rfl
  · have e : kill x = x := if_neg k
    rw [e]
theorem kill_or_r {x y : St} (hx : Good x) (hy : Good y) : kill (x.or (kill y)) = kill (x.or y) := by rw [or_comm, kill_or hy hx, or_comm]
/-- Many together. -/
def big (l : List St) : St := l.foldr St.or St.zero
theorem big_good {l : List St} (h : ∀ x ∈ l, Good x) : Good (big l) := by
  induction l with
  | nil => exact good_zero
  | cons x l ih => exact or_good (h x (List.mem_cons_self ..)) (ih fun y hy => h y (List.mem_cons_of_mem _ hy))
theorem big_append {l m : List St} (hl : ∀ x ∈ l, Good x) (hm : ∀ x ∈ m, Good x) : big (l ++ m) = (big l).or (big m) := by
  induction l with
  | nil => exact (zero_or (big_good hm)).symm
  | cons x l ih =>
    have hl' : ∀ y ∈ l, Good y := fun y hy => hl y (List.mem_cons_of_mem _ hy)
    show x.or (big (l ++ m)) = (x.or (big l)).or (big m)
    rw [ih hl', or_assoc (hl x (List.mem_cons_self ..)) (big_good hl') (big_good hm)]
end Ros
end Go.Proofs.Ytciolhpkhblnbaa
