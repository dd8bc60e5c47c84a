/-
  Plain mathematics of members and floors: what comes of Join may be; what it says of an address covers what was said. No program is spoken of here, and no statement is proved in this text.
-/
import Derived.Test.YtciolhpkhblnbaaRosE
namespace Go.Proofs.Ytciolhpkhblnbaa
namespace Ros
theorem ups_range {α : Type} {h : Nat → Option α} {key : α → Int} (hk : ∀ j y, h j = some y → key y = (j : Int)) : ∀ m, Ups key ((List.range m).filterMap h) ∧ ∀ y ∈ (List.range m).filterMap h, key y < (m : Int)
  | 0 => ⟨List.Pairwise.nil, fun y hy => by cases hy⟩
  | m + 1 => by
    obtain ⟨h1, h2⟩ := ups_range hk m
    rw [List.range_succ, List.filterMap_append]
    refine ⟨List.pairwise_append.2 ⟨h1, ?_, fun x hx y hy => ?_⟩, fun y hy => ?_⟩
    · cases e : h m <;> simp [e]
    · cases e : h m with
      | none => simp [e] at hy
      | some z =>
        simp [e] at hy
        subst hy
        have := h2 x hx
        rw [hk m y e]
        exact this
    · rcases List.mem_append.1 hy with hy | hy
      · have := h2 y hy; omega
      · cases e : h m with
        | none => simp [e] at hy
        | some z =>
          simp [e] at hy
          subst hy
          rw [hk m y e]
          omega
theorem ups_outM (S : Nat → St) : Ups (fun x : Mm => x.1.1) (outM S) := (ups_range (key := fun x : Mm => x.1.1) (fun j y hj => by
  split at hj
  · cases hj
  · rw [← Option.some.inj hj]) 13).1
theorem ups_outF (S : Nat → St) : Ups (fun x : Id2 => x.1) (outF S) := (ups_range (key := fun x : Id2 => x.1) (fun j y hj => by
  split at hj
  · cases hj
  · rw [← Option.some.inj hj]) 13).1
theorem floor_out {S : Nat → St} (h : Norm S) (k : Nat) (hk : k < 13) : floorZ (outF S) (k : Int) = (S k).f := by
  have f0 := (h k).1.good.f0
  rw [floor_big k (outF_vid h)]
  unfold bigG outF
  rw [filter_range (key := fun x : Id2 => x.1) (fun j y hj => by
    split at hj
    · cases hj
    · rw [← Option.some.inj hj]) k 13, if_pos hk]
  by_cases e : (S k).f ≤ 0
  · rw [if_pos e]
    show (0 : Int) = (S k).f
    omega
  · rw [if_neg e]
    show ((eg ((k : Int), (S k).f)).or St.zero).f = (S k).f
    rw [or_eq (x := eg ((k : Int), (S k).f)) (y := St.zero) f0 rfl]
    show max (S k).f 0 = (S k).f
    omega
theorem floorZ_none {f : List Id2} {a : Int} (h : ∀ x ∈ f, x.1 ≠ a) : floorZ f a = 0 := by
  induction f with
  | nil => rfl
  | cons x l ih =>
    rw [floorZ_cons, if_neg (h x (List.mem_cons_self ..))]
    exact ih fun y hy => h y (List.mem_cons_of_mem _ hy)
theorem adj_of {α : Type} [Inhabited α] {key : α → Int} {l : List α} (h : Ups key l) {k : Nat} (hk : k < l.length) (h0 : k ≠ 0) : key l[k - 1]! < key l[k]! := by
  rw [getElem!_pos l k hk, getElem!_pos l (k - 1) (by omega)]
  exact List.pairwise_iff_getElem.1 h (k - 1) k (by omega) hk (by omega)
theorem may_of {m : List Mm} {f : List Id2} (h : Valid m f) : mayB m f = true := by
  refine mayB_yes (mayF_yes fun k hk => ?_) fun k hk => ?_
  · unfold okF
    rw [Bool.and_eq_true, Bool.or_eq_true]
    refine ⟨?_, ?_⟩
    · rw [getElem!_pos f k hk]; exact h.fv _ (List.getElem_mem hk)
    · by_cases e : k = 0
      · exact .inl (decide_eq_true e)
      · exact .inr (decide_eq_true (adj_of (key := fun x : Id2 => x.1) h.fu hk e))
  · unfold okM
    have := h.mv m[k]! (by rw [getElem!_pos m k hk]; exact List.getElem_mem hk)
    rw [this.1, this.2.1, this.2.2]
    simp only [Bool.true_and, Bool.not_false]
    rw [Bool.or_eq_true]
    by_cases e : k = 0
    · exact .inl (decide_eq_true e)
    · exact .inr (decide_eq_true (adj_of (key := fun x : Mm => x.1.1) h.mu hk e))
/-- A number that one of its status may have, whatever it was. -/
def fixM (x : Mm) : Mm := (x.1, x.2.1, if x.2.1 = 3 ∨ x.2.1 = 4 then 1 else 0)
theorem valid_outF {S : Nat → St} (h : Norm S) (g : Mm → Mm) (hg : ∀ x, (g x).1 = x.1) (hn : ∀ x ∈ outM S, mayNum (g x).2.1 (g x).2.2 = true) : Valid ((outM S).map g) (outF S) := by
  refine ⟨outF_vid h, ups_outF S, fun x hx => ?_, ?_⟩
  · obtain ⟨y, hy, rfl⟩ := List.mem_map.1 hx
    have hc := outM_cnt h y hy
    obtain ⟨k, hk, hkn, rfl⟩ := mem_outM.1 hy
    rw [hg]
    refine ⟨?_, hn _ hy, ?_⟩
    · have := cnt_iff.1 hc
      exact vid_iff.2 this.1
    · unfold goneB
      show decide ((S k).n ≤ floorZ (outF S) (k : Int)) = false
      rw [floor_out h k hk]
      have := (h.six hkn).2.2
      exact decide_eq_false (by omega)
  · unfold Ups
    rw [List.pairwise_map]
    simp only [hg]
    exact ups_outM S
theorem fix_may {S : Nat → St} (h : Norm S) : mayB ((outM S).map fixM) (outF S) = true := may_of (valid_outF h fixM (fun _ => rfl) fun x hx => by
  obtain ⟨k, hk, hkn, rfl⟩ := mem_outM.1 hx
  have := h.six hkn
  refine mayNum_yes ?_
  show 1 ≤ (S k).s ∧ (S k).s ≤ 6 ∧ _
  simp only [fixM]
  split <;> omega)
def NumOk (x : St) : Prop := x.n ≠ 0 → mayNum x.s x.p = true
theorem numOk_or {x y : St} (gx : Good x) (hx : NumOk x) (hy : NumOk y) : NumOk (x.or y) := by
  rcases Int.lt_trichotomy x.n y.n with h | h | h
  · rw [or_lt h]; exact hy
  · rw [or_eq gx.f0 h]
    intro hn
    have hn' : y.n ≠ 0 := hn
    have c1 := mayNum_cases (hx (by omega))
    have c2 := mayNum_cases (hy hn')
    refine mayNum_yes ?_
    show 1 ≤ max x.s y.s ∧ max x.s y.s ≤ 6 ∧ 0 ≤ elder x.p y.p ∧ elder x.p y.p ≤ 1099511627776 ∧ ((max x.s y.s = 1 ∨ max x.s y.s = 2) → elder x.p y.p = 0) ∧ ((max x.s y.s = 3 ∨ max x.s y.s = 4) → 1 ≤ elder x.p y.p)
    have e1 : x.p = 0 → elder x.p y.p = y.p := fun h => by unfold elder; split <;> (try split) <;> omega
    have e2 : y.p = 0 → elder x.p y.p = x.p := fun h => by unfold elder; split <;> (try split) <;> omega
    have e3 : 0 < x.p → 0 < y.p → elder x.p y.p = min x.p y.p := fun h h' => by unfold elder; split <;> (try split) <;> omega
    omega
  · rw [or_gt h]; exact hx
theorem numOk_big {k : Nat} {ms : List Mm} (hc : AllC ms) (h : ∀ x ∈ ms, mayNum x.2.1 x.2.2 = true) : NumOk (bigM k ms) := by
  induction ms with
  | nil => exact fun h => absurd rfl h
  | cons x l ih =>
    have ih := ih (fun y hy => hc y (List.mem_cons_of_mem _ hy)) (fun y hy => h y (List.mem_cons_of_mem _ hy))
    by_cases e : x.1.1 = (k : Int)
    · rw [bigM_yes e]
      refine numOk_or (fit_em (hc x (List.mem_cons_self ..)) e).good (fun _ => ?_) ih
      have hx := h x (List.mem_cons_self ..)
      have := mayNum_cases hx
      show mayNum x.2.1 (max x.2.2 0) = true
      rw [Int.max_eq_left (by omega)]
      exact hx
    · rw [bigM_no e]; exact ih
theorem numOk_raw {a : Ls} (h : mayB a.1 a.2 = true) (k : Nat) : NumOk (raw a k) := by
  have hv := valid_of h
  unfold raw
  rw [filter_all hv.cnt, filter_all (show ∀ x ∈ a.2, vidP x = true from hv.fv), bigM_bigG hv.cnt hv.fv]
  exact numOk_big hv.cnt fun x hx => (hv.mv x hx).2.1
theorem valid_join {a b : Ls} (ha : mayB a.1 a.2 = true) (hb : mayB b.1 b.2 = true) : mayB (joinL a b).1 (joinL a b).2 = true := by
  have hn := norm_join a b
  have := may_of (valid_outF hn id (fun _ => rfl) fun x hx => by
    obtain ⟨k, hk, hkn, rfl⟩ := mem_outM.1 hx
    have h1 := numOk_or (fit_raw a k).good (numOk_raw ha k) (numOk_raw hb k)
    unfold kill at hkn ⊢
    split at hkn
    · exact absurd rfl hkn
    · rename_i hc
      rw [if_neg hc]
      exact h1 hkn)
  rw [List.map_id] at this
  exact this
/-- What was said of a life is covered. -/
def Cov (e s : St) : Prop := e.n ≤ s.f ∨ (s.n = e.n ∧ e.s ≤ s.s ∧ (0 < e.p → 0 < s.p ∧ s.p ≤ e.p))
theorem cov_self (e : St) : Cov e e := .inr ⟨rfl, Int.le_refl _, fun h => ⟨h, Int.le_refl _⟩⟩
theorem cov_or {e x y : St} (hx : 0 ≤ x.f) (h : Cov e x) : Cov e (x.or y) := by
  rcases h with h | ⟨h1, h2, h3⟩
  · left
    show e.n ≤ max (max x.f y.f) _
    omega
  · rcases Int.lt_trichotomy x.n y.n with k | k | k
    · rw [or_lt k]; left; show e.n ≤ max (max x.f y.f) x.n; omega
    · rw [or_eq hx k]; right
      refine ⟨by show y.n = e.n; omega, by show e.s ≤ max x.s y.s; omega, fun h => ?_⟩
      have := h3 h
      show 0 < elder x.p y.p ∧ elder x.p y.p ≤ e.p
      unfold elder
      split <;> (try split) <;> omega
    · rw [or_gt k]; exact .inr ⟨h1, h2, h3⟩
theorem cov_or_r {e x y : St} (hy : 0 ≤ y.f) (h : Cov e y) : Cov e (x.or y) := by rw [or_comm]; exact cov_or hy h
theorem cov_kill {e x : St} (h : Cov e x) : Cov e (kill x) := by
  unfold kill
  split
  · left
    show e.n ≤ x.f
    rcases h with h | h <;> omega
  · exact h
theorem cov_big {k : Nat} {ms : List Mm} {x : Mm} (hc : AllC ms) (h : x ∈ ms) (e : x.1.1 = (k : Int)) : Cov (em x) (bigM k ms) := by
  induction ms with
  | nil => cases h
  | cons y l ih =>
    have hl : AllC l := fun z hz => hc z (List.mem_cons_of_mem _ hz)
    rcases List.mem_cons.1 h with rfl | h
    · rw [bigM_yes e]
      exact cov_or (fit_em (hc x (List.mem_cons_self ..)) e).good.f0 (cov_self _)
    · have ih := ih hl h
      by_cases e2 : y.1.1 = (k : Int)
      · rw [bigM_yes e2]
        exact cov_or_r (fit_bigM hl).good.f0 ih
      · rw [bigM_no e2]; exact ih
theorem low_or {i : Int} {x y : St} (h : i ≤ x.f) : i ≤ (x.or y).f := by
  show i ≤ max (max x.f y.f) _
  omega
theorem low_or_r {i : Int} {x y : St} (h : i ≤ y.f) : i ≤ (x.or y).f := by
  show i ≤ max (max x.f y.f) _
  omega
theorem kill_f (x : St) : (kill x).f = x.f := by unfold kill; split <;> rfl
theorem low_big {k : Nat} {gs : List Id2} {x : Id2} (h : x ∈ gs) (e : x.1 = (k : Int)) : x.2 ≤ (bigG k gs).f := by
  induction gs with
  | nil => cases h
  | cons y l ih =>
    rcases List.mem_cons.1 h with rfl | h
    · rw [bigG_yes e]
      exact low_or (Int.le_refl _)
    · have ih := ih h
      by_cases e2 : y.1 = (k : Int)
      · rw [bigG_yes e2]; exact low_or_r ih
      · rw [bigG_no e2]; exact ih
theorem cov_raw {a : Ls} {k : Nat} {x : Mm} (h : x ∈ a.1) (hc : cnt x = true) (e : x.1.1 = (k : Int)) : Cov (em x) (raw a k) :=
  cov_or (fit_bigM (allC_filter _)).good.f0 (cov_big (allC_filter _) (List.mem_filter.2 ⟨h, hc⟩) e)
theorem low_raw {a : Ls} {k : Nat} {x : Id2} (h : x ∈ a.2) (hc : vidP x = true) (e : x.1 = (k : Int)) : x.2 ≤ (raw a k).f := low_or_r (low_big (List.mem_filter.2 ⟨h, hc⟩) e)
/-- What is known of address k behind a Join. -/
def jn (a b : Ls) (k : Nat) : St := kill ((raw a k).or (raw b k))
theorem jn_norm (a b : Ls) : Norm (jn a b) := norm_join a b
theorem join_is (a b : Ls) : joinL a b = out (jn a b) := rfl
theorem cov_jn_l {a b : Ls} {k : Nat} {x : Mm} (h : x ∈ a.1) (hc : cnt x = true) (e : x.1.1 = (k : Int)) : Cov (em x) (jn a b k) := cov_kill (cov_or (fit_raw a k).good.f0 (cov_raw h hc e))
theorem cov_jn_r {a b : Ls} {k : Nat} {x : Mm} (h : x ∈ b.1) (hc : cnt x = true) (e : x.1.1 = (k : Int)) : Cov (em x) (jn a b k) := cov_kill (cov_or_r (fit_raw b k).good.f0 (cov_raw h hc e))
theorem low_jn_l {a b : Ls} {k : Nat} {x : Id2} (h : x ∈ a.2) (hc : vidP x = true) (e : x.1 = (k : Int)) : x.2 ≤ (jn a b k).f := by unfold jn; rw [kill_f]; exact low_or (low_raw h hc e)
theorem low_jn_r {a b : Ls} {k : Nat} {x : Id2} (h : x ∈ b.2) (hc : vidP x = true) (e : x.1 = (k : Int)) : x.2 ≤ (jn a b k).f := by unfold jn; rw [kill_f]; exact low_or_r (low_raw h hc e)
/-- The first member of an ID. -/
def ofId (y : Id2) (x : Mm) : Bool := decide (x.1 = y)
def getO (m : List Mm) (y : Id2) : Option Mm := m.find? (ofId y)
theorem get_out {S : Nat → St} {y : Id2} {k : Nat} (hk : k < 13) (e : y.1 = (k : Int)) : getO (outM S) y = if (S k).n ≠ 0 ∧ (S k).n = y.2 then some (y, (S k).s, (S k).p) else none := by
  unfold getO
  by_cases c : (S k).n ≠ 0 ∧ (S k).n = y.2
  · rw [if_pos c]
    have hm : (y, (S k).s, (S k).p) ∈ outM S := mem_outM.2 ⟨k, hk, c.1, by rw [c.2, ← e]⟩
    rcases hf : (outM S).find? (ofId y) with _ | z
    · have := List.find?_eq_none.1 hf _ hm
      simp [ofId] at this
    · have hz := List.mem_of_find?_eq_some hf
      have hz2 : z.1 = y := by simpa [ofId] using List.find?_some hf
      obtain ⟨j, hj, hjn, rfl⟩ := mem_outM.1 hz
      have : (j : Int) = (k : Int) := by rw [← e, ← hz2]
      have : j = k := by omega
      subst this
      rw [← hz2]
  · rw [if_neg c, List.find?_eq_none]
    intro z hz hz2
    have hz2 : z.1 = y := by simpa [ofId] using hz2
    obtain ⟨j, hj, hjn, rfl⟩ := mem_outM.1 hz
    have : (j : Int) = (k : Int) := by rw [← e, ← hz2]
    have : j = k := by omega
    subst this
    exact c ⟨hjn, by rw [← hz2]⟩
theorem get_out_none {S : Nat → St} {y : Id2} (h : ∀ k : Nat, k < 13 → y.1 ≠ (k : Int)) : getO (outM S) y = none := by
  unfold getO
  rw [List.find?_eq_none]
  intro z hz hz2
  have hz2 : z.1 = y := by simpa [ofId] using hz2
  obtain ⟨j, hj, hjn, rfl⟩ := mem_outM.1 hz
  exact h j hj (by rw [← hz2])
theorem gone_out {S : Nat → St} (h : Norm S) {y : Id2} {k : Nat} (hk : k < 13) (e : y.1 = (k : Int)) : goneB (outF S) y = decide (y.2 ≤ (S k).f) := by
  unfold goneB
  rw [e, floor_out h k hk]
/-- The foremost one of those in question. -/
def foreO (p : Mm → Bool) (q : Mm → Mm → Bool) (l : List Mm) : Option Mm := l.foldl (fun b x => if p x && (match b with | none => true | some y => q x y) then some x else b) none
theorem foreO_next {p : Mm → Bool} {q : Mm → Mm → Bool} {l : List Mm} {k : Nat} (hk : k < l.length) : foreO p q (l.take (k + 1)) = if p l[k] && (match foreO p q (l.take k) with | none => true | some y => q l[k] y) then some l[k] else foreO p q (l.take k) := by
  unfold foreO
  rw [List.take_succ_eq_append_getElem hk, List.foldl_append]
  rfl
end Ros
end Go.Proofs.Ytciolhpkhblnbaa
