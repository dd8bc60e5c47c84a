/-
  What WatchTime keeps between two steps: who is watched, and since when. No statement is proved in this text.
-/
import Derived.Test.YtkoeplgkiogjlaaWchN
set_option maxRecDepth 20000
namespace Go.Proofs.Ytkoeplgkiogjlaa
open Go Go.RowKit Sets Go.Maps Go.ChangeMaps Go.MapKept
variable {S S2 S' : Nat → Prop} {W W' w0 w w' : World} {p n base : Nat} {e : Dt} {K : List Id2} {D : Id2 → Dt} {T : Id2 → Int}
theorem gaps_fr {v : Value} {g : List Int} (h : Gaps w base v g) (k : Fr S w w') (hv : ∀ b, v.ownBlock = some b → ¬ S b) : Gaps w' base v g := by
  obtain ⟨h1, h2⟩ := h
  refine ⟨h1, ?_⟩
  rcases h2 with h2 | ⟨g, cap, cur, rfl, k1, k2, k3⟩
  · exact .inl h2
  · exact .inr ⟨g, cap, cur, rfl, k1, (k.same g (row_lt k2) (hv g rfl)).trans k2, k3⟩
theorem addr_zero (g k : Nat) : (⟨g, 0, none⟩ : Addr).add k = ⟨g, k, none⟩ := by
  unfold Addr.add
  by_cases h : k = 0
  · subst h; rfl
  · rw [if_neg h]
    simp
theorem flatN (l : List Int) : flatR encN l = l.map (.int .i64 ·) := by
  unfold flatR encN
  induction l with
  | nil => rfl
  | cons x l ih => simpa using ih
/-- A number of the row is written. -/
theorem gaps_put {g n c k : Nat} {l : List Int} {y : Int} (h : Gaps w base (.slice (some ⟨g, 0, none⟩) n c) l) : Gaps (w.setCell ⟨g, k, none⟩ (.int .i64 y)) base (.slice (some ⟨g, 0, none⟩) n c) (l.set k y) := by
  obtain ⟨h1, h2⟩ := h
  rcases h2 with ⟨h2, _⟩ | ⟨g', cap, cur, hv, k1, k2, k3, k4, k5, k6⟩
  · cases h2
  · injection hv with e1 e2 e3
    injection e1 with e1
    injection e1 with e1
    subst e1 e2 e3
    refine ⟨by rw [flatN]; simp, .inr ⟨g, c, cur.setIfInBounds k (.int .i64 y), by simp, k1, ?_, by simpa using k3, k4, by simpa using k5, ?_⟩⟩
    · simp [World.setCell, Array.getElem?_modify, k2]
    · rw [Array.toList_setIfInBounds, List.take_set, List.length_set, k6, flatN, flatN, List.map_set]
/-- The cell of a number of the row. -/
theorem gaps_cell {g n c k : Nat} {l : List Int} (h : Gaps w base (.slice (some ⟨g, 0, none⟩) n c) l) (hk : k < l.length) : w.cell? ⟨g, k, none⟩ = some (.int .i64 l[k]) ∧ w.frozen? ⟨g, k, none⟩ = false := by
  have hc := (gaps_rcs h)
  obtain ⟨A, c', hv, _, _, hx⟩ := hc
  injection hv with e1 e2 e3
  subst e1
  obtain ⟨ad, e, _, h3⟩ := hx k hk
  injection e with e
  subst e
  have := h3 0 (.int .i64 l[k]) rfl
  rw [Nat.mul_one, Nat.add_zero, addr_zero] at this
  refine ⟨this, ?_⟩
  obtain ⟨cs, hg⟩ := gaps_type h (b := g) rfl
  simp [World.frozen?, hg]
theorem gaps_some {v : Value} {l : List Int} (h : Gaps w base v l) (h0 : 0 < l.length) : ∃ g c, v = .slice (some ⟨g, 0, none⟩) l.length c ∧ base ≤ g := by
  rcases h.2 with ⟨_, h2⟩ | ⟨g, cap, cur, rfl, k1, _⟩
  · omega
  · exact ⟨g, cap, rfl, k1⟩
/-- Since when each one counts, and its detector. -/
structure Tie (mn mx now : Int) (K : List Id2) (D : Id2 → Dt) (T : Id2 → Int) : Prop where
  bg : ∀ q ∈ K, (D q).bg = true
  la : ∀ q ∈ K, (D q).la = T q
  lo : ∀ q ∈ K, 0 ≤ T q
  hi : ∀ q ∈ K, T q ≤ now
  mn : ∀ q ∈ K, (D q).mn = mn
  mx : ∀ q ∈ K, (D q).mx = mx
variable {mn mx now x : Int}
theorem Tie.none : Tie mn mx 0 [] D T := ⟨by simp, by simp, by simp, by simp, by simp, by simp⟩
theorem time_now {d : Dt} (h1 : d.la ≤ x) (h2 : x ≤ 4900) : d.time x = x := by
  unfold Dt.time clampI
  omega
def heardT (T : Id2 → Int) (q : Id2) (x : Int) : Id2 → Int := fun r => if r = q then x else T r
theorem Tie.heard (h : Tie mn mx now K D T) (q : Id2) (h1 : now ≤ x) (h2 : x ≤ 4900) (h0 : 0 ≤ x) : Tie mn mx x K (heardD D q x) (heardT T q x) := by
  refine ⟨fun r hr => ?_, fun r hr => ?_, fun r hr => ?_, fun r hr => ?_, fun r hr => ?_, fun r hr => ?_⟩ <;> ((try unfold heardD) <;> (try unfold heardT) <;> by_cases e : r = q)
  · rw [if_pos e]; rfl
  · rw [if_neg e]; exact h.bg r hr
  · subst e
    rw [if_pos rfl, if_pos rfl]
    exact time_now (by have := h.la r hr; have := h.hi r hr; omega) h2
  · rw [if_neg e, if_neg e]; exact h.la r hr
  · rw [if_pos e]; exact h0
  · rw [if_neg e]; exact h.lo r hr
  · rw [if_pos e]; exact Int.le_refl _
  · rw [if_neg e]; exact Int.le_trans (h.hi r hr) h1
  · subst e; rw [if_pos rfl]; exact h.mn r hr
  · rw [if_neg e]; exact h.mn r hr
  · subst e; rw [if_pos rfl]; exact h.mx r hr
  · rw [if_neg e]; exact h.mx r hr
def lookT (K : List Id2) (T : Id2 → Int) (x : Int) : Id2 → Int := fun q => if q ∈ K then T q else x
theorem Tie.look {wi : Int} (h : Tie mn mx now K D T) (l : List Id2) (h1 : now ≤ x) (h2 : x ≤ 4900) (h0 : 0 ≤ x) : Tie mn mx x l (withD (Dt.new mn mx wi) K D x) (lookT K T x) := by
  have hs : (Dt.new mn mx wi).start x = ⟨mn, mx, wi, true, x, []⟩ := by
    show Dt.mk mn mx wi true (clampI x 0 _) [] = _
    congr 1
    unfold clampI
    omega
  refine ⟨fun r _ => ?_, fun r _ => ?_, fun r _ => ?_, fun r _ => ?_, fun r _ => ?_, fun r _ => ?_⟩ <;> ((try unfold withD) <;> (try unfold lookT) <;> by_cases e : r ∈ K)
  · rw [if_pos e]; exact h.bg r e
  · rw [if_neg e, hs]
  · rw [if_pos e, if_pos e]; exact h.la r e
  · rw [if_neg e, if_neg e, hs]
  · rw [if_pos e]; exact h.lo r e
  · rw [if_neg e]; exact h0
  · rw [if_pos e]; exact Int.le_trans (h.hi r e) h1
  · rw [if_neg e]; exact Int.le_refl _
  · rw [if_pos e]; exact h.mn r e
  · rw [if_neg e, hs]
  · rw [if_pos e]; exact h.mx r e
  · rw [if_neg e, hs]
/-- Who is late was not heard within min; who is not late was, within max. -/
theorem Tie.late (h : Tie mn mx x K D T) (h2 : x ≤ 4900) {q : Id2} (hq : q ∈ K) (ok : (D q).Ok) : ((D q).late x = true → mn < x - T q) ∧ ((D q).late x = false → x - T q ≤ mx) := by
  have h1 := Dt.limit_range ok
  have e1 := h.mn q hq
  have e2 := h.mx q hq
  have e3 := h.la q hq
  have e4 := h.hi q hq
  have e5 : (D q).time x = x := time_now (by omega) h2
  unfold Dt.late
  rw [h.bg q hq, e5, Bool.true_and]
  constructor
  · intro h
    have := of_decide_eq_true h
    omega
  · intro h
    have := of_decide_eq_false h
    omega
theorem set_map {k : Nat} (hk : k < K.length) (q : Id2) : (h : K[k] = q) → ((K.take k).map (heardT T q x) ++ (K.drop k).map T).set k x = (K.take (k + 1)).map (heardT T q x) ++ (K.drop (k + 1)).map T := by
  intro h
  rw [List.take_succ_eq_append_getElem hk, List.drop_eq_getElem_cons hk, List.map_append, List.map_cons, List.map_cons, List.map_nil, h]
  have : ((K.take k).map (heardT T q x)).length = k := by simp; omega
  rw [List.set_append_right _ _ (by omega), this, Nat.sub_self, List.set_cons_zero]
  have e : heardT T q x q = x := by unfold heardT; rw [if_pos rfl]
  rw [e]
  simp
theorem skip_map {k : Nat} (hk : k < K.length) (q : Id2) (h : K[k] ≠ q) : (K.take k).map (heardT T q x) ++ (K.drop k).map T = (K.take (k + 1)).map (heardT T q x) ++ (K.drop (k + 1)).map T := by
  rw [List.take_succ_eq_append_getElem hk, List.drop_eq_getElem_cons hk, List.map_append, List.map_cons, List.map_cons, List.map_nil]
  have e : heardT T q x K[k] = T K[k] := by unfold heardT; rw [if_neg h]
  rw [e]
  simp
end Go.Proofs.Ytkoeplgkiogjlaa
