/-
  Carried over and put together: contracts of this program's functions, and plain facts. No statement is proved in this text.
-/
import Derived.Test.YtjlnnmjhbccdoaaGreatBk13
import Derived.Test.YtjlnnmjhbccdoaaGreatBk15
import Derived.Test.YtjlnnmjhbccdoaaGreatBk16
set_option maxRecDepth 20000
namespace Go.Proofs.YtjlnnmjhbccdoaaGreat
open Go Go.RowKit Sets RowSets
theorem allV_iff (l : List Id2) : allV l = true ↔ ∀ x ∈ l, vidROW x.1 x.2 = true := by
  unfold allV
  rw [Bool.not_eq_true', List.any_eq_false]
  constructor
  · intro h x hx
    have := h x hx
    unfold badI at this
    simpa using this
  · intro h x hx
    unfold badI
    rw [h x hx]
    simp
/-- May a row be? -/
def MayRow (r : Row) : Prop := vidROW r.1.1 r.1.2 = true ∧ 1 ≤ r.2.1 ∧ r.2.1 ≤ 1099511627776 ∧ (∀ x ∈ r.2.2, vidROW x.1 x.2 = true) ∧ Rises r.2.2 ∧ r.1 ∉ r.2.2
theorem mayRow_iff (r : Row) : mayRowB r = true ↔ MayRow r := by
  unfold mayRowB MayRow hasB
  simp only [Bool.and_eq_true, decide_eq_true_eq, allV_iff, risesB_iff, Bool.not_eq_true', decide_eq_false_iff_not]
/-- May rows be? -/
def MayRows (l : List Row) : Prop := l.length ≤ 64 ∧ (∀ r ∈ l, MayRow r) ∧ Up l
theorem may_iff (l : List Row) : mayBROW l = true ↔ MayRows l := by
  unfold mayBROW MayRows Up
  simp only [Bool.and_eq_true, decide_eq_true_eq, risesB_iff, List.all_eq_true, mayRow_iff]
theorem joinR_cases {a b : List Row} {r : Row} (h : r ∈ joinR a b) : r ∈ a ∨ r ∈ b ∨ ∃ s t, (r.1, r.2.1, s) ∈ a ∧ (r.1, r.2.1, t) ∈ b ∧ r.2.2 = join s t := by
  have h := get_of_mem (up_joinR a b) h
  rw [get_joinR] at h
  rcases h1 : get a r.1 with _ | s
  · rw [h1] at h
    exact .inr (.inl (get_mem (show get b r.1 = some r.2 from h)))
  · rcases h2 : get b r.1 with _ | t
    · rw [h1, h2, two_none] at h
      exact .inl (by have := get_mem h1; rw [Option.some.inj h] at this; exact this)
    · rw [h1, h2] at h
      simp only [two] at h
      split at h
      · exact .inl (by have := get_mem h1; rw [Option.some.inj h] at this; exact this)
      · split at h
        · exact .inr (.inl (by have := get_mem h2; rw [Option.some.inj h] at this; exact this))
        · have e := Option.some.inj h
          have e1 : r.2.1 = s.1 := by rw [← e]
          have e2 : r.2.2 = join s.2 t.2 := by rw [← e]
          have e3 : t.1 = s.1 := by omega
          refine .inr (.inr ⟨s.2, t.2, ?_, ?_, e2⟩)
          · rw [e1]; exact get_mem h1
          · rw [e1, ← e3]; exact get_mem h2
theorem join_lenROW (s t : List Id2) : (join s t).length ≤ s.length + t.length := by
  unfold join
  exact Nat.le_trans (setOf_len _) (by simp)
theorem nots_joinR {a b : List Row} {n m : Nat} (ha : ∀ r ∈ a, r.2.2.length ≤ n) (hb : ∀ r ∈ b, r.2.2.length ≤ m) : ∀ r ∈ joinR a b, r.2.2.length ≤ n + m := by
  intro r hr
  rcases joinR_cases hr with h | h | ⟨s, t, h1, h2, e⟩
  · have := ha r h; omega
  · have := hb r h; omega
  · have h3 := ha _ h1
    have h4 := hb _ h2
    have h5 := join_lenROW s t
    rw [e]
    dsimp only at h3 h4
    omega
/-- Rows that are not too many, nor those in them. -/
def Lens (n m : Nat) (l : List Row) : Prop := l.length ≤ n ∧ ∀ r ∈ l, r.2.2.length ≤ m
theorem Lens.joinR {a b : List Row} {n m n' m' : Nat} (ha : Lens n m a) (hb : Lens n' m' b) : Lens (n + n') (m + m') (joinR a b) := ⟨Nat.le_trans (joinR_len a b) (by have := ha.1; have := hb.1; omega), nots_joinR ha.2 hb.2⟩
end Go.Proofs.YtjlnnmjhbccdoaaGreat
namespace Go.Proofs.YtjlnnmjhbccdoaaGreat
namespace Ros
theorem floor_out {S : Nat → St} (h : Norm S) (k : Nat) (hk : k < 13) : floorZ (outF S) (k : Int) = (S k).f := by
  have f0 := (h k).1.good.f0
  rw [floor_big k (outF_vid h)]
  unfold bigG outF
  rw [filter_range (key := fun x : Id2 => x.1) (fun j y hj => by
    split at hj
    · cases hj
    · rw [← Option.some.inj hj]) k 13, if_pos hk]
  by_cases e : (S k).f ≤ 0
  · rw [if_pos e]
    show (0 : Int) = (S k).f
    omega
  · rw [if_neg e]
    show ((eg ((k : Int), (S k).f)).or St.zero).f = (S k).f
    rw [or_eq (x := eg ((k : Int), (S k).f)) (y := St.zero) f0 rfl]
    show max (S k).f 0 = (S k).f
    omega
/-- What was said of a life is covered. -/
def Cov (e s : St) : Prop := e.n ≤ s.f ∨ (s.n = e.n ∧ e.s ≤ s.s ∧ (0 < e.p → 0 < s.p ∧ s.p ≤ e.p))
theorem cov_self (e : St) : Cov e e := .inr ⟨rfl, Int.le_refl _, fun h => ⟨h, Int.le_refl _⟩⟩
theorem cov_or {e x y : St} (hx : 0 ≤ x.f) (h : Cov e x) : Cov e (x.or y) := by
  rcases h with h | ⟨h1, h2, h3⟩
  · left
    show e.n ≤ max (max x.f y.f) _
    omega
  · rcases Int.lt_trichotomy x.n y.n with k | k | k
    · rw [or_lt k]; left; show e.n ≤ max (max x.f y.f) x.n; omega
    · rw [or_eq hx k]; right
      refine ⟨by show y.n = e.n; omega, by show e.s ≤ max x.s y.s; omega, fun h => ?_⟩
      have := h3 h
      show 0 < elder x.p y.p ∧ elder x.p y.p ≤ e.p
      unfold elder
      split <;> (try split) <;> omega
    · rw [or_gt k]; exact .inr ⟨h1, h2, h3⟩
theorem cov_or_r {e x y : St} (hy : 0 ≤ y.f) (h : Cov e y) : Cov e (x.or y) := by rw [or_comm]; exact cov_or hy h
theorem cov_kill {e x : St} (h : Cov e x) : Cov e (kill x) := by
  unfold kill
  split
  · left
    show e.n ≤ x.f
    rcases h with h | h <;> omega
  · exact h
theorem cov_big {k : Nat} {ms : List Mm} {x : Mm} (hc : AllC ms) (h : x ∈ ms) (e : x.1.1 = (k : Int)) : Cov (em x) (bigM k ms) := by
  induction ms with
  | nil => cases h
  | cons y l ih =>
    have hl : AllC l := fun z hz => hc z (List.mem_cons_of_mem _ hz)
    rcases List.mem_cons.1 h with rfl | h
    · rw [bigM_yes e]
      exact cov_or (fit_em (hc x (List.mem_cons_self ..)) e).good.f0 (cov_self _)
    · have ih := ih hl h
      by_cases e2 : y.1.1 = (k : Int)
      · rw [bigM_yes e2]
        exact cov_or_r (fit_bigM hl).good.f0 ih
      · rw [bigM_no e2]; exact ih
theorem low_or {i : Int} {x y : St} (h : i ≤ x.f) : i ≤ (x.or y).f := by
  show i ≤ max (max x.f y.f) _
  omega
theorem low_or_r {i : Int} {x y : St} (h : i ≤ y.f) : i ≤ (x.or y).f := by
  show i ≤ max (max x.f y.f) _
  omega
theorem kill_f (x : St) : (kill x).f = x.f := by unfold kill; split <;> rfl
theorem low_big {k : Nat} {gs : List Id2} {x : Id2} (h : x ∈ gs) (e : x.1 = (k : Int)) : x.2 ≤ (bigG k gs).f := by
  induction gs with
  | nil => cases h
  | cons y l ih =>
    rcases List.mem_cons.1 h with rfl | h
    · rw [bigG_yes e]
      exact low_or (Int.le_refl _)
    · have ih := ih h
      by_cases e2 : y.1 = (k : Int)
      · rw [bigG_yes e2]; exact low_or_r ih
      · rw [bigG_no e2]; exact ih
theorem cov_raw {a : Ls} {k : Nat} {x : Mm} (h : x ∈ a.1) (hc : cnt x = true) (e : x.1.1 = (k : Int)) : Cov (em x) (raw a k) :=
  cov_or (fit_bigM (allC_filter _)).good.f0 (cov_big (allC_filter _) (List.mem_filter.2 ⟨h, hc⟩) e)
theorem low_raw {a : Ls} {k : Nat} {x : Id2} (h : x ∈ a.2) (hc : vidP x = true) (e : x.1 = (k : Int)) : x.2 ≤ (raw a k).f := low_or_r (low_big (List.mem_filter.2 ⟨h, hc⟩) e)
/-- What is known of address k behind a Join. -/
def jn (a b : Ls) (k : Nat) : St := kill ((raw a k).or (raw b k))
theorem jn_norm (a b : Ls) : Norm (jn a b) := norm_join a b
theorem join_is (a b : Ls) : joinL a b = out (jn a b) := rfl
theorem cov_jn_l {a b : Ls} {k : Nat} {x : Mm} (h : x ∈ a.1) (hc : cnt x = true) (e : x.1.1 = (k : Int)) : Cov (em x) (jn a b k) := cov_kill (cov_or (fit_raw a k).good.f0 (cov_raw h hc e))
theorem cov_jn_r {a b : Ls} {k : Nat} {x : Mm} (h : x ∈ b.1) (hc : cnt x = true) (e : x.1.1 = (k : Int)) : Cov (em x) (jn a b k) := cov_kill (cov_or_r (fit_raw b k).good.f0 (cov_raw h hc e))
theorem low_jn_l {a b : Ls} {k : Nat} {x : Id2} (h : x ∈ a.2) (hc : vidP x = true) (e : x.1 = (k : Int)) : x.2 ≤ (jn a b k).f := by unfold jn; rw [kill_f]; exact low_or (low_raw h hc e)
theorem low_jn_r {a b : Ls} {k : Nat} {x : Id2} (h : x ∈ b.2) (hc : vidP x = true) (e : x.1 = (k : Int)) : x.2 ≤ (jn a b k).f := by unfold jn; rw [kill_f]; exact low_or_r (low_raw h hc e)
/-- The first member of an ID. -/
def ofId (y : Id2) (x : Mm) : Bool := decide (x.1 = y)
def getO (m : List Mm) (y : Id2) : Option Mm := m.find? (ofId y)
theorem get_out {S : Nat → St} {y : Id2} {k : Nat} (hk : k < 13) (e : y.1 = (k : Int)) : getO (outM S) y = if (S k).n ≠ 0 ∧ (S k).n = y.2 then some (y, (S k).s, (S k).p) else none := by
  unfold getO
  by_cases c : (S k).n ≠ 0 ∧ (S k).n = y.2
  · rw [if_pos c]
    have hm : (y, (S k).s, (S k).p) ∈ outM S := mem_outM.2 ⟨k, hk, c.1, by rw [c.2, ← e]⟩
    rcases hf : (outM S).find? (ofId y) with _ | z
    · have := List.find?_eq_none.1 hf _ hm
      simp [ofId] at this
    · have hz := List.mem_of_find?_eq_some hf
      have hz2 : z.1 = y := by simpa [ofId] using List.find?_some hf
      obtain ⟨j, hj, hjn, rfl⟩ := mem_outM.1 hz
      have : (j : Int) = (k : Int) := by rw [← e, ← hz2]
      have : j = k := by omega
      subst this
      rw [← hz2]
  · rw [if_neg c, List.find?_eq_none]
    intro z hz hz2
    have hz2 : z.1 = y := by simpa [ofId] using hz2
    obtain ⟨j, hj, hjn, rfl⟩ := mem_outM.1 hz
    have : (j : Int) = (k : Int) := by rw [← e, ← hz2]
    have : j = k := by omega
    subst this
    exact c ⟨hjn, by rw [← hz2]⟩
theorem get_out_none {S : Nat → St} {y : Id2} (h : ∀ k : Nat, k < 13 → y.1 ≠ (k : Int)) : getO (outM S) y = none := by
  unfold getO
  rw [List.find?_eq_none]
  intro z hz hz2
  have hz2 : z.1 = y := by simpa [ofId] using hz2
  obtain ⟨j, hj, hjn, rfl⟩ := mem_outM.1 hz
  exact h j hj (by rw [← hz2])
theorem gone_out {S : Nat → St} (h : Norm S) {y : Id2} {k : Nat} (hk : k < 13) (e : y.1 = (k : Int)) : goneB (outF S) y = decide (y.2 ≤ (S k).f) := by
  unfold goneB
  rw [e, floor_out h k hk]
end Ros
end Go.Proofs.YtjlnnmjhbccdoaaGreat
namespace Go.Proofs.YtjlnnmjhbccdoaaGreat
namespace Ros
/-- What is never back. -/
theorem never_got (la lb : Ls) (y : Id2) : ∀ z, getO (joinL la lb).1 y = some z → goneB (joinL la lb).2 y = false := fun z hz => by
  rw [join_is] at *
  have hn := jn_norm la lb
  by_cases hr : ∃ k : Nat, k < 13 ∧ y.1 = (k : Int)
  · obtain ⟨k, hk, e⟩ := hr
    have hg := get_out (S := jn la lb) hk e
    rw [show (out (jn la lb)).1 = outM (jn la lb) from rfl, hg] at hz
    rw [show (out (jn la lb)).2 = outF (jn la lb) from rfl, gone_out hn hk e]
    split at hz
    · rename_i c
      have := (hn.six c.1).2.2
      exact decide_eq_false (by omega)
    · cases hz
  · have := get_out_none (S := jn la lb) (y := y) fun k hk e => hr ⟨k, hk, e⟩
    rw [show (out (jn la lb)).1 = outM (jn la lb) from rfl, this] at hz
    cases hz
theorem never_floor {la lb : Ls} {g : Id2} (h : g ∈ la.2 ∨ g ∈ lb.2) (hv : vidP g = true) : g.2 ≤ floorZ (joinL la lb).2 g.1 := by
  obtain ⟨v1, v2, v3, v4⟩ := vid_iff.1 hv
  obtain ⟨k, e⟩ : ∃ k : Nat, g.1 = (k : Int) := ⟨g.1.toNat, by omega⟩
  rw [join_is, e, show (out (jn la lb)).2 = outF (jn la lb) from rfl, floor_out (jn_norm la lb) k (by omega)]
  rcases h with h | h
  · exact low_jn_l h hv e
  · exact low_jn_r h hv e
theorem never_member {la lb : Ls} {x : Mm} (h : x ∈ la.1 ∨ x ∈ lb.1) (hc : cnt x = true) :
    (getO (joinL la lb).1 x.1 = none ∧ goneB (joinL la lb).2 x.1 = true) ∨ ∃ z, getO (joinL la lb).1 x.1 = some z ∧ x.2.1 ≤ z.2.1 ∧ (0 < x.2.2 → 0 < z.2.2 ∧ z.2.2 ≤ x.2.2) := by
  obtain ⟨⟨v1, v2, v3, v4⟩, _⟩ := cnt_iff.1 hc
  obtain ⟨k, e⟩ : ∃ k : Nat, x.1.1 = (k : Int) := ⟨x.1.1.toNat, by omega⟩
  have hk : k < 13 := by omega
  have hn := jn_norm la lb
  have hcov : Cov (em x) (jn la lb k) := by
    rcases h with h | h
    · exact cov_jn_l h hc e
    · exact cov_jn_r h hc e
  rw [join_is, show (out (jn la lb)).1 = outM (jn la lb) from rfl, show (out (jn la lb)).2 = outF (jn la lb) from rfl, get_out hk e, gone_out hn hk e]
  have e1 : (em x).n = x.1.2 := rfl
  rcases hcov with h1 | ⟨h1, h2, h3⟩
  · left
    refine ⟨?_, decide_eq_true h1⟩
    rw [if_neg]
    rintro ⟨c1, c2⟩
    have := (hn.six c1).2.2
    omega
  · right
    refine ⟨_, if_pos ⟨by omega, h1⟩, h2, fun h => ?_⟩
    have e2 : (em x).p = x.2.2 := by show max x.2.2 0 = x.2.2; omega
    rw [e2] at h3
    exact h3 h
end Ros
end Go.Proofs.YtjlnnmjhbccdoaaGreat
namespace Go.Proofs.YtjlnnmjhbccdoaaGreat
open Go Go.RowKit Ros
def mval (x : Mm) : Value := .agg #[.int .i64 x.1.1, .int .i64 x.1.2, .int .u8 x.2.1, .int .i64 x.2.2]
def noneM : Mm := ((0, 0), 0, 0)
/-- What is answered: a member, and whether there is one. -/
def gotV (o : Option Mm) : Value := .tuple #[mval (o.getD noneM), .bool o.isSome]
theorem found_find {l : List Mm} {p : Mm → Bool} {r : Int} (h : FoundPROS p l r) : (r = -1 ∧ l.find? p = none) ∨ ∃ k : Nat, ∃ hk : k < l.length, r = k ∧ l.find? p = some l[k] := by
  rcases h with ⟨rfl, h⟩ | ⟨k, hk, rfl, h1, h2⟩
  · exact .inl ⟨rfl, List.find?_eq_none.2 fun x hx => by rw [h x hx]; simp⟩
  · refine .inr ⟨k, hk, rfl, ?_⟩
    have e : l = l.take k ++ l[k] :: l.drop (k + 1) := by rw [← List.drop_eq_getElem_cons hk, List.take_append_drop]
    have h3 : (l.take k).find? p = none := List.find?_eq_none.2 fun x hx => by rw [h2 x hx]; simp
    generalize l[k] = z at *
    rw [e, List.find?_append, h3, List.find?_cons_of_pos h1]
    rfl
set_option maxHeartbeats 4000000 in
theorem get_any (v : Value) (l : List Mm) (a i : Int) (w : World) (h : Ms w v l) (hl : l.length ≤ 100000) :
    Calls Tryz.prog 28 #[v, .agg #[.int .i64 a, .int .i64 i]] w fun e w' => e = .returned (gotV (getO l (a, i))) ∧ Below w.heap.size w w' := by
  have BB := Lib.hid (below_two w (.cells #[.int .i64 a, .int .i64 i] 29) (.cells #[.int .i64 0, .int .i64 0, .int .u8 0, .int .i64 0] 31))
  have HI := Lib.hid (h.below BB.out)
  have XB := Lib.hid (box_below (box_new w a i) (below_one _ (.cells #[.int .i64 0, .int .i64 0, .int .u8 0, .int .i64 0] 31)))
  have XR : Hid (MBox ((w.alloc (.cells #[.int .i64 a, .int .i64 i] 29)).alloc (.cells #[.int .i64 0, .int .i64 0, .int .u8 0, .int .i64 0] 31)) (w.heap.size + 1) 0 0 0 0) := Lib.hid (by simpa using mbox_new (w.alloc (.cells #[.int .i64 a, .int .i64 i] 29)) 0 0 0 0)
  have HE : Hid (getO l (a, i) = l.find? (isM (a, i))) := Lib.hid rfl
  obtain ⟨A, c, rfl, hz⟩ := h
  clear hz
  go_enter Tryz.func28, Tryz.ntmps28
  go_wp2_with fail
  (with_reducible refine (indexM_any (isM_asks w.heap.size a i) _ l _ HI.out XB.out hl (fun _ _ => trivial)).mono ?_)
  rintro e w1 ⟨⟨r, rfl, hf⟩, hb⟩
  have B1 := Lib.hid (below_after BB.out hb (Nat.le_refl _))
  have R1 := Lib.hid (mbox_below XR.out hb)
  have I1 := Lib.hid (HI.out.below hb)
  clear hb
  obtain ⟨z1, z2, z3, z4⟩ := mbox_cells R1.out
  obtain ⟨f1, f2, f3, f4⟩ := mbox_free R1.out
  rcases found_find hf with ⟨rfl, hn⟩ | ⟨k, hk, rfl, hn⟩
  · have HF := Lib.hid (HE.out.trans hn)
    clear hf hn
    go_wp2_with fail
    have R2 := mbox_set R1.out 0 0 0 0
    obtain ⟨q0, q1, q2, q3⟩ := mbox_cells R2
    refine bodyPost_ret (v := gotV none) (by simp [results, Tryz.results28, go_sem, q0, q1, q2, q3, gotV, mval, noneM]) rfl ?_
    exact ⟨by rw [HF.out], below_setCells B1.out (by omega) 0 [_, _, _, _]⟩
  · have HF := Lib.hid (HE.out.trans hn)
    have i3 : (0 : Int) ≤ (k : Int) := by omega
    have i4 : (k : Int) < (l.length : Int) := by omega
    have hd : decide ((k : Int) < 0) = false := by simp
    obtain ⟨ad, rfl, c1, c2, c3, c4⟩ := Ms.at_ I1.out (Below.refl _ _) hk
    have HM : Hid (l[k] = ((l[k].1.1, l[k].1.2), l[k].2.1, l[k].2.2)) := Lib.hid rfl
    rw [HM.out] at HF
    clear hf hn HM
    generalize l[k].1.1 = x1 at *
    generalize l[k].1.2 = x2 at *
    generalize l[k].2.1 = x3 at *
    generalize l[k].2.2 = x4 at *
    go_wp2_with fail
    have R2 := mbox_set R1.out x1 x2 x3 x4
    obtain ⟨q0, q1, q2, q3⟩ := mbox_cells R2
    refine bodyPost_ret (v := gotV (some ((x1, x2), x3, x4))) (by simp [results, Tryz.results28, go_sem, q0, q1, q2, q3, gotV, mval]) rfl ?_
    exact ⟨by rw [HF.out], below_setCells B1.out (by omega) 0 [_, _, _, _]⟩
end Go.Proofs.YtjlnnmjhbccdoaaGreat
namespace Go.Proofs.YtjlnnmjhbccdoaaGreat
open Go Go.RowKit Sets RowSets
/-- Do the rows' IDs rise? -/
def Sorted (qs : List Raw) : Prop := Rises (qs.map (·.1))
theorem sorted_cmp {qs : List Raw} (h : Sorted qs) {i j : Nat} (hij : i < j) (hj : j < qs.length) : cmpZ qs[j].1.1 qs[j].1.2 (qs[i]'(by omega)).1.1 (qs[i]'(by omega)).1.2 = 1 := by
  have hl : lt (qs[i]'(by omega)).1 qs[j].1 := by
    have := List.pairwise_iff_getElem.1 h i j (by simpa using (by omega : i < qs.length)) (by simpa using hj) hij
    simpa using this
  rw [cmpZ_eq, if_neg (lt_asymm hl), if_pos hl]
set_option maxHeartbeats 2000000 in
theorem insertion_any (v : Value) (qs : List Raw) (a b : Nat) (w : World) (h : Rcs encW 4 w v qs) (hs : Sorted qs) (hl : qs.length ≤ 100000) (hab : a ≤ b) (hb : b ≤ qs.length) :
    Calls Tryz.prog 201 #[v, .int .i64 a, .int .i64 b, .func (.func 178) #[] #[]] w fun e w' => e = .returned (.tuple #[]) ∧ Below w.heap.size w w' := by
  have HI := Lib.hid h
  have HO := Lib.hid hs
  obtain ⟨A, c, rfl, hz⟩ := h
  clear hz hs
  have j0 : IntKind.i64.wrap ((a : Int) + 1) = (a : Int) + 1 := IntWalk.i64_in _ ⟨by omega, by omega⟩
  go_enter Tryz.func201, Tryz.ntmps201
  go_wp2_with fail
  clear j0
  go_loopw [8] (fun s8 wr => ∃ k : Nat, a < k ∧ k ≤ b + 1 ∧ s8 = .int .i64 k ∧ Hid (Below w.heap.size w wr)) (fun s8 _ => b + 1 - (intOf s8).toNat)
  case atStart => exact ⟨a + 1, by omega, by omega, by go_num, Lib.hid (Below.refl _ _)⟩
  case round =>
    obtain ⟨k, hak, hkb, rfl, HW⟩ := hrel
    obtain ⟨j, rfl⟩ : ∃ j, k = j + 1 := ⟨k - 1, by omega⟩
    by_cases hlt : j + 1 < b
    · have hd : decide (((j : Int) + 1) < (b : Int)) = true := decide_eq_true (by omega)
      have hd2 : decide ((a : Int) < ((j : Int) + 1)) = true := decide_eq_true (by omega)
      have hk1 : j + 1 < qs.length := by omega
      have hk2 : j < qs.length := by omega
      have HC := Lib.hid (sorted_cmp HO.out (show j < j + 1 by omega) hk1)
      have i1 : IntKind.i64.wrap ((j : Int) + 1 - 1) = (j : Int) := by rw [IntWalk.i64_in _ ⟨by omega, by omega⟩]; omega
      have i2 : IntKind.i64.wrap (j : Int) = (j : Int) := IntWalk.i64_in _ ⟨by omega, by omega⟩
      have i3 : (0 : Int) ≤ (j : Int) := by omega
      have i4 : (j : Int) < (qs.length : Int) := by omega
      have i5 : (0 : Int) ≤ (j : Int) + 1 := by omega
      have i6 : (j : Int) + 1 < (qs.length : Int) := by omega
      have i7 : ((j : Int) + 1).toNat = j + 1 := by omega
      obtain ⟨ad, rfl⟩ := HI.out.addr (by omega)
      have HS := Lib.hid fun w' (hb : Below w.heap.size w w') => And.intro (HI.out.raw hb (k := j + 1) hk1) (And.intro (HI.out.raw hb (k := j) hk2) hb)
      generalize qs[j + 1].1.1 = a1 at *
      generalize qs[j + 1].1.2 = i1 at *
      generalize qs[j + 1].2.1 = n1 at *
      generalize qs[j + 1].2.2.1 = B1 at *
      generalize qs[j + 1].2.2.2.1 = m1 at *
      generalize qs[j + 1].2.2.2.2 = d1 at *
      generalize qs[j].1.1 = a2 at *
      generalize qs[j].1.2 = i2 at *
      generalize qs[j].2.1 = n2 at *
      generalize qs[j].2.2.1 = B2 at *
      generalize qs[j].2.2.2.1 = m2 at *
      generalize qs[j].2.2.2.2 = d2 at *
      have HQ := Lib.hid fun w' (hb : Below w.heap.size w w') => (show (w'.cell? (ad.add ((j + 1) * 4)) = some (.int .i64 a1) ∧ w'.cell? ⟨(ad.add ((j + 1) * 4)).block, (ad.add ((j + 1) * 4)).off + 1, none⟩ = some (.int .i64 i1) ∧ w'.cell? ⟨(ad.add ((j + 1) * 4)).block, (ad.add ((j + 1) * 4)).off + 2, none⟩ = some (.int .i64 n1) ∧ w'.cell? ⟨(ad.add ((j + 1) * 4)).block, (ad.add ((j + 1) * 4)).off + 3, none⟩ = some (.slice B1 m1 d1)) ∧ (w'.cell? (ad.add (j * 4)) = some (.int .i64 a2) ∧ w'.cell? ⟨(ad.add (j * 4)).block, (ad.add (j * 4)).off + 1, none⟩ = some (.int .i64 i2) ∧ w'.cell? ⟨(ad.add (j * 4)).block, (ad.add (j * 4)).off + 2, none⟩ = some (.int .i64 n2) ∧ w'.cell? ⟨(ad.add (j * 4)).block, (ad.add (j * 4)).off + 3, none⟩ = some (.slice B2 m2 d2)) ∧ Hid (Below w.heap.size w w') from by
        obtain ⟨⟨x, e, x1⟩, ⟨y, e2, y1⟩, hb⟩ := HS.out w' hb
        injection e with e
        injection e2 with e2
        subst e e2
        exact ⟨x1, y1, Lib.hid hb⟩)
      clear HS
      go_wp2_with fail
      refine wp_loop_rounds 1 ?_
      rw [rounds_succ]
      go_wp2_with fail
      go_region_held3 (fun w' => (w'.cell? (ad.add ((j + 1) * 4)) = some (.int .i64 a1) ∧ w'.cell? ⟨(ad.add ((j + 1) * 4)).block, (ad.add ((j + 1) * 4)).off + 1, none⟩ = some (.int .i64 i1) ∧ w'.cell? ⟨(ad.add ((j + 1) * 4)).block, (ad.add ((j + 1) * 4)).off + 2, none⟩ = some (.int .i64 n1) ∧ w'.cell? ⟨(ad.add ((j + 1) * 4)).block, (ad.add ((j + 1) * 4)).off + 3, none⟩ = some (.slice B1 m1 d1)) ∧ (w'.cell? (ad.add (j * 4)) = some (.int .i64 a2) ∧ w'.cell? ⟨(ad.add (j * 4)).block, (ad.add (j * 4)).off + 1, none⟩ = some (.int .i64 i2) ∧ w'.cell? ⟨(ad.add (j * 4)).block, (ad.add (j * 4)).off + 2, none⟩ = some (.int .i64 n2) ∧ w'.cell? ⟨(ad.add (j * 4)).block, (ad.add (j * 4)).off + 3, none⟩ = some (.slice B2 m2 d2)) ∧ Hid (Below w.heap.size w w'))
        (first | exact HQ.out _ HW.out.drew | exact HQ.out _ HK.out)
        (first | (go_at_call 178; (with_reducible refine (cmpW_any _ _ _ _ _ _ _ _ _ _ _ _ _).mono ?_); rw [HC.out]; rintro e w' ⟨rfl, hb⟩; have HK := Lib.hid (below_after HW.out.drew hb (Nat.le_refl _)); clear hb))
      go_wp2_with fail
      go_roundw
      case rel => exact ⟨j + 2, by omega, by omega, by go_num, Hid.out (by assumption)⟩
      case measure => simp [intOf]; omega
    · have hd : decide (((j : Int) + 1) < (b : Int)) = false := decide_eq_false (by omega)
      go_wp2_with fail
      go_end0
      exact ⟨rfl, HW.out⟩
end Go.Proofs.YtjlnnmjhbccdoaaGreat
