/-
  Plain mathematics of the ring of a list of IDs that rises: who is in it, whom a node watches, who is behind somebody, what is found in so many rounds. No program; no statement is proved in this text.
-/
import Derived.Test.YtbjknjbjldodlaaRingC
namespace Go.Proofs.Ytbjknjbjldodlaa
open Sets
theorem mem_upL (me z : Id2) (l : List Id2) : z ∈ upL me l ↔ z ∈ l ∧ lt me z := by
  unfold upL
  rw [List.mem_filter, lss_iff]
theorem mem_dnL (me z : Id2) (l : List Id2) : z ∈ dnL me l ↔ z ∈ l ∧ lt z me := by
  unfold dnL
  rw [List.mem_filter, lss_iff]
theorem mem_rg (me z : Id2) (l : List Id2) : z ∈ rg l me ↔ z ∈ l ∧ z ≠ me := by
  unfold rg
  rw [List.mem_append, mem_upL, mem_dnL]
  constructor
  · rintro (⟨h, k⟩ | ⟨h, k⟩)
    · exact ⟨h, fun e => lt_irrefl me (e ▸ k)⟩
    · exact ⟨h, fun e => lt_irrefl me (e ▸ k)⟩
  · rintro ⟨h, k⟩
    rcases lt_total me z with h1 | h1 | h1
    · exact .inl ⟨h, h1⟩
    · exact (k h1.symm).elim
    · exact .inr ⟨h, h1⟩
theorem rises_nodup {l : List Id2} (h : Rises l) : l.Nodup := List.Pairwise.imp (S := fun a b => a ≠ b) (fun {a b} (k : lt a b) e => by subst e; exact lt_irrefl _ k) h
theorem rises_filter {l : List Id2} (h : Rises l) (p : Id2 → Bool) : Rises (l.filter p) := List.Pairwise.filter p h
theorem rises_upL {l : List Id2} (h : Rises l) (me : Id2) : Rises (upL me l) := rises_filter h _
theorem rises_dnL {l : List Id2} (h : Rises l) (me : Id2) : Rises (dnL me l) := rises_filter h _
theorem nodup_rg {l : List Id2} (h : Rises l) (me : Id2) : (rg l me).Nodup := by
  unfold rg
  rw [List.nodup_append]
  refine ⟨rises_nodup (rises_upL h me), rises_nodup (rises_dnL h me), fun a ha b hb e => ?_⟩
  subst e
  exact lt_asymm ((mem_upL _ _ _).1 ha).2 ((mem_dnL _ _ _).1 hb).2
theorem ins_len_new (x : Id2) : ∀ (l : List Id2), x ∉ l → (ins x l).length = l.length + 1
  | [], _ => rfl
  | y :: l, h => by
    rw [ins]
    split
    · rfl
    · split
      · rename_i e
        exact (h (by simp [e])).elim
      · rw [List.length_cons, ins_len_new x l (fun hx => h (by simp [hx])), List.length_cons]
theorem foldl_len_new : ∀ (l acc : List Id2), l.Nodup → (∀ z ∈ l, z ∉ acc) → (l.foldl (fun acc x => ins x acc) acc).length = acc.length + l.length
  | [], acc, _, _ => rfl
  | x :: l, acc, h, hd => by
    rw [List.nodup_cons] at h
    rw [List.foldl_cons, foldl_len_new l (ins x acc) h.2 (fun z hz hz2 => by
      rcases (mem_ins x z acc).1 hz2 with e | hz3
      · exact h.1 (e ▸ hz)
      · exact hd z (by simp [hz]) hz3), ins_len_new x acc (hd x (by simp)), List.length_cons]
    omega
theorem setOf_len_new {l : List Id2} (h : l.Nodup) : (setOf l).length = l.length := by
  unfold setOf
  rw [foldl_len_new l [] h (fun z _ hz => by cases hz)]
  simp
theorem len_of_mem {m l : List Id2} (hm : Rises m) (h : ∀ z ∈ m, z ∈ l) : m.length ≤ l.length := by
  have e : setOf (l.filter fun y => decide (y ∈ m)) = m := rises_ext (rises_setOf _) hm fun x => by
    rw [mem_setOf, List.mem_filter]
    simp only [decide_eq_true_eq]
    exact ⟨fun k => k.2, fun k => ⟨h x k, k⟩⟩
  have h1 := setOf_len (l.filter fun y => decide (y ∈ m))
  have h2 := List.length_filter_le (fun y => decide (y ∈ m)) l
  rw [e] at h1
  omega
theorem rg_short {l : List Id2} (h : Rises l) (me : Id2) : (rg l me).length ≤ l.length := by
  rw [← setOf_len_new (nodup_rg h me)]
  exact len_of_mem (rises_setOf _) fun z hz => ((mem_rg me z l).1 ((mem_setOf _ _).1 hz)).1
/-- Whom me watches. -/
def watchL (l : List Id2) (me : Id2) (nt : List Id2) (n : Int) : List Id2 := setOf (del (both l nt) me ++ (rg (without l nt) me).take n.toNat)
theorem without_rises {l : List Id2} (h : Rises l) (nt : List Id2) : without l nt = l.filter fun y => decide (y ∉ nt) := setOf_self (rises_filter h _)
theorem rg_without {l : List Id2} (h : Rises l) (nt : List Id2) (me : Id2) : rg (without l nt) me = (rg l me).filter fun y => decide (y ∉ nt) := by
  rw [without_rises h]
  unfold rg upL dnL
  rw [List.filter_append, List.filter_filter, List.filter_filter, List.filter_filter, List.filter_filter]
  congr 2 <;> (congr 1; funext x; exact Bool.and_comm _ _)
theorem mem_watchL {l : List Id2} {me z : Id2} {nt : List Id2} {n : Int} : z ∈ watchL l me nt n ↔ (z ∈ l ∧ z ∈ nt ∧ z ≠ me) ∨ z ∈ (rg (without l nt) me).take n.toNat := by
  unfold watchL
  rw [mem_setOf, List.mem_append, mem_del, mem_both, and_assoc]
theorem watchL_in {l : List Id2} {me z : Id2} {nt : List Id2} {n : Int} (h : z ∈ watchL l me nt n) : z ∈ l ∧ z ≠ me := by
  rcases mem_watchL.1 h with h | h
  · exact ⟨h.1, h.2.2⟩
  · have := (mem_rg _ _ _).1 (List.mem_of_mem_take h)
    exact ⟨((mem_without _ _ _).1 this.1).1, this.2⟩
theorem watchL_more {l : List Id2} {me z : Id2} {nt : List Id2} {n m : Int} (h : z ∈ watchL l me nt n) (hm : n ≤ m) : z ∈ watchL l me nt m := by
  rcases mem_watchL.1 h with h | h
  · exact mem_watchL.2 (.inl h)
  · refine mem_watchL.2 (.inr ?_)
    have e : (rg (without l nt) me).take n.toNat = ((rg (without l nt) me).take m.toNat).take n.toNat := by rw [List.take_take]; congr 1; omega
    rw [e] at h
    exact List.mem_of_mem_take h
theorem watchL_rises (l : List Id2) (me : Id2) (nt : List Id2) (n : Int) : risesB (watchL l me nt n) = true := (risesB_iff _).2 (rises_setOf _)
theorem watchL_len {l : List Id2} (h : Rises l) (me : Id2) (nt : List Id2) (n : Int) : ((watchL l me nt n).length : Int) = ((l.filter fun y => decide (y ≠ me) && decide (y ∈ nt)).length : Int) + max 0 (min n ((l.filter fun y => decide (y ≠ me) && !decide (y ∈ nt)).length : Int)) := by
  have hA : del (both l nt) me = l.filter fun y => decide (y ≠ me) && decide (y ∈ nt) := rises_ext (rises_del _ _) (rises_filter h _) fun x => by
    rw [mem_del, mem_both, List.mem_filter]
    simp only [Bool.and_eq_true, decide_eq_true_eq]
    constructor
    · rintro ⟨⟨h1, h2⟩, h3⟩
      exact ⟨h1, h3, h2⟩
    · rintro ⟨h1, h3, h2⟩
      exact ⟨⟨h1, h2⟩, h3⟩
  have hw : Rises (without l nt) := rises_without _ _
  have hB : (rg (without l nt) me).length = (l.filter fun y => decide (y ≠ me) && !decide (y ∈ nt)).length := by
    rw [← setOf_len_new (nodup_rg hw me)]
    congr 1
    refine rises_ext (rises_setOf _) (rises_filter h _) fun x => ?_
    rw [mem_setOf, mem_rg, mem_without, List.mem_filter]
    simp only [Bool.and_eq_true, decide_eq_true_eq, Bool.not_eq_true', decide_eq_false_iff_not]
    constructor
    · rintro ⟨⟨h1, h2⟩, h3⟩
      exact ⟨h1, h3, h2⟩
    · rintro ⟨h1, h3, h2⟩
      exact ⟨⟨h1, h2⟩, h3⟩
  have hn : (del (both l nt) me ++ (rg (without l nt) me).take n.toNat).Nodup := by
    rw [List.nodup_append]
    refine ⟨rises_nodup (rises_del _ _), List.Pairwise.sublist (List.take_sublist _ _) (nodup_rg hw me), fun a ha b hb e => ?_⟩
    subst e
    exact ((mem_without _ _ _).1 ((mem_rg _ _ _).1 (List.mem_of_mem_take hb)).1).2 ((mem_both _ _ _).1 ((mem_del _ _ _).1 ha).1).2
  unfold watchL
  rw [setOf_len_new hn, List.length_append, List.length_take, hB, hA]
  omega
theorem watchL_short {l : List Id2} (_ : Rises l) (me : Id2) (nt : List Id2) (n : Int) : (watchL l me nt n).length ≤ l.length := len_of_mem (rises_setOf _) fun _ hz => (watchL_in hz).1
/-! the ring of the next one -/
theorem ring_next {l : List Id2} (h : Rises l) {me o : Id2} {t : List Id2} (hm : me ∈ l) (ho : rg l me = o :: t) (z : Id2) : z ∈ rg l o ↔ z ∈ t ++ [me] := by
  have hn := nodup_rg h me
  rw [ho, List.nodup_cons] at hn
  have hmem : ∀ y, y ∈ o :: t ↔ y ∈ l ∧ y ≠ me := fun y => by rw [← ho]; exact mem_rg me y l
  have ho2 := (hmem o).1 (by simp)
  rw [mem_rg, List.mem_append, List.mem_singleton]
  constructor
  · rintro ⟨h1, h2⟩
    by_cases e : z = me
    · exact .inr e
    · rcases List.mem_cons.1 ((hmem z).2 ⟨h1, e⟩) with e2 | h3
      · exact (h2 e2).elim
      · exact .inl h3
  · rintro (h1 | e)
    · have := (hmem z).1 (by simp [h1])
      exact ⟨this.1, fun e => hn.1 (e ▸ h1)⟩
    · subst e
      exact ⟨hm, fun e => ho2.2 e.symm⟩
/-! who is behind -/
theorem head_rises {l : List Id2} (h : Rises l) {x : Id2} (hx : x ∈ l) (hn : ∀ z ∈ l, ¬ lt z x) : ∃ t, l = x :: t := by
  cases l with
  | nil => cases hx
  | cons y t =>
    rcases List.mem_cons.1 hx with e | hx
    · exact ⟨t, by rw [e]⟩
    · exact (hn y (by simp) ((rises_cons.1 h).1 x hx)).elim
theorem last_rises : ∀ {l : List Id2}, Rises l → l ≠ [] → lastR l ∈ l ∧ ∀ z ∈ l, ¬ lt (lastR l) z
  | [], _, h => (h rfl).elim
  | [x], _, _ => ⟨by simp [lastR], fun z hz => by
      rw [List.mem_singleton.1 hz]
      exact lt_irrefl x⟩
  | x :: y :: t, h, _ => by
    have ih := last_rises (rises_cons.1 h).2 (by simp)
    have e : lastR (x :: y :: t) = lastR (y :: t) := by simp [lastR]
    rw [e]
    refine ⟨List.mem_cons_of_mem _ ih.1, fun z hz => ?_⟩
    rcases List.mem_cons.1 hz with rfl | hz
    · exact lt_asymm ((rises_cons.1 h).1 _ ih.1)
    · exact ih.2 z hz
theorem lastR_append (a b : List Id2) (h : b ≠ []) : lastR (a ++ b) = lastR b := by
  rcases List.eq_nil_or_concat b with e | ⟨t, y, e⟩
  · exact (h e).elim
  · subst e
    rw [List.concat_eq_append, ← List.append_assoc, lastR_snoc, lastR_snoc]
theorem behind_next {l : List Id2} (h : Rises l) {x : Id2} (hx : x ∈ l) (hne : rg l x ≠ []) : ∃ t, rg l (lastR (rg l x)) = x :: t := by
  by_cases hd : dnL x l = []
  · have hu : upL x l ≠ [] := fun e => hne (by unfold rg; rw [e, hd]; rfl)
    have hb := last_rises (rises_upL h x) hu
    have e : lastR (rg l x) = lastR (upL x l) := by unfold rg; rw [hd, List.append_nil]
    rw [e]
    generalize lastR (upL x l) = b at *
    have hbx := (mem_upL _ _ _).1 hb.1
    have hub : upL b l = [] := List.eq_nil_iff_forall_not_mem.2 fun z hz => by
      have hz2 := (mem_upL _ _ _).1 hz
      exact hb.2 z ((mem_upL _ _ _).2 ⟨hz2.1, lt_trans hbx.2 hz2.2⟩) hz2.2
    unfold rg
    rw [hub, List.nil_append]
    refine head_rises (rises_dnL h b) ((mem_dnL _ _ _).2 ⟨hx, hbx.2⟩) fun z hz hlt => ?_
    have := (mem_dnL x z l).2 ⟨((mem_dnL _ _ _).1 hz).1, hlt⟩
    rw [hd] at this
    cases this
  · have hb := last_rises (rises_dnL h x) hd
    have e : lastR (rg l x) = lastR (dnL x l) := lastR_append _ _ hd
    rw [e]
    generalize lastR (dnL x l) = b at *
    have hbx := (mem_dnL _ _ _).1 hb.1
    obtain ⟨t, ht⟩ := head_rises (rises_upL h b) ((mem_upL _ _ _).2 ⟨hx, hbx.2⟩) fun z hz hlt => by
      have hz2 := (mem_upL _ _ _).1 hz
      exact hb.2 z ((mem_dnL _ _ _).2 ⟨hz2.1, hlt⟩) hz2.2
    unfold rg
    rw [ht]
    exact ⟨_, rfl⟩
theorem alone {l : List Id2} (h : Rises l) {x : Id2} (hx : x ∈ l) (hne : rg l x = []) : l.length = 1 := by
  have e : l = [x] := rises_ext h (List.pairwise_singleton _ _) fun z => by
    rw [List.mem_singleton]
    refine ⟨fun hz => ?_, fun e => e ▸ hx⟩
    by_cases e : z = x
    · exact e
    · have := (mem_rg x z l).2 ⟨hz, e⟩
      rw [hne] at this
      cases this
  rw [e]
  rfl
theorem watched_first {l : List Id2} (h : Rises l) {b x : Id2} {t : List Id2} (nt : List Id2) {n : Int} (hn : 1 ≤ n) (hr : rg l b = x :: t) : x ∈ watchL l b nt n := by
  have hx := (mem_rg b x l).1 (by rw [hr]; simp)
  by_cases hnt : x ∈ nt
  · exact mem_watchL.2 (.inl ⟨hx.1, hnt, hx.2⟩)
  · refine mem_watchL.2 (.inr ?_)
    rw [rg_without h, hr, List.filter_cons, if_pos (by simpa using hnt)]
    obtain ⟨k, hk⟩ : ∃ k, n.toNat = k + 1 := ⟨n.toNat - 1, by omega⟩
    rw [hk]
    simp
/-! what is found -/
/-- What a node learns of those that it watches. -/
def learn (here nt w : List Id2) : List Id2 := w.foldl (fun acc x => if hasB x here = true then acc else put acc x) nt
theorem mem_learn (here : List Id2) (z : Id2) : ∀ (w nt : List Id2), z ∈ learn here nt w ↔ z ∈ nt ∨ (z ∈ w ∧ z ∉ here)
  | [], nt => by simp [learn]
  | x :: w, nt => by
    have ih := mem_learn here z w (if hasB x here = true then nt else put nt x)
    have e : learn here nt (x :: w) = learn here (if hasB x here = true then nt else put nt x) w := rfl
    rw [e, ih]
    by_cases hx : x ∈ here
    · rw [if_pos (by simpa [hasB] using hx), List.mem_cons]
      constructor
      · rintro (h | h)
        · exact .inl h
        · exact .inr ⟨.inr h.1, h.2⟩
      · rintro (h | ⟨h | h, h2⟩)
        · exact .inl h
        · exact (h2 (h ▸ hx)).elim
        · exact .inr ⟨h, h2⟩
    · rw [if_neg (by simpa [hasB] using hx), List.mem_cons, mem_put]
      constructor
      · rintro ((h | h) | h)
        · exact .inr ⟨.inl h, h ▸ hx⟩
        · exact .inl h
        · exact .inr ⟨.inr h.1, h.2⟩
      · rintro (h | ⟨h | h, h2⟩)
        · exact .inl (.inr h)
        · exact .inl (.inl h)
        · exact .inr ⟨h, h2⟩
theorem learn_rises (here : List Id2) : ∀ (w nt : List Id2), Rises nt → Rises (learn here nt w)
  | [], _, h => h
  | x :: w, nt, h => by
    have e : learn here nt (x :: w) = learn here (if hasB x here = true then nt else put nt x) w := rfl
    rw [e]
    refine learn_rises here w _ ?_
    split
    · exact h
    · exact rises_put _ _
theorem learn_take (here nt w : List Id2) {k : Nat} (hk : k < w.length) : learn here nt (w.take (k + 1)) = if hasB (w[k].1, w[k].2) here = true then learn here nt (w.take k) else put (learn here nt (w.take k)) (w[k].1, w[k].2) := by
  unfold learn
  rw [List.take_succ_eq_append_getElem hk, List.foldl_append]
  rfl
/-- What stands of a node behind r rounds. -/
structure Row14 (l here : List Id2) (r : Nat) (h : Id2) (nt : List Id2) : Prop where
  rises : Rises nt
  inl : ∀ z ∈ nt, z ∈ l ∧ z ∉ here
  first : ∀ A d B, rg l h = A ++ d :: B → (∀ x ∈ A, x ∉ here) → d ∉ here → A.length < r → d ∈ nt
theorem Row14.zero (l here : List Id2) (h : Id2) : Row14 l here 0 h [] := ⟨rises_nil, fun _ hz => (by cases hz), fun _ _ _ _ _ _ h => (by omega)⟩
theorem Row14.step {l here nt : List Id2} {r : Nat} {h : Id2} {n : Int} (hl : Rises l) (hn : 1 ≤ n) (k : Row14 l here r h nt) : Row14 l here (r + 1) h (learn here nt (watchL l h nt n)) := by
  refine ⟨learn_rises _ _ _ k.rises, fun z hz => ?_, fun A d B hr hA hd hlt => ?_⟩
  · rcases (mem_learn here z _ _).1 hz with h1 | h1
    · exact k.inl z h1
    · exact ⟨(watchL_in h1.1).1, h1.2⟩
  · rw [mem_learn]
    by_cases hdn : d ∈ nt
    · exact .inl hdn
    refine .inr ⟨mem_watchL.2 (.inr ?_), hd⟩
    have hAll : ∀ x ∈ A, x ∈ nt := fun x hx => by
      obtain ⟨A1, A2, rfl⟩ := List.append_of_mem hx
      refine k.first A1 x (A2 ++ d :: B) (by rw [hr]; simp) (fun y hy => hA y (by simp [hy])) (hA x (by simp)) ?_
      simp at hlt
      omega
    have hfA : A.filter (fun y => decide (y ∉ nt)) = [] := by
      rw [List.filter_eq_nil_iff]
      intro x hx
      simpa using hAll x hx
    rw [rg_without hl, hr, List.filter_append, hfA, List.nil_append, List.filter_cons, if_pos (by simpa using hdn)]
    obtain ⟨j, hj⟩ : ∃ j, n.toNat = j + 1 := ⟨n.toNat - 1, by omega⟩
    rw [hj]
    simp
theorem split_rises {l : List Id2} (h : Rises l) {d : Id2} (hd : d ∈ l) : ∃ A B, l = A ++ d :: B ∧ ∀ x ∈ A, lt x d := by
  obtain ⟨A, B, rfl⟩ := List.append_of_mem hd
  exact ⟨A, B, rfl, fun x hx => (List.pairwise_append.1 h).2.2 x hx d (by simp)⟩
theorem finder {l here : List Id2} (h : Rises l) (hin : ∀ z ∈ here, z ∈ l) (hne : here ≠ []) {d : Id2} (hd : d ∈ l) (hdn : d ∉ here) :
    ∃ p ∈ here, ∃ A B, rg l p = A ++ d :: B ∧ ∀ x ∈ A, x ∉ here := by
  by_cases hlow : (l.filter fun x => decide (x ∈ here) && decide (lt x d)) = []
  · have hno : ∀ x ∈ here, ¬ lt x d := fun x hx hlt => by
      have := List.filter_eq_nil_iff.1 hlow x (hin x hx)
      simp [hx, hlt] at this
    have hall : (l.filter fun x => decide (x ∈ here)) ≠ [] := fun e => by
      cases here with
      | nil => exact hne rfl
      | cons y t =>
        have := List.filter_eq_nil_iff.1 e y (hin y (by simp))
        simp at this
    have hp := last_rises (rises_filter h _) hall
    generalize lastR (l.filter fun x => decide (x ∈ here)) = p at *
    have hp1 := List.mem_filter.1 hp.1
    have hph : p ∈ here := by simpa using hp1.2
    have hdp : lt d p := by
      rcases lt_total d p with h1 | h1 | h1
      · exact h1
      · exact (hdn (h1 ▸ hph)).elim
      · exact (hno p hph h1).elim
    obtain ⟨A, B, e, hA⟩ := split_rises (rises_dnL h p) ((mem_dnL _ _ _).2 ⟨hd, hdp⟩)
    refine ⟨p, hph, upL p l ++ A, B, by unfold rg; rw [e, List.append_assoc], fun x hx hxh => ?_⟩
    rcases List.mem_append.1 hx with hx | hx
    · have hx2 := (mem_upL _ _ _).1 hx
      exact hp.2 x (List.mem_filter.2 ⟨hx2.1, by simpa using hxh⟩) hx2.2
    · exact hno x hxh (hA x hx)
  · have hp := last_rises (rises_filter h _) hlow
    generalize lastR (l.filter fun x => decide (x ∈ here) && decide (lt x d)) = p at *
    have hp1 := List.mem_filter.1 hp.1
    simp only [Bool.and_eq_true, decide_eq_true_eq] at hp1
    obtain ⟨A, B, e, hA⟩ := split_rises (rises_upL h p) ((mem_upL _ _ _).2 ⟨hd, hp1.2.2⟩)
    refine ⟨p, hp1.2.1, A, B ++ dnL p l, by unfold rg; rw [e, List.append_assoc]; rfl, fun x hx hxh => ?_⟩
    have hx2 := (mem_upL p x l).1 (by rw [e]; simp [hx])
    exact hp.2 x (List.mem_filter.2 ⟨hx2.1, by simp [hxh, hA x hx]⟩) hx2.2
/-- Behind as many rounds as there are IDs each that is none of the nodes is found. -/
theorem found_all {l here : List Id2} (h : Rises l) (hin : ∀ z ∈ here, z ∈ l) (hne : here ≠ []) (nots : List (List Id2)) (hlen : nots.length = here.length)
    (hk : ∀ k (h1 : k < here.length) (h2 : k < nots.length), Row14 l here l.length here[k] nots[k]) (z : Id2) : (∃ nt ∈ nots, z ∈ nt) ↔ z ∈ l ∧ z ∉ here := by
  constructor
  · rintro ⟨nt, hnt, hz⟩
    obtain ⟨k, hk2, rfl⟩ := List.getElem_of_mem hnt
    exact (hk k (by omega) hk2).inl z hz
  · rintro ⟨h1, h2⟩
    obtain ⟨p, hp, A, B, hr, hA⟩ := finder h hin hne h1 h2
    obtain ⟨k, hk2, rfl⟩ := List.getElem_of_mem hp
    refine ⟨nots[k], List.getElem_mem (by omega), (hk k hk2 (by omega)).first A z B hr hA h2 ?_⟩
    have := rg_short h here[k]
    rw [hr] at this
    simp at this
    omega
end Go.Proofs.Ytbjknjbjldodlaa
