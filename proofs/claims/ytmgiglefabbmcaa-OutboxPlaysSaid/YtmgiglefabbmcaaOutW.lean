/-
  What is lost, and what stays: the words, and frames put behind others, several at once. No statement is proved in this text.
-/
import Derived.Test.YtmgiglefabbmcaaOutS
import Derived.Deep.DeepCutAuto
set_option maxRecDepth 20000
namespace Go.Proofs.Ytmgiglefabbmcaa
open Go Go.RowKit
/-- The first one that is known, looked for from behind. -/
def FiI (us : List Fq) (n : Nat) (f : Int) : Prop := (f = -1 ∧ ∀ j (h : j < us.length), n ≤ j → kn us[j].F = false) ∨ ∃ g : Nat, f = g ∧ n ≤ g ∧ ∃ h : g < us.length, kn us[g].F = true ∧ ∀ j (hj : j < g), n ≤ j → kn (us[j]'(Nat.lt_trans hj h)).F = false
theorem FiI.start (us : List Fq) : FiI us us.length (-1) := .inl ⟨rfl, fun j h h2 => absurd h (by omega)⟩
theorem FiI.yes {us : List Fq} {m : Nat} {f : Int} (_h : FiI us (m + 1) f) (hm : m < us.length) (hk : kn us[m].F = true) : FiI us m m := .inr ⟨m, rfl, Nat.le_refl _, hm, hk, fun j hj h2 => absurd hj (by omega)⟩
theorem FiI.no {us : List Fq} {m : Nat} {f : Int} (h : FiI us (m + 1) f) (hm : m < us.length) (hk : kn us[m].F = false) : FiI us m f := by
  rcases h with ⟨h1, h2⟩ | ⟨g, h1, h2, h3, h4, h5⟩
  · exact .inl ⟨h1, fun j hj hj2 => by
      rcases Nat.eq_or_lt_of_le hj2 with e | e
      · subst e; exact hk
      · exact h2 j hj e⟩
  · exact .inr ⟨g, h1, by omega, h3, h4, fun j hj hj2 => by
      rcases Nat.eq_or_lt_of_le hj2 with e | e
      · subst e; exact hk
      · exact h5 j hj e⟩
theorem FiI.done {us : List Fq} {f : Int} (h : FiI us 0 f) : f = dz (us.map (·.F)) := by
  unfold dz
  rcases h with ⟨h1, h2⟩ | ⟨g, h1, h2, h3, h4, h5⟩
  · have e : fi (us.map (·.F)) = (us.map (·.F)).length := fi_none fun j hj => by
      rw [List.getElem_map]
      exact h2 j (by simpa using hj) (Nat.zero_le _)
    rw [if_neg (by omega)]
    exact h1
  · have hg : g < (us.map (·.F)).length := by simpa using h3
    have e : fi (us.map (·.F)) = g := fi_hit hg (by rw [List.getElem_map]; exact h4) fun j hj => by
      rw [List.getElem_map]
      exact h5 j hj (Nat.zero_le _)
    rw [if_pos (by rw [e]; exact hg), e]
    exact h1
/-- All but the first of a list. -/
theorem rcs_sliced {w : World} {ad : Addr} {n c k : Nat} {l : List Fq} (h : Rcs encF 14 w (.slice (some ad) n c) l) (hk : k ≤ l.length) (h0 : 0 < k) : Rcs encF 14 w (.slice (some (if c = k then ad else ad.add (k * 14))) (n - k) (c - k)) (l.drop k) := by
  by_cases e : c = k
  · rw [if_pos e]
    obtain ⟨A', c', hv, h1, h2, h3⟩ := id h
    injection hv with e1 e2 e3
    subst e1 e3
    have e4 : l.length = k := by omega
    rw [List.drop_of_length_le (by omega)]
    exact ⟨some ad, c - k, by rw [e2, e4, Nat.sub_self]; rfl, (fun e => by cases e), Nat.zero_le _, fun j hj => absurd hj (by simp)⟩
  · rw [if_neg e]
    exact h.drop (by decide) hk h0
theorem rcs_news {w : World} {ad : Addr} {n c : Nat} {l : List Fq} (h : Rcs encF 14 w (.slice (some ad) n c) l) : ∀ j u, (flatR encF l)[j]? = some u → w.cell? (ad.add j) = some u := by
  obtain ⟨A', c', hv, _, _, hk⟩ := h
  injection hv with e1 _ _
  subst e1
  intro j u hu
  obtain ⟨k, hlt, i, rfl, hu2⟩ := flatR_split encF_len (by decide) hu
  obtain ⟨ad', e, _, h2⟩ := hk k hlt
  injection e with e
  subst e
  exact h2 i u hu2
set_option maxHeartbeats 1000000 in
/-- append of frames, run. -/
theorem run_append_frames (W : World) (ty : TypeId) {A : Option Addr} {c : Nat} {qs xs : List Fq} {ad : Addr} {c2 : Nat} (hrow : Row14 W A c qs) (hx : Rcs encF 14 W (.slice (some ad) xs.length c2) xs) (hl : qs.length + xs.length ≤ 10000) :
    ∃ A' c' W', (Builtin.append_ #[41, 41] ty #[.slice A qs.length c, .slice (some ad) xs.length c2]).run Try.prog W = .ok (.slice A' (qs.length + xs.length) c') W' ∧ Row14 W' A' c' (qs ++ xs) ∧
      ((A' = A ∧ Only (AB A) W W') ∨ ((∀ k, AB A' k → W.heap.size ≤ k) ∧ Below W.heap.size W W')) := by
  obtain ⟨i0, hi, hz0, hz1, hz2⟩ := info_parts info32
  have hnews := rcs_news hx
  have hone := flat_one xs
  have hfl := flat_len xs
  rcases id hrow with ⟨rfl, rfl, rfl⟩ | ⟨g, o, cur, rfl, hg, hs, hc, hxx⟩
  · obtain ⟨v', W', hr, h2, h3, _⟩ := run_append_own (P := Try.prog) W W.heap.size 41 ty 32 i0 _ 14 192 Try.underlying41 hi hz0 hz1 hz2 rfl (by decide) (.slice none 0 0) 0 [] (World.ownsRow_nil W _ 32 14) ad xs.length c2 (flatR encF xs) hfl hnews hone (by unfold maxLen; omega) (by simp at hl; omega) (Nat.le_refl _)
    obtain ⟨A', c', rfl, e, k2, k3⟩ := row14_own (qs := xs) (by simpa using h2)
    exact ⟨A', c', W', by simpa [e] using hr, by simpa using k2, .inr ⟨k3, (Below.refl _ _).grown h3 (Nat.le_refl _) fun k hk => by cases hk⟩⟩
  · by_cases hroom : qs.length + xs.length ≤ c
    · have hr := run_append_room_cells (P := Try.prog) W 41 ty 32 i0 Try.underlying41 hi g o qs.length c ad xs.length c2 (flatR encF xs) (by rw [hz1]; exact hfl) hnews hone hroom
        (fun j hj => by
          rw [hfl] at hj
          rw [cell_of_row _ _ _ _ _ _ hg, hz1, Array.getElem?_eq_getElem (by omega)]; rfl)
        (fun j hj => frozen_of_row _ _ _ _ _ hg)
      rw [hz1] at hr
      obtain ⟨c4, g4, z4⟩ := shape_setCells g 32 (flatR encF xs) (o + qs.length * 14) W cur hg
      refine ⟨_, c, _, hr, .inr ⟨g, o, c4, rfl, g4, by rw [z4]; exact hs, by simp; omega, fun j v hv => ?_⟩, .inl ⟨rfl, (only_setCells W g _ _).mono fun k hk => ⟨_, rfl, hk.symm⟩⟩⟩
      have key : (W.setCells g (o + qs.length * 14) (flatR encF xs)).cell? ⟨g, o + j, none⟩ = some v := by
        rw [flatR_append] at hv
        rcases Nat.lt_or_ge j (qs.length * 14) with hj | hj
        · rw [List.getElem?_append_left (by rw [flat_len]; exact hj)] at hv
          rw [World.cell?_setCells_out g _ _ _ ⟨g, o + j, none⟩ (fun _ _ => .inl (by show o + j < _; omega)), cell_of_row _ _ _ _ _ _ hg]
          exact hxx j v hv
        · rw [List.getElem?_append_right (by rw [flat_len]; exact hj), flat_len] at hv
          obtain ⟨h1, h2⟩ := List.getElem?_eq_some_iff.1 hv
          have := World.cell?_setCells_in g (flatR encF xs) (o + qs.length * 14) W (fun k hk => by
            rw [hfl] at hk
            rw [cell_of_row _ _ _ _ _ _ hg, Array.getElem?_eq_getElem (by omega)]; rfl) _ h1
          rw [show o + qs.length * 14 + (j - qs.length * 14) = o + j by omega, h2] at this
          exact this
      rwa [cell_of_row _ _ _ _ _ _ g4] at key
    · obtain ⟨v', W', hr, h2, h3⟩ := run_append_arg_grows (P := Try.prog) W 41 ty 32 i0 _ 14 192 Try.underlying41 hi hz0 hz1 hz2 rfl (by decide) ⟨g, o, none⟩ qs.length c (flatR encF qs) (flat_len qs) (fun j v hv => by rw [Addr.add_mid, cell_of_row _ _ _ _ _ _ hg]; exact hxx j v hv) ad xs.length c2 (flatR encF xs) hfl hnews (by omega) (by unfold maxLen; omega) (by omega)
      rw [← flatR_append] at h2
      obtain ⟨A', c', rfl, _, k2, k3⟩ := row14_own h2
      rw [List.length_append] at hr
      exact ⟨A', c', W', hr, k2, .inr ⟨k3, (Below.refl _ _).grown h3 (Nat.le_refl _) fun k hk => by cases hk⟩⟩
/-- The same, at a step of a region that draws its order. -/
theorem step_append_frames {ops : Array Oper} {o : Oper} {a : Act} {K : Act → World → Prop} {Q : Exit → Act → World → Prop} {E : Prop} (hgd : o.guard = none) (s x : Operand)
    (ho : o.op = .call { callee := .builtin .append, args := #[s, x], argTypes := #[41, 41] }) (W : World) {A : Option Addr} {n c m c2 : Nat} {qs xs : List Fq} {ad : Addr} (hs : a.eval s = .slice A n c) (hx : a.eval x = .slice (some ad) m c2) (hn : n = qs.length) (hm : m = xs.length)
    (hrow : Row14 W A c qs) (hb : Rcs encF 14 W (.slice (some ad) m c2) xs) (hl : qs.length + xs.length ≤ 10000)
    (h : ∀ A' c' W' N, N = (qs ++ xs).length → Row14 W' A' c' (qs ++ xs) → ((A' = A ∧ Only (AB A) W W') ∨ ((∀ k, AB A' k → W.heap.size ≤ k) ∧ Below W.heap.size W W')) → K (a.put o.dst (.slice A' N c')) W') :
    if Region.wanted o (yielded ops a.tmps) = true then Oper.wp Try.prog o a W K Q else E := by
  have hw : Region.wanted o (yielded ops a.tmps) = true := by simp [Region.wanted, hgd]
  rw [if_pos hw]
  subst hn hm
  obtain ⟨A', c', W', hr, h1, h2⟩ := run_append_frames W o.type hrow hb hl
  unfold Oper.wp execOp
  simp only [ho, resolve, invoke, builtin, Sem.run_bind, Sem.run_pure, Result.andThen_ok, List.map_toArray, List.map_cons, List.map_nil, hs, hx, hr]
  exact h A' c' W' _ (by simp) h1 h2
theorem run_build0 (W : World) : (Instr.buildSlice 41 0 #[]).run Try.prog W = .ok (.slice (some ⟨W.heap.size, 0, none⟩) 0 0) (W.alloc (.cells #[] 32)) := by kernel_rfl
theorem run_build1 (W : World) (u : Fq) : (Instr.buildSlice 41 1 #[(0, .agg (fc u))]).run Try.prog W = .ok (.slice (some ⟨W.heap.size, 0, none⟩) 1 1) (W.alloc (.cells (fc u) 32)) := by kernel_rfl
theorem step_build0 {ops : Array Oper} {o : Oper} {a : Act} {K : Act → World → Prop} {Q : Exit → Act → World → Prop} {E : Prop} (hgd : o.guard = none) (ho : o.op = .buildSlice 41 0 #[]) (W : World)
    (h : K (a.put o.dst (.slice (some ⟨W.heap.size, 0, none⟩) 0 0)) (W.alloc (.cells #[] 32))) :
    if Region.wanted o (yielded ops a.tmps) = true then Oper.wp Try.prog o a W K Q else E := by
  have hw : Region.wanted o (yielded ops a.tmps) = true := by simp [Region.wanted, hgd]
  rw [if_pos hw]
  unfold Oper.wp execOp
  simp only [ho, Sem.run_bind, Sem.run_pure, Result.andThen_ok, List.map_toArray, List.map_nil, run_build0]
  exact h
theorem step_build1 {ops : Array Oper} {o : Oper} {a : Act} {K : Act → World → Prop} {Q : Exit → Act → World → Prop} {E : Prop} (hgd : o.guard = none) (x : Operand) (ho : o.op = .buildSlice 41 1 #[(0, x)]) (W : World) (u : Fq) (hx : a.eval x = .agg (fc u))
    (h : K (a.put o.dst (.slice (some ⟨W.heap.size, 0, none⟩) 1 1)) (W.alloc (.cells (fc u) 32))) :
    if Region.wanted o (yielded ops a.tmps) = true then Oper.wp Try.prog o a W K Q else E := by
  have hw : Region.wanted o (yielded ops a.tmps) = true := by simp [Region.wanted, hgd]
  rw [if_pos hw]
  unfold Oper.wp execOp
  simp only [ho, Sem.run_bind, Sem.run_pure, Result.andThen_ok, List.map_toArray, List.map_cons, List.map_nil, hx, run_build1]
  exact h
/-- What stands while a list is put together. -/
structure Tr (w W : World) (A : Option Addr) (c : Nat) (d : List Fq) : Prop where
  row : Row14 W A c d
  own : ∀ k, AB A k → w.heap.size ≤ k
  b : Below w.heap.size w W
theorem Tr.step {w W W' : World} {A : Option Addr} {c : Nat} {d : List Fq} (h : Tr w W A c d) (hb : Below W.heap.size W W') : Tr w W' A c d := ⟨h.row.on (Below.on hb h.row.lt), h.own, below_after h.b hb (Nat.le_refl _)⟩
theorem Only.beyond {S : Nat → Prop} {w W W' : World} (h : Only S W W') (hb : Below w.heap.size w W) (hS : ∀ k, S k → w.heap.size ≤ k) : Below w.heap.size w W' :=
  ⟨h.os.trans hb.os, h.tape.trans hb.tape, h.output.trans hb.output, Nat.le_trans hb.size h.size, fun k hk => (h.block k (Nat.lt_of_lt_of_le hk hb.size) fun e => by have := hS k e; omega).trans (hb.block k hk)⟩
theorem Tr.app {w W W' : World} {A A' : Option Addr} {c c' : Nat} {d xs : List Fq} (h : Tr w W A c d) (h1 : Row14 W' A' c' (d ++ xs)) (h2 : (A' = A ∧ Only (AB A) W W') ∨ ((∀ k, AB A' k → W.heap.size ≤ k) ∧ Below W.heap.size W W')) : Tr w W' A' c' (d ++ xs) := by
  rcases h2 with ⟨rfl, h2⟩ | ⟨h2, h3⟩
  · exact ⟨h1, h.own, h2.beyond h.b h.own⟩
  · exact ⟨h1, fun k hk => Nat.le_trans h.b.size (h2 k hk), below_after h.b h3 (Nat.le_refl _)⟩
theorem tr_new {w W : World} (h : Below w.heap.size w W) : Tr w (W.alloc (.cells #[] 32)) (some ⟨W.heap.size, 0, none⟩) 0 [] :=
  ⟨.inr ⟨_, 0, #[], rfl, heap_alloc_new W _, by simp, by simp, fun j v hv => by simp [flatR] at hv⟩, fun k ⟨_, e, e2⟩ => by
    injection e with e
    subst e
    subst e2
    exact h.size, below_after h (below_one W _) (Nat.le_refl _)⟩
/-- .. beside a literal in block g. -/
structure Ti (w W : World) (A : Option Addr) (g : Nat) (u : Fq) : Prop where
  x : FB W g u
  n : ¬ AB A g
theorem Ti.step {w W W' : World} {A : Option Addr} {g : Nat} {u : Fq} (h : Ti w W A g u) (hb : Below W.heap.size W W') : Ti w W' A g u := ⟨fb_below h.x hb, h.n⟩
theorem Ti.app {w W W' : World} {A A' : Option Addr} {g : Nat} {u : Fq} (h : Ti w W A g u) (h2 : (A' = A ∧ Only (AB A) W W') ∨ ((∀ k, AB A' k → W.heap.size ≤ k) ∧ Below W.heap.size W W')) : Ti w W' A' g u := by
  rcases h2 with ⟨rfl, h2⟩ | ⟨h2, h3⟩
  · exact ⟨fb_only h.x h2 h.n, h.n⟩
  · exact ⟨fb_below h.x h3, fun e => by have := h2 g e; have := fb_lt h.x; omega⟩
theorem ti_new {w W : World} {A : Option Addr} {c : Nat} {d : List Fq} {s : Fq} (h : Tr w W A c d) : Ti w (W.alloc (.cells (fc s) 32)) A W.heap.size s := ⟨fb_new W s, fun e => by have := h.row.lt _ e; omega⟩
theorem ti_new2 {w W : World} {g : Nat} {s : Fq} (h : FB W g s) : Ti w (W.alloc (.cells #[] 32)) (some ⟨W.heap.size, 0, none⟩) g s := ⟨fb_below h (below_one W _), fun ⟨_, e, e2⟩ => by
  injection e with e
  subst e
  have h3 := fb_lt h
  dsimp only at e2
  omega⟩
theorem Ti.rcs {w W : World} {A : Option Addr} {g : Nat} {u : Fq} (h : Ti w W A g u) : Rcs encF 14 W (.slice (some ⟨g, 0, none⟩) 1 1) [u] :=
  ⟨some ⟨g, 0, none⟩, 1, rfl, (fun e => by cases e), by simp, fun k hk => ⟨_, rfl, fb_lt h.x, fun j v hv => by
    have hk0 : k = 0 := by simpa using hk
    subst hk0
    have e : (⟨g, 0, none⟩ : Addr).add (0 * 14 + j) = ⟨g, j, none⟩ := by rw [Nat.zero_mul, Nat.zero_add]; unfold Addr.add; split <;> simp_all
    rw [e, cell_of_row _ _ _ _ _ _ h.x]
    unfold fc
    simpa using hv⟩⟩
end Go.Proofs.Ytmgiglefabbmcaa
