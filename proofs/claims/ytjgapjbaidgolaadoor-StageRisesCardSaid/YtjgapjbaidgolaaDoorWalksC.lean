/-
  What append does to a path, and to a list of paths. No statement is proved in this text.
-/
import Derived.Test.YtjgapjbaidgolaaDoorWalksB
import Derived.ArgAppend
import Derived.Deep.RegionHeld3
import Derived.Deep.RegionLaw
import Derived.Deep.DeepFit
import Derived.Deep.DeepCutAuto
import Derived.RegionTactic
namespace Go.Proofs.YtjgapjbaidgolaaDoor
open Go.RowKit
/-- A path's value. -/
def pth (g n cap : Nat) : Value := .slice (some ⟨g, 0, none⟩) n cap
/-- append of one byte to a path: it lies where it lay, with the room that it had, or in a new block, and then nothing was written that was there. -/
theorem run_push_path (w : World) (base g cap gx : Nat) (l : List Nat) (b : Nat) (ty : TypeId) (hown : Owns w base (pth g l.length cap) l) (hx : w.heap[gx]? = some (.cells #[.int .u8 (b : Int)] 5 (0, 0))) (hl : l.length ≤ 100000) (hb : base ≤ w.heap.size) :
    ∃ g' cap' w', (Builtin.append_ #[27, 27] ty #[pth g l.length cap, .slice (some ⟨gx, 0, none⟩) 1 1]).run Tryd.prog w = .ok (pth g' (l.length + 1) cap') w' ∧ Owns w' base (pth g' (l.length + 1) cap') (l ++ [b]) ∧
      ((g' = g ∧ cap' = cap ∧ w.grownBy w' (some g)) ∨ (w.heap.size ≤ g' ∧ g' < w'.heap.size ∧ w.grownBy w' none)) := by
  obtain ⟨i0, hi, hz0, hz1, hz2⟩ := info_parts info5
  have hnews : ∀ j u, [Value.int .u8 (b : Int)][j]? = some u → w.cell? ((⟨gx, 0, none⟩ : Addr).add j) = some u := World.news_of_block (cs := #[.int .u8 (b : Int)]) hx
  rcases id hown.2 with ⟨h1, _⟩ | ⟨g0, cap0, cur, h1, h2, h3, h4, h5, h6, h7⟩
  · unfold pth at h1; cases h1
  · obtain ⟨rfl, rfl⟩ : g = g0 ∧ cap = cap0 := by unfold pth at h1; injection h1 with e1 e2 e3; injection e1 with e1; injection e1 with e1; exact ⟨e1, e3⟩
    by_cases hroom : l.length + 1 ≤ cap
    · have r1 := run_append_room (P := Tryd.prog) w 27 ty 5 i0 Tryd.underlying27 hi g l.length cap cur h3 ⟨gx, 0, none⟩ 1 1 [.int .u8 (b : Int)] (by rw [hz1]; rfl) hnews (by simp [Value.oneCell']) hroom (by rw [hz1, h6]; simp; omega)
      obtain ⟨g', cap', w', r2, o2, w2, _, _⟩ := run_append_lies (P := Tryd.prog) w 27 ty base 5 i0 (.int .u8 0) 1 1 Tryd.underlying27 hi hz0 hz1 hz2 rfl (by decide) _ l.length (bts l) hown ⟨gx, 0, none⟩ 1 1 [.int .u8 (b : Int)] rfl hnews (by simp [Value.oneCell']) (by decide) (by unfold maxLen; omega) (by omega) hb _ rfl
      have e := r1.symm.trans r2
      injection e with e1 e2
      injection e1 with e3 e4 e5
      injection e3 with e3
      injection e3 with e3
      subst e3 e5
      refine ⟨g, cap, w', r2, ?_, .inl ⟨rfl, rfl, w2⟩⟩
      unfold Owns
      rw [bts_append, List.length_append]
      exact o2
    · obtain ⟨v', w', r1, o1, w1⟩ := run_append_arg_grows (P := Tryd.prog) w 27 ty 5 i0 (.int .u8 0) 1 1 Tryd.underlying27 hi hz0 hz1 hz2 rfl (by decide) ⟨g, 0, none⟩ l.length cap (bts l) (by rw [bts_len, Nat.mul_one]) (fun j u hu => World.ownsRow.cells hown (g := g) rfl j u hu) ⟨gx, 0, none⟩ 1 1 [.int .u8 (b : Int)] rfl hnews (by omega) (by unfold maxLen; omega) (by omega)
      obtain ⟨g', cap', rfl, hg1, hg2⟩ := o1.form (by omega)
      refine ⟨g', cap', w', r1, ?_, .inr ⟨hg1, hg2, w1⟩⟩
      unfold Owns
      rw [bts_append, List.length_append]
      exact row_mono o1 hb
/-- The same, at a step of a region that draws its order. -/
theorem step_push_path {ops : Array Oper} {o : Oper} {a : Act} {K : Act → World → Prop} {Q : Exit → Act → World → Prop} {E : Prop} (hgd : o.guard = none) (s x : Operand)
    (ho : o.op = .call { callee := .builtin .append, args := #[s, x], argTypes := #[27, 27] })
    (w : World) (base g n cap gx : Nat) (l : List Nat) (b : Nat) (hn : n = l.length) (hs : a.eval s = .slice (some ⟨g, 0, none⟩) n cap) (hxe : a.eval x = .slice (some ⟨gx, 0, none⟩) 1 1)
    (hown : Owns w base (pth g l.length cap) l) (hx : w.heap[gx]? = some (.cells #[.int .u8 (b : Int)] 5 (0, 0))) (hl : l.length ≤ 100000) (hb : base ≤ w.heap.size)
    (h : ∀ g' cap' w', Owns w' base (pth g' (l.length + 1) cap') (l ++ [b]) → ((g' = g ∧ cap' = cap ∧ w.grownBy w' (some g)) ∨ (w.heap.size ≤ g' ∧ g' < w'.heap.size ∧ w.grownBy w' none)) → K (a.put o.dst (.slice (some ⟨g', 0, none⟩) (n + 1) cap')) w') :
    if Region.wanted o (yielded ops a.tmps) = true then Oper.wp Tryd.prog o a w K Q else E := by
  have hw : Region.wanted o (yielded ops a.tmps) = true := by simp [Region.wanted, hgd]
  rw [if_pos hw]
  subst hn
  obtain ⟨g', cap', w', hr, h1, h2⟩ := run_push_path w base g cap gx l b o.type hown hx hl hb
  have hs' : a.eval s = pth g l.length cap := hs
  unfold Oper.wp execOp
  simp only [ho, resolve, invoke, builtin, Sem.run_bind, Sem.run_pure, Result.andThen_ok, List.map_toArray, List.map_cons, List.map_nil, hs', hxe, hr]
  exact h g' cap' w' h1 h2
theorem info27 : (Tryd.prog.info? 27).map (fun i => (i.zero, i.size, i.bytes)) = some (some (.slice none 0 0), 1, 24) := by kernel_rfl
/-- The slice v lies at the head of a row of slices from block base on, and holds these. -/
def Holds (w : World) (base : Nat) (v : Value) (vs : List Value) : Prop := w.ownsRow base 27 1 v vs.length vs
/-- Each of these slices reads as its bytes, in a block from base on that is none of the bad ones. -/
def Each (w : World) (base : Nat) (bad : Nat → Prop) : List Value → List (List Nat) → Prop
  | [], [] => True
  | v :: vs, l :: L => (Owns w base v l ∧ ∀ k, v.ownBlock = some k → ¬ bad k) ∧ Each w base bad vs L
  | _, _ => False
theorem Each.len {w : World} {base : Nat} {bad : Nat → Prop} : ∀ {vs : List Value} {L : List (List Nat)}, Each w base bad vs L → vs.length = L.length
  | [], [], _ => rfl
  | v :: vs, l :: L, h => by simp only [List.length_cons]; rw [Each.len h.2]
  | [], _ :: _, h => h.elim
  | _ :: _, [], h => h.elim
theorem Each.at_ {w : World} {base : Nat} {bad : Nat → Prop} : ∀ {vs : List Value} {L : List (List Nat)}, Each w base bad vs L → ∀ i (h : i < vs.length) (h' : i < L.length), Owns w base vs[i] L[i]
  | v :: vs, l :: L, h, 0, _, _ => h.1.1
  | v :: vs, l :: L, h, i + 1, h1, h2 => Each.at_ h.2 i (by simpa using h1) (by simpa using h2)
  | [], [], _, _, h1, _ => absurd h1 (by simp)
  | [], _ :: _, h, _, _, _ => h.elim
  | _ :: _, [], h, _, _, _ => h.elim
theorem Each.snoc {w : World} {base : Nat} {bad : Nat → Prop} {v : Value} {l : List Nat} (hv : Owns w base v l) (hb : ∀ k, v.ownBlock = some k → ¬ bad k) : ∀ {vs : List Value} {L : List (List Nat)}, Each w base bad vs L → Each w base bad (vs ++ [v]) (L ++ [l])
  | [], [], _ => ⟨⟨hv, hb⟩, trivial⟩
  | _ :: _, _ :: _, h => ⟨h.1, Each.snoc hv hb h.2⟩
  | [], _ :: _, h => h.elim
  | _ :: _, [], h => h.elim
/-- A world in which the blocks of these slices are what they were. -/
theorem Each.turn {w w' : World} {base base' : Nat} {bad bad' : Nat → Prop} : ∀ {vs : List Value} {L : List (List Nat)}, Each w base bad vs L →
    (∀ v l, Owns w base v l → (∀ k, v.ownBlock = some k → ¬ bad k) → Owns w' base' v l ∧ ∀ k, v.ownBlock = some k → ¬ bad' k) → Each w' base' bad' vs L
  | [], [], _, _ => trivial
  | _ :: _, _ :: _, h, f => ⟨f _ _ h.1.1 h.1.2, Each.turn h.2 f⟩
  | [], _ :: _, h, _ => h.elim
  | _ :: _, [], h, _ => h.elim
/-- Rows of unlike types lie in unlike blocks. -/
theorem rows_apart {w : World} {b b' s s' n n' : Nat} {e e' : TypeId} {v v' : Value} {xs xs' : List Value} (h : w.ownsRow b e s v n xs) (h' : w.ownsRow b' e' s' v' n' xs') (he : e ≠ e') : ∀ k, v.ownBlock = some k → v'.ownBlock ≠ some k := by
  intro k hk hk'
  rcases h.2 with ⟨rfl, _⟩ | ⟨g, cap, cur, rfl, _, h3, _⟩
  · cases hk
  · rcases h'.2 with ⟨rfl, _⟩ | ⟨g', cap', cur', rfl, _, h3', _⟩
    · cases hk'
    · injection hk with hk
      injection hk' with hk'
      have hk2 : g = k := hk
      have hk3 : g' = k := hk'
      subst hk2
      rw [hk3, h3] at h3'
      injection h3' with h3'
      injection h3' with _ h3' _
      exact he h3'
end Go.Proofs.YtjgapjbaidgolaaDoor
