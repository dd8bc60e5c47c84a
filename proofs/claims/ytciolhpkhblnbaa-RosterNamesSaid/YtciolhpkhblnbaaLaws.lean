/-
  What the statements' walks share: lists held in blocks, whether some are large, a frame spelled out. No statement is proved in this text.
-/
import Derived.Test.YtciolhpkhblnbaaWorks
import Derived.Test.YtciolhpkhblnbaaRosE
namespace Go.Proofs.Ytciolhpkhblnbaa
open Go Go.RowKit Ros
/-- Block g holds the list L. -/
def HoldsL (w : World) (g : Nat) (L : Ls) : Prop := ∃ A c B d, LBox w g (.slice A L.1.length c) (.slice B L.2.length d) ∧ Ms w (.slice A L.1.length c) L.1 ∧ Ids w (.slice B L.2.length d) L.2
theorem HoldsL.below {w w' : World} {g : Nat} {L : Ls} (h : HoldsL w g L) (hb : Below w.heap.size w w') : HoldsL w' g L := by
  obtain ⟨A, c, B, d, h1, h2, h3⟩ := h
  exact ⟨A, c, B, d, lbox_below h1 hb, h2.below hb, h3.below hb⟩
theorem holdsL_of {w : World} {g : Nat} {A : Option Addr} {c : Nat} {B : Option Addr} {d : Nat} {L : Ls} (h1 : LBox w g (.slice A L.1.length c) (.slice B L.2.length d)) (h2 : Ms w (.slice A L.1.length c) L.1) (h3 : Ids w (.slice B L.2.length d) L.2) : HoldsL w g L := ⟨A, c, B, d, h1, h2, h3⟩
theorem holdsL_new {w : World} {A : Option Addr} {c : Nat} {B : Option Addr} {d : Nat} {L : Ls} (h2 : Ms w (.slice A L.1.length c) L.1) (h3 : Ids w (.slice B L.2.length d) L.2) : HoldsL (w.alloc (.cells #[.slice A L.1.length c, .slice B L.2.length d] 27)) w.heap.size L :=
  ⟨A, c, B, d, lbox_new w _ _, h2.below (below_one _ _), h3.below (below_one _ _)⟩
/-- A frame, spelled out. -/
theorem act_eta (a : Act) (n : Nat) (h : a.tmps.size = n) : a = ⟨((List.range n).map fun k => a.tmps.getD k undef).toArray, a.defers⟩ := by
  obtain ⟨t, d⟩ := a
  congr 1
  apply Array.ext_getElem?
  intro i
  by_cases hi : i < n
  · have h2 : i < t.size := by rw [show t.size = n from h]; exact hi
    rw [Array.getElem?_eq_getElem h2, Array.getElem?_eq_getElem (by simpa using hi)]
    simp [Array.getD, h2]
  · have h2 : ¬ i < t.size := by rw [show t.size = n from h]; exact hi
    rw [Array.getElem?_eq_none (by omega), Array.getElem?_eq_none (by simpa using hi)]
/-- An operation whose guard is of one that was not wanted. -/
theorem due_undef {P : Program} {Q : Exit → Act → World → Prop} {F : Nat → Value → World → Prop} {G : World → Prop} {a0 : Act} {ds : List (Option Tmp)} {i k : Nat} {o : Oper} {b : Bool} {s : Tmp} (hg : o.guard = some (k, b)) (hs : ds.getD k none = some s) (ha : (o.after.any fun e => e.on == k && Region.binds .any e) = true) (hv : ∀ v w, F k v w → v = undef) (hu : ∀ w, F i undef w) : Due P ds Q F G a0 i o := by
  intro a w hG hold hf K hK
  have hm : met ds o a = false := by
    unfold met
    have := hv _ _ (hf k s ha hs)
    rw [hg]
    simp only [hs, this]
    rfl
  rw [hm]
  exact hK _ _ hG (Below.refl _ _) (hu _)
theorem join_ok (v u : Value) (a b : Ls) (w : World) (h : LsAt w v a) (k : LsAt w u b) (ha : LenOk a) (hb : LenOk b) :
    Calls Try.prog 22 #[v, u] w fun e w' => ∃ V, e = .returned V ∧ LsAt w' V (joinL a b) ∧ Below w.heap.size w w' := joinL_ls v u a b w h k (ha.sum1 hb) (ha.sum2 hb)
theorem same_ok (v u : Value) (a b : Ls) (w : World) (h : LsAt w v a) (k : LsAt w u b) (ha : LenOk a) (hb : LenOk b) (he : a = b) :
    Calls Try.prog 23 #[v, u] w fun e w' => e = .returned (.bool true) ∧ Below w.heap.size w w' := by
  have := sameL_any v u a b w h k ha.wide hb.wide
  subst he
  rwa [sameL_refl] at this
theorem may_ok (v u : Value) (a : Ls) (z : Bool) (w : World) (h : Ms w v a.1) (k : Ids w u a.2) (ha : LenOk a) (he : mayB a.1 a.2 = z) :
    Calls Try.prog 14 #[v, u] w fun e w' => e = .returned (.bool z) ∧ Below w.heap.size w w' := by
  have := mayL_any v u a.1 a.2 w h k ha.wide.1 ha.wide.2
  rwa [he] at this
theorem lenOk_of {a : Ls} (h : bigL a = false) : LenOk a := by
  unfold bigL at h
  rw [Bool.or_eq_false_iff] at h
  have h1 := of_decide_eq_false h.1
  have h2 := of_decide_eq_false h.2
  exact ⟨by omega, by omega⟩
theorem large_lit (W : World) (ps : List (Value × Value)) (ls : List Ls) (hl : ps.length = ls.length) (hs : ∀ (k : Nat) (hk : k < ps.length) (hk' : k < ls.length), ∃ A c B d, ps[k] = (.slice A ls[k].1.length c, .slice B ls[k].2.length d)) (hn : ps.length ≤ 10) :
    Calls Try.prog 21 #[.slice (some ⟨W.heap.size, 0, none⟩) ps.length ps.length] (W.alloc (.cells (flatR encP ps).toArray 27)) fun e w' => e = .returned (.bool (ls.any bigL)) ∧ Below W.heap.size W w' :=
  (large_any W.heap.size ps ls _ (heap_alloc_new W _) hl hs hn).mono fun _ _ ⟨he, hw⟩ => ⟨he, hw ▸ below_one W _⟩
theorem large_one (W : World) (A : Option Addr) (c : Nat) (B : Option Addr) (d : Nat) (a : Ls) :
    Calls Try.prog 21 #[.slice (some ⟨W.heap.size, 0, none⟩) 1 1] (W.alloc (.cells #[.slice A a.1.length c, .slice B a.2.length d] 27)) fun e w' => e = .returned (.bool (bigL a)) ∧ Below W.heap.size W w' :=
  (large_lit W [(.slice A a.1.length c, .slice B a.2.length d)] [a] rfl (fun k hk _ => by
    match k, hk with
    | 0, _ => exact ⟨_, _, _, _, rfl⟩) (by simp)).mono fun _ _ ⟨he, hw⟩ => ⟨he.trans (ret_bool (by simp)), hw⟩
theorem large_two (W : World) (A : Option Addr) (c : Nat) (B : Option Addr) (d : Nat) (a : Ls) (A' : Option Addr) (c' : Nat) (B' : Option Addr) (d' : Nat) (b : Ls) :
    Calls Try.prog 21 #[.slice (some ⟨W.heap.size, 0, none⟩) 2 2] (W.alloc (.cells #[.slice A a.1.length c, .slice B a.2.length d, .slice A' b.1.length c', .slice B' b.2.length d'] 27)) fun e w' => e = .returned (.bool (bigL a || bigL b)) ∧ Below W.heap.size W w' :=
  (large_lit W [(.slice A a.1.length c, .slice B a.2.length d), (.slice A' b.1.length c', .slice B' b.2.length d')] [a, b] rfl (fun k hk _ => by
    match k, hk with
    | 0, _ => exact ⟨_, _, _, _, rfl⟩
    | 1, _ => exact ⟨_, _, _, _, rfl⟩) (by simp)).mono fun _ _ ⟨he, hw⟩ => ⟨he.trans (ret_bool (by simp)), hw⟩
theorem large_three (W : World) (A : Option Addr) (c : Nat) (B : Option Addr) (d : Nat) (a : Ls) (A' : Option Addr) (c' : Nat) (B' : Option Addr) (d' : Nat) (b : Ls) (A2 : Option Addr) (c2 : Nat) (B2 : Option Addr) (d2 : Nat) (x : Ls) :
    Calls Try.prog 21 #[.slice (some ⟨W.heap.size, 0, none⟩) 3 3] (W.alloc (.cells #[.slice A a.1.length c, .slice B a.2.length d, .slice A' b.1.length c', .slice B' b.2.length d', .slice A2 x.1.length c2, .slice B2 x.2.length d2] 27)) fun e w' => e = .returned (.bool (bigL a || bigL b || bigL x)) ∧ Below W.heap.size W w' :=
  (large_lit W [(.slice A a.1.length c, .slice B a.2.length d), (.slice A' b.1.length c', .slice B' b.2.length d'), (.slice A2 x.1.length c2, .slice B2 x.2.length d2)] [a, b, x] rfl (fun k hk _ => by
    match k, hk with
    | 0, _ => exact ⟨_, _, _, _, rfl⟩
    | 1, _ => exact ⟨_, _, _, _, rfl⟩
    | 2, _ => exact ⟨_, _, _, _, rfl⟩) (by simp)).mono fun _ _ ⟨he, hw⟩ => ⟨he.trans (ret_bool (by simp [Bool.or_assoc])), hw⟩
end Go.Proofs.Ytciolhpkhblnbaa
