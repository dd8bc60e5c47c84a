/-
  What striking out of rows in place, and of the lists in them, keeps. No statement is proved in this text; it holds for every input that its premises let by.
-/
import Derived.Test.YtofanciaacdjfaaGoneC
namespace Go.Proofs.Ytofanciaacdjfaa
open Go Go.RowKit Sets RowSets
/-- The list of a row in place, written. -/
theorem rowW_not {w : World} {g : Nat} {d : Array Raw} (h : RowAtR encW 4 w g d) {i : Nat} (hi : i < d.size) (B : Option Addr) (m c : Nat) :
    RowAtR encW 4 (w.setCell ⟨g, i * 4 + 3, none⟩ (.slice B m c)) g (d.setIfInBounds i (d[i]!.1, d[i]!.2.1, B, m, c)) := by
  have hcell := (h.2 i hi 3 (slc d[i]!) rfl).1
  refine ⟨by rw [World.size_setCell]; exact h.1, fun k hk j u hu => ?_⟩
  have hk2 : k < d.size := by simpa using hk
  have hset : w.setCell ⟨g, i * 4 + 3, none⟩ (.slice B m c) = w.setCells g (i * 4 + 3) [.slice B m c] := rfl
  rw [hset]
  by_cases e : k = i ∧ j = 3
  · obtain ⟨rfl, rfl⟩ := e
    rw [getElem!_pos _ k hk, Array.getElem_setIfInBounds_self] at hu
    have hu2 : u = .slice B m c := by simpa [encW, slc] using hu.symm
    subst hu2
    refine ⟨?_, ?_⟩
    · have := World.cell?_setCells_in g [.slice B m c] (k * 4 + 3) w (fun t ht => by
        obtain rfl : t = 0 := by simpa using ht
        rw [Nat.add_zero, hcell]; rfl) 0 (by simp)
      exact this
    · rw [World.frozen?_setCells]
      exact (h.2 k hk2 3 (slc d[k]!) rfl).2
  · have hu2 : (encW d[k]!)[j]? = some u := by
      by_cases e1 : k = i
      · subst e1
        rw [getElem!_pos _ k hk, Array.getElem_setIfInBounds_self] at hu
        have hj : j < 4 := (List.getElem?_eq_some_iff.1 hu).1
        have hj3 : j ≠ 3 := fun h => e ⟨rfl, h⟩
        have : j = 0 ∨ j = 1 ∨ j = 2 := by omega
        rcases this with rfl | rfl | rfl <;> exact hu
      · rw [getElem!_pos _ k hk, Array.getElem_setIfInBounds_ne _ (fun h => e1 h.symm)] at hu
        rw [getElem!_pos d k hk2]
        exact hu
    have hj : j < 4 := (List.getElem?_eq_some_iff.1 hu2).1
    refine ⟨?_, ?_⟩
    · rw [World.cell?_setCells_out g [.slice B m c] (i * 4 + 3) w _ (fun _ _ => ?_)]
      · exact (h.2 k hk2 j u hu2).1
      · show k * 4 + j < i * 4 + 3 ∨ i * 4 + 3 + 1 ≤ k * 4 + j
        rcases Nat.lt_trichotomy k i with h1 | h1 | h1
        · omega
        · subst h1
          have : j ≠ 3 := fun h => e ⟨rfl, h⟩
          omega
        · omega
    · rw [World.frozen?_setCells]
      exact (h.2 k hk2 j u hu2).2
/-- A list that lies in a block of its own, behind a mark, or nowhere. -/
def LiesB (g : Nat) (w : World) (q : Raw) (r : Row) : Prop := q.1 = r.1 ∧ q.2.1 = r.2.1 ∧ Ids w (slc q) r.2.2 ∧ ∀ ad, q.2.2.1 = some ad → g < ad.block
theorem LiesB.grown {g b : Nat} {w w' : World} {q : Raw} {r : Row} (h : LiesB g w q r) (hb : w.grownBy w' (some b)) (hne : ∀ ad, q.2.2.1 = some ad → ad.block ≠ b) : LiesB g w' q r := by
  refine ⟨h.1, h.2.1, ?_, h.2.2.2⟩
  obtain ⟨A, c, hv, h0, hc, hk⟩ := h.2.2.1
  refine ⟨A, c, hv, h0, hc, fun k hlt => ?_⟩
  obtain ⟨ad, rfl, h1, c1, c2⟩ := hk k hlt
  have e : q.2.2.1 = some ad := by unfold slc at hv; injection hv
  have hbl := hb.block ad.block h1 (fun h => hne ad e (by first | exact (Option.some.inj h).symm | exact Option.some.inj h))
  refine ⟨ad, rfl, Nat.lt_of_lt_of_le h1 hb.size, ?_, ?_⟩
  · rw [World.cell?_of_block (w := w) (by rw [block_of_add]; exact hbl)]
    exact c1
  · rw [World.cell?_of_block (w := w) (by show w'.heap[(ad.add (k * 2)).block]? = _; rw [block_of_add]; exact hbl)]
    exact c2
theorem LiesB.below {g : Nat} {w w' : World} {q : Raw} {r : Row} (h : LiesB g w q r) (hb : Below w.heap.size w w') : LiesB g w' q r := ⟨h.1, h.2.1, h.2.2.1.below hb, h.2.2.2⟩
theorem liesB_own {g : Nat} {w : World} {q : Raw} {r : Row} (h : OwnRow w (g + 1) q r) : LiesB g w q r := by
  refine ⟨h.1, h.2.1, ownsI_ids h.2.2, fun ad e => ?_⟩
  have := (World.ownsRow.lt h.2.2 ad.block (by unfold slc; rw [e]; rfl)).1
  omega
/-- Rows and what they say, struck out alike. -/
theorem eachOwn_filter {w : World} {lo : Nat} {p : Id2 → Bool} : ∀ {qs : List Raw} {l : List Row}, EachOwn w lo qs l → EachOwn w lo (qs.filter fun q => !p q.1) (l.filter fun r => !p r.1)
  | [], [], _ => trivial
  | q :: qs, r :: l, h => by
    have ih := eachOwn_filter (p := p) h.2
    have e : q.1 = r.1 := h.1.1
    rcases hp : p r.1 with _ | _
    · rw [List.filter_cons_of_pos (by rw [e, hp]; rfl), List.filter_cons_of_pos (by rw [hp]; rfl)]
      exact ⟨h.1, ih⟩
    · rw [List.filter_cons_of_neg (by rw [e, hp]; simp), List.filter_cons_of_neg (by rw [hp]; simp)]
      exact ih
  | [], _ :: _, h => h.elim
  | _ :: _, [], h => h.elim
/-- Striking out of no list. -/
theorem deleteI_nil {K : Nat} {caps : Array Value} {p : Id2 → Bool} {S : World → Prop} (hP : AsksI K caps p S) (w : World) (hS : S w) :
    Calls Try.prog 38 #[.slice none 0 0, .func (.func K) #[] caps] w fun e w' => e = .returned (.slice none 0 0) ∧ Below w.heap.size w w' := by
  have HP := Lib.hid hP
  have HS0 := Lib.hid hS
  clear hP hS
  go_enter Try.func38, Try.ntmps38
  go_wp2_with fail
  (with_reducible refine (indexI_any HP.out _ _ _ (Ids.nil w) HS0.out (by simp)).mono ?_)
  rintro e w1 ⟨⟨r, rfl, hf⟩, hb⟩
  have HB := Lib.hid hb
  clear hb
  rcases hf with ⟨rfl, _⟩ | ⟨k0, hk0, _⟩
  · go_wp2_with fail
    go_ret
    exact ⟨rfl, HB.out⟩
  · exact absurd hk0 (by simp)
end Go.Proofs.Ytofanciaacdjfaa
