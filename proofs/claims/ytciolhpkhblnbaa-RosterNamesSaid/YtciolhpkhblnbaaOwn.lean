/-
  Lists in new memory, and a walk over the library's way to strike elements out of them. No statement is proved in this text; it holds for every input that its premises let by.
-/
import Derived.Test.YtciolhpkhblnbaaUnited
namespace Go.Proofs.Ytciolhpkhblnbaa
open Go Go.RowKit Ros
/-- Nil, or a list in new memory, free to be written. -/
def OwnM (b0 : Nat) (w : World) (V : Value) (l : List Mm) : Prop := (V = .slice none 0 0 ∧ l = []) ∨ ∃ (d : Array Mm) (g c : Nat), V = .slice (some ⟨g, 0, none⟩) d.size c ∧ d.size ≤ c ∧ b0 ≤ g ∧ RowAtR encM 4 w g d ∧ d.toList = l
def OwnI (b0 : Nat) (w : World) (V : Value) (l : List Id2) : Prop := (V = .slice none 0 0 ∧ l = []) ∨ ∃ (d : Array Id2) (g c : Nat), V = .slice (some ⟨g, 0, none⟩) d.size c ∧ d.size ≤ c ∧ b0 ≤ g ∧ RowAtR encI 2 w g d ∧ d.toList = l
theorem OwnM.reads {b0 : Nat} {w : World} {V : Value} {l : List Mm} (h : OwnM b0 w V l) : Ms w V l := by
  rcases h with ⟨rfl, rfl⟩ | ⟨d, g, c, rfl, hc, _, hr, rfl⟩
  · exact Rcs.nil w
  · exact rowAtR_rcs hr hc
theorem OwnI.reads {b0 : Nat} {w : World} {V : Value} {l : List Id2} (h : OwnI b0 w V l) : Ids w V l := by
  rcases h with ⟨rfl, rfl⟩ | ⟨d, g, c, rfl, hc, _, hr, rfl⟩
  · exact Ids.nil w
  · exact ids_rcs (rowAtR_rcs hr hc)
theorem ownM_of {b0 : Nat} {w : World} {V : Value} {l : List Mm} (h : OwnsR encM 4 32 w b0 V l) : OwnM b0 w V l := by
  rcases ownsR_split h with ⟨rfl, hn⟩ | ⟨g, cap, rfl, hg, hc⟩
  · exact .inl ⟨rfl, List.eq_nil_of_length_eq_zero (by omega)⟩
  · have hlow := (World.ownsRow.lt h g rfl).1
    refine .inr ⟨l.toArray, g, cap, by simp, by simpa using hc, hlow, rowAtR_owns (e := 32) (base := b0) (c := cap) encM_len ?_, by simp⟩
    simpa using h
theorem ownI_of {b0 : Nat} {w : World} {V : Value} {l : List Id2} (h : OwnsR encI 2 30 w b0 V l) : OwnI b0 w V l := by
  rcases ownsR_split h with ⟨rfl, hn⟩ | ⟨g, cap, rfl, hg, hc⟩
  · exact .inl ⟨rfl, List.eq_nil_of_length_eq_zero (by omega)⟩
  · have hlow := (World.ownsRow.lt h g rfl).1
    refine .inr ⟨l.toArray, g, cap, by simp, by simpa using hc, hlow, rowAtR_owns (e := 30) (base := b0) (c := cap) encI_len ?_, by simp⟩
    simpa using h
theorem OwnM.below {b0 : Nat} {w w' : World} {V : Value} {l : List Mm} (h : OwnM b0 w V l) (hb : Below w.heap.size w w') : OwnM b0 w' V l := by
  rcases h with h | ⟨d, g, c, hv, hc, hg, hr, hl⟩
  · exact .inl h
  · exact .inr ⟨d, g, c, hv, hc, hg, rowAtR_kept hr hb, hl⟩
theorem OwnI.below {b0 : Nat} {w w' : World} {V : Value} {l : List Id2} (h : OwnI b0 w V l) (hb : Below w.heap.size w w') : OwnI b0 w' V l := by
  rcases h with h | ⟨d, g, c, hv, hc, hg, hr, hl⟩
  · exact .inl h
  · exact .inr ⟨d, g, c, hv, hc, hg, rowAtR_kept hr hb, hl⟩
theorem OwnM.mono {b0 b1 : Nat} {w : World} {V : Value} {l : List Mm} (h : OwnM b0 w V l) (hb : b1 ≤ b0) : OwnM b1 w V l := by
  rcases h with h | ⟨d, g, c, hv, hc, hg, hr, hl⟩
  · exact .inl h
  · exact .inr ⟨d, g, c, hv, hc, by omega, hr, hl⟩
set_option maxHeartbeats 1000000 in
/-- slices.DeleteFunc of nil. -/
theorem deleteI_none {K : Nat} {caps : Array Value} {p : Id2 → Bool} {S : World → Prop} (hP : AsksI K caps p S) (w : World) (hS : S w) :
    Calls Try.prog 44 #[.slice none 0 0, .func (.func K) #[] caps] w fun e w' => e = .returned (.slice none 0 0) ∧ Below w.heap.size w w' := by
  have HP := Lib.hid hP
  have HS0 := Lib.hid hS
  have hK := hP.enters
  clear hP hS
  go_enter Try.func44, Try.ntmps44
  go_wp2_with fail
  (with_reducible refine (indexI_any HP.out _ [] _ (Ids.nil _) HS0.out (by simp)).mono ?_)
  rintro e w1 ⟨⟨r, rfl, hf⟩, hb⟩
  have HB := Lib.hid hb
  clear hb
  rcases hf with ⟨rfl, _⟩ | ⟨k0, hk0, _⟩
  · go_wp2_with fail
    go_ret
    exact ⟨rfl, HB.out⟩
  · simp at hk0
/-- slices.DeleteFunc of a list of the call's own. -/
theorem deleteI_own {K : Nat} {caps : Array Value} {p : Id2 → Bool} {S : World → Prop} (hP : AsksI K caps p S) (b0 : Nat) (V : Value) (hSg : ∀ (g a c : Nat) W W', V = .slice (some ⟨g, 0, none⟩) a c → S W → W.grownBy W' (some g) → S W') (l : List Id2) (w : World) (h : OwnI b0 w V l) (hS : S w) (hl : l.length ≤ 100000) (hb0 : b0 ≤ w.heap.size) :
    Calls Try.prog 44 #[V, .func (.func K) #[] caps] w fun e w' => ∃ V', e = .returned V' ∧ OwnI b0 w' V' (l.filter fun t => !p t) ∧ S w' ∧ Below b0 w w' := by
  rcases h with ⟨rfl, rfl⟩ | ⟨d, g, c, rfl, hc, hg, hr, rfl⟩
  · refine (deleteI_none hP w hS).mono ?_
    rintro e w' ⟨rfl, hb⟩
    exact ⟨_, rfl, .inl ⟨rfl, rfl⟩, hP.kept _ _ hS hb, hb.mono hb0⟩
  · refine (deleteI_any hP g c (fun W W' => hSg g _ _ W W' rfl) d w hr hS hc (by simpa using hl)).mono ?_
    rintro e w' ⟨d', rfl, hd, hsz, hr', hb⟩
    exact ⟨_, rfl, .inr ⟨d', g, c, rfl, by omega, hg, hr', hd⟩, hSg g _ _ _ _ rfl hS hb, below_grown hb hg hb0⟩
set_option maxHeartbeats 1000000 in
/-- slices.DeleteFunc of nil. -/
theorem deleteM_none {K : Nat} {caps : Array Value} {p : Mm → Bool} {S : World → Prop} {D : Mm → Prop} (hP : AsksM K caps p S D) (w : World) (hS : S w) :
    Calls Try.prog 40 #[.slice none 0 0, .func (.func K) #[] caps] w fun e w' => e = .returned (.slice none 0 0) ∧ Below w.heap.size w w' := by
  have HP := Lib.hid hP
  have HS0 := Lib.hid hS
  have hK := hP.enters
  clear hP hS
  go_enter Try.func40, Try.ntmps40
  go_wp2_with fail
  (with_reducible refine (indexM_any HP.out _ [] _ (Rcs.nil _) HS0.out (by simp) (fun _ h => absurd h (by simp))).mono ?_)
  rintro e w1 ⟨⟨r, rfl, hf⟩, hb⟩
  have HB := Lib.hid hb
  clear hb
  rcases hf with ⟨rfl, _⟩ | ⟨k0, hk0, _⟩
  · go_wp2_with fail
    go_ret
    exact ⟨rfl, HB.out⟩
  · simp at hk0
/-- slices.DeleteFunc of a list of the call's own. -/
theorem deleteM_own {K : Nat} {caps : Array Value} {p : Mm → Bool} {S : World → Prop} {D : Mm → Prop} (hP : AsksM K caps p S D) (b0 : Nat) (V : Value) (hSg : ∀ (g a c : Nat) W W', V = .slice (some ⟨g, 0, none⟩) a c → S W → W.grownBy W' (some g) → S W') (l : List Mm) (w : World) (h : OwnM b0 w V l) (hS : S w) (hl : l.length ≤ 100000) (hb0 : b0 ≤ w.heap.size) (hD : ∀ x ∈ l, D x) :
    Calls Try.prog 40 #[V, .func (.func K) #[] caps] w fun e w' => ∃ V', e = .returned V' ∧ OwnM b0 w' V' (l.filter fun t => !p t) ∧ S w' ∧ Below b0 w w' := by
  rcases h with ⟨rfl, rfl⟩ | ⟨d, g, c, rfl, hc, hg, hr, rfl⟩
  · refine (deleteM_none hP w hS).mono ?_
    rintro e w' ⟨rfl, hb⟩
    exact ⟨_, rfl, .inl ⟨rfl, rfl⟩, hP.kept _ _ hS hb, hb.mono hb0⟩
  · refine (deleteM_any hP g c (fun W W' => hSg g _ _ W W' rfl) d w hr hS hc (by simpa using hl) hD).mono ?_
    rintro e w' ⟨d', rfl, hd, hsz, hr', hb⟩
    exact ⟨_, rfl, .inr ⟨d', g, c, rfl, by omega, hg, hr', hd⟩, hSg g _ _ _ _ rfl hS hb, below_grown hb hg hb0⟩
end Go.Proofs.Ytciolhpkhblnbaa
