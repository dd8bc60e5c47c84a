/-
  Carried over: contracts of this program's functions. No statement is proved in this text.
-/
import Derived.Test.YtkoeplgkiogjlaaRows
import Derived.Test.YtkoeplgkiogjlaaProg
import Derived.WalkKit
import Derived.WalkSpells
import Derived.WalkLawsBesides
import Derived.OwnWalk
import Derived.Outline
import Derived.IntWalk
import Derived.Below
import Derived.Carry
import Derived.Deep.LoopGhost
import Derived.Handy
import Derived.Lib.Hide
import Derived.Deep.RegionWith
import Derived.Deep.RegionHeld3
import Derived.BigQuiet
import Derived.Deep.QuietTactic
import Derived.ArgAppend
import Derived.Deep.Onto
import Derived.Deep.AppendLies
import Derived.Laws.AppendOwnNone
import Derived.Deep.Slices
import Derived.Test.YtkoeplgkiogjlaaIdeWalksA
import Derived.Test.YtkoeplgkiogjlaaXAccA
import Derived.Test.YtkoeplgkiogjlaaRecs
set_option maxRecDepth 20000
set_option maxRecDepth 20000
namespace Go.Proofs.Ytkoeplgkiogjlaa
open Go Go.RowKit
theorem below_oneX (w : World) (o : Obj) : Below w.heap.size w (w.alloc o) := (Below.refl _ _).alloc (Nat.le_refl _) _
def encN (n : Int) : List Value := [.int .i64 n]
theorem encN_len (n : Int) : (encN n).length = 1 := rfl
theorem encN_one (n : Int) : ∀ u ∈ encN n, u.oneCell' = true := fun u hu => by
  simp [encN] at hu
  subst hu
  rfl
def encS (s : St) : List Value := [.int .u8 s.1, .int .i64 s.2]
theorem encS_len (s : St) : (encS s).length = 2 := rfl
theorem info3 : (Try.prog.info? 3).map (fun i => (i.zero, i.size, i.bytes)) = some (some (.int .i64 0), 1, 8) := by kernel_rfl
/-- The cells of a detector of which the gaps are the slice v. -/
def dc (d : Dt) (v : Value) : Array Value := #[.int .i64 d.mn, .int .i64 d.mx, .int .i64 d.wi, .bool d.bg, .int .i64 d.la, v]
/-- Block l holds the detector d, of type T (81: the program's; 83: the document's). -/
def DBox (T : TypeId) (w : World) (l : Nat) (d : Dt) (v : Value) : Prop := w.heap[l]? = some (.cells #[.int .i64 d.mn, .int .i64 d.mx, .int .i64 d.wi, .bool d.bg, .int .i64 d.la, v] T (0, 0))
theorem dbox_lt {T : TypeId} {w : World} {l : Nat} {d : Dt} {v : Value} (h : DBox T w l d v) : l < w.heap.size := row_lt h
theorem dbox_cells {T : TypeId} {w : World} {l : Nat} {d : Dt} {v : Value} (h : DBox T w l d v) : w.cell? ⟨l, 0, none⟩ = some (.int .i64 d.mn) ∧ w.cell? ⟨l, 1, none⟩ = some (.int .i64 d.mx) ∧ w.cell? ⟨l, 2, none⟩ = some (.int .i64 d.wi) ∧ w.cell? ⟨l, 3, none⟩ = some (.bool d.bg) ∧ w.cell? ⟨l, 4, none⟩ = some (.int .i64 d.la) ∧ w.cell? ⟨l, 5, none⟩ = some v := by
  unfold DBox at h
  refine ⟨?_, ?_, ?_, ?_, ?_, ?_⟩ <;> (rw [cell_of_row _ _ _ _ _ _ h]; rfl)
theorem dbox_free {T : TypeId} {w : World} {l : Nat} {d : Dt} {v : Value} (h : DBox T w l d v) : w.frozen? ⟨l, 3, none⟩ = false ∧ w.frozen? ⟨l, 4, none⟩ = false ∧ w.frozen? ⟨l, 5, none⟩ = false := by
  unfold DBox at h
  refine ⟨?_, ?_, ?_⟩ <;> simp [World.frozen?, h]
theorem dbox_below {T : TypeId} {w w' : World} {l : Nat} {d : Dt} {v : Value} (h : DBox T w l d v) (hb : Below w.heap.size w w') : DBox T w' l d v := (hb.block _ (row_lt h)).trans h
/-- The gaps of a detector are a row of the call's own. -/
def Gaps (w : World) (base : Nat) (v : Value) (g : List Int) : Prop := OwnsR encN 1 3 w base v g
/-- A detector, whole: its box from base on, and its gaps. -/
structure Det (T : TypeId) (w : World) (base l : Nat) (d : Dt) (v : Value) : Prop where
  box : DBox T w l d v
  lo : base ≤ l
  gaps : Gaps w base v d.ga
  ne : T ≠ 3
theorem gaps_slice {w : World} {base : Nat} {v : Value} {g : List Int} (h : Gaps w base v g) : ∃ A c, v = .slice A g.length c ∧ g.length ≤ c ∧ (A = none → c = 0) := by
  rcases ownsR_split h with ⟨rfl, hn⟩ | ⟨b, cap, rfl, hg, hc⟩
  · exact ⟨none, 0, by rw [hn], by omega, fun _ => rfl⟩
  · exact ⟨_, cap, rfl, hc, fun e => by cases e⟩
theorem gaps_rcs {w : World} {base : Nat} {v : Value} {g : List Int} (h : Gaps w base v g) : Rcs encN 1 w v g := rcs_owns encN_len h
/-- A block of a row of numbers is of their type. -/
theorem gaps_type {w : World} {base b : Nat} {v : Value} {g : List Int} (h : Gaps w base v g) (hb : v.ownBlock = some b) : ∃ cs, w.heap[b]? = some (.cells cs 3 (0, 0)) := by
  rcases h.2 with ⟨rfl, _⟩ | ⟨g', cap, cur, rfl, _, hg, _⟩
  · cases hb
  · injection hb with hb
    subst hb
    exact ⟨cur, hg⟩
theorem Det.below {T : TypeId} {w w' : World} {base l : Nat} {d : Dt} {v : Value} (h : Det T w base l d v) (hb : Below w.heap.size w w') : Det T w' base l d v := ⟨dbox_below h.box hb, h.lo, OwnsR.below h.gaps hb, h.ne⟩
theorem Det.lt {T : TypeId} {w : World} {base l : Nat} {d : Dt} {v : Value} (h : Det T w base l d v) : l < w.heap.size := dbox_lt h.box
theorem Det.far {T : TypeId} {w : World} {base l : Nat} {d : Dt} {v : Value} (h : Det T w base l d v) : v.ownBlock ≠ some l := fun e => by
  obtain ⟨cs, h1⟩ := gaps_type h.gaps e
  have h2 := h.box
  unfold DBox at h2
  rw [h1] at h2
  injection h2 with h2
  injection h2 with _ h3
  exact h.ne h3.symm
/-- Another detector may be written. -/
theorem Det.kept {T T' : TypeId} {w w' : World} {base l l' b' : Nat} {d d' : Dt} {v v' : Value} (h : Det T w base l d v) (k : Det T' w b' l' d' v') (hg : w.grownBy w' (some l')) (hne : l ≠ l') : Det T w' base l d v := by
  refine ⟨(hg.block _ h.lt (fun e => hne (by injection e))).trans h.box, h.lo, World.ownsRow.kept h.gaps hg (.inr fun e => ?_), h.ne⟩
  obtain ⟨cs, h1⟩ := gaps_type h.gaps e
  have h2 := k.box
  unfold DBox at h2
  rw [h1] at h2
  injection h2 with h2
  injection h2 with _ h3
  exact k.ne h3.symm
theorem grown_refl (w : World) (l : Nat) : w.grownBy w (some l) := World.grownBy.refl w _
theorem grown_trans {a w w' : World} {row : Option Nat} (h : a.grownBy w row) (k : w.grownBy w' row) : a.grownBy w' row :=
  ⟨k.os.trans h.os, k.tape.trans h.tape, k.output.trans h.output, Nat.le_trans h.size k.size, fun i hi hne => (k.block i (Nat.lt_of_lt_of_le hi h.size) hne).trans (h.block i hi hne)⟩
theorem grown_below {w w' : World} (h : Below w.heap.size w w') (row : Option Nat) : w.grownBy w' row := ⟨h.os, h.tape, h.output, h.size, fun k hk _ => h.block k hk⟩
theorem grown_setX (w : World) (b i : Nat) (v : Value) : w.grownBy (w.setCell ⟨b, i, none⟩ v) (some b) :=
  ⟨rfl, rfl, rfl, by simp [World.setCell], fun k _ hne => Below.heap_setCell _ _ _ _ (fun e => hne (by rw [e]))⟩
/-- What a call has written lies from base on. -/
theorem below_grown {B : Nat} {a w w' : World} {l : Nat} (h : Below B a w) (hg : w.grownBy w' (some l)) (hB : B ≤ a.heap.size) (hl : B ≤ l) : Below B a w' :=
  h.grown hg (Nat.le_trans hB h.size) fun k hk => by injection hk with hk; omega
theorem dbox_set4 {T : TypeId} {w : World} {l : Nat} {d : Dt} {v : Value} (h : DBox T w l d v) (x : Int) : DBox T (w.setCell ⟨l, 4, none⟩ (.int .i64 x)) l ⟨d.mn, d.mx, d.wi, d.bg, x, d.ga⟩ v := by
  unfold DBox at *
  simp [World.setCell, Array.getElem?_modify, h]
theorem dbox_set3 {T : TypeId} {w : World} {l : Nat} {d : Dt} {v : Value} (h : DBox T w l d v) (b : Bool) : DBox T (w.setCell ⟨l, 3, none⟩ (.bool b)) l ⟨d.mn, d.mx, d.wi, b, d.la, d.ga⟩ v := by
  unfold DBox at *
  simp [World.setCell, Array.getElem?_modify, h]
theorem dbox_set5 {T : TypeId} {w : World} {l : Nat} {d : Dt} {v : Value} (h : DBox T w l d v) (u : Value) (g : List Int) : DBox T (w.setCell ⟨l, 5, none⟩ u) l ⟨d.mn, d.mx, d.wi, d.bg, d.la, g⟩ u := by
  unfold DBox at *
  simp [World.setCell, Array.getElem?_modify, h]
theorem gaps_set {T : TypeId} {w : World} {base l i : Nat} {d : Dt} {v u : Value} (h : DBox T w l d v) (hT : T ≠ 3) {u' : Value} {g : List Int} (hu : Gaps w base u' g) : Gaps (w.setCell ⟨l, i, none⟩ u) base u' g :=
  World.ownsRow.kept hu (grown_setX w l i u) (.inr fun e => by
    obtain ⟨cs, h1⟩ := gaps_type hu e
    unfold DBox at h
    rw [h1] at h
    injection h with h
    injection h with _ h3
    exact hT h3.symm)
/-- The last time is written, and that there is one. -/
theorem Det.put {T : TypeId} {w : World} {base l : Nat} {d : Dt} {v : Value} (h : Det T w base l d v) (x : Int) : Det T ((w.setCell ⟨l, 4, none⟩ (.int .i64 x)).setCell ⟨l, 3, none⟩ (.bool true)) base l ⟨d.mn, d.mx, d.wi, true, x, d.ga⟩ v ∧ w.grownBy ((w.setCell ⟨l, 4, none⟩ (.int .i64 x)).setCell ⟨l, 3, none⟩ (.bool true)) (some l) :=
  ⟨⟨dbox_set3 (dbox_set4 h.box x) true, h.lo, gaps_set (dbox_set4 h.box x) h.ne (gaps_set h.box h.ne h.gaps), h.ne⟩, grown_trans (grown_setX _ _ _ _) (grown_setX _ _ _ _)⟩
/-- Other gaps are written. -/
theorem Det.gap {T : TypeId} {w : World} {base l : Nat} {d : Dt} {v u : Value} {g : List Int} (h : Det T w base l d v) (hu : Gaps w base u g) : Det T (w.setCell ⟨l, 5, none⟩ u) base l ⟨d.mn, d.mx, d.wi, d.bg, d.la, g⟩ u ∧ w.grownBy (w.setCell ⟨l, 5, none⟩ u) (some l) :=
  ⟨⟨dbox_set5 h.box u g, h.lo, gaps_set h.box h.ne hu, h.ne⟩, grown_setX _ _ _ _⟩
/-- A new detector. -/
theorem Det.new (w : World) (T : TypeId) (hT : T ≠ 3) (mn mx wi : Int) : Det T (w.alloc (.cells #[.int .i64 mn, .int .i64 mx, .int .i64 wi, .bool false, .int .i64 0, .slice none 0 0] T)) w.heap.size w.heap.size (Dt.new mn mx wi) (.slice none 0 0) :=
  ⟨heap_alloc_new w _, Nat.le_refl _, OwnsR.nil _ _ _, hT⟩
theorem Det.mono {T : TypeId} {w : World} {base base' l : Nat} {d : Dt} {v : Value} (h : Det T w base l d v) (hb : base' ≤ base) : Det T w base' l d v := ⟨h.box, Nat.le_trans hb h.lo, World.ownsRow.mono h.gaps hb, h.ne⟩
end Go.Proofs.Ytkoeplgkiogjlaa
