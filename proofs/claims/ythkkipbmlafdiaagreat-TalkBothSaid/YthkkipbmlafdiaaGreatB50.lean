/-
  Contracts and plain facts.
-/
import Derived.Lib.SmallJoins
import Derived.Deep.SlicePairs
import Derived.Test.YthkkipbmlafdiaaGreatB00
import Derived.Test.YthkkipbmlafdiaaGreatB02
import Derived.Test.YthkkipbmlafdiaaGreatB31
import Derived.Test.YthkkipbmlafdiaaGreatB43
set_option maxRecDepth 20000
namespace Go.Proofs.YthkkipbmlafdiaaGreat
section
open Go.RowKit Go.WideShapes Go.ChangeShapes Go.ChangeAt
section
variable {H : Type} {enc : TypeId × Value → H}
theorem vcells3 : Tryz.prog.cellsOf 3 = 1 := by kernel_rfl
theorem vcells5 : Tryz.prog.cellsOf 5 = 1 := by kernel_rfl
end
end
section
open Go Go.RowKit
section
open Go.RowKit Go.WideShapes Go.ChangeShapes Go.ChangeAt
variable {H : Type} {enc : TypeId × Value → H}
abbrev RawA := Int × Int × Int × Int × Int
def encA (r : RawA) : List Value := [.int .u8 r.1, .int .u8 r.2.1, .int .u8 r.2.2.1, .int .u8 r.2.2.2.1, .int .i64 r.2.2.2.2]
theorem encA_len (r : RawA) : (encA r).length = 5 := rfl
theorem vcells100 : Tryz.prog.cellsOf 100 = 5 := by kernel_rfl
theorem isU8_of {n : Int} (h : (Lit.int .u8 n).wf = true) : IsU8 n := by
 simp only [Lit.wf, IntKind.min, IntKind.max, IntKind.signed, IntKind.bits, Bool.and_eq_true] at h;unfold IsU8
 first | omega | (simp at h; omega)
def KnownA (_ : World) (q : RawA) : Prop := IsU8 q.1 ∧ IsU8 q.2.1 ∧ IsU8 q.2.2.1 ∧ IsU8 q.2.2.2.1
theorem velem_act {w : World} {base : Nat} {spare : Nat → Bool} {held : Bool} (n : Nat) (cs : List Value) (d : DataW H × List MemPlace) (h : DataW.trod enc Tryz.prog w base spare held n 100 cs = some d) : ∃ q : RawA, cs = encA q ∧ KnownA w q := by
 obtain ⟨xs, n', _, _, hl, hlen, hf⟩ := DataW.trod_struct Tryz.underlying100 h;rw [vcells100] at hl;match cs, hl, xs, hlen with
 | [a0, a1, a2, a3, a4], _, [y0, y1, y2, y3, y4], _ =>
  have h0 : DataW.trod enc Tryz.prog w base spare held n' 5 (([a0, a1, a2, a3, a4].drop 0).take (Tryz.prog.cellsOf 5)) = some y0 := hf 0 _ rfl
  have h1 : DataW.trod enc Tryz.prog w base spare held n' 5 (([a0, a1, a2, a3, a4].drop 1).take (Tryz.prog.cellsOf 5)) = some y1 := hf 1 _ rfl
  have h2 : DataW.trod enc Tryz.prog w base spare held n' 5 (([a0, a1, a2, a3, a4].drop 2).take (Tryz.prog.cellsOf 5)) = some y2 := hf 2 _ rfl
  have h3 : DataW.trod enc Tryz.prog w base spare held n' 5 (([a0, a1, a2, a3, a4].drop 3).take (Tryz.prog.cellsOf 5)) = some y3 := hf 3 _ rfl
  have h4 : DataW.trod enc Tryz.prog w base spare held n' 3 (([a0, a1, a2, a3, a4].drop 4).take (Tryz.prog.cellsOf 3)) = some y4 := hf 4 _ rfl
  rw [show Tryz.prog.cellsOf 5 = 1 from vcells5] at h0 h1 h2 h3
  rw [show Tryz.prog.cellsOf 3 = 1 from vcells3] at h4
  obtain ⟨x0, e0, _, k0⟩ := DataW.trod_int Tryz.underlying5 h0;obtain ⟨x1, e1, _, k1⟩ := DataW.trod_int Tryz.underlying5 h1;obtain ⟨x2, e2, _, k2⟩ := DataW.trod_int Tryz.underlying5 h2;obtain ⟨x3, e3, _, k3⟩ := DataW.trod_int Tryz.underlying5 h3;obtain ⟨x4, e4, _, _⟩ := DataW.trod_int Tryz.underlying3 h4;simp at e0 e1 e2 e3 e4
  exact ⟨(x0, x1, x2, x3, x4), by simp [encA, e0, e1, e2, e3, e4], isU8_of k0, isU8_of k1, isU8_of k2, isU8_of k3⟩
theorem open_acts {w : World} {b0 : Nat} {v : Value} {d : DataW H} {p : List MemPlace} (hv : Value.okWide Tryz.prog w .any b0 55 v) (h : DataW.Trod enc Tryz.prog w 0 (fun _ => true) true 55 v d p) : ∃ l : List ActT, ActsT w v l := by
 obtain ⟨A, len, cap, rfl⟩ := okWide_slice Tryz.underlying55 hv;obtain ⟨fuel, hf⟩ := h;obtain ⟨v', e, qs, hr, hk⟩ := open_recs_with (enc := encA) (sz := 5) (KnownA w) Tryz.underlying55 vcells100 encA_len (fun n cs d h => velem_act n cs d h) (by omega) hf
 have e2 : v' = .slice A len cap := by simpa [Value.cells] using e.symm
 subst e2;obtain ⟨A', c', hv', _, _, _⟩ := id hr;injection hv' with i1 i2 i3
 subst i1 i2 i3;refine ⟨qs.map fun q => ⟨q.1, q.2.1, q.2.2.1, q.2.2.2.1, q.2.2.2.2⟩, A, cap, by simp, fun k hlt => ?_⟩
 have hkq : k < qs.length := by simpa using hlt
 obtain ⟨ad, rfl⟩ := hr.addr (by omega)
 have hb := Below.refl w.heap.size w;have hu := hk _ (List.getElem_mem hkq);simp only [List.getElem_map];exact ⟨ad, rfl, hr.first hb hkq rfl, hr.cell hb hkq 1 (by omega) rfl, hr.cell hb hkq 2 (by omega) rfl, hr.cell hb hkq 3 (by omega) rfl, hr.cell hb hkq 4 (by omega) rfl, hu⟩
end
end
end Go.Proofs.YthkkipbmlafdiaaGreat
