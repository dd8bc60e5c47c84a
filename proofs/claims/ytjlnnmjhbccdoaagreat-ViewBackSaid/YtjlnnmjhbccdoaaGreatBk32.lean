/-
  Carried over and put together: contracts of this program's functions, and plain facts. No statement is proved in this text.
-/
import Derived.Lib.SmallJoins
import Derived.Deep.SlicePairs
import Derived.Test.YtjlnnmjhbccdoaaGreatBk01
import Derived.Test.YtjlnnmjhbccdoaaGreatBk28
set_option maxRecDepth 20000
namespace Go.Proofs.YtjlnnmjhbccdoaaGreat
open Go.RowKit Go.WideShapes Go.ChangeShapes Go.ChangeAt
section
variable {H : Type} {enc : TypeId × Value → H}
theorem vcells3 : Tryz.prog.cellsOf 3 = 1 := by kernel_rfl
theorem vcells5 : Tryz.prog.cellsOf 5 = 1 := by kernel_rfl
theorem vcells22 : Tryz.prog.cellsOf 22 = 1 := by kernel_rfl
theorem vcells23 : Tryz.prog.cellsOf 23 = 1 := by kernel_rfl
theorem vcells24 : Tryz.prog.cellsOf 24 = 1 := by kernel_rfl
theorem vcells25 : Tryz.prog.cellsOf 25 = 1 := by kernel_rfl
theorem vcells27 : Tryz.prog.cellsOf 27 = 5 := by kernel_rfl
theorem vcells29 : Tryz.prog.cellsOf 29 = 2 := by kernel_rfl
theorem vcells31 : Tryz.prog.cellsOf 31 = 4 := by kernel_rfl
theorem vcells46 : Tryz.prog.cellsOf 46 = 4 := by kernel_rfl
theorem vcells48 : Tryz.prog.cellsOf 48 = 3 := by kernel_rfl
theorem velem_id {w : World} {base : Nat} {spare : Nat → Bool} {held : Bool} (n : Nat) (cs : List Value) (d : DataW H × List MemPlace) (h : DataW.trod enc Tryz.prog w base spare held n 29 cs = some d) : ∃ r : Sets.Id2, cs = encI r := by
  obtain ⟨y0, y1, n', _, hl, h0, h1⟩ := trod_struct2 Tryz.underlying29 h
  rw [vcells29] at hl
  match cs, hl with
  | [a, b], _ =>
    rw [show Tryz.prog.cellsOf 3 = 1 from vcells3] at h0 h1
    obtain ⟨x, e0, _, _⟩ := DataW.trod_int Tryz.underlying3 h0
    obtain ⟨y, e1, _, _⟩ := DataW.trod_int Tryz.underlying3 h1
    simp at e0 e1
    exact ⟨(x, y), by simp [encI, e0, e1]⟩
theorem velem_tick {w : World} {base : Nat} {spare : Nat → Bool} {held : Bool} (n : Nat) (cs : List Value) (d : DataW H × List MemPlace) (h : DataW.trod enc Tryz.prog w base spare held n 48 cs = some d) : ∃ r : Clocks.Tick, cs = encT r := by
  obtain ⟨y0, y1, n', _, hl, h0, h1⟩ := trod_struct2 Tryz.underlying48 h
  rw [vcells48] at hl
  match cs, hl with
  | [a, b, c], _ =>
    rw [show Tryz.prog.cellsOf 29 = 2 from vcells29] at h0
    rw [show Tryz.prog.cellsOf 3 = 1 from vcells3] at h1
    obtain ⟨z0, z1, n2, _, _, k0, k1⟩ := trod_struct2 Tryz.underlying29 h0
    rw [show Tryz.prog.cellsOf 3 = 1 from vcells3] at k0 k1
    obtain ⟨x, e0, _, _⟩ := DataW.trod_int Tryz.underlying3 k0
    obtain ⟨y, e1, _, _⟩ := DataW.trod_int Tryz.underlying3 k1
    obtain ⟨z, e2, _, _⟩ := DataW.trod_int Tryz.underlying3 h1
    simp at e0 e1 e2
    exact ⟨((x, y), z), by simp [encT, e0, e1, e2]⟩
theorem velem_mem {w : World} {base : Nat} {spare : Nat → Bool} {held : Bool} (n : Nat) (cs : List Value) (d : DataW H × List MemPlace) (h : DataW.trod enc Tryz.prog w base spare held n 31 cs = some d) : ∃ r : Ros.Mm, cs = encM r := by
  obtain ⟨xs, n', _, _, hl, hlen, hf⟩ := DataW.trod_struct Tryz.underlying31 h
  rw [vcells31] at hl
  match cs, hl, xs, hlen with
  | [a, b, c, s], _, [y0, y1, y2], _ =>
    have h0 : DataW.trod enc Tryz.prog w base spare held n' 29 (([a, b, c, s].drop 0).take (Tryz.prog.cellsOf 29)) = some y0 := hf 0 _ rfl
    have h1 : DataW.trod enc Tryz.prog w base spare held n' 5 (([a, b, c, s].drop 2).take (Tryz.prog.cellsOf 5)) = some y1 := hf 1 _ rfl
    have h2 : DataW.trod enc Tryz.prog w base spare held n' 3 (([a, b, c, s].drop 3).take (Tryz.prog.cellsOf 3)) = some y2 := hf 2 _ rfl
    rw [show Tryz.prog.cellsOf 29 = 2 from vcells29] at h0
    rw [show Tryz.prog.cellsOf 5 = 1 from vcells5] at h1
    rw [show Tryz.prog.cellsOf 3 = 1 from vcells3] at h2
    obtain ⟨r, e0⟩ := velem_id _ _ _ h0
    obtain ⟨v, e1, _, _⟩ := DataW.trod_int Tryz.underlying5 h1
    obtain ⟨u, e2, _, _⟩ := DataW.trod_int Tryz.underlying3 h2
    simp [encI] at e0 e1 e2
    exact ⟨(r, v, u), by simp [encM, e0, e1, e2]⟩
/-- A row's list reads. -/
def KnownV (w : World) (q : Raw) : Prop := ∃ m, Ids w (slc q) m
theorem velem_row {w : World} {base : Nat} {spare : Nat → Bool} {held : Bool} (n : Nat) (cs : List Value) (d : DataW H × List MemPlace) (h : DataW.trod enc Tryz.prog w base spare held n 46 cs = some d) : ∃ q : Raw, cs = encW q ∧ KnownV w q := by
  obtain ⟨xs, n', _, _, hl, hlen, hf⟩ := DataW.trod_struct Tryz.underlying46 h
  rw [vcells46] at hl
  match cs, hl, xs, hlen with
  | [a, b, c, s], _, [y0, y1, y2], _ =>
    have h0 : DataW.trod enc Tryz.prog w base spare held n' 29 (([a, b, c, s].drop 0).take (Tryz.prog.cellsOf 29)) = some y0 := hf 0 _ rfl
    have h1 : DataW.trod enc Tryz.prog w base spare held n' 3 (([a, b, c, s].drop 2).take (Tryz.prog.cellsOf 3)) = some y1 := hf 1 _ rfl
    have h2 : DataW.trod enc Tryz.prog w base spare held n' 23 (([a, b, c, s].drop 3).take (Tryz.prog.cellsOf 23)) = some y2 := hf 2 _ rfl
    rw [show Tryz.prog.cellsOf 29 = 2 from vcells29] at h0
    rw [show Tryz.prog.cellsOf 3 = 1 from vcells3] at h1
    rw [show Tryz.prog.cellsOf 23 = 1 from vcells23] at h2
    obtain ⟨r, e0⟩ := velem_id _ _ _ h0
    obtain ⟨v, e1, _, _⟩ := DataW.trod_int Tryz.underlying3 h1
    obtain ⟨s', e2, l, hl⟩ := open_recs (enc := encI) (sz := 2) Tryz.underlying23 vcells29 encI_len (fun n cs d h => velem_id n cs d h) (by omega) h2
    have hI := ids_rcs hl
    obtain ⟨A, k, rfl, _⟩ := id hI
    simp [encI] at e0 e1 e2
    exact ⟨(r, v, A, l.length, k), by simp [encW, slc, e0, e1, e2], ⟨l, hI⟩⟩
theorem vopen_id {w : World} {b0 : Nat} {v : Value} {d : DataW H} {p : List MemPlace} (hv : Value.okWide Tryz.prog w .any b0 29 v) (h : DataW.Trod enc Tryz.prog w 0 (fun _ => true) true 29 v d p) :
    ∃ a i : Int, v = .agg #[.int .i64 a, .int .i64 i] := by
  obtain ⟨v0, v1, y0, y1, n, rfl, _, _, h0, h1⟩ := Joins.open_agg2 Tryz.underlying29 (by kernel_rfl) vcells29 hv h
  obtain ⟨a, e0, _, _⟩ := DataW.trod_int Tryz.underlying3 h0
  obtain ⟨i, e1, _, _⟩ := DataW.trod_int Tryz.underlying3 h1
  injection e0 with e0
  injection e1 with e1
  exact ⟨a, i, by rw [e0, e1]⟩
theorem velem_view {w : World} {base : Nat} {spare : Nat → Bool} {held : Bool} (n : Nat) (cs : List Value) (d : DataW H × List MemPlace) (h : DataW.trod enc Tryz.prog w base spare held n 27 cs = some d) :
    ∃ v0 v1 v2 v3 v4 m f r t s, cs = [v0, v1, v2, v3, v4] ∧ Ms w v0 m ∧ Ids w v1 f ∧ RowsAt w v2 r ∧ Rcs encT 3 w v3 t ∧ Ids w v4 s := by
  obtain ⟨xs, n', _, _, hl, hlen, hf⟩ := DataW.trod_struct Tryz.underlying27 h
  rw [vcells27] at hl
  match cs, hl, xs, hlen with
  | [v0, v1, v2, v3, v4], _, [y0, y1, y2, y3, y4], _ =>
    have h0 : DataW.trod enc Tryz.prog w base spare held n' 22 (([v0, v1, v2, v3, v4].drop 0).take (Tryz.prog.cellsOf 22)) = some y0 := hf 0 _ rfl
    have h1 : DataW.trod enc Tryz.prog w base spare held n' 23 (([v0, v1, v2, v3, v4].drop 1).take (Tryz.prog.cellsOf 23)) = some y1 := hf 1 _ rfl
    have h2 : DataW.trod enc Tryz.prog w base spare held n' 24 (([v0, v1, v2, v3, v4].drop 2).take (Tryz.prog.cellsOf 24)) = some y2 := hf 2 _ rfl
    have h3 : DataW.trod enc Tryz.prog w base spare held n' 25 (([v0, v1, v2, v3, v4].drop 3).take (Tryz.prog.cellsOf 25)) = some y3 := hf 3 _ rfl
    have h4 : DataW.trod enc Tryz.prog w base spare held n' 23 (([v0, v1, v2, v3, v4].drop 4).take (Tryz.prog.cellsOf 23)) = some y4 := hf 4 _ rfl
    rw [show Tryz.prog.cellsOf 22 = 1 from vcells22] at h0
    rw [show Tryz.prog.cellsOf 23 = 1 from vcells23] at h1 h4
    rw [show Tryz.prog.cellsOf 24 = 1 from vcells24] at h2
    rw [show Tryz.prog.cellsOf 25 = 1 from vcells25] at h3
    obtain ⟨s0, e0, m, k0⟩ := open_recs (enc := encM) (sz := 4) Tryz.underlying22 vcells31 encM_len (fun n cs d h => velem_mem n cs d h) (by omega) h0
    obtain ⟨s1, e1, f, k1⟩ := open_recs (enc := encI) (sz := 2) Tryz.underlying23 vcells29 encI_len (fun n cs d h => velem_id n cs d h) (by omega) h1
    obtain ⟨s2, e2, qs, k2, kw⟩ := open_recs_with (enc := encW) (sz := 4) (KnownV w) Tryz.underlying24 vcells46 encW_len (fun n cs d h => velem_row n cs d h) (by omega) h2
    obtain ⟨s3, e3, t, k3⟩ := open_recs (enc := encT) (sz := 3) Tryz.underlying25 vcells48 encT_len (fun n cs d h => velem_tick n cs d h) (by omega) h3
    obtain ⟨s4, e4, s, k4⟩ := open_recs (enc := encI) (sz := 2) Tryz.underlying23 vcells29 encI_len (fun n cs d h => velem_id n cs d h) (by omega) h4
    obtain ⟨r, hr⟩ := eachReads_of (qs := qs) fun q hq => kw q hq
    simp at e0 e1 e2 e3 e4
    subst e0 e1 e2 e3 e4
    exact ⟨v0, v1, v2, v3, v4, m, f, r, t, s, rfl, k0, ids_rcs k1, ⟨qs, k2, hr⟩, k3, ids_rcs k4⟩
theorem open_view {w : World} {b0 : Nat} {v : Value} {d : DataW H} {p : List MemPlace} (hv : Value.okWide Tryz.prog w .any b0 27 v) (h : DataW.Trod enc Tryz.prog w 0 (fun _ => true) true 27 v d p) :
    ∃ V : Vw, VAt w v V := by
  obtain ⟨cs, rfl, hsz⟩ := okWide_struct Tryz.underlying27 hv
  obtain ⟨fuel, hf⟩ := h
  obtain ⟨v0, v1, v2, v3, v4, m, f, r, t, s, e, h0, h1, h2, h3, h4⟩ := velem_view _ _ _ hf
  have : cs.toList = [v0, v1, v2, v3, v4] := by simpa [Value.cells] using e
  have e2 : cs = #[v0, v1, v2, v3, v4] := Array.toList_inj.1 this
  rw [e2]
  exact ⟨⟨m, f, r, t, s⟩, vAt_of h0 h1 h2 h3 h4⟩
end
end Go.Proofs.YtjlnnmjhbccdoaaGreat
