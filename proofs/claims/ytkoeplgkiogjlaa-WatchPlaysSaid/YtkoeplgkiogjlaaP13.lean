/-
  Carried over and put together: contracts of this program's functions, and plain facts. No statement is proved in this text.
-/
import Derived.Test.YtkoeplgkiogjlaaRows
import Derived.ProofKit
import Derived.SizedLaws
import Derived.Below
import Derived.Carry
import Derived.Lib.SmallJoins
import Derived.Deep.SlicePairs
import Derived.Test.YtkoeplgkiogjlaaP07
set_option maxRecDepth 20000
namespace Go.Proofs.Ytkoeplgkiogjlaa
open Go.RowKit Go.WideShapes Go.ChangeShapes Go.ChangeAt
theorem Try.own : ownKnob Try.prog.godebug = none := by kernel_rfl
theorem Try.laidOut : laidOutB Try.prog = true := by kernel_rfl
theorem in_i64 {n : Int} (h : (Lit.int .i64 n).wf = true) : -9223372036854775808 ≤ n ∧ n ≤ 9223372036854775807 := by
  simp [Lit.wf, IntKind.min, IntKind.max, IntKind.signed, IntKind.bits] at h
  omega
section
variable {H : Type} {enc : TypeId × Value → H}
/-- May each of these types be read as data, to the bottom? -/
def Legible (ts : List TypeId) : Prop := (ts.all fun t => Try.prog.readableRec t && decide (t < Try.prog.types.size)) = true
/-- All arguments read behind the call as they did, where nothing that was there has turned. -/
theorem read_again {W W' : World} (hb : Below W.heap.size W W') (ts : List TypeId) (hts : Legible ts) : ∀ (vs : List Value) (ds : List (DataW H)) (ps : List MemPlace),
    DataW.TrodAll enc Try.prog W 0 (fun _ => true) true ts vs ds ps → (∀ x ∈ ps, x.block < W.heap.size) →
    DataW.TrodAll enc Try.prog W' 0 (fun b => decide (b < W.heap.size)) true ts vs ds ps := by
  induction ts with
  | nil =>
    intro vs ds ps h _
    obtain ⟨rfl, rfl, rfl⟩ := trodAll_nil h
    rfl
  | cons t ts ih =>
    intro vs ds ps h hlt
    obtain ⟨v, vs', d, ds', p, q, rfl, rfl, rfl, h1, h2⟩ := trodAll_cons h
    simp only [Legible, List.all_cons, Bool.and_eq_true, decide_eq_true_eq] at hts
    exact ⟨p, q, Below.trod Try.laidOut hts.1.1 hts.1.2 h1 hb (fun x hx => hlt x (List.mem_append_left _ hx)),
      ih (by simpa [Legible] using hts.2) vs' ds' q h2 (fun x hx => hlt x (List.mem_append_right _ hx)), rfl⟩
/-- The statement's last step: true was answered, and all old memory stands. -/
theorem law_post {f : Func} {s : ChangeSpec} {W W' : World} {args : Array Value} {ds gs : List (DataW H)} {before : List MemPlace} {t : TypeId}
    (hW : DataW.Whole enc Try.prog f.params.toList s.vars false W args.toList ds gs before) (hvars : s.vars = []) (hres : f.resultTypes = #[t]) (ht : Try.prog.underlying t = some .bool)
    (hspec : s.fn H (ds ++ gs) = { results := [.lit (.bool true)], args := ds }) (hts : Legible f.params.toList) (hb : Below W.heap.size W W') :
    s.post enc Try.prog f false true false false W args (.bool true) W' := by
  have hlt := hW.lt
  obtain ⟨p, q, hA, hV, rfl, hz, hn⟩ := hW
  refine ⟨ds, gs, p ++ q, [], p, [], ⟨p, q, hA, hV, rfl, hz, hn⟩, ?_, ?_, ?_, hb.frame _, fun h => by cases h⟩
  · rw [hspec, hres]
    exact trodAll_mk1 (shut_bool ht true)
  · rw [hspec]
    exact read_again hb _ hts _ _ _ hA fun x hx => hlt x (List.mem_append_left _ hx)
  · rw [hspec, hvars]
    rfl
end
end Go.Proofs.Ytkoeplgkiogjlaa
namespace Go.Proofs.Ytkoeplgkiogjlaa
open Go Go.RowKit Go.WideShapes Go.ChangeShapes Go.ChangeAt Sets
section
variable {H : Type} {enc : TypeId × Value → H}
theorem ce35 : Try.prog.cellsOf 35 = 2 := by kernel_rfl
theorem ce36 : Try.prog.cellsOf 36 = 1 := by kernel_rfl
theorem ce38 : Try.prog.cellsOf 38 = 5 := by kernel_rfl
theorem ce3 : Try.prog.cellsOf 3 = 1 := by kernel_rfl
theorem ce4 : Try.prog.cellsOf 4 = 1 := by kernel_rfl
def encP (q : Id2) : List Value := [.int .i64 q.1, .int .i64 q.2]
theorem encP_len (q : Id2) : (encP q).length = 2 := rfl
theorem elem_idW {w : World} {base : Nat} {spare : Nat → Bool} {held : Bool} (n : Nat) (cs : List Value) (d : DataW H × List MemPlace) (h : DataW.trod enc Try.prog w base spare held n 35 cs = some d) : ∃ q : Id2, cs = encP q ∧ In2 q := by
  obtain ⟨y0, y1, n', _, hl, h0, h1⟩ := trod_struct2 Try.underlying35 h
  rw [ce35] at hl
  match cs, hl with
  | [a, b], _ =>
    rw [show Try.prog.cellsOf 3 = 1 from ce3] at h0 h1
    obtain ⟨x, e0, _, w0⟩ := DataW.trod_int Try.underlying3 h0
    obtain ⟨y, e1, _, w1⟩ := DataW.trod_int Try.underlying3 h1
    simp at e0 e1
    exact ⟨(x, y), by simp [encP, e0, e1], in_i64 w0, in_i64 w1⟩
theorem ids_of_rcs {w : World} {v : Value} {l : List Id2} (h : Rcs encP 2 w v l) : Ids w v l := by
  obtain ⟨A, c, rfl, h0, hn, hx⟩ := h
  refine ⟨A, c, rfl, h0, hn, fun k hk => ?_⟩
  obtain ⟨ad, rfl, h2, h3⟩ := hx k hk
  refine ⟨ad, rfl, h2, h3 0 _ rfl, ?_⟩
  rw [← add_odd]
  exact h3 1 _ rfl
theorem elem_step {w : World} {base : Nat} {spare : Nat → Bool} {held : Bool} (n : Nat) (cs : List Value) (d : DataW H × List MemPlace) (h : DataW.trod enc Try.prog w base spare held n 38 cs = some d) : ∃ s : Sp, cs = encT s ∧ SpOk w s := by
  obtain ⟨y0, y1, y2, y3, n', _, hl, h0, h1, h2, h3⟩ := Joins.trod_struct4 Try.underlying38 h
  rw [ce38] at hl
  match cs, hl with
  | [a, b, c, d, e], _ =>
    rw [show Try.prog.cellsOf 4 = 1 from ce4] at h0
    rw [show Try.prog.cellsOf 35 = 2 from ce35] at h1
    rw [show Try.prog.cellsOf 36 = 1 from ce36] at h2
    rw [show Try.prog.cellsOf 3 = 1 from ce3] at h3
    obtain ⟨sh, e0, _⟩ := DataW.trod_bool Try.underlying4 h0
    obtain ⟨q, e1, hq⟩ := elem_idW _ _ _ h1
    obtain ⟨u, e2, l, hI, hP⟩ := open_recs_with (enc := encP) (sz := 2) In2 Try.underlying36 ce35 encP_len (fun n cs d h => elem_idW n cs d h) (by omega) h2
    obtain ⟨x, e3, _, w3⟩ := DataW.trod_int Try.underlying3 h3
    simp [encP] at e0 e1 e2 e3
    obtain ⟨A, cc, rfl, hz⟩ := id hI
    exact ⟨⟨sh, q, A, cc, l, x⟩, by simp [encT, e0, e1, e2, e3], ids_of_rcs hI, hq, hP, in_i64 w3⟩
theorem open_steps {w : World} {b0 : Nat} {v : Value} {d : DataW H} {p : List MemPlace} (hv : Value.okWide Try.prog w .any b0 22 v) (h : DataW.Trod enc Try.prog w 0 (fun _ => true) true 22 v d p) :
    ∃ l : List Sp, Rcs encT 5 w v l ∧ ∀ s ∈ l, SpOk w s := by
  obtain ⟨A, len, cap, rfl⟩ := okWide_slice Try.underlying22 hv
  obtain ⟨fuel, hf⟩ := h
  obtain ⟨u, e, l, hl, hp⟩ := open_recs_with (enc := encT) (sz := 5) _ Try.underlying22 ce38 encT_len (fun n cs d h => elem_step n cs d h) (by omega) hf
  have e2 : Value.slice A len cap = u := by simpa [Value.cells] using e
  subst e2
  exact ⟨l, hl, hp⟩
end
end Go.Proofs.Ytkoeplgkiogjlaa
