/-
  PROVED HERE: for any acts ViewOne of package coveylaw08 returns true and leaves its argument as it was: of four nodes that change their views and are told views that somebody had, two views that somebody had and that have the same clock are the same, but for Seen; whoever is in Seen of one has, from then on, a view that covers it; and no view goes back. No condition.
-/
import Derived.Test.YtjlnnmjhbccdoaaGreatO00
import Derived.Test.YtjlnnmjhbccdoaaGreatO38
import Derived.Test.YtjlnnmjhbccdoaaGreatO39
set_option maxRecDepth 20000
namespace Go.Proofs.YtjlnnmjhbccdoaaGreat
open Go Go.RowKit
section
open Go.RowKit Go.WideShapes Go.ChangeShapes Go.ChangeAt
variable {H : Type} {enc : TypeId × Value → H}
abbrev RawA := (Int × Int × Int × Int × Int) × SL × Int
def encA (r : RawA) : List Value := [.int .u8 r.1.1, .int .u8 r.1.2.1, .int .u8 r.1.2.2.1, .int .u8 r.1.2.2.2.1, .int .i64 r.1.2.2.2.2, .slice r.2.1.1 r.2.1.2.1 r.2.1.2.2, .int .i64 r.2.2]
theorem encA_len (r : RawA) : (encA r).length = 7 := rfl
theorem encU_len (x : Int) : (encU x).length = 1 := rfl
theorem vcells57 : Tryz.prog.cellsOf 57 = 1 := by kernel_rfl
theorem vcells59 : Tryz.prog.cellsOf 59 = 7 := by kernel_rfl
theorem isU8_of {n : Int} (h : (Lit.int .u8 n).wf = true) : IsU8 n := by
 simp only [Lit.wf, IntKind.min, IntKind.max, IntKind.signed, IntKind.bits, Bool.and_eq_true] at h
 unfold IsU8
 first | omega | (simp at h; omega)
theorem velem_u8 {w : World} {base : Nat} {spare : Nat → Bool} {held : Bool} (n : Nat) (cs : List Value) (d : DataW H × List MemPlace) (h : DataW.trod enc Tryz.prog w base spare held n 5 cs = some d) : ∃ r : Int, cs = encU r ∧ IsU8 r := by
 obtain ⟨x, e0, _, hw⟩ := DataW.trod_int Tryz.underlying5 h
 exact ⟨x, e0, isU8_of hw⟩
def KnownA (w : World) (q : RawA) : Prop := IsU8 q.1.1 ∧ IsU8 q.1.2.1 ∧ IsU8 q.1.2.2.1 ∧ IsU8 q.1.2.2.2.1 ∧ ∃ m : List Int, Rcs encU 1 w (.slice q.2.1.1 q.2.1.2.1 q.2.1.2.2) m ∧ ∀ x ∈ m, IsU8 x
theorem velem_act {w : World} {base : Nat} {spare : Nat → Bool} {held : Bool} (n : Nat) (cs : List Value) (d : DataW H × List MemPlace) (h : DataW.trod enc Tryz.prog w base spare held n 59 cs = some d) : ∃ q : RawA, cs = encA q ∧ KnownA w q := by
 obtain ⟨xs, n', _, _, hl, hlen, hf⟩ := DataW.trod_struct Tryz.underlying59 h
 rw [vcells59] at hl
 match cs, hl, xs, hlen with
 | [a0, a1, a2, a3, a4, a5, a6], _, [y0, y1, y2, y3, y4, y5, y6], _ =>
  have h0 : DataW.trod enc Tryz.prog w base spare held n' 5 (([a0, a1, a2, a3, a4, a5, a6].drop 0).take (Tryz.prog.cellsOf 5)) = some y0 := hf 0 _ rfl
  have h1 : DataW.trod enc Tryz.prog w base spare held n' 5 (([a0, a1, a2, a3, a4, a5, a6].drop 1).take (Tryz.prog.cellsOf 5)) = some y1 := hf 1 _ rfl
  have h2 : DataW.trod enc Tryz.prog w base spare held n' 5 (([a0, a1, a2, a3, a4, a5, a6].drop 2).take (Tryz.prog.cellsOf 5)) = some y2 := hf 2 _ rfl
  have h3 : DataW.trod enc Tryz.prog w base spare held n' 5 (([a0, a1, a2, a3, a4, a5, a6].drop 3).take (Tryz.prog.cellsOf 5)) = some y3 := hf 3 _ rfl
  have h4 : DataW.trod enc Tryz.prog w base spare held n' 3 (([a0, a1, a2, a3, a4, a5, a6].drop 4).take (Tryz.prog.cellsOf 3)) = some y4 := hf 4 _ rfl
  have h5 : DataW.trod enc Tryz.prog w base spare held n' 57 (([a0, a1, a2, a3, a4, a5, a6].drop 5).take (Tryz.prog.cellsOf 57)) = some y5 := hf 5 _ rfl
  have h6 : DataW.trod enc Tryz.prog w base spare held n' 3 (([a0, a1, a2, a3, a4, a5, a6].drop 6).take (Tryz.prog.cellsOf 3)) = some y6 := hf 6 _ rfl
  rw [show Tryz.prog.cellsOf 5 = 1 from vcells5] at h0 h1 h2 h3
  rw [show Tryz.prog.cellsOf 3 = 1 from vcells3] at h4 h6
  rw [show Tryz.prog.cellsOf 57 = 1 from vcells57] at h5
  obtain ⟨x0, e0, _, k0⟩ := DataW.trod_int Tryz.underlying5 h0
  obtain ⟨x1, e1, _, k1⟩ := DataW.trod_int Tryz.underlying5 h1
  obtain ⟨x2, e2, _, k2⟩ := DataW.trod_int Tryz.underlying5 h2
  obtain ⟨x3, e3, _, k3⟩ := DataW.trod_int Tryz.underlying5 h3
  obtain ⟨x4, e4, _, _⟩ := DataW.trod_int Tryz.underlying3 h4
  obtain ⟨s, e5, m, hm, hu⟩ := open_recs_with (enc := encU) (sz := 1) IsU8 Tryz.underlying57 vcells5 encU_len (fun n cs d h => velem_u8 n cs d h) (by omega) h5
  obtain ⟨x6, e6, _, _⟩ := DataW.trod_int Tryz.underlying3 h6
  obtain ⟨sp, rfl⟩ := sl_rcs hm
  simp at e0 e1 e2 e3 e4 e5 e6
  exact ⟨((x0, x1, x2, x3, x4), sp, x6), by simp [encA, e0, e1, e2, e3, e4, e5, e6], isU8_of k0, isU8_of k1, isU8_of k2, isU8_of k3, m, hm, hu⟩
def RelA (w : World) (q : RawA) (a : ActP) : Prop := q.1.1 = a.who ∧ q.1.2.1 = a.kind ∧ q.1.2.2.1 = a.m ∧ q.1.2.2.2.1 = a.s ∧ q.1.2.2.2.2 = a.n ∧ q.2.2 = a.view ∧ Rcs encU 1 w (.slice q.2.1.1 q.2.1.2.1 q.2.1.2.2) a.not ∧ IsU8 a.who ∧ IsU8 a.kind ∧ IsU8 a.m ∧ IsU8 a.s ∧ ∀ x ∈ a.not, IsU8 x
theorem acts_of {w : World} : ∀ (qs : List RawA), (∀ q ∈ qs, KnownA w q) → ∃ l : List ActP, l.length = qs.length ∧ ∀ k (h : k < l.length) (h' : k < qs.length), RelA w qs[k] l[k]
 | [], _ => ⟨[], rfl, fun k h => absurd h (by simp)⟩
 | q :: qs, hq => by
  obtain ⟨l, hl, hr⟩ := acts_of qs fun x hx => hq x (List.mem_cons_of_mem _ hx)
  obtain ⟨a, b, c, d, m, hm, hu⟩ := hq q (List.mem_cons_self ..)
  refine ⟨⟨q.1.1, q.1.2.1, q.1.2.2.1, q.1.2.2.2.1, q.1.2.2.2.2, m, q.2.2⟩ :: l, by simp [hl], fun k h h' => ?_⟩
  cases k with
  | zero => exact ⟨rfl, rfl, rfl, rfl, rfl, rfl, hm, a, b, c, d, hu⟩
  | succ k => exact hr k (by simpa using h) (by simpa using h')
theorem open_acts {w : World} {b0 : Nat} {v : Value} {d : DataW H} {p : List MemPlace} (hv : Value.okWide Tryz.prog w .any b0 55 v) (h : DataW.Trod enc Tryz.prog w 0 (fun _ => true) true 55 v d p) : ∃ l : List ActP, ActsAt w v l := by
 obtain ⟨A, len, cap, rfl⟩ := okWide_slice Tryz.underlying55 hv
 obtain ⟨fuel, hf⟩ := h
 obtain ⟨v', e, qs, hr, hk⟩ := open_recs_with (enc := encA) (sz := 7) (KnownA w) Tryz.underlying55 vcells59 encA_len (fun n cs d h => velem_act n cs d h) (by omega) hf
 have e2 : v' = .slice A len cap := by simpa [Value.cells] using e.symm
 subst e2
 obtain ⟨l, hl, hrel⟩ := acts_of qs hk
 refine ⟨l, ?_⟩
 obtain ⟨A', c', hv', _, _, _⟩ := id hr
 injection hv' with i1 i2 i3
 subst i1 i2 i3
 refine ⟨A, cap, by rw [hl], fun k hlt => ?_⟩
 have hkq : k < qs.length := by omega
 obtain ⟨ad, rfl⟩ := hr.addr (by omega)
 obtain ⟨r0, r1, r2, r3, r4, r6, r5, u0, u1, u2, u3, u4⟩ := hrel k hlt hkq
 have hb := Below.refl w.heap.size w
 refine ⟨ad, qs[k].2.1, rfl, ?_, ?_, ?_, ?_, ?_, hr.cell hb hkq 5 (by omega) rfl, ?_, r5, u0, u1, u2, u3, u4⟩
 ·rw [← r0]; exact hr.first hb hkq rfl
 ·rw [← r1]; exact hr.cell hb hkq 1 (by omega) rfl
 ·rw [← r2]; exact hr.cell hb hkq 2 (by omega) rfl
 ·rw [← r3]; exact hr.cell hb hkq 3 (by omega) rfl
 ·rw [← r4]; exact hr.cell hb hkq 4 (by omega) rfl
 ·rw [← r6]; exact hr.cell hb hkq 6 (by omega) rfl
set_option maxRecDepth 100000 in
theorem viewOne_lifted (os : Os) (started : os.Started) (H : Type) (enc : TypeId × Value → H) :
  ReturnsInHanded {} Tryz.checked os 6 .any (Rows.viewOneSpec.pre6 enc Tryz.prog Tryz.f6 Rows.viewOneRow.domain false) (Rows.viewOneSpec.post enc Tryz.prog Tryz.f6 false true false false) := by
 refine returnsInHanded_of_change_sized (C := Tryz.checked) Tryz.own started (by kernel_rfl) Tryz.func6
  (ChangeSpec.witness6 (enc := enc) (C := Tryz.checked) false ⟨#[], #[.slice none 0 0], []⟩ 8 (by kernel_rfl) (by kernel_rfl) (by kernel_rfl) (by kernel_rfl)) ?_
 intro W base args ds gs before hval0 hW _ _ _
 have hval : ∀ (j : Nat) t v, Tryz.f6.params[j]? = some t → args[j]? = some v → Value.okWide Tryz.prog W .any base t v := hval0
 have hW' := hW
 obtain ⟨p, q, hA0, hV, rfl, _, _⟩ := hW
 have hA : DataW.TrodAll enc Tryz.prog W 0 (fun _ => true) true Tryz.f6.params.toList args.toList ds p := hA0
 rw [Tryz.params6] at hA hval
 obtain ⟨v0, d0, rfl, rfl, h0⟩ := trodAll_one hA
 obtain ⟨rfl, rfl⟩ := trodVars_none hV
 obtain ⟨l0, I0⟩ := open_acts (hval 0 55 v0 rfl rfl) h0
 refine (viewOne_any v0 l0 W I0).mono fun e W' ⟨he, hb⟩ => ?_
 subst he
 exact ⟨_, rfl, law_post hW' rfl (by kernel_rfl) Tryz.underlying4 rfl (by unfold Legible; kernel_rfl) hb⟩
theorem viewOne_holds : Rows.ViewOneSaid :=
 OpenClaim.holds_of_wide 6 Tryz.f6 rfl rfl rfl rfl rfl rfl rfl ⟨rfl, rfl, rfl, rfl, rfl⟩ rfl rfl rfl rfl rfl (by kernel_rfl) Tryz.func6 (by kernel_rfl)
  (of_decide_eq_true (by kernel_rfl)) (by unfold Func.isWrapper; first | (rw [if_pos (by decide +kernel)]; kernel_rfl) | (rw [if_neg (by decide +kernel)]; exact ⟨rfl, rfl⟩))
  (fun os started H enc _ => viewOne_lifted os started H enc)
end
end Go.Proofs.YtjlnnmjhbccdoaaGreat
