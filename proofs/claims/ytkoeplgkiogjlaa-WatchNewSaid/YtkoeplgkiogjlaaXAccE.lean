/-
  Carried over: contracts of this program's functions. No statement is proved in this text.
-/
import Derived.Test.YtkoeplgkiogjlaaXAccD
set_option maxRecDepth 20000
set_option maxRecDepth 20000
namespace Go.Proofs.Ytkoeplgkiogjlaa
open Go Go.RowKit
theorem heard_any (base l : Nat) (d : Dt) (v : Value) (x : Int) (w : World) (h : Det 81 w base l d v) (hd : d.Ok) (hB : base ≤ w.heap.size) : Calls Try.prog 30 #[.pointer (some ⟨l, 0, none⟩), .int .i64 x] w (Done 81 base l (d.heard x) v w) := by
  have H := Lib.hid h
  have HD := Lib.hid hd
  have HB := Lib.hid hB
  have hr1 := (Dt.time_range hd x).1
  have hr2 := (Dt.time_range hd x).2
  have hr3 := hd.l0
  obtain ⟨c0, c1, c2, c3, c4, c5⟩ := dbox_cells h.box
  obtain ⟨f3, f4, f5⟩ := dbox_free h.box
  have hwr : IntKind.i64.wrap (d.time x - d.la) = d.time x - d.la := IntWalk.i64_in _ ⟨by omega, by omega⟩
  clear h hd hB
  cases hb : d.bg
  · have E := Lib.hid (show d.heard x = ⟨d.mn, d.mx, d.wi, true, d.time x, d.ga⟩ by unfold Dt.heard; rw [hb]; rfl)
    rw [hb] at c3
    clear hb hr1 hr2 hr3
    go_enter Try.func30, Try.ntmps30
    go_wp2_with fail
    (with_reducible refine (time_any l d v x _ H.out.box).mono ?_)
    rintro e w1 ⟨rfl, rfl⟩
    go_wp2_with fail
    go_end0
    refine ⟨rfl, v, ?_, (H.out.put _).2, fun g hg => .inl hg⟩
    rw [E.out]
    exact (H.out.put _).1
  · have E := Lib.hid (show d.heard x = ⟨d.mn, d.mx, d.wi, true, d.time x, recd d.wi d.ga (d.time x - d.la)⟩ by unfold Dt.heard; rw [hb]; rfl)
    rw [hb] at c3
    clear hb hr1 hr2 hr3
    go_enter Try.func30, Try.ntmps30
    go_wp2_with fail
    (with_reducible refine (time_any l d v x _ H.out.box).mono ?_)
    rintro e w1 ⟨rfl, rfl⟩
    go_wp2_with fail
    (with_reducible refine (record_any base l d v _ _ H.out HD.out HB.out).mono ?_)
    rintro e w2 ⟨rfl, v2, hv, hg, hn⟩
    have H2 := Lib.hid hv
    have G2 := Lib.hid hg
    have N2 := Lib.hid hn
    clear c0 c1 c2 c3 c4 c5 f3 f4 f5 hv hg hn
    obtain ⟨c0, c1, c2, c3, c4, c5⟩ := dbox_cells H2.out.box
    obtain ⟨f3, f4, f5⟩ := dbox_free H2.out.box
    go_wp2_with fail
    go_end0
    have X := H2.out.put (d.time x)
    have E2 := E.out
    refine ⟨rfl, v2, ?_, grown_trans G2.out X.2, N2.out⟩
    rw [E2]
    exact X.1
theorem new_yes (mn mx wi : Int) (h : newOk mn mx wi = true) (w : World) : Calls Try.prog 26 #[.int .i64 mn, .int .i64 mx, .int .i64 wi] w fun e w' => ∃ l v, e = .returned (.tuple #[.pointer (some ⟨l, 0, none⟩), .int .i64 0]) ∧ Det 81 w' w.heap.size l (Dt.new mn mx wi) v ∧ Below w.heap.size w w' := by
  obtain ⟨h1, h2, h3, h4, h5⟩ := newOk_yes h
  clear h
  have X := Lib.hid (Det.new w 81 (by decide) mn mx wi)
  have B := Lib.hid (below_oneX w (.cells #[.int .i64 mn, .int .i64 mx, .int .i64 wi, .bool false, .int .i64 0, .slice none 0 0] 81))
  go_enter Try.func26, Try.ntmps26
  go_wp2_with fail
  go_ret2
  exact ⟨_, _, rfl, X.out, B.out⟩
theorem new_no (mn mx wi : Int) (h : newOk mn mx wi = false) (w : World) : Calls Try.prog 26 #[.int .i64 mn, .int .i64 mx, .int .i64 wi] w fun e w' => e = .returned (.tuple #[.pointer none, .int .i64 1]) ∧ Below w.heap.size w w' := by
  have HN := Lib.hid (show ¬ (1 ≤ mn ∧ mn ≤ mx ∧ mx ≤ 4096 ∧ 1 ≤ wi ∧ wi ≤ 4096) by simpa [newOk] using h)
  clear h
  by_cases h1 : mn < 1
  · go_enter Try.func26, Try.ntmps26
    go_wp2_with fail
    go_ret2
    exact ⟨rfl, Below.refl _ _⟩
  · by_cases h2 : mx < mn
    · go_enter Try.func26, Try.ntmps26
      go_wp2_with fail
      go_ret2
      exact ⟨rfl, Below.refl _ _⟩
    · by_cases h3 : 4096 < mx
      · go_enter Try.func26, Try.ntmps26
        go_wp2_with fail
        go_ret2
        exact ⟨rfl, Below.refl _ _⟩
      · by_cases h4 : wi < 1
        · go_enter Try.func26, Try.ntmps26
          go_wp2_with fail
          go_ret2
          exact ⟨rfl, Below.refl _ _⟩
        · have h5 : 4096 < wi := by have := HN.out; omega
          go_enter Try.func26, Try.ntmps26
          go_wp2_with fail
          go_ret2
          exact ⟨rfl, Below.refl _ _⟩
end Go.Proofs.Ytkoeplgkiogjlaa
