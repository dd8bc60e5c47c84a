/-
  A walk: what comes from one address changes nothing of others. No statement is proved in this text.
-/
import Derived.Test.YtgbbmhdkhhchhaaLnkJ
import Derived.Test.YtgbbmhdkhhchhaaLnkM
set_option maxRecDepth 20000
namespace Go.Proofs.Ytgbbmhdkhhchhaa
open Go Go.RowKit
/-- Block g holds a step. -/
def SBox (w : World) (g : Nat) (s : Sp) : Prop := w.heap[g]? = some (.cells #[.bool s.q, .int .u8 s.F.k, .int .i64 s.F.f1, .int .i64 s.F.f2, .int .i64 s.F.t1, .int .i64 s.F.t2, .int .i64 s.F.n] 31 (0, 0))
theorem sbox_cells {w : World} {g : Nat} {s : Sp} (h : SBox w g s) : w.cell? ⟨g, 0, none⟩ = some (.bool s.q) ∧ w.cell? ⟨g, 1, none⟩ = some (.int .u8 s.F.k) ∧ w.cell? ⟨g, 2, none⟩ = some (.int .i64 s.F.f1) ∧ w.cell? ⟨g, 3, none⟩ = some (.int .i64 s.F.f2) ∧ w.cell? ⟨g, 4, none⟩ = some (.int .i64 s.F.t1) ∧ w.cell? ⟨g, 5, none⟩ = some (.int .i64 s.F.t2) ∧ w.cell? ⟨g, 6, none⟩ = some (.int .i64 s.F.n) := by
  unfold SBox at h
  refine ⟨?_, ?_, ?_, ?_, ?_, ?_, ?_⟩ <;> (rw [cell_of_row _ _ _ _ _ _ h]; rfl)
theorem sbox_new (w : World) (s : Sp) : SBox (w.alloc (.cells #[.bool s.q, .int .u8 s.F.k, .int .i64 s.F.f1, .int .i64 s.F.f2, .int .i64 s.F.t1, .int .i64 s.F.t2, .int .i64 s.F.n] 31)) w.heap.size s := heap_alloc_new w _
theorem sbox_lt {w : World} {g : Nat} {s : Sp} (h : SBox w g s) : g < w.heap.size := row_lt h
theorem sbox_below {w w' : World} {g B : Nat} {s : Sp} (h : SBox w g s) (hb : Below B w w') (hg : g < B) : SBox w' g s := (hb.block _ hg).trans h
/-- Two links, apart. -/
structure Two (base : Nat) (W : World) (x : Nat) (mx : Option Nat) (nx : Nat) (M : Int → Pr) (y : Nat) (my : Option Nat) (ny : Nat) (K : Int → Pr) : Prop where
  lx : Lk W base x mx nx M
  ly : Lk W base y my ny K
  hl : x ≠ y
  hm : ∀ b, mx = some b → my ≠ some b
theorem Two.below {base : Nat} {W W' : World} {x nx y ny : Nat} {mx my : Option Nat} {M K : Int → Pr} (h : Two base W x mx nx M y my ny K) (hb : Below W.heap.size W W') : Two base W' x mx nx M y my ny K := ⟨h.lx.below hb, h.ly.below hb, h.hl, h.hm⟩
theorem Two.drewN {base c : Nat} {W : World} {x nx y ny : Nat} {mx my : Option Nat} {M K : Int → Pr} (h : Two base W x mx nx M y my ny K) : Two base (W.drewN c) x mx nx M y my ny K := ⟨h.lx.drewN, h.ly.drewN, h.hl, h.hm⟩
theorem Lk.lt2 {w : World} {base l n : Nat} {m : Option Nat} {M : Int → Pr} (h : Lk w base l m n M) {b : Nat} (e : m = some b) : b < w.heap.size := (h.yes b e).2.lt
theorem Two.turn {base : Nat} {W : World} {x nx y ny : Nat} {mx my : Option Nat} {M K : Int → Pr} (h : Two base W x mx nx M y my ny K) : Two base W y my ny K x mx nx M := ⟨h.ly, h.lx, h.hl.symm, fun b e e2 => h.hm b e2 e⟩
theorem Two.did {base : Nat} {W W' : World} {x nx y ny n' : Nat} {mx my m' : Option Nat} {M K M' : Int → Pr} (h : Two base W x mx nx M y my ny K) (h1 : Lk W' base x m' n' M') (h2 : Ch W W' x mx m') : Two base W' x m' n' M' y my ny K := by
  refine ⟨h1, h2.other h.lx h.ly h.hl.symm (fun b e e2 => h.hm b e2 e), h.hl, fun b e e2 => ?_⟩
  rcases h2.lies with e3 | ⟨j, e3, hj⟩
  · exact h.hm b (e3.symm.trans e) e2
  · rw [e3] at e
    injection e with e
    have := h.ly.lt2 e2
    omega
/-- What stands. -/
structure ApG (w0 : World) (gm gs go : Nat) (m1 m2 : Int) (s o : Sp) (base : Nat) (W : World) (x : Nat) (mx : Option Nat) (nx : Nat) (M : Int → Pr) (y : Nat) (my : Option Nat) (ny : Nat) (K : Int → Pr) : Prop where
  t : Two base W x mx nx M y my ny K
  im : Box W gm m1 m2
  is : SBox W gs s
  io : SBox W go o
  b : Below base w0 W
section
variable {w0 : World} {gm gs go base x nx y ny : Nat} {m1 m2 : Int} {s o : Sp} {W W' : World} {mx my m' : Option Nat} {M K M' : Int → Pr}
theorem ApG.below (h : ApG w0 gm gs go m1 m2 s o base W x mx nx M y my ny K) (hb : Below W.heap.size W W') : ApG w0 gm gs go m1 m2 s o base W' x mx nx M y my ny K :=
  ⟨h.t.below hb, box_below h.im hb (box_lt h.im), sbox_below h.is hb (sbox_lt h.is), sbox_below h.io hb (sbox_lt h.io), h.b.trans (hb.mono h.t.lx.base)⟩
theorem ApG.drewN {c : Nat} (h : ApG w0 gm gs go m1 m2 s o base W x mx nx M y my ny K) : ApG w0 gm gs go m1 m2 s o base (W.drewN c) x mx nx M y my ny K := ⟨h.t.drewN, h.im, h.is, h.io, below_drewN h.b⟩
theorem ApG.didX {n' : Nat} (h : ApG w0 gm gs go m1 m2 s o base W x mx nx M y my ny K) (h1 : Lk W' base x m' n' M') (h2 : Ch W W' x mx m') : ApG w0 gm gs go m1 m2 s o base W' x m' n' M' y my ny K :=
  ⟨h.t.did h1 h2, h2.kept h.t.lx h.im (by decide), h2.kept h.t.lx h.is (by decide), h2.kept h.t.lx h.io (by decide), h2.ahead h.b h.t.lx⟩
theorem ApG.didY {n' : Nat} (h : ApG w0 gm gs go m1 m2 s o base W x mx nx M y my ny K) (h1 : Lk W' base y m' n' M') (h2 : Ch W W' y my m') : ApG w0 gm gs go m1 m2 s o base W' x mx nx M y m' n' M' :=
  ⟨(h.t.turn.did h1 h2).turn, h2.kept h.t.ly h.im (by decide), h2.kept h.t.ly h.is (by decide), h2.kept h.t.ly h.io (by decide), h2.ahead h.b h.t.ly⟩
end
theorem ApG.cells {w0 : World} {gm gs go base x nx y ny : Nat} {m1 m2 : Int} {s o : Sp} {W : World} {mx my : Option Nat} {M K : Int → Pr} (h : ApG w0 gm gs go m1 m2 s o base W x mx nx M y my ny K) : W.cell? ⟨gm, 0, none⟩ = some (.int .i64 m1) ∧ W.cell? ⟨gm, 1, none⟩ = some (.int .i64 m2) ∧ W.cell? ⟨gs, 0, none⟩ = some (.bool s.q) ∧ W.cell? ⟨gs, 1, none⟩ = some (.int .u8 s.F.k) ∧ W.cell? ⟨gs, 2, none⟩ = some (.int .i64 s.F.f1) ∧ W.cell? ⟨gs, 3, none⟩ = some (.int .i64 s.F.f2) ∧ W.cell? ⟨gs, 4, none⟩ = some (.int .i64 s.F.t1) ∧ W.cell? ⟨gs, 5, none⟩ = some (.int .i64 s.F.t2) ∧ W.cell? ⟨gs, 6, none⟩ = some (.int .i64 s.F.n) ∧ W.cell? ⟨go, 0, none⟩ = some (.bool o.q) ∧ W.cell? ⟨go, 1, none⟩ = some (.int .u8 o.F.k) ∧ W.cell? ⟨go, 2, none⟩ = some (.int .i64 o.F.f1) ∧ W.cell? ⟨go, 3, none⟩ = some (.int .i64 o.F.f2) ∧ W.cell? ⟨go, 4, none⟩ = some (.int .i64 o.F.t1) ∧ W.cell? ⟨go, 5, none⟩ = some (.int .i64 o.F.t2) ∧ W.cell? ⟨go, 6, none⟩ = some (.int .i64 o.F.n) := by
  obtain ⟨a0, a1⟩ := box_cells h.im
  obtain ⟨b0, b1, b2, b3, b4, b5, b6⟩ := sbox_cells h.is
  obtain ⟨c0, c1, c2, c3, c4, c5, c6⟩ := sbox_cells h.io
  exact ⟨a0, a1, b0, b1, b2, b3, b4, b5, b6, c0, c1, c2, c3, c4, c5, c6⟩
theorem fenced_is (b : Bool) (w : World) (base l n : Nat) (m : Option Nat) (M : Int → Pr) (h : Lk w base l m n M) (a i : Int) (ha : -9223372036854775808 ≤ a ∧ a ≤ 9223372036854775807) (hb : fencedB M a i = b) :
    Calls Try.prog 18 #[.pointer (some ⟨l, 0, none⟩), .agg #[.int .i64 a, .int .i64 i]] w fun e w' => e = .returned (.bool b) ∧ Below w.heap.size w w' := by
  subst hb
  exact fenced_any w base l n m M h a i ha
set_option maxHeartbeats 8000000 in
theorem apart_any (m1 m2 : Int) (v : Value) (l : List Sp) (s o : Sp) (w : World) (h : Rcs encS 7 w v l) (hin : ∀ s ∈ l, InS s) (hs : InS s) (ho : InS o) :
    Calls Try.prog 7 #[.agg #[.int .i64 m1, .int .i64 m2], v, .agg #[.bool s.q, .int .u8 s.F.k, .int .i64 s.F.f1, .int .i64 s.F.f2, .int .i64 s.F.t1, .int .i64 s.F.t2, .int .i64 s.F.n], .agg #[.bool o.q, .int .u8 o.F.k, .int .i64 o.F.f1, .int .i64 o.F.f2, .int .i64 o.F.t1, .int .i64 o.F.t2, .int .i64 o.F.n]] w fun e w' => e = .returned (.bool true) ∧ Below w.heap.size w w' := by
  have B1 := Lib.hid (show Below w.heap.size w (((w.alloc (.cells #[.int .i64 m1, .int .i64 m2] 23)).alloc (.cells #[.bool s.q, .int .u8 s.F.k, .int .i64 s.F.f1, .int .i64 s.F.f2, .int .i64 s.F.t1, .int .i64 s.F.t2, .int .i64 s.F.n] 31)).alloc (.cells #[.bool o.q, .int .u8 o.F.k, .int .i64 o.F.f1, .int .i64 o.F.f2, .int .i64 o.F.t1, .int .i64 o.F.t2, .int .i64 o.F.n] 31)) from (((Below.refl _ _).alloc (Nat.le_refl _) _).alloc (by simp) _).alloc (by simp; omega) _)
  have X1 := Lib.hid (show Box (((w.alloc (.cells #[.int .i64 m1, .int .i64 m2] 23)).alloc (.cells #[.bool s.q, .int .u8 s.F.k, .int .i64 s.F.f1, .int .i64 s.F.f2, .int .i64 s.F.t1, .int .i64 s.F.t2, .int .i64 s.F.n] 31)).alloc (.cells #[.bool o.q, .int .u8 o.F.k, .int .i64 o.F.f1, .int .i64 o.F.f2, .int .i64 o.F.t1, .int .i64 o.F.t2, .int .i64 o.F.n] 31)) w.heap.size m1 m2 from (Below.heap_alloc _ _ _ (by simp; omega)).trans ((Below.heap_alloc _ _ _ (by simp)).trans (box_new w m1 m2)))
  have X2 := Lib.hid (show SBox (((w.alloc (.cells #[.int .i64 m1, .int .i64 m2] 23)).alloc (.cells #[.bool s.q, .int .u8 s.F.k, .int .i64 s.F.f1, .int .i64 s.F.f2, .int .i64 s.F.t1, .int .i64 s.F.t2, .int .i64 s.F.n] 31)).alloc (.cells #[.bool o.q, .int .u8 o.F.k, .int .i64 o.F.f1, .int .i64 o.F.f2, .int .i64 o.F.t1, .int .i64 o.F.t2, .int .i64 o.F.n] 31)) (w.heap.size + 1) s from (Below.heap_alloc _ _ _ (by simp)).trans (by have := sbox_new (w.alloc (.cells #[.int .i64 m1, .int .i64 m2] 23)) s; simpa [SBox] using this))
  have X3 := Lib.hid (show SBox (((w.alloc (.cells #[.int .i64 m1, .int .i64 m2] 23)).alloc (.cells #[.bool s.q, .int .u8 s.F.k, .int .i64 s.F.f1, .int .i64 s.F.f2, .int .i64 s.F.t1, .int .i64 s.F.t2, .int .i64 s.F.n] 31)).alloc (.cells #[.bool o.q, .int .u8 o.F.k, .int .i64 o.F.f1, .int .i64 o.F.f2, .int .i64 o.F.t1, .int .i64 o.F.t2, .int .i64 o.F.n] 31)) (w.heap.size + 1 + 1) o from by have := sbox_new ((w.alloc (.cells #[.int .i64 m1, .int .i64 m2] 23)).alloc (.cells #[.bool s.q, .int .u8 s.F.k, .int .i64 s.F.f1, .int .i64 s.F.f2, .int .i64 s.F.t1, .int .i64 s.F.t2, .int .i64 s.F.n] 31)) o; simpa [SBox] using this)
  have HR := Lib.hid (h.below B1.out)
  have HIN := Lib.hid hin
  have HIS := Lib.hid hs
  have HIO := Lib.hid ho
  obtain ⟨A, c, rfl, -, hc, -⟩ := id h
  clear h hin hs ho hc
  by_cases hl : 100 < l.length
  · have hd : decide ((100 : Int) < (l.length : Int)) = true := by simp; omega
    clear hl
    go_enter Try.func7, Try.ntmps7
    go_wp2_with (go_at_call 8; (with_reducible refine (awake_any _).mono ?_); rintro e w2 ⟨rfl, hb⟩; have B2 := Lib.hid (B1.out.trans (hb.mono B1.out.size)); clear hb)
    go_ret
    exact ⟨rfl, B2.out⟩
  · have hd : decide ((100 : Int) < (l.length : Int)) = false := by simp; omega
    have HL := Lib.hid (show l.length ≤ 100000 by omega)
    clear hl
    by_cases ha : s.F.f1 = o.F.f1
    · have ha2 : (s.F.f1 == o.F.f1) = true := by simpa using ha
      clear ha
      go_enter Try.func7, Try.ntmps7
      go_wp2_with (go_at_call 8; (with_reducible refine (awake_any _).mono ?_); rintro e w2 ⟨rfl, hb⟩; have B2 := Lib.hid (B1.out.trans (hb.mono B1.out.size)); clear hb)
      go_ret
      exact ⟨rfl, B2.out⟩
    · have ha2 : (s.F.f1 == o.F.f1) = false := by simpa using ha
      have HA := Lib.hid (show o.F.f1 ≠ s.F.f1 from fun e => ha e.symm)
      clear ha
      go_enter Try.func7, Try.ntmps7
      go_wp2_with fail
      generalize hW : World.alloc _ _ = w1 at *
      clear hW
      (with_reducible refine (awake_any _).mono ?_)
      rintro e w2 ⟨rfl, hb⟩
      have Y1 := Lib.hid (box_below X1.out hb (box_lt X1.out))
      have Y2 := Lib.hid (sbox_below X2.out hb (sbox_lt X2.out))
      have Y3 := Lib.hid (sbox_below X3.out hb (sbox_lt X3.out))
      have HR2 := Lib.hid (HR.out.below hb)
      have B2 := Lib.hid hb
      clear hb X1 X2 X3 HR
      obtain ⟨b0, b1⟩ := box_cells Y1.out
      go_wp2_with fail
      (with_reducible refine (play_any _ w1.heap.size m1 m2 _ l HR2.out HIN.out HL.out B2.out.size).mono ?_)
      rintro e w3 ⟨x, mx, rfl, -, -, h1, hb⟩
      have Z1 := Lib.hid (box_below Y1.out hb (box_lt Y1.out))
      have Z2 := Lib.hid (sbox_below Y2.out hb (sbox_lt Y2.out))
      have Z3 := Lib.hid (sbox_below Y3.out hb (sbox_lt Y3.out))
      have HX := Lib.hid h1
      have B3 := Lib.hid (B2.out.trans (hb.mono B2.out.size))
      clear hb Y1 Y2 Y3 HR2 h1 b0 b1 B2
      have HNL := Lib.hid (show 0 + l.length ≤ 100000 by have := HL.out; omega)
      generalize plays m1 m2 (fun _ => p0) l = M at *
      generalize 0 + l.length = n at *
      go_wp2_with fail
      (with_reducible refine (copy_any _ w1.heap.size w1.heap.size x n mx M HX.out B3.out.size).mono ?_)
      rintro e w4 ⟨y, my, rfl, hy, hmy, h1, hb⟩
      have G4 : Hid (ApG w1 w.heap.size (w.heap.size + 1) (w.heap.size + 1 + 1) m1 m2 s o w1.heap.size w4 x mx n M y my n M) := Lib.hid
        ⟨⟨HX.out.below hb, h1, (fun e => by have := HX.out.lt; omega), (fun b e e2 => by have := HX.out.lt2 e; have := hmy b e2; omega)⟩, box_below Z1.out hb (box_lt Z1.out), sbox_below Z2.out hb (sbox_lt Z2.out), sbox_below Z3.out hb (sbox_lt Z3.out), B3.out.trans (hb.mono B3.out.size)⟩
      clear h1 hy hmy hb Z1 Z2 Z3 HX B3
      obtain ⟨_, _, c0, _, c2, c3, _⟩ := G4.out.cells
      cases hq : s.q
      · have HST := Lib.hid (show step m1 m2 M s = takeM M s.F m1 m2 by unfold step; rw [hq]; rfl)
        have HQ := Lib.hid hq
        have HN := Lib.hid (show n < maxLen by have := HNL.out; unfold maxLen; omega)
        rw [hq] at c0
        clear hq
        go_wp2_with fail
        clear c0 c2 c3
        refine wp_region_held_drew (S := fun W => W.cell? ⟨w.heap.size, 0, none⟩ = some (.int .i64 m1) ∧ W.cell? ⟨w.heap.size, 1, none⟩ = some (.int .i64 m2) ∧ W.cell? ⟨w.heap.size + 1, 0, none⟩ = some (.bool s.q) ∧ W.cell? ⟨w.heap.size + 1, 1, none⟩ = some (.int .u8 s.F.k) ∧ W.cell? ⟨w.heap.size + 1, 2, none⟩ = some (.int .i64 s.F.f1) ∧ W.cell? ⟨w.heap.size + 1, 3, none⟩ = some (.int .i64 s.F.f2) ∧ W.cell? ⟨w.heap.size + 1, 4, none⟩ = some (.int .i64 s.F.t1) ∧ W.cell? ⟨w.heap.size + 1, 5, none⟩ = some (.int .i64 s.F.t2) ∧ W.cell? ⟨w.heap.size + 1, 6, none⟩ = some (.int .i64 s.F.n) ∧ W.cell? ⟨w.heap.size + 1 + 1, 0, none⟩ = some (.bool o.q) ∧ W.cell? ⟨w.heap.size + 1 + 1, 1, none⟩ = some (.int .u8 o.F.k) ∧ W.cell? ⟨w.heap.size + 1 + 1, 2, none⟩ = some (.int .i64 o.F.f1) ∧ W.cell? ⟨w.heap.size + 1 + 1, 3, none⟩ = some (.int .i64 o.F.f2) ∧ W.cell? ⟨w.heap.size + 1 + 1, 4, none⟩ = some (.int .i64 o.F.t1) ∧ W.cell? ⟨w.heap.size + 1 + 1, 5, none⟩ = some (.int .i64 o.F.t2) ∧ W.cell? ⟨w.heap.size + 1 + 1, 6, none⟩ = some (.int .i64 o.F.n)) (by kernel_rfl) ?_ (fun hHeld => ?_)
        · exact G4.out.drewN.cells
        (refine wpAnyH_take (i := 0) (oi := ⟨_, _, _, _, _, _⟩) (v := ?_) rfl (by kernel_rfl) (by kernel_rfl) (by kernel_rfl) (fun _ _ _ h => h) (Or.inl ⟨by rfl, ?_⟩) (by assumption) ?_; rotate_left 1; · (intro w hSw; (try dsimp only at hSw); go_simp; all_goals with_reducible rfl))
        try simp only [Act.put, List.setIfInBounds_toArray, List.set_cons_zero, List.set_cons_succ]
        (refine wpAnyH_take (i := 1) (oi := ⟨_, _, _, _, _, _⟩) (v := ?_) rfl (by kernel_rfl) (by kernel_rfl) (by kernel_rfl) (fun _ _ _ h => h) (Or.inl ⟨by rfl, ?_⟩) (by assumption) ?_; rotate_left 1; · (intro w hSw; (try dsimp only at hSw); go_simp; all_goals with_reducible rfl))
        try simp only [Act.put, List.setIfInBounds_toArray, List.set_cons_zero, List.set_cons_succ]
        (refine wpAnyH_take (i := 3) (oi := ⟨_, _, _, _, _, _⟩) (v := ?_) rfl (by kernel_rfl) (by kernel_rfl) (by kernel_rfl) (fun _ _ _ h => h) (Or.inl ⟨by rfl, ?_⟩) (by assumption) ?_; rotate_left 1; · (intro w hSw; (try dsimp only at hSw); go_simp; all_goals with_reducible rfl))
        try simp only [Act.put, List.setIfInBounds_toArray, List.set_cons_zero, List.set_cons_succ]
        refine wpAnyH_ready (rs := [2]) (by kernel_rfl) (by simp) ?_
        refine AllReadyH.cons (o := ⟨_, _, _, _, _, _⟩) rfl (fun Kq hKq => ?_) AllReadyH.nil
        go_simp
        clear hHeld
        (go_at_call 16; (with_reducible refine (frame_any s _).mono ?_); rintro e v1 ⟨rfl, hb⟩; have J1 := Lib.hid ((G4.out.drewN (c := 1)).below hb); clear hb)
        refine hKq.out _ _ ?_ (fun hHeld => ?_)
        · (try dsimp only); exact J1.out.cells
        clear hKq Kq
        try simp only [Act.put, List.setIfInBounds_toArray, List.set_cons_zero, List.set_cons_succ]
        refine wpAnyH_ready (rs := [4]) (by kernel_rfl) (by simp) ?_
        refine AllReadyH.cons (o := ⟨_, _, _, _, _, _⟩) rfl (fun Kq hKq => ?_) AllReadyH.nil
        go_simp
        clear hHeld
        (go_at_call 15; (with_reducible refine (take_is _ _ _ _ y n my M J1.out.t.ly HN.out s.F m1 m2 HIS.out.f1 rfl HST.out.symm).mono ?_); rintro e w5 ⟨rfl, my5, h1, h2⟩; have G5 := Lib.hid (J1.out.didY h1 h2); clear h1 h2)
        refine hKq.out _ _ ?_ (fun hHeld => ?_)
        · (try dsimp only); exact G5.out.cells
        clear hKq Kq
        try simp only [Act.put, List.setIfInBounds_toArray, List.set_cons_zero, List.set_cons_succ]
        refine wpAnyH_done (by kernel_rfl) ?_ _
        clear hHeld J1 G4 HST
        have HK := Lib.hid (show step m1 m2 M s o.F.f1 = M o.F.f1 from step_other m1 m2 M s HA.out)
        have HT := Lib.hid (takeE_same (F := o.F) (m1 := m1) (m2 := m2) HK.out)
        have HF := Lib.hid (fencedB_same (a := o.F.f1) (i := o.F.f2) HK.out)
        generalize hKK : step m1 m2 M s = K at *
        clear hKK
        obtain ⟨_, _, _, _, _, _, _, _, _, _, _, d2, d3, _⟩ := G5.out.cells
        go_wp2_with fail
        have G6 := Lib.hid (G5.out.below (below_one _ (.cells #[.int .i64 o.F.f1, .int .i64 o.F.f2] 23)))
        have I6 := Lib.hid (box_new w5 o.F.f1 o.F.f2)
        generalize hW : World.alloc _ _ = w6 at *
        generalize w5.heap.size = gi at *
        clear hW d2 d3 G5
        have G7 := Lib.hid (show ApG w1 w.heap.size (w.heap.size + 1) (w.heap.size + 1 + 1) m1 m2 s o w1.heap.size w6.drew x mx n M y my5 (n + 1) K from G6.out.drewN (c := 1))
        refine wp_region_held_drew (S := fun W => W.cell? ⟨gi, 0, none⟩ = some (.int .i64 o.F.f1) ∧ W.cell? ⟨gi, 1, none⟩ = some (.int .i64 o.F.f2)) (by kernel_rfl) ?_ (fun hHeld => ?_)
        · exact box_cells I6.out
        (refine wpAnyH_take (i := 0) (oi := ⟨_, _, _, _, _, _⟩) (v := ?_) rfl (by kernel_rfl) (by kernel_rfl) (by kernel_rfl) (fun _ _ _ h => h) (Or.inl ⟨by rfl, ?_⟩) (by assumption) ?_; rotate_left 1; · (intro w hSw; (try dsimp only at hSw); go_simp; all_goals with_reducible rfl))
        try simp only [Act.put, List.setIfInBounds_toArray, List.set_cons_zero, List.set_cons_succ]
        (refine wpAnyH_take (i := 1) (oi := ⟨_, _, _, _, _, _⟩) (v := ?_) rfl (by kernel_rfl) (by kernel_rfl) (by kernel_rfl) (fun _ _ _ h => h) (Or.inl ⟨by rfl, ?_⟩) (by assumption) ?_; rotate_left 1; · (intro w hSw; (try dsimp only at hSw); go_simp; all_goals with_reducible rfl))
        try simp only [Act.put, List.setIfInBounds_toArray, List.set_cons_zero, List.set_cons_succ]
        (refine wpAnyH_take (i := 2) (oi := ⟨_, _, _, _, _, _⟩) (v := ?_) rfl (by kernel_rfl) (by kernel_rfl) (by kernel_rfl) (fun _ _ _ h => h) (Or.inl ⟨by rfl, ?_⟩) (by assumption) ?_; rotate_left 1; · (intro w hSw; (try dsimp only at hSw); go_simp; all_goals with_reducible rfl))
        try simp only [Act.put, List.setIfInBounds_toArray, List.set_cons_zero, List.set_cons_succ]
        (refine wpAnyH_take (i := 4) (oi := ⟨_, _, _, _, _, _⟩) (v := ?_) rfl (by kernel_rfl) (by kernel_rfl) (by kernel_rfl) (fun _ _ _ h => h) (Or.inl ⟨by rfl, ?_⟩) (by assumption) ?_; rotate_left 1; · (intro w hSw; (try dsimp only at hSw); go_simp; all_goals with_reducible rfl))
        try simp only [Act.put, List.setIfInBounds_toArray, List.set_cons_zero, List.set_cons_succ]
        (refine wpAnyH_take (i := 5) (oi := ⟨_, _, _, _, _, _⟩) (v := ?_) rfl (by kernel_rfl) (by kernel_rfl) (by kernel_rfl) (fun _ _ _ h => h) (Or.inl ⟨by rfl, ?_⟩) (by assumption) ?_; rotate_left 1; · (intro w hSw; (try dsimp only at hSw); go_simp; all_goals with_reducible rfl))
        try simp only [Act.put, List.setIfInBounds_toArray, List.set_cons_zero, List.set_cons_succ]
        (refine wpAnyH_take (i := 6) (oi := ⟨_, _, _, _, _, _⟩) (v := ?_) rfl (by kernel_rfl) (by kernel_rfl) (by kernel_rfl) (fun _ _ _ h => h) (Or.inl ⟨by rfl, ?_⟩) (by assumption) ?_; rotate_left 1; · (intro w hSw; (try dsimp only at hSw); go_simp; all_goals with_reducible rfl))
        try simp only [Act.put, List.setIfInBounds_toArray, List.set_cons_zero, List.set_cons_succ]
        refine wpAnyH_ready (rs := [3]) (by kernel_rfl) (by simp) ?_
        refine AllReadyH.cons (o := ⟨_, _, _, _, _, _⟩) rfl (fun Kq hKq => ?_) AllReadyH.nil
        go_simp
        clear hHeld
        (go_at_call 20; (with_reducible refine (newest_is (M o.F.f1).nw _ _ x n mx M G7.out.t.lx o.F.f1 HIO.out.f1 rfl).mono ?_); rintro e w' ⟨rfl, rfl⟩; have I7 := I6)
        refine hKq.out _ _ ?_ (fun hHeld => ?_)
        · (try dsimp only); exact box_cells I6.out
        clear hKq Kq
        try simp only [Act.put, List.setIfInBounds_toArray, List.set_cons_zero, List.set_cons_succ]
        refine wpAnyH_ready (rs := [7]) (by kernel_rfl) (by simp) ?_
        refine AllReadyH.cons (o := ⟨_, _, _, _, _, _⟩) rfl (fun Kq hKq => ?_) AllReadyH.nil
        go_simp
        clear hHeld
        (go_at_call 20; (with_reducible refine (newest_is (M o.F.f1).nw _ _ y (n + 1) my5 K G7.out.t.ly o.F.f1 HIO.out.f1 (by rw [HK.out])).mono ?_); rintro e w' ⟨rfl, rfl⟩; have I8 := I6)
        refine hKq.out _ _ ?_ (fun hHeld => ?_)
        · (try dsimp only); exact box_cells I6.out
        clear hKq Kq
        try simp only [Act.put, List.setIfInBounds_toArray, List.set_cons_zero, List.set_cons_succ]
        (refine wpAnyH_take (i := 8) (oi := ⟨_, _, _, _, _, _⟩) (v := ?_) rfl (by kernel_rfl) (by kernel_rfl) (by kernel_rfl) (fun _ _ _ h => h) (Or.inl ⟨by rfl, ?_⟩) (by assumption) ?_; rotate_left 1; · (intro w hSw; (try dsimp only at hSw); go_simp; all_goals with_reducible rfl))
        try simp only [Act.put, List.setIfInBounds_toArray, List.set_cons_zero, List.set_cons_succ]
        (refine wpAnyH_take (i := 9) (oi := ⟨_, _, _, _, _, _⟩) (v := ?_) rfl (by kernel_rfl) (by kernel_rfl) (by kernel_rfl) (fun _ _ _ h => h) (Or.inl ⟨by rfl, ?_⟩) (by assumption) ?_; rotate_left 1; · (intro w hSw; (try dsimp only at hSw); go_simp; all_goals with_reducible rfl))
        try simp only [Act.put, List.setIfInBounds_toArray, List.set_cons_zero, List.set_cons_succ]
        first | (refine wpAnyH_take (i := 10) (oi := ⟨_, _, _, _, _, _⟩) (v := ?_) rfl (by kernel_rfl) (by kernel_rfl) (by kernel_rfl) (fun _ _ _ h => h) (Or.inl ⟨by rfl, ?_⟩) (by assumption) ?_; rotate_left 1; · (intro w hSw; (try dsimp only at hSw); go_simp; all_goals with_reducible rfl)) | refine wpAnyH_take (i := 10) (oi := ⟨_, _, _, _, _, _⟩) (v := undef) rfl (by kernel_rfl) (by kernel_rfl) (by kernel_rfl) (fun _ _ _ h => h) (Or.inr ⟨by kernel_rfl, rfl⟩) (by assumption) ?_
        try simp only [Act.put, List.setIfInBounds_toArray, List.set_cons_zero, List.set_cons_succ]
        first | (refine wpAnyH_take (i := 11) (oi := ⟨_, _, _, _, _, _⟩) (v := ?_) rfl (by kernel_rfl) (by kernel_rfl) (by kernel_rfl) (fun _ _ _ h => h) (Or.inl ⟨by rfl, ?_⟩) (by assumption) ?_; rotate_left 1; · (intro w hSw; (try dsimp only at hSw); go_simp; all_goals with_reducible rfl)) | refine wpAnyH_take (i := 11) (oi := ⟨_, _, _, _, _, _⟩) (v := undef) rfl (by kernel_rfl) (by kernel_rfl) (by kernel_rfl) (fun _ _ _ h => h) (Or.inr ⟨by kernel_rfl, rfl⟩) (by assumption) ?_
        try simp only [Act.put, List.setIfInBounds_toArray, List.set_cons_zero, List.set_cons_succ]
        first | (refine wpAnyH_take (i := 13) (oi := ⟨_, _, _, _, _, _⟩) (v := ?_) rfl (by kernel_rfl) (by kernel_rfl) (by kernel_rfl) (fun _ _ _ h => h) (Or.inl ⟨by rfl, ?_⟩) (by assumption) ?_; rotate_left 1; · (intro w hSw; (try dsimp only at hSw); go_simp; all_goals with_reducible rfl)) | refine wpAnyH_take (i := 13) (oi := ⟨_, _, _, _, _, _⟩) (v := undef) rfl (by kernel_rfl) (by kernel_rfl) (by kernel_rfl) (fun _ _ _ h => h) (Or.inr ⟨by kernel_rfl, rfl⟩) (by assumption) ?_
        try simp only [Act.put, List.setIfInBounds_toArray, List.set_cons_zero, List.set_cons_succ]
        first | (refine wpAnyH_take (i := 14) (oi := ⟨_, _, _, _, _, _⟩) (v := ?_) rfl (by kernel_rfl) (by kernel_rfl) (by kernel_rfl) (fun _ _ _ h => h) (Or.inl ⟨by rfl, ?_⟩) (by assumption) ?_; rotate_left 1; · (intro w hSw; (try dsimp only at hSw); go_simp; all_goals with_reducible rfl)) | refine wpAnyH_take (i := 14) (oi := ⟨_, _, _, _, _, _⟩) (v := undef) rfl (by kernel_rfl) (by kernel_rfl) (by kernel_rfl) (fun _ _ _ h => h) (Or.inr ⟨by kernel_rfl, rfl⟩) (by assumption) ?_
        try simp only [Act.put, List.setIfInBounds_toArray, List.set_cons_zero, List.set_cons_succ]
        refine wpAnyH_ready (rs := [12]) (by kernel_rfl) (by simp) ?_
        refine AllReadyH.cons (o := ⟨_, _, _, _, _, _⟩) rfl (fun Kq hKq => ?_) AllReadyH.nil
        go_simp
        clear hHeld
        (go_at_call 18; (with_reducible refine (fenced_is (fencedB M o.F.f1 o.F.f2) _ _ x n mx M G7.out.t.lx o.F.f1 o.F.f2 HIO.out.f1 rfl).mono ?_); rintro e w8 ⟨rfl, hb⟩; have G8 := Lib.hid (G7.out.below hb); have I9 := Lib.hid (box_below (w := w6.drew) I6.out hb (box_lt I6.out)); clear hb)
        refine hKq.out _ _ ?_ (fun hHeld => ?_)
        · (try dsimp only); exact box_cells I9.out
        clear hKq Kq
        try simp only [Act.put, List.setIfInBounds_toArray, List.set_cons_zero, List.set_cons_succ]
        refine wpAnyH_ready (rs := [15]) (by kernel_rfl) (by simp) ?_
        refine AllReadyH.cons (o := ⟨_, _, _, _, _, _⟩) rfl (fun Kq hKq => ?_) AllReadyH.nil
        go_simp
        clear hHeld
        (go_at_call 18; (with_reducible refine (fenced_is (fencedB M o.F.f1 o.F.f2) _ _ y (n + 1) my5 K G8.out.t.ly o.F.f1 o.F.f2 HIO.out.f1 HF.out).mono ?_); rintro e w9 ⟨rfl, hb⟩; have G9 := Lib.hid (G8.out.below hb); have I10 := Lib.hid (box_below I9.out hb (box_lt I9.out)); clear hb)
        refine hKq.out _ _ ?_ (fun hHeld => ?_)
        · (try dsimp only); exact box_cells I10.out
        clear hKq Kq
        try simp only [Act.put, List.setIfInBounds_toArray, List.set_cons_zero, List.set_cons_succ]
        first | (refine wpAnyH_take (i := 16) (oi := ⟨_, _, _, _, _, _⟩) (v := ?_) rfl (by kernel_rfl) (by kernel_rfl) (by kernel_rfl) (fun _ _ _ h => h) (Or.inl ⟨by rfl, ?_⟩) (by assumption) ?_; rotate_left 1; · (intro w hSw; (try dsimp only at hSw); go_simp; all_goals with_reducible rfl)) | refine wpAnyH_take (i := 16) (oi := ⟨_, _, _, _, _, _⟩) (v := undef) rfl (by kernel_rfl) (by kernel_rfl) (by kernel_rfl) (fun _ _ _ h => h) (Or.inr ⟨by kernel_rfl, rfl⟩) (by assumption) ?_
        try simp only [Act.put, List.setIfInBounds_toArray, List.set_cons_zero, List.set_cons_succ]
        (refine wpAnyH_take (i := 17) (oi := ⟨_, _, _, _, _, _⟩) (v := ?_) rfl (by kernel_rfl) (by kernel_rfl) (by kernel_rfl) (fun _ _ _ h => h) (Or.inl ⟨by rfl, ?_⟩) (by assumption) ?_; rotate_left 1; · (intro w hSw; (try dsimp only at hSw); go_simp; all_goals with_reducible rfl))
        try simp only [Act.put, List.setIfInBounds_toArray, List.set_cons_zero, List.set_cons_succ]
        refine wpAnyH_done (by kernel_rfl) ?_ _
        clear hHeld G6 G7 G8 I6 I7 I8 I9 I10 HF
        go_wp2_with fail
        have HN2 := Lib.hid (show n < maxLen ∧ n + 1 < maxLen by have := HNL.out; unfold maxLen; omega)
        generalize hte : takeE M o.F m1 m2 = te at *
        refine wp_region_held_drew (S := fun W => W.cell? ⟨w.heap.size, 0, none⟩ = some (.int .i64 m1) ∧ W.cell? ⟨w.heap.size, 1, none⟩ = some (.int .i64 m2) ∧ W.cell? ⟨w.heap.size + 1, 0, none⟩ = some (.bool s.q) ∧ W.cell? ⟨w.heap.size + 1, 1, none⟩ = some (.int .u8 s.F.k) ∧ W.cell? ⟨w.heap.size + 1, 2, none⟩ = some (.int .i64 s.F.f1) ∧ W.cell? ⟨w.heap.size + 1, 3, none⟩ = some (.int .i64 s.F.f2) ∧ W.cell? ⟨w.heap.size + 1, 4, none⟩ = some (.int .i64 s.F.t1) ∧ W.cell? ⟨w.heap.size + 1, 5, none⟩ = some (.int .i64 s.F.t2) ∧ W.cell? ⟨w.heap.size + 1, 6, none⟩ = some (.int .i64 s.F.n) ∧ W.cell? ⟨w.heap.size + 1 + 1, 0, none⟩ = some (.bool o.q) ∧ W.cell? ⟨w.heap.size + 1 + 1, 1, none⟩ = some (.int .u8 o.F.k) ∧ W.cell? ⟨w.heap.size + 1 + 1, 2, none⟩ = some (.int .i64 o.F.f1) ∧ W.cell? ⟨w.heap.size + 1 + 1, 3, none⟩ = some (.int .i64 o.F.f2) ∧ W.cell? ⟨w.heap.size + 1 + 1, 4, none⟩ = some (.int .i64 o.F.t1) ∧ W.cell? ⟨w.heap.size + 1 + 1, 5, none⟩ = some (.int .i64 o.F.t2) ∧ W.cell? ⟨w.heap.size + 1 + 1, 6, none⟩ = some (.int .i64 o.F.n)) (by kernel_rfl) ?_ (fun hHeld => ?_)
        · exact G9.out.drewN.cells
        (refine wpAnyH_take (i := 0) (oi := ⟨_, _, _, _, _, _⟩) (v := ?_) rfl (by kernel_rfl) (by kernel_rfl) (by kernel_rfl) (fun _ _ _ h => h) (Or.inl ⟨by rfl, ?_⟩) (by assumption) ?_; rotate_left 1; · (intro w hSw; (try dsimp only at hSw); go_simp; all_goals with_reducible rfl))
        try simp only [Act.put, List.setIfInBounds_toArray, List.set_cons_zero, List.set_cons_succ]
        (refine wpAnyH_take (i := 1) (oi := ⟨_, _, _, _, _, _⟩) (v := ?_) rfl (by kernel_rfl) (by kernel_rfl) (by kernel_rfl) (fun _ _ _ h => h) (Or.inl ⟨by rfl, ?_⟩) (by assumption) ?_; rotate_left 1; · (intro w hSw; (try dsimp only at hSw); go_simp; all_goals with_reducible rfl))
        try simp only [Act.put, List.setIfInBounds_toArray, List.set_cons_zero, List.set_cons_succ]
        (refine wpAnyH_take (i := 3) (oi := ⟨_, _, _, _, _, _⟩) (v := ?_) rfl (by kernel_rfl) (by kernel_rfl) (by kernel_rfl) (fun _ _ _ h => h) (Or.inl ⟨by rfl, ?_⟩) (by assumption) ?_; rotate_left 1; · (intro w hSw; (try dsimp only at hSw); go_simp; all_goals with_reducible rfl))
        try simp only [Act.put, List.setIfInBounds_toArray, List.set_cons_zero, List.set_cons_succ]
        (refine wpAnyH_take (i := 5) (oi := ⟨_, _, _, _, _, _⟩) (v := ?_) rfl (by kernel_rfl) (by kernel_rfl) (by kernel_rfl) (fun _ _ _ h => h) (Or.inl ⟨by rfl, ?_⟩) (by assumption) ?_; rotate_left 1; · (intro w hSw; (try dsimp only at hSw); go_simp; all_goals with_reducible rfl))
        try simp only [Act.put, List.setIfInBounds_toArray, List.set_cons_zero, List.set_cons_succ]
        (refine wpAnyH_take (i := 6) (oi := ⟨_, _, _, _, _, _⟩) (v := ?_) rfl (by kernel_rfl) (by kernel_rfl) (by kernel_rfl) (fun _ _ _ h => h) (Or.inl ⟨by rfl, ?_⟩) (by assumption) ?_; rotate_left 1; · (intro w hSw; (try dsimp only at hSw); go_simp; all_goals with_reducible rfl))
        try simp only [Act.put, List.setIfInBounds_toArray, List.set_cons_zero, List.set_cons_succ]
        (refine wpAnyH_take (i := 8) (oi := ⟨_, _, _, _, _, _⟩) (v := ?_) rfl (by kernel_rfl) (by kernel_rfl) (by kernel_rfl) (fun _ _ _ h => h) (Or.inl ⟨by rfl, ?_⟩) (by assumption) ?_; rotate_left 1; · (intro w hSw; (try dsimp only at hSw); go_simp; all_goals with_reducible rfl))
        try simp only [Act.put, List.setIfInBounds_toArray, List.set_cons_zero, List.set_cons_succ]
        refine wpAnyH_ready (rs := [2]) (by kernel_rfl) (by simp) ?_
        refine AllReadyH.cons (o := ⟨_, _, _, _, _, _⟩) rfl (fun Kq hKq => ?_) AllReadyH.nil
        go_simp
        clear hHeld
        (go_at_call 16; (with_reducible refine (frame_any o _).mono ?_); rintro e v1 ⟨rfl, hb⟩; have J1 := Lib.hid ((G9.out.drewN (c := 1)).below hb); clear hb)
        refine hKq.out _ _ ?_ (fun hHeld => ?_)
        · (try dsimp only); exact J1.out.cells
        clear hKq Kq
        try simp only [Act.put, List.setIfInBounds_toArray, List.set_cons_zero, List.set_cons_succ]
        refine wpAnyH_ready (rs := [4]) (by kernel_rfl) (by simp) ?_
        refine AllReadyH.cons (o := ⟨_, _, _, _, _, _⟩) rfl (fun Kq hKq => ?_) AllReadyH.nil
        go_simp
        clear hHeld
        (go_at_call 15; (with_reducible refine (take_is te _ _ _ x n mx M J1.out.t.lx HN2.out.1 o.F m1 m2 HIO.out.f1 hte rfl).mono ?_); rintro e v2 ⟨rfl, q2, h1, h2⟩; have J2 := Lib.hid (J1.out.didX h1 h2); clear h1 h2)
        refine hKq.out _ _ ?_ (fun hHeld => ?_)
        · (try dsimp only); exact J2.out.cells
        clear hKq Kq
        try simp only [Act.put, List.setIfInBounds_toArray, List.set_cons_zero, List.set_cons_succ]
        refine wpAnyH_ready (rs := [7]) (by kernel_rfl) (by simp) ?_
        refine AllReadyH.cons (o := ⟨_, _, _, _, _, _⟩) rfl (fun Kq hKq => ?_) AllReadyH.nil
        go_simp
        clear hHeld
        (go_at_call 16; (with_reducible refine (frame_any o _).mono ?_); rintro e v3 ⟨rfl, hb⟩; have J3 := Lib.hid (J2.out.below hb); clear hb)
        refine hKq.out _ _ ?_ (fun hHeld => ?_)
        · (try dsimp only); exact J3.out.cells
        clear hKq Kq
        try simp only [Act.put, List.setIfInBounds_toArray, List.set_cons_zero, List.set_cons_succ]
        refine wpAnyH_ready (rs := [9]) (by kernel_rfl) (by simp) ?_
        refine AllReadyH.cons (o := ⟨_, _, _, _, _, _⟩) rfl (fun Kq hKq => ?_) AllReadyH.nil
        go_simp
        clear hHeld
        (go_at_call 15; (with_reducible refine (take_is te _ _ _ y (n + 1) my5 K J3.out.t.ly HN2.out.2 o.F m1 m2 HIO.out.f1 HT.out rfl).mono ?_); rintro e v4 ⟨rfl, q4, h1, h2⟩; have J4 := Lib.hid (J3.out.didY h1 h2); clear h1 h2)
        refine hKq.out _ _ ?_ (fun hHeld => ?_)
        · (try dsimp only); exact J4.out.cells
        clear hKq Kq
        try simp only [Act.put, List.setIfInBounds_toArray, List.set_cons_zero, List.set_cons_succ]
        (refine wpAnyH_take (i := 10) (oi := ⟨_, _, _, _, _, _⟩) (v := ?_) rfl (by kernel_rfl) (by kernel_rfl) (by kernel_rfl) (fun _ _ _ h => h) (Or.inl ⟨by rfl, ?_⟩) (by assumption) ?_; rotate_left 1; · (intro w hSw; (try dsimp only at hSw); go_simp; all_goals with_reducible rfl))
        try simp only [Act.put, List.setIfInBounds_toArray, List.set_cons_zero, List.set_cons_succ]
        (refine wpAnyH_take (i := 11) (oi := ⟨_, _, _, _, _, _⟩) (v := ?_) rfl (by kernel_rfl) (by kernel_rfl) (by kernel_rfl) (fun _ _ _ h => h) (Or.inl ⟨by rfl, ?_⟩) (by assumption) ?_; rotate_left 1; · (intro w hSw; (try dsimp only at hSw); go_simp; all_goals with_reducible rfl))
        try simp only [Act.put, List.setIfInBounds_toArray, List.set_cons_zero, List.set_cons_succ]
        refine wpAnyH_done (by kernel_rfl) ?_ _
        clear hHeld
        go_wp2_with fail
        go_ret
        exact ⟨rfl, B1.out.trans (J4.out.b.mono B1.out.size)⟩
      · have HST := Lib.hid (show step m1 m2 M s = fenceM M s.F.f1 s.F.f2 by unfold step; rw [hq]; rfl)
        have HQ := Lib.hid hq
        have HN := Lib.hid (show n < maxLen by have := HNL.out; unfold maxLen; omega)
        rw [hq] at c0
        clear hq
        go_wp2_with fail
        (with_reducible refine (fence_is _ _ _ _ y n my M G4.out.t.ly HN.out s.F.f1 s.F.f2 HIS.out.f1 rfl HST.out.symm).mono ?_)
        rintro e w5 ⟨rfl, my5, h1, h2⟩
        have G5 := Lib.hid (G4.out.didY h1 h2)
        clear h1 h2 c0 c2 c3 G4 HST
        have HK := Lib.hid (show step m1 m2 M s o.F.f1 = M o.F.f1 from step_other m1 m2 M s HA.out)
        have HT := Lib.hid (takeE_same (F := o.F) (m1 := m1) (m2 := m2) HK.out)
        have HF := Lib.hid (fencedB_same (a := o.F.f1) (i := o.F.f2) HK.out)
        generalize hKK : step m1 m2 M s = K at *
        clear hKK
        obtain ⟨_, _, _, _, _, _, _, _, _, _, _, d2, d3, _⟩ := G5.out.cells
        go_wp2_with fail
        have G6 := Lib.hid (G5.out.below (below_one _ (.cells #[.int .i64 o.F.f1, .int .i64 o.F.f2] 23)))
        have I6 := Lib.hid (box_new w5 o.F.f1 o.F.f2)
        generalize hW : World.alloc _ _ = w6 at *
        generalize w5.heap.size = gi at *
        clear hW d2 d3 G5
        have G7 := Lib.hid (show ApG w1 w.heap.size (w.heap.size + 1) (w.heap.size + 1 + 1) m1 m2 s o w1.heap.size w6.drew x mx n M y my5 (n + 1) K from G6.out.drewN (c := 1))
        refine wp_region_held_drew (S := fun W => W.cell? ⟨gi, 0, none⟩ = some (.int .i64 o.F.f1) ∧ W.cell? ⟨gi, 1, none⟩ = some (.int .i64 o.F.f2)) (by kernel_rfl) ?_ (fun hHeld => ?_)
        · exact box_cells I6.out
        (refine wpAnyH_take (i := 0) (oi := ⟨_, _, _, _, _, _⟩) (v := ?_) rfl (by kernel_rfl) (by kernel_rfl) (by kernel_rfl) (fun _ _ _ h => h) (Or.inl ⟨by rfl, ?_⟩) (by assumption) ?_; rotate_left 1; · (intro w hSw; (try dsimp only at hSw); go_simp; all_goals with_reducible rfl))
        try simp only [Act.put, List.setIfInBounds_toArray, List.set_cons_zero, List.set_cons_succ]
        (refine wpAnyH_take (i := 1) (oi := ⟨_, _, _, _, _, _⟩) (v := ?_) rfl (by kernel_rfl) (by kernel_rfl) (by kernel_rfl) (fun _ _ _ h => h) (Or.inl ⟨by rfl, ?_⟩) (by assumption) ?_; rotate_left 1; · (intro w hSw; (try dsimp only at hSw); go_simp; all_goals with_reducible rfl))
        try simp only [Act.put, List.setIfInBounds_toArray, List.set_cons_zero, List.set_cons_succ]
        (refine wpAnyH_take (i := 2) (oi := ⟨_, _, _, _, _, _⟩) (v := ?_) rfl (by kernel_rfl) (by kernel_rfl) (by kernel_rfl) (fun _ _ _ h => h) (Or.inl ⟨by rfl, ?_⟩) (by assumption) ?_; rotate_left 1; · (intro w hSw; (try dsimp only at hSw); go_simp; all_goals with_reducible rfl))
        try simp only [Act.put, List.setIfInBounds_toArray, List.set_cons_zero, List.set_cons_succ]
        (refine wpAnyH_take (i := 4) (oi := ⟨_, _, _, _, _, _⟩) (v := ?_) rfl (by kernel_rfl) (by kernel_rfl) (by kernel_rfl) (fun _ _ _ h => h) (Or.inl ⟨by rfl, ?_⟩) (by assumption) ?_; rotate_left 1; · (intro w hSw; (try dsimp only at hSw); go_simp; all_goals with_reducible rfl))
        try simp only [Act.put, List.setIfInBounds_toArray, List.set_cons_zero, List.set_cons_succ]
        (refine wpAnyH_take (i := 5) (oi := ⟨_, _, _, _, _, _⟩) (v := ?_) rfl (by kernel_rfl) (by kernel_rfl) (by kernel_rfl) (fun _ _ _ h => h) (Or.inl ⟨by rfl, ?_⟩) (by assumption) ?_; rotate_left 1; · (intro w hSw; (try dsimp only at hSw); go_simp; all_goals with_reducible rfl))
        try simp only [Act.put, List.setIfInBounds_toArray, List.set_cons_zero, List.set_cons_succ]
        (refine wpAnyH_take (i := 6) (oi := ⟨_, _, _, _, _, _⟩) (v := ?_) rfl (by kernel_rfl) (by kernel_rfl) (by kernel_rfl) (fun _ _ _ h => h) (Or.inl ⟨by rfl, ?_⟩) (by assumption) ?_; rotate_left 1; · (intro w hSw; (try dsimp only at hSw); go_simp; all_goals with_reducible rfl))
        try simp only [Act.put, List.setIfInBounds_toArray, List.set_cons_zero, List.set_cons_succ]
        refine wpAnyH_ready (rs := [3]) (by kernel_rfl) (by simp) ?_
        refine AllReadyH.cons (o := ⟨_, _, _, _, _, _⟩) rfl (fun Kq hKq => ?_) AllReadyH.nil
        go_simp
        clear hHeld
        (go_at_call 20; (with_reducible refine (newest_is (M o.F.f1).nw _ _ x n mx M G7.out.t.lx o.F.f1 HIO.out.f1 rfl).mono ?_); rintro e w' ⟨rfl, rfl⟩; have I7 := I6)
        refine hKq.out _ _ ?_ (fun hHeld => ?_)
        · (try dsimp only); exact box_cells I6.out
        clear hKq Kq
        try simp only [Act.put, List.setIfInBounds_toArray, List.set_cons_zero, List.set_cons_succ]
        refine wpAnyH_ready (rs := [7]) (by kernel_rfl) (by simp) ?_
        refine AllReadyH.cons (o := ⟨_, _, _, _, _, _⟩) rfl (fun Kq hKq => ?_) AllReadyH.nil
        go_simp
        clear hHeld
        (go_at_call 20; (with_reducible refine (newest_is (M o.F.f1).nw _ _ y (n + 1) my5 K G7.out.t.ly o.F.f1 HIO.out.f1 (by rw [HK.out])).mono ?_); rintro e w' ⟨rfl, rfl⟩; have I8 := I6)
        refine hKq.out _ _ ?_ (fun hHeld => ?_)
        · (try dsimp only); exact box_cells I6.out
        clear hKq Kq
        try simp only [Act.put, List.setIfInBounds_toArray, List.set_cons_zero, List.set_cons_succ]
        (refine wpAnyH_take (i := 8) (oi := ⟨_, _, _, _, _, _⟩) (v := ?_) rfl (by kernel_rfl) (by kernel_rfl) (by kernel_rfl) (fun _ _ _ h => h) (Or.inl ⟨by rfl, ?_⟩) (by assumption) ?_; rotate_left 1; · (intro w hSw; (try dsimp only at hSw); go_simp; all_goals with_reducible rfl))
        try simp only [Act.put, List.setIfInBounds_toArray, List.set_cons_zero, List.set_cons_succ]
        (refine wpAnyH_take (i := 9) (oi := ⟨_, _, _, _, _, _⟩) (v := ?_) rfl (by kernel_rfl) (by kernel_rfl) (by kernel_rfl) (fun _ _ _ h => h) (Or.inl ⟨by rfl, ?_⟩) (by assumption) ?_; rotate_left 1; · (intro w hSw; (try dsimp only at hSw); go_simp; all_goals with_reducible rfl))
        try simp only [Act.put, List.setIfInBounds_toArray, List.set_cons_zero, List.set_cons_succ]
        first | (refine wpAnyH_take (i := 10) (oi := ⟨_, _, _, _, _, _⟩) (v := ?_) rfl (by kernel_rfl) (by kernel_rfl) (by kernel_rfl) (fun _ _ _ h => h) (Or.inl ⟨by rfl, ?_⟩) (by assumption) ?_; rotate_left 1; · (intro w hSw; (try dsimp only at hSw); go_simp; all_goals with_reducible rfl)) | refine wpAnyH_take (i := 10) (oi := ⟨_, _, _, _, _, _⟩) (v := undef) rfl (by kernel_rfl) (by kernel_rfl) (by kernel_rfl) (fun _ _ _ h => h) (Or.inr ⟨by kernel_rfl, rfl⟩) (by assumption) ?_
        try simp only [Act.put, List.setIfInBounds_toArray, List.set_cons_zero, List.set_cons_succ]
        first | (refine wpAnyH_take (i := 11) (oi := ⟨_, _, _, _, _, _⟩) (v := ?_) rfl (by kernel_rfl) (by kernel_rfl) (by kernel_rfl) (fun _ _ _ h => h) (Or.inl ⟨by rfl, ?_⟩) (by assumption) ?_; rotate_left 1; · (intro w hSw; (try dsimp only at hSw); go_simp; all_goals with_reducible rfl)) | refine wpAnyH_take (i := 11) (oi := ⟨_, _, _, _, _, _⟩) (v := undef) rfl (by kernel_rfl) (by kernel_rfl) (by kernel_rfl) (fun _ _ _ h => h) (Or.inr ⟨by kernel_rfl, rfl⟩) (by assumption) ?_
        try simp only [Act.put, List.setIfInBounds_toArray, List.set_cons_zero, List.set_cons_succ]
        first | (refine wpAnyH_take (i := 13) (oi := ⟨_, _, _, _, _, _⟩) (v := ?_) rfl (by kernel_rfl) (by kernel_rfl) (by kernel_rfl) (fun _ _ _ h => h) (Or.inl ⟨by rfl, ?_⟩) (by assumption) ?_; rotate_left 1; · (intro w hSw; (try dsimp only at hSw); go_simp; all_goals with_reducible rfl)) | refine wpAnyH_take (i := 13) (oi := ⟨_, _, _, _, _, _⟩) (v := undef) rfl (by kernel_rfl) (by kernel_rfl) (by kernel_rfl) (fun _ _ _ h => h) (Or.inr ⟨by kernel_rfl, rfl⟩) (by assumption) ?_
        try simp only [Act.put, List.setIfInBounds_toArray, List.set_cons_zero, List.set_cons_succ]
        first | (refine wpAnyH_take (i := 14) (oi := ⟨_, _, _, _, _, _⟩) (v := ?_) rfl (by kernel_rfl) (by kernel_rfl) (by kernel_rfl) (fun _ _ _ h => h) (Or.inl ⟨by rfl, ?_⟩) (by assumption) ?_; rotate_left 1; · (intro w hSw; (try dsimp only at hSw); go_simp; all_goals with_reducible rfl)) | refine wpAnyH_take (i := 14) (oi := ⟨_, _, _, _, _, _⟩) (v := undef) rfl (by kernel_rfl) (by kernel_rfl) (by kernel_rfl) (fun _ _ _ h => h) (Or.inr ⟨by kernel_rfl, rfl⟩) (by assumption) ?_
        try simp only [Act.put, List.setIfInBounds_toArray, List.set_cons_zero, List.set_cons_succ]
        refine wpAnyH_ready (rs := [12]) (by kernel_rfl) (by simp) ?_
        refine AllReadyH.cons (o := ⟨_, _, _, _, _, _⟩) rfl (fun Kq hKq => ?_) AllReadyH.nil
        go_simp
        clear hHeld
        (go_at_call 18; (with_reducible refine (fenced_is (fencedB M o.F.f1 o.F.f2) _ _ x n mx M G7.out.t.lx o.F.f1 o.F.f2 HIO.out.f1 rfl).mono ?_); rintro e w8 ⟨rfl, hb⟩; have G8 := Lib.hid (G7.out.below hb); have I9 := Lib.hid (box_below (w := w6.drew) I6.out hb (box_lt I6.out)); clear hb)
        refine hKq.out _ _ ?_ (fun hHeld => ?_)
        · (try dsimp only); exact box_cells I9.out
        clear hKq Kq
        try simp only [Act.put, List.setIfInBounds_toArray, List.set_cons_zero, List.set_cons_succ]
        refine wpAnyH_ready (rs := [15]) (by kernel_rfl) (by simp) ?_
        refine AllReadyH.cons (o := ⟨_, _, _, _, _, _⟩) rfl (fun Kq hKq => ?_) AllReadyH.nil
        go_simp
        clear hHeld
        (go_at_call 18; (with_reducible refine (fenced_is (fencedB M o.F.f1 o.F.f2) _ _ y (n + 1) my5 K G8.out.t.ly o.F.f1 o.F.f2 HIO.out.f1 HF.out).mono ?_); rintro e w9 ⟨rfl, hb⟩; have G9 := Lib.hid (G8.out.below hb); have I10 := Lib.hid (box_below I9.out hb (box_lt I9.out)); clear hb)
        refine hKq.out _ _ ?_ (fun hHeld => ?_)
        · (try dsimp only); exact box_cells I10.out
        clear hKq Kq
        try simp only [Act.put, List.setIfInBounds_toArray, List.set_cons_zero, List.set_cons_succ]
        first | (refine wpAnyH_take (i := 16) (oi := ⟨_, _, _, _, _, _⟩) (v := ?_) rfl (by kernel_rfl) (by kernel_rfl) (by kernel_rfl) (fun _ _ _ h => h) (Or.inl ⟨by rfl, ?_⟩) (by assumption) ?_; rotate_left 1; · (intro w hSw; (try dsimp only at hSw); go_simp; all_goals with_reducible rfl)) | refine wpAnyH_take (i := 16) (oi := ⟨_, _, _, _, _, _⟩) (v := undef) rfl (by kernel_rfl) (by kernel_rfl) (by kernel_rfl) (fun _ _ _ h => h) (Or.inr ⟨by kernel_rfl, rfl⟩) (by assumption) ?_
        try simp only [Act.put, List.setIfInBounds_toArray, List.set_cons_zero, List.set_cons_succ]
        (refine wpAnyH_take (i := 17) (oi := ⟨_, _, _, _, _, _⟩) (v := ?_) rfl (by kernel_rfl) (by kernel_rfl) (by kernel_rfl) (fun _ _ _ h => h) (Or.inl ⟨by rfl, ?_⟩) (by assumption) ?_; rotate_left 1; · (intro w hSw; (try dsimp only at hSw); go_simp; all_goals with_reducible rfl))
        try simp only [Act.put, List.setIfInBounds_toArray, List.set_cons_zero, List.set_cons_succ]
        refine wpAnyH_done (by kernel_rfl) ?_ _
        clear hHeld G6 G7 G8 I6 I7 I8 I9 I10 HF
        go_wp2_with fail
        have HN2 := Lib.hid (show n < maxLen ∧ n + 1 < maxLen by have := HNL.out; unfold maxLen; omega)
        generalize hte : takeE M o.F m1 m2 = te at *
        refine wp_region_held_drew (S := fun W => W.cell? ⟨w.heap.size, 0, none⟩ = some (.int .i64 m1) ∧ W.cell? ⟨w.heap.size, 1, none⟩ = some (.int .i64 m2) ∧ W.cell? ⟨w.heap.size + 1, 0, none⟩ = some (.bool s.q) ∧ W.cell? ⟨w.heap.size + 1, 1, none⟩ = some (.int .u8 s.F.k) ∧ W.cell? ⟨w.heap.size + 1, 2, none⟩ = some (.int .i64 s.F.f1) ∧ W.cell? ⟨w.heap.size + 1, 3, none⟩ = some (.int .i64 s.F.f2) ∧ W.cell? ⟨w.heap.size + 1, 4, none⟩ = some (.int .i64 s.F.t1) ∧ W.cell? ⟨w.heap.size + 1, 5, none⟩ = some (.int .i64 s.F.t2) ∧ W.cell? ⟨w.heap.size + 1, 6, none⟩ = some (.int .i64 s.F.n) ∧ W.cell? ⟨w.heap.size + 1 + 1, 0, none⟩ = some (.bool o.q) ∧ W.cell? ⟨w.heap.size + 1 + 1, 1, none⟩ = some (.int .u8 o.F.k) ∧ W.cell? ⟨w.heap.size + 1 + 1, 2, none⟩ = some (.int .i64 o.F.f1) ∧ W.cell? ⟨w.heap.size + 1 + 1, 3, none⟩ = some (.int .i64 o.F.f2) ∧ W.cell? ⟨w.heap.size + 1 + 1, 4, none⟩ = some (.int .i64 o.F.t1) ∧ W.cell? ⟨w.heap.size + 1 + 1, 5, none⟩ = some (.int .i64 o.F.t2) ∧ W.cell? ⟨w.heap.size + 1 + 1, 6, none⟩ = some (.int .i64 o.F.n)) (by kernel_rfl) ?_ (fun hHeld => ?_)
        · exact G9.out.drewN.cells
        (refine wpAnyH_take (i := 0) (oi := ⟨_, _, _, _, _, _⟩) (v := ?_) rfl (by kernel_rfl) (by kernel_rfl) (by kernel_rfl) (fun _ _ _ h => h) (Or.inl ⟨by rfl, ?_⟩) (by assumption) ?_; rotate_left 1; · (intro w hSw; (try dsimp only at hSw); go_simp; all_goals with_reducible rfl))
        try simp only [Act.put, List.setIfInBounds_toArray, List.set_cons_zero, List.set_cons_succ]
        (refine wpAnyH_take (i := 1) (oi := ⟨_, _, _, _, _, _⟩) (v := ?_) rfl (by kernel_rfl) (by kernel_rfl) (by kernel_rfl) (fun _ _ _ h => h) (Or.inl ⟨by rfl, ?_⟩) (by assumption) ?_; rotate_left 1; · (intro w hSw; (try dsimp only at hSw); go_simp; all_goals with_reducible rfl))
        try simp only [Act.put, List.setIfInBounds_toArray, List.set_cons_zero, List.set_cons_succ]
        (refine wpAnyH_take (i := 3) (oi := ⟨_, _, _, _, _, _⟩) (v := ?_) rfl (by kernel_rfl) (by kernel_rfl) (by kernel_rfl) (fun _ _ _ h => h) (Or.inl ⟨by rfl, ?_⟩) (by assumption) ?_; rotate_left 1; · (intro w hSw; (try dsimp only at hSw); go_simp; all_goals with_reducible rfl))
        try simp only [Act.put, List.setIfInBounds_toArray, List.set_cons_zero, List.set_cons_succ]
        (refine wpAnyH_take (i := 5) (oi := ⟨_, _, _, _, _, _⟩) (v := ?_) rfl (by kernel_rfl) (by kernel_rfl) (by kernel_rfl) (fun _ _ _ h => h) (Or.inl ⟨by rfl, ?_⟩) (by assumption) ?_; rotate_left 1; · (intro w hSw; (try dsimp only at hSw); go_simp; all_goals with_reducible rfl))
        try simp only [Act.put, List.setIfInBounds_toArray, List.set_cons_zero, List.set_cons_succ]
        (refine wpAnyH_take (i := 6) (oi := ⟨_, _, _, _, _, _⟩) (v := ?_) rfl (by kernel_rfl) (by kernel_rfl) (by kernel_rfl) (fun _ _ _ h => h) (Or.inl ⟨by rfl, ?_⟩) (by assumption) ?_; rotate_left 1; · (intro w hSw; (try dsimp only at hSw); go_simp; all_goals with_reducible rfl))
        try simp only [Act.put, List.setIfInBounds_toArray, List.set_cons_zero, List.set_cons_succ]
        (refine wpAnyH_take (i := 8) (oi := ⟨_, _, _, _, _, _⟩) (v := ?_) rfl (by kernel_rfl) (by kernel_rfl) (by kernel_rfl) (fun _ _ _ h => h) (Or.inl ⟨by rfl, ?_⟩) (by assumption) ?_; rotate_left 1; · (intro w hSw; (try dsimp only at hSw); go_simp; all_goals with_reducible rfl))
        try simp only [Act.put, List.setIfInBounds_toArray, List.set_cons_zero, List.set_cons_succ]
        refine wpAnyH_ready (rs := [2]) (by kernel_rfl) (by simp) ?_
        refine AllReadyH.cons (o := ⟨_, _, _, _, _, _⟩) rfl (fun Kq hKq => ?_) AllReadyH.nil
        go_simp
        clear hHeld
        (go_at_call 16; (with_reducible refine (frame_any o _).mono ?_); rintro e v1 ⟨rfl, hb⟩; have J1 := Lib.hid ((G9.out.drewN (c := 1)).below hb); clear hb)
        refine hKq.out _ _ ?_ (fun hHeld => ?_)
        · (try dsimp only); exact J1.out.cells
        clear hKq Kq
        try simp only [Act.put, List.setIfInBounds_toArray, List.set_cons_zero, List.set_cons_succ]
        refine wpAnyH_ready (rs := [4]) (by kernel_rfl) (by simp) ?_
        refine AllReadyH.cons (o := ⟨_, _, _, _, _, _⟩) rfl (fun Kq hKq => ?_) AllReadyH.nil
        go_simp
        clear hHeld
        (go_at_call 15; (with_reducible refine (take_is te _ _ _ x n mx M J1.out.t.lx HN2.out.1 o.F m1 m2 HIO.out.f1 hte rfl).mono ?_); rintro e v2 ⟨rfl, q2, h1, h2⟩; have J2 := Lib.hid (J1.out.didX h1 h2); clear h1 h2)
        refine hKq.out _ _ ?_ (fun hHeld => ?_)
        · (try dsimp only); exact J2.out.cells
        clear hKq Kq
        try simp only [Act.put, List.setIfInBounds_toArray, List.set_cons_zero, List.set_cons_succ]
        refine wpAnyH_ready (rs := [7]) (by kernel_rfl) (by simp) ?_
        refine AllReadyH.cons (o := ⟨_, _, _, _, _, _⟩) rfl (fun Kq hKq => ?_) AllReadyH.nil
        go_simp
        clear hHeld
        (go_at_call 16; (with_reducible refine (frame_any o _).mono ?_); rintro e v3 ⟨rfl, hb⟩; have J3 := Lib.hid (J2.out.below hb); clear hb)
        refine hKq.out _ _ ?_ (fun hHeld => ?_)
        · (try dsimp only); exact J3.out.cells
        clear hKq Kq
        try simp only [Act.put, List.setIfInBounds_toArray, List.set_cons_zero, List.set_cons_succ]
        refine wpAnyH_ready (rs := [9]) (by kernel_rfl) (by simp) ?_
        refine AllReadyH.cons (o := ⟨_, _, _, _, _, _⟩) rfl (fun Kq hKq => ?_) AllReadyH.nil
        go_simp
        clear hHeld
        (go_at_call 15; (with_reducible refine (take_is te _ _ _ y (n + 1) my5 K J3.out.t.ly HN2.out.2 o.F m1 m2 HIO.out.f1 HT.out rfl).mono ?_); rintro e v4 ⟨rfl, q4, h1, h2⟩; have J4 := Lib.hid (J3.out.didY h1 h2); clear h1 h2)
        refine hKq.out _ _ ?_ (fun hHeld => ?_)
        · (try dsimp only); exact J4.out.cells
        clear hKq Kq
        try simp only [Act.put, List.setIfInBounds_toArray, List.set_cons_zero, List.set_cons_succ]
        (refine wpAnyH_take (i := 10) (oi := ⟨_, _, _, _, _, _⟩) (v := ?_) rfl (by kernel_rfl) (by kernel_rfl) (by kernel_rfl) (fun _ _ _ h => h) (Or.inl ⟨by rfl, ?_⟩) (by assumption) ?_; rotate_left 1; · (intro w hSw; (try dsimp only at hSw); go_simp; all_goals with_reducible rfl))
        try simp only [Act.put, List.setIfInBounds_toArray, List.set_cons_zero, List.set_cons_succ]
        (refine wpAnyH_take (i := 11) (oi := ⟨_, _, _, _, _, _⟩) (v := ?_) rfl (by kernel_rfl) (by kernel_rfl) (by kernel_rfl) (fun _ _ _ h => h) (Or.inl ⟨by rfl, ?_⟩) (by assumption) ?_; rotate_left 1; · (intro w hSw; (try dsimp only at hSw); go_simp; all_goals with_reducible rfl))
        try simp only [Act.put, List.setIfInBounds_toArray, List.set_cons_zero, List.set_cons_succ]
        refine wpAnyH_done (by kernel_rfl) ?_ _
        clear hHeld
        go_wp2_with fail
        go_ret
        exact ⟨rfl, B1.out.trans (J4.out.b.mono B1.out.size)⟩
end Go.Proofs.Ytgbbmhdkhhchhaa
