/-
  Two boxes, the program's and the document's, and what a law writes over besides. No statement is proved in this text.
-/
import Derived.Test.YtmgiglefabbmcaaOutAA
import Derived.Test.YtmgiglefabbmcaaOutAC
import Derived.Test.YtmgiglefabbmcaaOutR
set_option maxRecDepth 20000
namespace Go.Proofs.Ytmgiglefabbmcaa
open Go Go.RowKit
theorem Bx.onlyNew {D S : Nat → Prop} {W W' : World} {p : Nat} {mx : Int} {L : List Fr} (h : Bx D W p mx L) (ho : Only S W W') (hS : ∀ k, S k → D k) : Bx (fun k => D k ∨ (W.heap.size ≤ k ∧ k < W'.heap.size)) W' p mx L := by
  obtain ⟨T, qs, h1, h2, h3⟩ := h.box
  refine ⟨⟨T, qs, h1.on (ho.on fun k hk => ⟨h1.lt k hk, fun e => h3 k hk (hS k e)⟩) ho.size, h2, fun k hk e => ?_⟩, fun k hk => ?_, h.fit⟩
  · rcases e with e | e
    · exact h3 k hk e
    · have := h1.lt k hk; omega
  · rcases hk with e | e
    · exact Nat.lt_of_lt_of_le (h.hd k e) ho.size
    · exact e.2
/-- p is a box of the program's, x one of the document's; neither touches what is in Z, nor what was there ahead of w. -/
structure PlI (Z : Nat → Prop) (w : World) (p x : Nat) (mx : Int) (L : List Fr) (qs : List Fq) (W : World) : Prop where
  ex : ∃ (D : Nat → Prop) (A : Option Addr) (c : Nat), Bx D W p mx L ∧ RB W x mx A c qs ∧ (∀ k, k < w.heap.size → D k) ∧ D x ∧ (∀ k, AB A k → D k) ∧ (∀ k, Z k → D k ∧ k ≠ x ∧ ¬ AB A k ∧ w.heap.size ≤ k)
  b : Below w.heap.size w W
  xw : w.heap.size ≤ x
theorem PlI.few {Z : Nat → Prop} {w : World} {p x : Nat} {mx : Int} {L : List Fr} {qs : List Fq} {W : World} (h : PlI Z w p x mx L qs W) : L.length ≤ 4096 ∧ (L.length : Int) ≤ mx ∧ 1 ≤ mx ∧ mx ≤ 4096 ∧ ∀ F ∈ L, Fit 20000 F.v := by
  obtain ⟨D, A, c, hx, _⟩ := h.ex
  exact ⟨hx.few, hx.len.1, hx.len.2.1, hx.len.2.2, hx.fit⟩
theorem PlI.zlt {Z : Nat → Prop} {w : World} {p x : Nat} {mx : Int} {L : List Fr} {qs : List Fq} {W : World} (h : PlI Z w p x mx L qs W) {k : Nat} (hk : Z k) : k < W.heap.size ∧ k ≠ x ∧ w.heap.size ≤ k := by
  obtain ⟨D, A, c, hx, _, _, _, _, hz⟩ := h.ex
  exact ⟨hx.hd k (hz k hk).1, (hz k hk).2.1, (hz k hk).2.2.2⟩
theorem PlI.mono {Z Y : Nat → Prop} {w : World} {p x : Nat} {mx : Int} {L : List Fr} {qs : List Fq} {W : World} (h : PlI Z w p x mx L qs W) (hY : ∀ k, Y k → Z k) : PlI Y w p x mx L qs W := by
  obtain ⟨D, A, c, h1, h2, h3, h4, h5, h6⟩ := h.ex
  exact ⟨⟨D, A, c, h1, h2, h3, h4, h5, fun k hk => h6 k (hY k hk)⟩, h.b, h.xw⟩
/-- The document's frames lie where they did. -/
theorem PlI.rb {Z : Nat → Prop} {w : World} {p x : Nat} {mx : Int} {L : List Fr} {qs : List Fq} {W : World} (h : PlI Z w p x mx L qs W) : ∃ A c, W.cell? ⟨x, 1, none⟩ = some (.slice A qs.length c) ∧ W.frozen? ⟨x, 1, none⟩ = false ∧ Rcs encF 14 W (.slice A qs.length c) qs := by
  obtain ⟨D, A, c, _, h2, _⟩ := h.ex
  exact ⟨A, c, h2.at1.1, h2.at1.2, h2.row.rcs⟩
/-- What is new may be written over. -/
theorem PlI.below {Z : Nat → Prop} {w : World} {p x : Nat} {mx : Int} {L : List Fr} {qs : List Fq} {W W' : World} (h : PlI Z w p x mx L qs W) (hb : Below W.heap.size W W') : PlI (fun k => Z k ∨ (W.heap.size ≤ k ∧ k < W'.heap.size)) w p x mx L qs W' := by
  obtain ⟨D, A, c, h1, h2, h3, h4, h5, h6⟩ := h.ex
  refine ⟨⟨_, A, c, h1.below hb, h2.step hb, fun k hk => .inl (h3 k hk), .inl h4, fun k hk => .inl (h5 k hk), fun k hk => ?_⟩, below_after h.b hb (Nat.le_refl _), h.xw⟩
  rcases hk with hk | hk
  · have := h6 k hk
    exact ⟨.inl this.1, this.2⟩
  · have hx := row_lt h2.cells
    exact ⟨.inr hk, by omega, fun e => by have := h2.row.lt k e; omega, Nat.le_trans h.b.size hk.1⟩
theorem PlI.step {Z : Nat → Prop} {w : World} {p x : Nat} {mx : Int} {L : List Fr} {qs : List Fq} {W W' : World} (h : PlI Z w p x mx L qs W) (hb : Below W.heap.size W W') : PlI Z w p x mx L qs W' := (h.below hb).mono fun _ e => .inl e
/-- What is in Z is written over. -/
theorem PlI.spoil {Z S : Nat → Prop} {w : World} {p x : Nat} {mx : Int} {L : List Fr} {qs : List Fq} {W W' : World} (h : PlI Z w p x mx L qs W) (ho : Only S W W') (hS : ∀ k, S k → Z k) : PlI Z w p x mx L qs W' := by
  obtain ⟨D, A, c, h1, h2, h3, h4, h5, h6⟩ := h.ex
  refine ⟨⟨D, A, c, h1.only ho fun k hk => (h6 k (hS k hk)).1, ⟨(ho.block x (row_lt h2.cells) fun e => (h6 x (hS x e)).2.1 rfl).trans h2.cells, h2.row.on (ho.on fun k hk => ⟨h2.row.lt k hk, fun e => (h6 k (hS k e)).2.2.1 hk⟩)⟩, h3, h4, h5, h6⟩, ?_, h.xw⟩
  exact h.b.trans (ho.below h.b.size fun k hk => (h6 k (hS k hk)).2.2.2)
/-- .. and more is new. -/
theorem PlI.spoilNew {Z S : Nat → Prop} {w : World} {p x : Nat} {mx : Int} {L : List Fr} {qs : List Fq} {W W' : World} (h : PlI Z w p x mx L qs W) (ho : Only S W W') (hS : ∀ k, S k → Z k) : PlI (fun k => Z k ∨ (W.heap.size ≤ k ∧ k < W'.heap.size)) w p x mx L qs W' := by
  obtain ⟨D, A, c, h1, h2, h3, h4, h5, h6⟩ := h.ex
  refine ⟨⟨_, A, c, h1.onlyNew ho fun k hk => (h6 k (hS k hk)).1, ⟨(ho.block x (row_lt h2.cells) fun e => (h6 x (hS x e)).2.1 rfl).trans h2.cells, h2.row.on (ho.on fun k hk => ⟨h2.row.lt k hk, fun e => (h6 k (hS k e)).2.2.1 hk⟩)⟩, fun k hk => .inl (h3 k hk), .inl h4, fun k hk => .inl (h5 k hk), fun k hk => ?_⟩, ?_, h.xw⟩
  · rcases hk with hk | hk
    · have := h6 k hk
      exact ⟨.inl this.1, this.2⟩
    · have hx := row_lt h2.cells
      exact ⟨.inr hk, by omega, fun e => by have := h2.row.lt k e; omega, Nat.le_trans h.b.size hk.1⟩
  · exact h.b.trans (ho.below h.b.size fun k hk => (h6 k (hS k hk)).2.2.2)
theorem Bx.keptNew {D E : Nat → Prop} {W W' : World} {p : Nat} {mx : Int} {L : List Fr} (h : Bx E W p mx L) (hk : Kept D W W') (hc : ∀ k, k < W.heap.size → ¬ E k → D k) : Bx (fun k => E k ∨ (W.heap.size ≤ k ∧ k < W'.heap.size)) W' p mx L := by
  obtain ⟨T, qs, h1, h2, h3⟩ := h.box
  refine ⟨⟨T, qs, h1.on (hk.on.mono fun k hk => hc k (h1.lt k hk) (h3 k hk)) hk.size, h2, fun k hk e => ?_⟩, fun k hk2 => ?_, h.fit⟩
  · rcases e with e | e
    · exact h3 k hk e
    · have := h1.lt k hk; omega
  · rcases hk2 with e | e
    · exact Nat.lt_of_lt_of_le (h.hd k e) hk.size
    · exact e.2
/-- What another box does, that is all new. -/
theorem PlI.kept {Z D : Nat → Prop} {w : World} {p x : Nat} {mx : Int} {L : List Fr} {qs : List Fq} {W W' : World} (h : PlI Z w p x mx L qs W) (hk : Kept D W W') (hc : ∀ k, k < W.heap.size → ¬ Z k → D k) : PlI (fun k => Z k ∨ (W.heap.size ≤ k ∧ k < W'.heap.size)) w p x mx L qs W' := by
  obtain ⟨E, A, c, h1, h2, h3, h4, h5, h6⟩ := h.ex
  refine ⟨⟨_, A, c, h1.keptNew hk fun k hlt hn => hc k hlt fun e => hn (h6 k e).1, ⟨(hk.on x (hc x (row_lt h2.cells) fun e => (h6 x e).2.1 rfl)).trans h2.cells, h2.row.on fun k ha => hk.on k (hc k (h2.row.lt k ha) fun e => (h6 k e).2.2.1 ha)⟩, fun k hk => .inl (h3 k hk), .inl h4, fun k hk => .inl (h5 k hk), fun k hk => ?_⟩, ?_, h.xw⟩
  · rcases hk with hk | hk
    · have := h6 k hk
      exact ⟨.inl this.1, this.2⟩
    · have hx := row_lt h2.cells
      exact ⟨.inr hk, by omega, fun e => by have := h2.row.lt k e; omega, Nat.le_trans h.b.size hk.1⟩
  · exact h.b.trans (hk.below fun k hlt => hc k (Nat.lt_of_lt_of_le hlt h.b.size) fun e => by have := (h6 k e).2.2.2; omega)
theorem PlI.on {Z S : Nat → Prop} {w : World} {p x : Nat} {mx : Int} {L : List Fr} {qs : List Fq} {W W' : World} (h : PlI Z w p x mx L qs W) (ho : Only S W W') {Y : Nat → Prop} (hY : ∀ k, Y k → Z k ∧ ¬ S k) : On Y W W' := ho.on fun k hk => ⟨(h.zlt (hY k hk).1).1, (hY k hk).2⟩
theorem PlI.onB {Z : Nat → Prop} {w : World} {p x : Nat} {mx : Int} {L : List Fr} {qs : List Fq} {W W' : World} (h : PlI Z w p x mx L qs W) (hb : Below W.heap.size W W') : On Z W W' := Below.on hb fun _ hk => (h.zlt hk).1
/-- The program's Put. -/
theorem pl_put (Z : Nat → Prop) (w : World) (p x : Nat) (mx : Int) (L : List Fr) (qs : List Fq) (W : World) (h : PlI Z w p x mx L qs W) (q : Fq) (hr : FR W q) (hV : Fit 20000 q.F.v) :
    Calls Try.prog 9 #[.pointer (some ⟨p, 0, none⟩), .agg (fc q)] W fun e w' => ∃ (qo : Fq) (Q : Nat → Prop), e = .returned (.tuple #[.agg (fc qo), .bool (putL mx L q.F).2.2, .int .i64 0]) ∧ qo.F = (putL mx L q.F).2.1 ∧ FO Q w' qo ∧ (∀ k, Q k → ¬ Z k) ∧ PlI (fun k => Z k ∨ Q k) w p x mx (putL mx L q.F).1 qs w' ∧ On Z W w' := by
  obtain ⟨D, A, c, h1, h2, h3, h4, h5, h6⟩ := h.ex
  refine (bx_put D W p mx L h1 q hr hV).mono fun e w' ⟨qo, Q, k1, k2, k3, k4, k5, k6⟩ => ⟨qo, Q, k1, k2, k3, fun k hk e => (k4 k hk).1 (h6 k e).1, ⟨⟨_, A, c, k5, ⟨(k6.on x h4).trans h2.cells, h2.row.on (k6.on.mono h5)⟩, fun k hk => .inl (h3 k hk), .inl h4, fun k hk => .inl (h5 k hk), fun k hk => ?_⟩, ?_, h.xw⟩, k6.on.mono fun k hk => (h6 k hk).1⟩
  · rcases hk with hk | hk
    · exact ⟨.inl (h6 k hk).1, (h6 k hk).2⟩
    · refine ⟨.inr hk, fun e => (k4 k hk).1 (e ▸ h4), fun e => (k4 k hk).1 (h5 k e), ?_⟩
      rcases Nat.lt_or_ge k w.heap.size with hlt | hge
      · exact ((k4 k hk).1 (h3 k hlt)).elim
      · exact hge
  · exact h.b.trans (k6.below h3)
theorem pl_take (Z : Nat → Prop) (w : World) (p x : Nat) (mx : Int) (L : List Fr) (qs : List Fq) (W : World) (h : PlI Z w p x mx L qs W) :
    Calls Try.prog 11 #[.pointer (some ⟨p, 0, none⟩)] W fun e w' => ∃ (qo : Fq) (Q : Nat → Prop), e = .returned (.tuple #[.agg (fc qo), .bool (!L.isEmpty)]) ∧ qo.F = hdF L ∧ FO Q w' qo ∧ (∀ k, Q k → ¬ Z k) ∧ PlI (fun k => Z k ∨ Q k) w p x mx L.tail qs w' ∧ On Z W w' := by
  obtain ⟨D, A, c, h1, h2, h3, h4, h5, h6⟩ := h.ex
  refine (bx_take D W p mx L h1).mono fun e w' ⟨qo, Q, k1, k2, k3, k4, k5, k6⟩ => ⟨qo, Q, k1, k2, k3, fun k hk e => (k4 k hk).1 (h6 k e).1, ⟨⟨_, A, c, k5, ⟨(k6.on x h4).trans h2.cells, h2.row.on (k6.on.mono h5)⟩, fun k hk => .inl (h3 k hk), .inl h4, fun k hk => .inl (h5 k hk), fun k hk => ?_⟩, ?_, h.xw⟩, k6.on.mono fun k hk => (h6 k hk).1⟩
  · rcases hk with hk | hk
    · exact ⟨.inl (h6 k hk).1, (h6 k hk).2⟩
    · refine ⟨.inr hk, fun e => (k4 k hk).1 (e ▸ h4), fun e => (k4 k hk).1 (h5 k e), ?_⟩
      rcases Nat.lt_or_ge k w.heap.size with hlt | hge
      · exact ((k4 k hk).1 (h3 k hlt)).elim
      · exact hge
  · exact h.b.trans (k6.below h3)
theorem pl_clear (Z : Nat → Prop) (w : World) (p x : Nat) (mx : Int) (L : List Fr) (qs : List Fq) (W : World) (h : PlI Z w p x mx L qs W) :
    Calls Try.prog 12 #[.pointer (some ⟨p, 0, none⟩)] W fun e w' => e = .returned (.tuple #[]) ∧ PlI Z w p x mx [] qs w' := by
  obtain ⟨D, A, c, h1, h2, h3, h4, h5, h6⟩ := h.ex
  exact (bx_clear D W p mx L h1).mono fun e w' ⟨k1, k5, k6⟩ => ⟨k1, ⟨D, A, c, k5, ⟨(k6.on x h4).trans h2.cells, h2.row.on (k6.on.mono h5)⟩, h3, h4, h5, h6⟩, h.b.trans (k6.below h3), h.xw⟩
theorem pl_len (Z : Nat → Prop) (w : World) (p x : Nat) (mx : Int) (L : List Fr) (qs : List Fq) (W : World) (h : PlI Z w p x mx L qs W) :
    Calls Try.prog 14 #[.pointer (some ⟨p, 0, none⟩)] W fun e w' => e = .returned (.int .i64 L.length) ∧ W = w' := by
  obtain ⟨D, A, c, h1, _⟩ := h.ex
  exact bx_len D W p mx L h1
/-- The document's Put, Take, and nothing. -/
theorem PlI.doc {Z : Nat → Prop} {w : World} {p x : Nat} {mx : Int} {L : List Fr} {qs qs' : List Fq} {W w' : World} (h : PlI Z w p x mx L qs W) (ho : Only (fun k => k = x) W w') (hrb : ∀ A c, RB W x mx A c qs → ∃ A' c', RB w' x mx A' c' qs' ∧ (A' = A ∨ ∀ k, AB A' k → W.heap.size ≤ k)) : PlI Z w p x mx L qs' w' := by
  obtain ⟨D, A, c, h1, h2, h3, h4, h5, h6⟩ := h.ex
  obtain ⟨A', c', k1, k2⟩ := hrb A c h2
  refine ⟨⟨_, A', c', h1.onlyNew ho (fun k hk => hk ▸ h4), k1, fun k hk => .inl (h3 k hk), .inl h4, fun k hk => ?_, fun k hk => ⟨.inl (h6 k hk).1, (h6 k hk).2.1, fun e => ?_, (h6 k hk).2.2.2⟩⟩, ?_, h.xw⟩
  · rcases k2 with rfl | k2
    · exact .inl (h5 k hk)
    · exact .inr ⟨k2 k hk, k1.row.lt k hk⟩
  · rcases k2 with rfl | k2
    · exact (h6 k hk).2.2.1 e
    · have := k2 k e
      have := h1.hd k (h6 k hk).1
      omega
  · exact h.b.trans (ho.below h.b.size fun k hk => hk ▸ h.xw)
theorem pl_rput (Z : Nat → Prop) (w : World) (p x : Nat) (mx : Int) (L : List Fr) (qs : List Fq) (W : World) (h : PlI Z w p x mx L qs W) (q : Fq) (hl : (qs.length : Int) ≤ mx) :
    Calls Try.prog 22 #[.pointer (some ⟨x, 0, none⟩), .agg (fc q)] W fun e w' => e = .returned (.tuple #[.agg (fc (putQ mx qs q).2.1), .bool (putQ mx qs q).2.2]) ∧ PlI Z w p x mx L (putQ mx qs q).1 w' ∧ On Z W w' := by
  obtain ⟨D, A, c, h1, h2, h3, h4, h5, h6⟩ := id h.ex
  refine (rput_any W x mx A c qs h2 ⟨hl, h.few.2.2.2.1⟩ q).mono fun e w' ⟨k1, ⟨A', c', k2, k3⟩, k4⟩ => ⟨k1, ?_, h.on k4 fun k hk => ⟨hk, (h.zlt hk).2.1⟩⟩
  refine ⟨⟨_, A', c', h1.onlyNew k4 (fun k hk => hk ▸ h4), k2, fun k hk => .inl (h3 k hk), .inl h4, fun k hk => ?_, fun k hk => ⟨.inl (h6 k hk).1, (h6 k hk).2.1, fun e => ?_, (h6 k hk).2.2.2⟩⟩, ?_, h.xw⟩
  · rcases k3 with rfl | k3
    · exact .inl (h5 k hk)
    · exact .inr ⟨k3 k hk, k2.row.lt k hk⟩
  · rcases k3 with rfl | k3
    · exact (h6 k hk).2.2.1 e
    · have := k3 k e
      have := h1.hd k (h6 k hk).1
      omega
  · exact h.b.trans (k4.below h.b.size fun k hk => hk ▸ h.xw)
theorem pl_rtake (Z : Nat → Prop) (w : World) (p x : Nat) (mx : Int) (L : List Fr) (qs : List Fq) (W : World) (h : PlI Z w p x mx L qs W) (hl : qs.length ≤ 5000) :
    Calls Try.prog 25 #[.pointer (some ⟨x, 0, none⟩)] W fun e w' => e = .returned (.tuple #[.agg (fc (tq qs)), .bool (!qs.isEmpty)]) ∧ PlI Z w p x mx L qs.tail w' ∧ On Z W w' := by
  obtain ⟨D, A, c, h1, h2, h3, h4, h5, h6⟩ := id h.ex
  refine (rtake_any W x mx A c qs h2 hl).mono fun e w' ⟨k1, ⟨A', c', k2, k3⟩, k4⟩ => ⟨k1, ?_, h.on k4 fun k hk => ⟨hk, (h.zlt hk).2.1⟩⟩
  refine ⟨⟨_, A', c', h1.onlyNew k4 (fun k hk => hk ▸ h4), k2, fun k hk => .inl (h3 k hk), .inl h4, fun k hk => ?_, fun k hk => ⟨.inl (h6 k hk).1, (h6 k hk).2.1, fun e => ?_, (h6 k hk).2.2.2⟩⟩, ?_, h.xw⟩
  · rcases k3 with rfl | k3
    · exact .inl (h5 k hk)
    · exact .inr ⟨k3 k hk, k2.row.lt k hk⟩
  · rcases k3 with rfl | k3
    · exact (h6 k hk).2.2.1 e
    · have := k3 k e
      have := h1.hd k (h6 k hk).1
      omega
  · exact h.b.trans (k4.below h.b.size fun k hk => hk ▸ h.xw)
theorem pl_all (Z : Nat → Prop) (w : World) (p x : Nat) (mx : Int) (L : List Fr) (qs : List Fq) (W : World) (h : PlI Z w p x mx L qs W) :
    Calls Try.prog 15 #[.pointer (some ⟨p, 0, none⟩)] W fun e w' => ∃ us v, e = .returned v ∧ us.map (·.F) = L ∧ FL (fun k => W.heap.size ≤ k ∧ k < w'.heap.size) w' v us ∧ PlI (fun k => Z k ∨ (W.heap.size ≤ k ∧ k < w'.heap.size)) w p x mx L qs w' ∧ Below W.heap.size W w' := by
  obtain ⟨D, A, c, h1, _⟩ := id h.ex
  exact (bx_all D W p mx L h1).mono fun e w' ⟨us, v, k1, k2, k3, _, k5⟩ => ⟨us, v, k1, k2, k3, h.below k5, k5⟩
theorem pl_copy (Z : Nat → Prop) (w : World) (p x : Nat) (mx : Int) (L : List Fr) (qs : List Fq) (W : World) (h : PlI Z w p x mx L qs W) :
    Calls Try.prog 16 #[.pointer (some ⟨p, 0, none⟩)] W fun e w' => ∃ p', e = .returned (.pointer (some ⟨p', 0, none⟩)) ∧ Bx (fun k => k < W.heap.size) w' p' mx L ∧ PlI (fun k => Z k ∨ (W.heap.size ≤ k ∧ k < w'.heap.size)) w p x mx L qs w' ∧ Below W.heap.size W w' := by
  obtain ⟨D, A, c, h1, _⟩ := id h.ex
  exact (bx_copy D W p mx L h1).mono fun e w' ⟨p', k1, k2, _, k4⟩ => ⟨p', k1, k2, h.below k4, k4⟩
theorem putQ_fr {w : World} {mx : Int} {qs : List Fq} {q : Fq} (hq : FR w q) (hs : ∀ u ∈ qs, FR w u) : FR w (putQ mx qs q).2.1 ∧ ∀ u ∈ (putQ mx qs q).1, FR w u := by
  refine ⟨?_, fun u hu => ?_⟩
  · unfold putQ
    split
    · exact (fo_zero (fun _ => False) w).reads
    · split
      · exact hs _ (List.getElem_mem _)
      · exact hq
  · rcases putQ_mem mx qs q u hu with h | h
    · exact hs u h
    · rw [h]
      exact hq
theorem tq_fr {w : World} {qs : List Fq} (hs : ∀ u ∈ qs, FR w u) : FR w (tq qs) ∧ ∀ u ∈ qs.tail, FR w u := by
  refine ⟨?_, fun u hu => hs u (List.mem_of_mem_tail hu)⟩
  cases qs with
  | nil => exact (fo_zero (fun _ => False) w).reads
  | cons u us => exact hs u (by simp)
end Go.Proofs.Ytmgiglefabbmcaa
