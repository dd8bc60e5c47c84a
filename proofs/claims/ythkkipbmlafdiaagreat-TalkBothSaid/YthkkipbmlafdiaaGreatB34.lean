/-
  Contracts and plain facts.
-/
import Derived.Test.YthkkipbmlafdiaaGreatOy
import Derived.Test.YthkkipbmlafdiaaGreatB22
import Derived.Test.YthkkipbmlafdiaaGreatB24
import Derived.Test.YthkkipbmlafdiaaGreatB33
set_option maxRecDepth 20000
namespace Go.Proofs.YthkkipbmlafdiaaGreat
section
open Go Go.RowKit
def Ky (w w' : World) : Prop := w.heap.size ≤ w'.heap.size ∧ ∀ a : Addr, (∃ k n, w.cell? a = some (.int k n)) → w'.heap[a.block]? = w.heap[a.block]?
theorem ky_refl (w : World) : Ky w w := ⟨Nat.le_refl _, fun _ _ => rfl⟩
theorem ky_below {w w' : World} (hb : Below w.heap.size w w') : Ky w w' := ⟨hb.size, fun _ ⟨_, _, h⟩ => hb.block _ (World.block_lt_of_cell? w _ h)⟩
theorem Ky.kp {w w' : World} (h : Ky w w') : Kp w w' := ⟨h.1, fun a b hab hc u hu => by
 have e := h.2 a hc;rw [hab] at e;rw [World.cell?_of_block e];exact hu⟩
theorem ky_set {w : World} {g : Nat} {a b c d e : SL} (h : VBox w g a b c d e) (vs : List Value) : Ky w (w.setCells g 0 vs) := by
 refine ⟨by rw [size_setCells]; exact Nat.le_refl _, fun x ⟨k, n, hc⟩ => heap_setCells _ _ _ _ _ fun e => ?_⟩
 unfold VBox at h;rw [← e] at h;unfold World.cell? at hc;rw [h] at hc;simp at hc
 have hm := List.mem_of_getElem? hc.2;simp at hm
theorem rowAtR_ky {w w' : World} {g : Nat} {d : Array Raw} (h : RowAtR encW 4 w g d) (hk : Ky w w') : RowAtR encW 4 w' g d := by
 rcases Nat.eq_zero_or_pos d.size with h0 | h0
 ·exact ⟨Nat.lt_of_lt_of_le h.1 hk.1, fun k hk => absurd hk (by omega)⟩
 ·exact rowAtR_block h hk.1 (hk.2 ⟨g, 0 * 4, none⟩ ⟨_, _, (h.row h0).1.1⟩)
def Kq (w w' : World) : Prop := w.heap.size ≤ w'.heap.size ∧ ∀ (a : Addr) (k : IntKind) (n : Int), w.cell? a = some (.int k n) → w'.cell? a = some (.int k n)
theorem kq_refl (w : World) : Kq w w := ⟨Nat.le_refl _, fun _ _ _ h => h⟩
theorem kq_below {w w' : World} (hb : Below w.heap.size w w') : Kq w w' := ⟨hb.size, fun _ _ _ h => (hb.cell (World.block_lt_of_cell? w _ h)).trans h⟩
theorem kq_store {w : World} {g j : Nat} {A : Option Addr} {m c : Nat} (h : w.cell? ⟨g, j, none⟩ = some (.slice A m c)) (v : Value) : Kq w (w.setCell ⟨g, j, none⟩ v) := by
 refine ⟨by rw [World.size_setCell]; exact Nat.le_refl _, fun a k n hc => ?_⟩
 rw [World.cell?_setCell_other _ _ _ _ (fun e => ?_)]
 ·exact hc
 ·first | rw [e] at h | rw [← e] at h
  rw [hc] at h;cases h
theorem Rcs.kq {α : Type} {enc : α → List Value} {sz : Nat} {w w' : World} {v : Value} {l : List α} (h : Rcs enc sz w v l) (hk : Kq w w') (h0 : ∀ x, ∀ u ∈ enc x, ∃ k n, u = .int k n) : Rcs enc sz w' v l := by
 obtain ⟨A, c, hv, hz, hc, hh⟩ := h;refine ⟨A, c, hv, hz, hc, fun k h => ?_⟩
 obtain ⟨ad, h1, h2, h3⟩ := hh k h;refine ⟨ad, h1, Nat.lt_of_lt_of_le h2 hk.1, fun j u hu => ?_⟩
 obtain ⟨i, n, rfl⟩ := h0 _ u (List.mem_of_getElem? hu);exact hk.2 _ _ _ (h3 j _ hu)
theorem Ids.kq {w w' : World} {v : Value} {l : List Sets.Id2} (h : Ids w v l) (hk : Kq w w') : Ids w' v l := ids_rcs ((rcs_ids h).kq hk fun x u hu => by
 simp [encI] at hu
 rcases hu with rfl | rfl <;> exact ⟨_, _, rfl⟩)
theorem Ms.kq {w w' : World} {v : Value} {l : List Ros.Mm} (h : Ms w v l) (hk : Kq w w') : Ms w' v l := Rcs.kq h hk fun x u hu => by
 simp [encM] at hu
 rcases hu with rfl | rfl | rfl | rfl <;> exact ⟨_, _, rfl⟩
theorem ticks_kq {w w' : World} {v : Value} {l : List Clocks.Tick} (h : Rcs encT 3 w v l) (hk : Kq w w') : Rcs encT 3 w' v l := Rcs.kq h hk fun x u hu => by
 simp [encT] at hu
 rcases hu with rfl | rfl | rfl <;> exact ⟨_, _, rfl⟩
theorem each_kq {w w' : World} (hk : Kq w w') : ∀ {qs : List Raw} {l : List RowSets.Row}, EachReads w qs l → EachReads w' qs l
 | [], [], _ => trivial
 | _ :: _, _ :: _, h => ⟨⟨h.1.1, h.1.2.1, Ids.kq h.1.2.2 hk⟩, each_kq hk h.2⟩
 | [], _ :: _, h => h.elim
 | _ :: _, [], h => h.elim
def CpW (w : World) (v : Value) (b0 : Nat) (l : List RowSets.Row) : Prop := (v = .slice none 0 0 ∧ l = []) ∨ ∃ g cap, ∃ d : Array Raw, v = .slice (some ⟨g, 0, none⟩) l.length cap ∧ d.size = l.length ∧ d.size ≤ cap ∧ b0 ≤ g ∧ RowAtR encW 4 w g d ∧ EachReads w d.toList l
theorem CpW.ky {w w' : World} {v : Value} {b0 : Nat} {l : List RowSets.Row} (h : CpW w v b0 l) (hk : Ky w w') : CpW w' v b0 l := by
 rcases h with h | ⟨g, cap, d, h1, h2, h3, h4, h5, h6⟩
 ·exact .inl h
 ·exact .inr ⟨g, cap, d, h1, h2, h3, h4, rowAtR_ky h5 hk, each_kp hk.kp h6⟩
theorem cpW_of {w w' : World} {X : Value} {qs : List Raw} {l : List RowSets.Row} {b0 : Nat} (hx : X = .slice none 0 0 ∧ qs = [] ∨ OwnsR encW 4 68 w' w.heap.size X qs) (h2 : EachReads w' qs l) (hb : b0 ≤ w.heap.size) : CpW w' X b0 l := by
 have hl := h2.len;rcases hx with ⟨rfl, rfl⟩ | hx
 ·exact .inl ⟨rfl, List.eq_nil_of_length_eq_zero hl.symm⟩
 ·rcases ownsR_split hx with ⟨rfl, h0⟩ | ⟨g, cap, rfl, hg, hc⟩
  ·exact .inl ⟨rfl, List.eq_nil_of_length_eq_zero (by omega)⟩
  ·have hlt := (World.ownsRow.lt hx g rfl).1
   exact .inr ⟨g, cap, qs.toArray, by rw [hl], by simpa using hl, by simpa using hc, by omega, rowAtR_owns encW_len (c := cap) (by simpa using hx), by simpa using h2⟩
theorem sl_cpW {w : World} {v : Value} {b0 : Nat} {l : List RowSets.Row} (h : CpW w v b0 l) : ∃ a : SL, v = .slice a.1 a.2.1 a.2.2 := by
 rcases h with ⟨h, _⟩ | ⟨g, cap, _, h, _⟩
 ·exact ⟨(none, 0, 0), h⟩
 ·exact ⟨(some ⟨g, 0, none⟩, l.length, cap), h⟩
theorem CpW.shape {w : World} {v : Value} {b0 : Nat} {l : List RowSets.Row} (h : CpW w v b0 l) : ∃ A cap, v = .slice A l.length cap := by
 rcases h with ⟨rfl, rfl⟩ | ⟨g, cap, _, h, _⟩
 ·exact ⟨none, 0, rfl⟩
 ·exact ⟨_, _, h⟩
theorem CpW.rows {w : World} {v : Value} {b0 : Nat} {l : List RowSets.Row} (h : CpW w v b0 l) : RowsAt w v l := by
 rcases h with ⟨rfl, rfl⟩ | ⟨g, cap, d, rfl, h2, h3, _, h5, h6⟩
 ·exact ⟨[], Rcs.nil _, trivial⟩
 ·refine ⟨d.toList, ?_, h6⟩
  have := rowAtR_rcs (c := cap) h5 h3
  rw [h2] at this;exact this
theorem CpW.at_ {w : World} {A : Option Addr} {n cap b0 : Nat} {l : List RowSets.Row} (h : CpW w (.slice A n cap) b0 l) {k : Nat} (hk : k < l.length) : ∃ g, ∃ d : Array Raw, A = some ⟨g, 0, none⟩ ∧ d.size = l.length ∧ b0 ≤ g ∧ RowAtR encW 4 w g d ∧ EachReads w d.toList l := by
 rcases h with ⟨_, rfl⟩ | ⟨g, _, d, e, h2, _, h4, h5, h6⟩
 ·exact absurd hk (by simp)
 ·injection e with e
  exact ⟨g, d, e, h2, h4, h5, h6⟩
theorem CpW.store {w : World} {g n cap b0 : Nat} {l : List RowSets.Row} (h : CpW w (.slice (some ⟨g, 0, none⟩) n cap) b0 l) {k : Nat} (hk : k < l.length) {B : Option Addr} {m c : Nat} (hN : Ids w (.slice B m c) l[k].2.2) :
  CpW (w.setCell ⟨g, k * 4 + 3, none⟩ (.slice B m c)) (.slice (some ⟨g, 0, none⟩) n cap) b0 l ∧ Kq w (w.setCell ⟨g, k * 4 + 3, none⟩ (.slice B m c)) := by
 rcases h with ⟨e, _⟩ | ⟨g', cap', d, e, h2, h3, h4, h5, h6⟩
 ·cases e
 ·injection e with e1 e2 e3
  injection e1 with e1
  injection e1 with e1
  subst e1 e2 e3;have hkd : k < d.size := by omega
  have hq := kq_store (h5.row hkd).1.2.2.2 (.slice B m c);refine ⟨.inr ⟨g, cap, d.setIfInBounds k (d[k]!.1, d[k]!.2.1, B, m, c), rfl, by simp [h2], by simpa using h3, h4, rowW_not h5 hkd B m c, ?_⟩, hq⟩
  have hr := h6.at_ k (by simpa using hkd) hk
  have e1 : d.toList[k]'(by simpa using hkd) = d[k]! := by rw [getElem!_pos d k hkd]; simp
  rw [e1] at hr;have h7 := EachReads.set (w := w.setCell ⟨g, k * 4 + 3, none⟩ (.slice B m c)) (q := (d[k]!.1, d[k]!.2.1, B, m, c)) (r := l[k]) ⟨hr.1, hr.2.1, Ids.kq hN hq⟩ k (each_kq hq h6);rw [List.set_getElem_self] at h7;rw [Array.toList_setIfInBounds];exact h7
structure CV (w : World) (b0 : Nat) (a b c d e : SL) (V : Vw) : Prop where
 m : Ms w (.slice a.1 a.2.1 a.2.2) V.m
 f : Ids w (.slice b.1 b.2.1 b.2.2) V.f
 r : CpW w (.slice c.1 c.2.1 c.2.2) b0 V.r
 c : Rcs encT 3 w (.slice d.1 d.2.1 d.2.2) V.c
 s : Ids w (.slice e.1 e.2.1 e.2.2) V.s
theorem CV.ky {w w' : World} {b0 : Nat} {a b c d e : SL} {V : Vw} (h : CV w b0 a b c d e V) (hk : Ky w w') : CV w' b0 a b c d e V := ⟨Ms.kp h.m hk.kp, Ids.kp h.f hk.kp, h.r.ky hk, ticks_kp h.c hk.kp, Ids.kp h.s hk.kp⟩
theorem CV.rv {w : World} {b0 : Nat} {a b c d e : SL} {V : Vw} (h : CV w b0 a b c d e V) : RV w a b c d e V := ⟨h.m, h.f, h.r.rows, h.c, h.s⟩
def CA (w : World) (v : Value) (b0 : Nat) (V : Vw) : Prop := ∃ a b c d e : SL, v = .agg #[.slice a.1 a.2.1 a.2.2, .slice b.1 b.2.1 b.2.2, .slice c.1 c.2.1 c.2.2, .slice d.1 d.2.1 d.2.2, .slice e.1 e.2.1 e.2.2] ∧ CV w b0 a b c d e V
theorem CA.ky {w w' : World} {v : Value} {b0 : Nat} {V : Vw} (h : CA w v b0 V) (hk : Ky w w') : CA w' v b0 V := by
 obtain ⟨a, b, c, d, e, h1, h2⟩ := h;exact ⟨a, b, c, d, e, h1, h2.ky hk⟩
def Vy (p : Value) (W W' : World) : Prop := Ky W W' ∧ (∀ X, IsV W X → IsV W' X) ∧ ∀ X, Value.pointer (some ⟨X, 0, none⟩) ≠ p → IsV W X → W'.heap[X]? = W.heap[X]?
theorem vy_refl (p : Value) (W : World) : Vy p W W := ⟨ky_refl _, fun _ h => h, fun _ _ _ => rfl⟩
theorem vy_of {p : Value} {W W' : World} (hb : Below W.heap.size W W') : Vy p W W' := ⟨ky_below hb, fun _ ⟨a, b, c, d, e, h⟩ => ⟨a, b, c, d, e, ab_ h hb⟩, fun X _ ⟨_, _, _, _, _, h⟩ => hb.block X (vbox_lt h)⟩
theorem vy_put {W : World} {X : Nat} {z0 z1 z2 z3 z4 : SL} (hz : VBox W X z0 z1 z2 z3 z4) (s0 s1 s2 s3 s4 : SL) : Vy (.pointer (some ⟨X, 0, none⟩)) W (W.setCells X 0 [.slice s0.1 s0.2.1 s0.2.2, .slice s1.1 s1.2.1 s1.2.2, .slice s2.1 s2.2.1 s2.2.2, .slice s3.1 s3.2.1 s3.2.2, .slice s4.1 s4.2.1 s4.2.2]) :=
 ⟨ky_set hz _, (vk_put hz s0 s1 s2 s3 s4).2.1, fun _ hne _ => heap_setCells _ _ _ _ _ (fun e => hne (by rw [e]))⟩
theorem PV.keepY {b0 : Nat} {w w' : World} {v p : Value} (h : PV w v b0) (hb : Vy p w w') : PV w' v b0 := by
 obtain ⟨X, h1, h2, h3, h4⟩ := h;exact ⟨X, h1, h2, Nat.lt_of_lt_of_le h3 hb.1.1, hb.2.1 X h4⟩
def HC (w : World) (v : Value) (b0 : Nat) (V : Vw) : Prop := ∃ X, ∃ a b c d e : SL, v = .pointer (some ⟨X, 0, none⟩) ∧ b0 ≤ X ∧ VBox w X a b c d e ∧ CV w b0 a b c d e V
theorem HC.keep {w w' : World} {v p : Value} {b0 : Nat} {V : Vw} (h : HC w v b0 V) (hb : Vy p w w') (hp : v ≠ p) : HC w' v b0 V := by
 obtain ⟨X, a, b, c, d, e, rfl, h1, h2, h3⟩ := h;exact ⟨X, a, b, c, d, e, rfl, h1, (hb.2.2 X hp ⟨_, _, _, _, _, h2⟩).trans h2, h3.ky hb.1⟩
structure CyG (w : World) (b0 : Nat) (a b c d e : SL) (V : Vw) (W : World) : Prop where
 x : VBox W w.heap.size a b c d e
 z : VBox W (w.heap.size + 1) (none, 0, 0) (none, 0, 0) (none, 0, 0) (none, 0, 0) (none, 0, 0)
 l : w.heap.size + 1 < b0
 size : b0 ≤ W.heap.size
 r : RV W a b c d e V
 below : Below w.heap.size w W
theorem CyG.step {w : World} {b0 : Nat} {a b c d e : SL} {V : Vw} {W W' : World} (h : CyG w b0 a b c d e V W) (hb : Below W.heap.size W W') : CyG w b0 a b c d e V W' := ⟨ab_ h.x hb, ab_ h.z hb, h.l, Nat.le_trans h.size hb.size, h.r.below hb, ba_ h.below hb⟩
theorem CyG.put {w : World} {b0 X : Nat} {a b c d e : SL} {V : Vw} {W : World} (h : CyG w b0 a b c d e V W) (hX : b0 ≤ X) {z0 z1 z2 z3 z4 : SL} (hz : VBox W X z0 z1 z2 z3 z4) {vs : List Value} : CyG w b0 a b c d e V (W.setCells X 0 vs) :=
 ⟨vbox_other h.x (by have := h.l; omega) _, vbox_other h.z (by have := h.l; omega) _, h.l, by rw [size_setCells]; exact h.size, h.r.kp (kp_set hz vs), below_setCells h.below (by have := h.l; omega) 0 _⟩
def RC (w : World) (v : Value) (l : List Clocks.Tick) : Prop := Rcs encT 3 w v l
def cyDs : List (Option Tmp) := [some 6, some 7, some 8, some 9, some 10, some 11, some 12, some 13, some 14, some 15, some 16, some 17, some 18, some 19, some 20, some 21, some 3, none]
def cyF (x b0 : Nat) (a b c d e : SL) (V : Vw) : Nat → Value → World → Prop := fun i v w => match i with
 | 0 => v = .pointer (some ⟨x, 0, none⟩)
 | 1 => v = .slice a.1 a.2.1 a.2.2
 | 2 => Ms w v (V.m)
 | 3 => v = .pointer (some ⟨x, 1, none⟩)
 | 4 => v = .slice b.1 b.2.1 b.2.2
 | 5 => Ids w v V.f
 | 6 => v = .pointer (some ⟨x, 2, none⟩)
 | 7 => v = .slice c.1 c.2.1 c.2.2
 | 8 => CpW w v b0 V.r
 | 9 => v = .pointer (some ⟨x, 3, none⟩)
 | 10 => v = .slice d.1 d.2.1 d.2.2
 | 11 => RC w v (V.c)
 | 12 => v = .pointer (some ⟨x, 4, none⟩)
 | 13 => v = .slice e.1 e.2.1 e.2.2
 | 14 => Ids w v V.s
 | 15 => CA w v b0 V
 | 16 => PV w v b0
 | 17 => HC w v b0 V
 | _ => True
theorem cyF_mono (x b0 : Nat) (a b c d e : SL) (V : Vw) : ∀ i p v w w', cyF x b0 a b c d e V i v w → Vy p w w' → (i < cyDs.length → cyDs.getD i none = none → v ≠ p) → cyF x b0 a b c d e V i v w' := by
 intro i p v w w' h hb hp;unfold cyF at h ⊢;split at h
 all_goals first | exact h | exact Ms.kp h hb.1.kp | exact Ids.kp h hb.1.kp | exact ticks_kp h hb.1.kp | exact CpW.ky h hb.1 | exact CA.ky h hb.1 | exact PV.keepY h hb | exact HC.keep h hb (hp (by decide) rfl) | exact trivial
theorem cyF_nu (x b0 : Nat) (a b c d e : SL) (V : Vw) : ∀ i v w, cyF x b0 a b c d e V i v w → i < cyDs.length → cyDs.getD i none = none → v ≠ undef := fun i v w h hi hn => by
 by_cases e : i = 17
 ·subst e
  obtain ⟨X, _, _, _, _, _, rfl, _⟩ := (show HC w v b0 V from h)
  intro e;cases e
 ·exact absurd hn ((show ∀ k, k < 18 → k ≠ 17 → cyDs.getD k none ≠ none by decide) i hi e)
def cyFr (i : Nat) : Bool := i == 16
theorem cyF_fr (x b0 : Nat) (a b c d e : SL) (V : Vw) : ∀ i v w, cyFr i = true → cyF x b0 a b c d e V i v w → OldP v w := by
 intro i v w h k;unfold cyFr at h;rw [beq_iff_eq] at h;subst h;obtain ⟨X, h1, _, h3, _⟩ := (show PV w v b0 from k)
 exact ⟨X, h1, h3⟩
structure LpG (w : World) (b0 X : Nat) (a b c d e : SL) (V : Vw) (W : World) : Prop where
 x : VBox W X a b c d e
 z : VBox W (w.heap.size + 1) (none, 0, 0) (none, 0, 0) (none, 0, 0) (none, 0, 0) (none, 0, 0)
 l : w.heap.size + 1 < b0
 lx : b0 ≤ X
 r : CV W b0 a b c d e V
 below : Below w.heap.size w W
theorem LpG.step {w : World} {b0 X : Nat} {a b c d e : SL} {V : Vw} {W W' : World} (h : LpG w b0 X a b c d e V W) (hb : Below W.heap.size W W') : LpG w b0 X a b c d e V W' := ⟨ab_ h.x hb, ab_ h.z hb, h.l, h.lx, h.r.ky (ky_below hb), ba_ h.below hb⟩
theorem vbox_cell {w : World} {g y : Nat} {a b c d e : SL} (h : VBox w g a b c d e) (hy : g ≠ y) (j : Nat) (v : Value) : VBox (w.setCell ⟨y, j, none⟩ v) g a b c d e := (heap_setCells y [v] j w g hy).trans h
theorem LpG.store {w : World} {b0 X g n cap : Nat} {a b d e : SL} {V : Vw} {W : World} (h : LpG w b0 X a b (some ⟨g, 0, none⟩, n, cap) d e V W) {k : Nat} (hk : k < V.r.length) {B : Option Addr} {m c : Nat} (hN : Ids W (.slice B m c) V.r[k].2.2) : LpG w b0 X a b (some ⟨g, 0, none⟩, n, cap) d e V (W.setCell ⟨g, k * 4 + 3, none⟩ (.slice B m c)) := by
 obtain ⟨h1, h2⟩ := h.r.r.store hk hN;obtain ⟨g', d', e1, hs, hg, hr, _⟩ := h.r.r.at_ hk;injection e1 with e1
 injection e1 with e1
 subst e1
 have hX : X ≠ g := fun e => by
  subst e;have c0 := (hr.row (k := 0) (by omega)).1.1
  have c1 := (aa_ h.x).1;rw [show (0 * 4 : Nat) = 0 from rfl, c1] at c0
  cases c0
 exact ⟨vbox_cell h.x hX _ _, vbox_cell h.z (by have := h.l; omega) _ _, h.l, h.lx, ⟨Ms.kq h.r.m h2, Ids.kq h.r.f h2, h1, ticks_kq h.r.c h2, Ids.kq h.r.s h2⟩, below_setCells h.below (by have := h.l; omega) (k * 4 + 3) [.slice B m c]⟩
structure RdG (w : World) (b0 X g n cap B : Nat) (a b d e : SL) (V : Vw) (p : SL) (y z t : Int) (L : List Sets.Id2) (W : World) : Prop where
 lp : LpG w b0 X a b (some ⟨g, 0, none⟩, n, cap) d e V W
 box : WBox W B y z t (.slice p.1 p.2.1 p.2.2)
 ids : Ids W (.slice p.1 p.2.1 p.2.2) L
 ne : g < B
theorem RdG.step {w : World} {b0 X g n cap B : Nat} {a b d e : SL} {V : Vw} {p : SL} {y z t : Int} {L : List Sets.Id2} {W W' : World} (h : RdG w b0 X g n cap B a b d e V p y z t L W) (hb : Below W.heap.size W W') : RdG w b0 X g n cap B a b d e V p y z t L W' := ⟨h.lp.step hb, ay_ h.box hb, h.ids.below hb, h.ne⟩
theorem RdG.store {w : World} {b0 X g n cap B : Nat} {a b d e : SL} {V : Vw} {p : SL} {y z t : Int} {W : World} {k : Nat} (hk : k < V.r.length) (h : RdG w b0 X g n cap B a b d e V p y z t V.r[k].2.2 W) {A : Option Addr} {m c : Nat} (hN : Ids W (.slice A m c) V.r[k].2.2) : RdG w b0 X g n cap B a b d e V p y z t V.r[k].2.2 (W.setCell ⟨g, k * 4 + 3, none⟩ (.slice A m c)) :=
 ⟨h.lp.store hk hN, (heap_setCells g [.slice A m c] (k * 4 + 3) W B (by have := h.ne; omega)).trans h.box, Ids.kq h.ids (h.lp.r.r.store hk hN).2, h.ne⟩
theorem RdG.cell {w : World} {b0 X g n cap B : Nat} {a b d e : SL} {V : Vw} {p : SL} {y z t : Int} {L : List Sets.Id2} {W : World} {k : Nat} (hk : k < V.r.length) (h : RdG w b0 X g n cap B a b d e V p y z t L W) : (∃ A m c, W.cell? ⟨g, k * 4 + 3, none⟩ = some (.slice A m c)) ∧ W.frozen? ⟨g, k * 4 + 3, none⟩ = false := by
 obtain ⟨g', d', e1, hs, hg, hr, _⟩ := h.lp.r.r.at_ hk;injection e1 with e1
 injection e1 with e1
 subst e1;have h1 := hr.row (k := k) (by omega)
 exact ⟨⟨_, _, _, h1.1.2.2.2⟩, h1.2.2.2.2⟩
def czDs : List (Option Tmp) := [some 30, some 31, some 32, some 33, some 34, some 35, some 36, some 37, none]
def czF (X g ln cap k B : Nat) (p : SL) (L : List Sets.Id2) : Nat → Value → World → Prop := fun i v w => match i with
 | 0 => v = .pointer (some ⟨X, 2, none⟩)
 | 1 => v = .slice (some ⟨g, 0, none⟩) ln cap
 | 2 => v = .int .i64 (k : Int)
 | 3 => v = .pointer (some ⟨B, 3, none⟩)
 | 4 => v = .slice p.1 p.2.1 p.2.2
 | 5 => Ids w v L
 | 6 => v = .pointer (some ⟨g, k * 4, none⟩)
 | 7 => v = .pointer (some ⟨g, k * 4 + 3, none⟩)
 | _ => True
theorem czF_mono (X g ln cap k B : Nat) (p : SL) (L : List Sets.Id2) : ∀ i v w w', czF X g ln cap k B p L i v w → Kq w w' → czF X g ln cap k B p L i v w' := by
 intro i v w w' h hb;unfold czF at h ⊢;split at h
 all_goals first | exact h | exact Ids.kq h hb | exact trivial
set_option maxHeartbeats 16000000 in
theorem copyV_any (v : Value) (V : Vw) (w : World) (h : VAt w v V) (hV : FitVIE 1000 V) :
  Calls Tryz.prog 19 #[v] w fun e w' => ∃ X, e = .returned X ∧ VAt w' X V ∧ Below w.heap.size w w' := by
 obtain ⟨a, b, c, d, e, rfl, hr⟩ := h;have q1 := ad_ w (.cells #[.slice a.1 a.2.1 a.2.2, .slice b.1 b.2.1 b.2.2, .slice c.1 c.2.1 c.2.2, .slice d.1 d.2.1 d.2.2, .slice e.1 e.2.1 e.2.2] 27);have q2 := ad_ (w.alloc (.cells #[.slice a.1 a.2.1 a.2.2, .slice b.1 b.2.1 b.2.2, .slice c.1 c.2.1 c.2.2, .slice d.1 d.2.1 d.2.2, .slice e.1 e.2.1 e.2.2] 27)) (.cells #[.slice none 0 0, .slice none 0 0, .slice none 0 0, .slice none 0 0, .slice none 0 0] 27);have G0 : Hid (CyG w ((w.alloc (.cells #[.slice a.1 a.2.1 a.2.2, .slice b.1 b.2.1 b.2.2, .slice c.1 c.2.1 c.2.2, .slice d.1 d.2.1 d.2.2, .slice e.1 e.2.1 e.2.2] 27)).alloc (.cells #[.slice none 0 0, .slice none 0 0, .slice none 0 0, .slice none 0 0, .slice none 0 0] 27)).heap.size a b c d e V ((w.alloc (.cells #[.slice a.1 a.2.1 a.2.2, .slice b.1 b.2.1 b.2.2, .slice c.1 c.2.1 c.2.2, .slice d.1 d.2.1 d.2.2, .slice e.1 e.2.1 e.2.2] 27)).alloc (.cells #[.slice none 0 0, .slice none 0 0, .slice none 0 0, .slice none 0 0, .slice none 0 0] 27))) := hd_ ⟨ab_ (ak_ w a b c d e) q2, by have h := ak_ (w.alloc (.cells #[.slice a.1 a.2.1 a.2.2, .slice b.1 b.2.1 b.2.2, .slice c.1 c.2.1 c.2.2, .slice d.1 d.2.1 d.2.2, .slice e.1 e.2.1 e.2.2] 27)) (none, 0, 0) (none, 0, 0) (none, 0, 0) (none, 0, 0) (none, 0, 0); simp only [World.size_alloc] at h; exact h, by simp, Nat.le_refl _, hr.below (ba_ q1 q2), ba_ q1 q2⟩
 have LV := hd_ hV;have LR : V.r.length ≤ 1000 := hV.r
 clear q1 q2 hr hV;go_enter Tryz.func19, Tryz.ntmps19
 go_wp2_with fail;generalize hb0 : ((w.alloc (.cells #[.slice a.1 a.2.1 a.2.2, .slice b.1 b.2.1 b.2.2, .slice c.1 c.2.1 c.2.2, .slice d.1 d.2.1 d.2.2, .slice e.1 e.2.1 e.2.2] 27)).alloc (.cells #[.slice none 0 0, .slice none 0 0, .slice none 0 0, .slice none 0 0, .slice none 0 0] 27)).heap.size = b0 at *;refine wp_region_dueT (R := Vy) (tgt := fun _ => 3) (tk := fun _ => 16) (fr := cyFr) (by kernel_rfl) cyDs (cyF w.heap.size b0 a b c d e V) (CyG w b0 a b c d e V) rfl (by kernel_rfl) (by kernel_rfl) (by kernel_rfl) (by kernel_rfl) (cyF_fr _ b0 a b c d e V) (by kernel_rfl) (by kernel_rfl) (cyF_mono _ b0 a b c d e V) (cyF_nu _ b0 a b c d e V) (G0.out.step (below_drewN (n := 1) (Below.refl _ _))) ?_ ?_
 ·clear G0 hb0
  refine AllDueT.cons (due_metT (.inl rfl) fun q w1 hG hold hf hap K hK => ?_) ?_
  ·have f1 : q.tmps.getD 1 undef = .pointer (some ⟨w.heap.size, 0, none⟩) := hold 1 (by kernel_rfl)
   clear hf hold;go_simp;exact hK _ _ hG (vy_refl _ _) rfl (fun h => by cases h)
  refine AllDueT.cons (due_metT (.inl rfl) fun q w1 hG hold hf hap K hK => ?_) ?_
  ·have f6 : q.tmps.getD 6 undef = .pointer (some ⟨w.heap.size, 0, none⟩) := hf 0 6 (by kernel_rfl) rfl
   have q6 := f6;rw [gd_] at q6;obtain ⟨p0, p1, p2, p3, p4⟩ := aa_ hG.x;clear hf hold;go_simp;exact hK _ _ hG (vy_refl _ _) rfl (fun h => by cases h)
  refine AllDueT.cons (due_metT (.inl rfl) fun q w1 hG hold hf hap K hK => ?_) ?_
  ·have f7 : q.tmps.getD 7 undef = .slice a.1 a.2.1 a.2.2 := hf 1 7 (by kernel_rfl) rfl
   have q7 := f7;rw [gd_] at q7;clear hf hold;go_simp;go_at_call 72
   with_reducible refine (copiedM_any _ V.m _ hG.r.m (Nat.le_trans LV.out.m (by decide))).mono ?_
   rintro e' w' ⟨X, rfl, hx, hr, h2⟩;exact hK _ _ (hG.step h2) (vy_of h2) hr (fun h => by cases h)
  refine AllDueT.cons (due_metT (.inl rfl) fun q w1 hG hold hf hap K hK => ?_) ?_
  ·have f1 : q.tmps.getD 1 undef = .pointer (some ⟨w.heap.size, 0, none⟩) := hold 1 (by kernel_rfl)
   clear hf hold;go_simp;exact hK _ _ hG (vy_refl _ _) rfl (fun h => by cases h)
  refine AllDueT.cons (due_metT (.inl rfl) fun q w1 hG hold hf hap K hK => ?_) ?_
  ·have f9 : q.tmps.getD 9 undef = .pointer (some ⟨w.heap.size, 1, none⟩) := hf 3 9 (by kernel_rfl) rfl
   have q9 := f9;rw [gd_] at q9;obtain ⟨p0, p1, p2, p3, p4⟩ := aa_ hG.x;clear hf hold;go_simp;exact hK _ _ hG (vy_refl _ _) rfl (fun h => by cases h)
  refine AllDueT.cons (due_metT (.inl rfl) fun q w1 hG hold hf hap K hK => ?_) ?_
  ·have f10 : q.tmps.getD 10 undef = .slice b.1 b.2.1 b.2.2 := hf 4 10 (by kernel_rfl) rfl
   have q10 := f10;rw [gd_] at q10;clear hf hold;go_simp;go_at_call 73
   with_reducible refine (copiedI_any _ V.f _ hG.r.f (Nat.le_trans LV.out.f (by decide))).mono ?_
   rintro e' w' ⟨X, rfl, hr, h2⟩;exact hK _ _ (hG.step h2) (vy_of h2) hr (fun h => by cases h)
  refine AllDueT.cons (due_metT (.inl rfl) fun q w1 hG hold hf hap K hK => ?_) ?_
  ·have f1 : q.tmps.getD 1 undef = .pointer (some ⟨w.heap.size, 0, none⟩) := hold 1 (by kernel_rfl)
   clear hf hold;go_simp;exact hK _ _ hG (vy_refl _ _) rfl (fun h => by cases h)
  refine AllDueT.cons (due_metT (.inl rfl) fun q w1 hG hold hf hap K hK => ?_) ?_
  ·have f12 : q.tmps.getD 12 undef = .pointer (some ⟨w.heap.size, 2, none⟩) := hf 6 12 (by kernel_rfl) rfl
   have q12 := f12;rw [gd_] at q12;obtain ⟨p0, p1, p2, p3, p4⟩ := aa_ hG.x;clear hf hold;go_simp;exact hK _ _ hG (vy_refl _ _) rfl (fun h => by cases h)
  refine AllDueT.cons (due_metT (.inl rfl) fun q w1 hG hold hf hap K hK => ?_) ?_
  ·have f13 : q.tmps.getD 13 undef = .slice c.1 c.2.1 c.2.2 := hf 7 13 (by kernel_rfl) rfl
   have q13 := f13;rw [gd_] at q13;clear hf hold;go_simp;obtain ⟨qs, hq1, hq2⟩ := hG.r.r;go_at_call 74
   (with_reducible refine (copiedW_any _ qs _ hq1 (by rw [hq2.len]; exact Nat.le_trans LV.out.r (by decide))).mono ?_)
   rintro e' w' ⟨X, rfl, hx, hr, h2⟩;exact hK _ _ (hG.step h2) (vy_of h2) (cpW_of hx (hq2.below h2) hG.size) (fun h => by cases h)
  refine AllDueT.cons (due_metT (.inl rfl) fun q w1 hG hold hf hap K hK => ?_) ?_
  ·have f1 : q.tmps.getD 1 undef = .pointer (some ⟨w.heap.size, 0, none⟩) := hold 1 (by kernel_rfl)
   clear hf hold;go_simp;exact hK _ _ hG (vy_refl _ _) rfl (fun h => by cases h)
  refine AllDueT.cons (due_metT (.inl rfl) fun q w1 hG hold hf hap K hK => ?_) ?_
  ·have f15 : q.tmps.getD 15 undef = .pointer (some ⟨w.heap.size, 3, none⟩) := hf 9 15 (by kernel_rfl) rfl
   have q15 := f15;rw [gd_] at q15;obtain ⟨p0, p1, p2, p3, p4⟩ := aa_ hG.x;clear hf hold;go_simp;exact hK _ _ hG (vy_refl _ _) rfl (fun h => by cases h)
  refine AllDueT.cons (due_metT (.inl rfl) fun q w1 hG hold hf hap K hK => ?_) ?_
  ·have f16 : q.tmps.getD 16 undef = .slice d.1 d.2.1 d.2.2 := hf 10 16 (by kernel_rfl) rfl
   have q16 := f16;rw [gd_] at q16;clear hf hold;go_simp;go_at_call 75
   with_reducible refine (copiedT_any _ V.c _ hG.r.c (Nat.le_trans LV.out.c (by decide))).mono ?_
   rintro e' w' ⟨X, rfl, hx, hr, h2⟩;exact hK _ _ (hG.step h2) (vy_of h2) hr (fun h => by cases h)
  refine AllDueT.cons (due_metT (.inl rfl) fun q w1 hG hold hf hap K hK => ?_) ?_
  ·have f1 : q.tmps.getD 1 undef = .pointer (some ⟨w.heap.size, 0, none⟩) := hold 1 (by kernel_rfl)
   clear hf hold;go_simp;exact hK _ _ hG (vy_refl _ _) rfl (fun h => by cases h)
  refine AllDueT.cons (due_metT (.inl rfl) fun q w1 hG hold hf hap K hK => ?_) ?_
  ·have f18 : q.tmps.getD 18 undef = .pointer (some ⟨w.heap.size, 4, none⟩) := hf 12 18 (by kernel_rfl) rfl
   have q18 := f18;rw [gd_] at q18;obtain ⟨p0, p1, p2, p3, p4⟩ := aa_ hG.x;clear hf hold;go_simp;exact hK _ _ hG (vy_refl _ _) rfl (fun h => by cases h)
  refine AllDueT.cons (due_metT (.inl rfl) fun q w1 hG hold hf hap K hK => ?_) ?_
  ·have f19 : q.tmps.getD 19 undef = .slice e.1 e.2.1 e.2.2 := hf 13 19 (by kernel_rfl) rfl
   have q19 := f19;rw [gd_] at q19;clear hf hold;go_simp;go_at_call 73
   with_reducible refine (copiedI_any _ V.s _ hG.r.s (Nat.le_trans LV.out.s (by decide))).mono ?_
   rintro e' w' ⟨X, rfl, hr, h2⟩;exact hK _ _ (hG.step h2) (vy_of h2) hr (fun h => by cases h)
  refine AllDueT.cons (due_metT (.inl rfl) fun q w1 hG hold hf hap K hK => ?_) ?_
  ·have r8 : Ms w1 (q.tmps.getD 8 undef) (V.m) := hf 2 8 (by kernel_rfl) rfl
   obtain ⟨x8, e8⟩ : ∃ x, q.tmps.getD 8 undef = x := ⟨_, rfl⟩;rw [e8] at r8;have q8 := e8;rw [gd_] at q8;have r11 : Ids w1 (q.tmps.getD 11 undef) V.f := hf 5 11 (by kernel_rfl) rfl
   obtain ⟨x11, e11⟩ : ∃ x, q.tmps.getD 11 undef = x := ⟨_, rfl⟩;rw [e11] at r11;have q11 := e11;rw [gd_] at q11;have r14 : CpW w1 (q.tmps.getD 14 undef) b0 V.r := hf 8 14 (by kernel_rfl) rfl
   obtain ⟨x14, e14⟩ : ∃ x, q.tmps.getD 14 undef = x := ⟨_, rfl⟩;rw [e14] at r14;have q14 := e14;rw [gd_] at q14;have r17 : RC w1 (q.tmps.getD 17 undef) (V.c) := hf 11 17 (by kernel_rfl) rfl
   obtain ⟨x17, e17⟩ : ∃ x, q.tmps.getD 17 undef = x := ⟨_, rfl⟩;rw [e17] at r17;have q17 := e17;rw [gd_] at q17;have r20 : Ids w1 (q.tmps.getD 20 undef) V.s := hf 14 20 (by kernel_rfl) rfl
   obtain ⟨x20, e20⟩ : ∃ x, q.tmps.getD 20 undef = x := ⟨_, rfl⟩;rw [e20] at r20;have q20 := e20;rw [gd_] at q20;obtain ⟨s0, rfl⟩ := sl_rcs r8;obtain ⟨s1, rfl⟩ := sl_ids r11;obtain ⟨s2, rfl⟩ := sl_cpW r14;obtain ⟨s3, rfl⟩ := sl_rcs r17;obtain ⟨s4, rfl⟩ := sl_ids r20;clear hf hold;go_simp;exact hK _ _ hG (vy_refl _ _) ⟨s0, s1, s2, s3, s4, rfl, r8, r11, r14, r17, r20⟩ (fun h => by cases h)
  refine AllDueT.cons (due_metT (.inl rfl) fun q w1 hG hold hf hap K hK => ?_) ?_
  ·clear hf hold
   go_simp;have h2 := ad_ w1 (.cells #[.slice none 0 0, .slice none 0 0, .slice none 0 0, .slice none 0 0, .slice none 0 0] 27);exact hK _ _ (hG.step h2) (vy_of h2) ⟨_, rfl, hG.size, by simp, (none, 0, 0), (none, 0, 0), (none, 0, 0), (none, 0, 0), (none, 0, 0), heap_alloc_new _ _⟩ (fun _ => ⟨_, rfl, Nat.le_refl _⟩)
  refine AllDueT.cons (due_metT (.inl rfl) fun q w1 hG hold hf hap K hK => ?_) ?_
  ·have r3 : PV w1 (q.tmps.getD 3 undef) b0 := hf 16 3 (by kernel_rfl) rfl
   obtain ⟨x3, e3⟩ : ∃ x, q.tmps.getD 3 undef = x := ⟨_, rfl⟩;rw [e3] at r3;have q3 := e3;rw [gd_] at q3;have r21 : CA w1 (q.tmps.getD 21 undef) b0 V := hf 15 21 (by kernel_rfl) rfl
   obtain ⟨x21, e21⟩ : ∃ x, q.tmps.getD 21 undef = x := ⟨_, rfl⟩;rw [e21] at r21;have q21 := e21;rw [gd_] at q21;obtain ⟨Y, hY, hY0, hYs, z0, z1, z2, z3, z4, hz⟩ := r3;subst hY;obtain ⟨s0, s1, s2, s3, s4, rfl, hcv⟩ := r21;obtain ⟨k0, k1, k2, k3, k4⟩ := aa_ hz;obtain ⟨f0, f1, f2, f3, f5⟩ := al_ hz;clear hf hold;go_simp;have hk := vy_put hz s0 s1 s2 s3 s4;refine hK undef _ (hG.put (vs := [.slice s0.1 s0.2.1 s0.2.2, .slice s1.1 s1.2.1 s1.2.2, .slice s2.1 s2.2.1 s2.2.2, .slice s3.1 s3.2.1 s3.2.2, .slice s4.1 s4.2.1 s4.2.2]) hY0 hz) ?_ ?_ (fun h => by cases h)
   ·show Vy (q.tmps.getD 3 undef) _ _
    rw [e3];exact hk
   ·show HC _ (q.tmps.getD 3 undef) b0 V
    rw [e3];exact ⟨Y, s0, s1, s2, s3, s4, rfl, hY0, a2_ hz s0 s1 s2 s3 s4, hcv.ky hk.1⟩
  exact AllDueT.nil
 ·intro ac w6 hG hd hs hold hf hdone hap
  obtain ⟨X, s0, s1, s2, s3, s4, k3, hX0, hb, hcv⟩ : HC w6 (ac.tmps.getD 3 undef) b0 V := hdone 17 (by decide) rfl
  have k1 : ac.tmps.getD 1 undef = .pointer (some ⟨w.heap.size, 0, none⟩) := hold 1 (by kernel_rfl)
  have k2 : ac.tmps.getD 2 undef = .pointer (some ⟨w.heap.size + 1, 0, none⟩) := hold 2 (by kernel_rfl)
  obtain ⟨A, cap, hsh⟩ := hcv.r.shape;obtain ⟨s20, s21, s22⟩ := s2;injection hsh with hs1 hs2 hs3
  dsimp only at hs1 hs2 hs3;subst hs1 hs2 hs3;have HL := hd_ (show LpG w b0 X s0 s1 (s20, V.r.length, s22) s3 s4 V w6 from ⟨hb, hG.z, hG.l, hX0, hcv, hG.below⟩)
  obtain ⟨p0, p1, p2, p3, p4⟩ := aa_ hb;dsimp only at p2;have hE := (act_eta ac 40 hs).trans (show _ = (⟨#[ac.tmps.getD 0 undef, ac.tmps.getD 1 undef, ac.tmps.getD 2 undef, ac.tmps.getD 3 undef, ac.tmps.getD 4 undef, ac.tmps.getD 5 undef, ac.tmps.getD 6 undef, ac.tmps.getD 7 undef, ac.tmps.getD 8 undef, ac.tmps.getD 9 undef, ac.tmps.getD 10 undef, ac.tmps.getD 11 undef, ac.tmps.getD 12 undef, ac.tmps.getD 13 undef, ac.tmps.getD 14 undef, ac.tmps.getD 15 undef, ac.tmps.getD 16 undef, ac.tmps.getD 17 undef, ac.tmps.getD 18 undef, ac.tmps.getD 19 undef, ac.tmps.getD 20 undef, ac.tmps.getD 21 undef, ac.tmps.getD 22 undef, ac.tmps.getD 23 undef, ac.tmps.getD 24 undef, ac.tmps.getD 25 undef, ac.tmps.getD 26 undef, ac.tmps.getD 27 undef, ac.tmps.getD 28 undef, ac.tmps.getD 29 undef, ac.tmps.getD 30 undef, ac.tmps.getD 31 undef, ac.tmps.getD 32 undef, ac.tmps.getD 33 undef, ac.tmps.getD 34 undef, ac.tmps.getD 35 undef, ac.tmps.getD 36 undef, ac.tmps.getD 37 undef, ac.tmps.getD 38 undef, ac.tmps.getD 39 undef], []⟩ : Act) by rw [hd]; rfl)
  rw [k1, k2, k3] at hE;clear hold hf hs hd hdone hap k1 k2 k3 hG hb hcv G0;generalize ac.tmps.getD 0 undef = u0 at hE;generalize ac.tmps.getD 4 undef = u4 at hE;generalize ac.tmps.getD 5 undef = u5 at hE;generalize ac.tmps.getD 6 undef = u6 at hE;generalize ac.tmps.getD 7 undef = u7 at hE;generalize ac.tmps.getD 8 undef = u8 at hE;generalize ac.tmps.getD 9 undef = u9 at hE;generalize ac.tmps.getD 10 undef = u10 at hE;generalize ac.tmps.getD 11 undef = u11 at hE;generalize ac.tmps.getD 12 undef = u12 at hE;generalize ac.tmps.getD 13 undef = u13 at hE;generalize ac.tmps.getD 14 undef = u14 at hE;generalize ac.tmps.getD 15 undef = u15 at hE;generalize ac.tmps.getD 16 undef = u16 at hE;generalize ac.tmps.getD 17 undef = u17 at hE;generalize ac.tmps.getD 18 undef = u18 at hE;generalize ac.tmps.getD 19 undef = u19 at hE;generalize ac.tmps.getD 20 undef = u20 at hE;generalize ac.tmps.getD 21 undef = u21 at hE;generalize ac.tmps.getD 22 undef = u22 at hE;generalize ac.tmps.getD 23 undef = u23 at hE;generalize ac.tmps.getD 24 undef = u24 at hE;generalize ac.tmps.getD 25 undef = u25 at hE;generalize ac.tmps.getD 26 undef = u26 at hE;generalize ac.tmps.getD 27 undef = u27 at hE;generalize ac.tmps.getD 28 undef = u28 at hE;generalize ac.tmps.getD 29 undef = u29 at hE;generalize ac.tmps.getD 30 undef = u30 at hE;generalize ac.tmps.getD 31 undef = u31 at hE;generalize ac.tmps.getD 32 undef = u32 at hE;generalize ac.tmps.getD 33 undef = u33 at hE;generalize ac.tmps.getD 34 undef = u34 at hE;generalize ac.tmps.getD 35 undef = u35 at hE;generalize ac.tmps.getD 36 undef = u36 at hE;generalize ac.tmps.getD 37 undef = u37 at hE;generalize ac.tmps.getD 38 undef = u38 at hE;generalize ac.tmps.getD 39 undef = u39 at hE;subst hE;go_wp2_with fail;clear p0 p1 p2 p3 p4;go_loopw [25] (fun s wr => ∃ k : Nat, k ≤ V.r.length ∧ s = .int .i64 k ∧ Hid (LpG w b0 X s0 s1 (s20, V.r.length, s22) s3 s4 V wr)) (fun s _ => V.r.length - (intOf s).toNat)
  case atStart => exact ⟨0, by omega, rfl, HL⟩
  case round =>
   obtain ⟨k, hkl, rfl, HR⟩ := hrel;have i3 : (0 : Int) ≤ (k : Int) := by omega
   by_cases hlt : k < V.r.length
   ·have hdk : decide ((k : Int) < (V.r.length : Int)) = true := decide_eq_true (by omega)
    have i4 : (k : Int) < (V.r.length : Int) := by omega
    obtain ⟨g, dd, rfl, hsz, hg0, hrow, hea⟩ := HR.out.r.r.at_ hlt;have hkd : k < dd.size := by omega
    obtain ⟨⟨r1, r2, r3, r4⟩, _⟩ := hrow.row hkd;have hrd := hea.at_ k (by simpa using hkd) hlt
    have e1 : dd.toList[k]'(by simpa using hkd) = dd[k]! := by rw [getElem!_pos dd k hkd]; simp
    rw [e1] at hrd;have HI := hd_ (show Ids wr (.slice dd[k]!.2.2.1 dd[k]!.2.2.2.1 dd[k]!.2.2.2.2) V.r[k].2.2 from hrd.2.2)
    have hgw := hrow.1;have LN := hd_ (show V.r[k].2.2.length ≤ 40000 from Nat.le_trans (LV.out.n _ (List.getElem_mem hlt)) (by decide))
    clear hrow hea hrd e1 hkd hsz;generalize dd[k]!.1.1 = y at *;generalize dd[k]!.1.2 = z at *;generalize dd[k]!.2.1 = t at *;generalize dd[k]!.2.2.1 = t1 at *;generalize dd[k]!.2.2.2.1 = t2 at *;generalize dd[k]!.2.2.2.2 = t3 at *;go_wp2_with fail;have RB := ad_ wr (.cells #[.int .i64 y, .int .i64 z, .int .i64 t, .slice t1 t2 t3] 68);have RG : Hid (RdG w b0 X g V.r.length s22 wr.heap.size s0 s1 s3 s4 V (t1, t2, t3) y z t V.r[k].2.2 (wr.alloc (.cells #[.int .i64 y, .int .i64 z, .int .i64 t, .slice t1 t2 t3] 68))) := hd_ ⟨HR.out.step RB, av_ wr y z t _, HI.out.below RB, hgw⟩
    clear r1 r2 r3 r4 RB;refine wp_region_dueR (R := Kq) (by kernel_rfl) czDs (czF X g V.r.length s22 k wr.heap.size (t1, t2, t3) V.r[k].2.2) (RdG w b0 X g V.r.length s22 wr.heap.size s0 s1 s3 s4 V (t1, t2, t3) y z t V.r[k].2.2) rfl (by kernel_rfl) (by kernel_rfl) (by kernel_rfl) (czF_mono X g V.r.length s22 k wr.heap.size (t1, t2, t3) V.r[k].2.2) (RG.out.step (below_drewN (n := 1) (Below.refl _ _))) ?_ ?_
    ·clear RG
     generalize hB : wr.heap.size = B at *;refine AllDueR.cons (due_metR (.inl rfl) fun q w1 hG hold hf K hK => ?_) ?_
     ·have f3 : q.tmps.getD 3 undef = .pointer (some ⟨X, 0, none⟩) := hold 3 (by kernel_rfl)
      clear hf hold;go_simp;exact hK _ _ hG (kq_refl _) rfl
     refine AllDueR.cons (due_metR (.inl rfl) fun q w1 hG hold hf K hK => ?_) ?_
     ·have f30 : q.tmps.getD 30 undef = .pointer (some ⟨X, 2, none⟩) := hf 0 30 (by kernel_rfl) rfl
      have q30 := f30;rw [gd_] at q30;obtain ⟨p0, p1, p2, p3, p4⟩ := aa_ hG.lp.x;dsimp only at p2;clear hf hold;go_simp;exact hK _ _ hG (kq_refl _) rfl
     refine AllDueR.cons (due_metR (.inl rfl) fun q w1 hG hold hf K hK => ?_) ?_
     ·have f4 : q.tmps.getD 4 undef = .int .i64 (k : Int) := hold 4 (by kernel_rfl)
      clear hf hold;go_simp;exact hK _ _ hG (kq_refl _) rfl
     refine AllDueR.cons (due_metR (.inl rfl) fun q w1 hG hold hf K hK => ?_) ?_
     ·have f5 : q.tmps.getD 5 undef = .pointer (some ⟨B, 0, none⟩) := hold 5 (by kernel_rfl)
      clear hf hold;go_simp;exact hK _ _ hG (kq_refl _) rfl
     refine AllDueR.cons (due_metR (.inl rfl) fun q w1 hG hold hf K hK => ?_) ?_
     ·have f33 : q.tmps.getD 33 undef = .pointer (some ⟨B, 3, none⟩) := hf 3 33 (by kernel_rfl) rfl
      have q33 := f33;rw [gd_] at q33;obtain ⟨b0_, b1, b2, b3⟩ := ai_ hG.box;clear hf hold;go_simp;exact hK _ _ hG (kq_refl _) rfl
     refine AllDueR.cons (due_metR (.inl rfl) fun q w1 hG hold hf K hK => ?_) ?_
     ·have f34 : q.tmps.getD 34 undef = .slice t1 t2 t3 := hf 4 34 (by kernel_rfl) rfl
      have q34 := f34;rw [gd_] at q34;clear hf hold;go_simp;go_at_call 73
      with_reducible refine (copiedI_any _ _ _ hG.ids LN.out).mono ?_
      rintro e' w' ⟨Y, rfl, hr, h2⟩;exact hK _ _ (hG.step h2) (kq_below h2) hr
     refine AllDueR.cons (due_metR (.inl rfl) fun q w1 hG hold hf K hK => ?_) ?_
     ·have f31 : q.tmps.getD 31 undef = .slice (some ⟨g, 0, none⟩) V.r.length s22 := hf 1 31 (by kernel_rfl) rfl
      have q31 := f31;rw [gd_] at q31;have f32 : q.tmps.getD 32 undef = .int .i64 (k : Int) := hf 2 32 (by kernel_rfl) rfl
      have q32 := f32;rw [gd_] at q32;clear hf hold;go_simp;exact hK _ _ hG (kq_refl _) rfl
     refine AllDueR.cons (due_metR (.inl rfl) fun q w1 hG hold hf K hK => ?_) ?_
     ·have f36 : q.tmps.getD 36 undef = .pointer (some ⟨g, k * 4, none⟩) := hf 6 36 (by kernel_rfl) rfl
      have q36 := f36;rw [gd_] at q36;clear hf hold;go_simp;exact hK _ _ hG (kq_refl _) rfl
     refine AllDueR.cons (due_metR (.inl rfl) fun q w1 hG hold hf K hK => ?_) ?_
     ·have r35 : Ids w1 (q.tmps.getD 35 undef) V.r[k].2.2 := hf 5 35 (by kernel_rfl) rfl
      obtain ⟨x35, e35⟩ : ∃ x, q.tmps.getD 35 undef = x := ⟨_, rfl⟩;rw [e35] at r35;have q35 := e35;rw [gd_] at q35;have f37 : q.tmps.getD 37 undef = .pointer (some ⟨g, k * 4 + 3, none⟩) := hf 7 37 (by kernel_rfl) rfl
      have q37 := f37;rw [gd_] at q37;obtain ⟨⟨s1, s2, s3⟩, hs⟩ := sl_ids r35;subst hs;obtain ⟨⟨z1, z2, z3, c0⟩, c1⟩ := hG.cell hlt;clear hf hold;go_simp;exact hK undef _ (hG.store hlt r35) (hG.lp.r.r.store hlt r35).2 trivial
     exact AllDueR.nil
    ·intro ac w7 hG hd hs hold hf hdone
     have HL2 := hd_ hG.lp;have k1 : ac.tmps.getD 1 undef = .pointer (some ⟨w.heap.size, 0, none⟩) := hold 1 (by kernel_rfl)
     have k22 : ac.tmps.getD 22 undef = .pointer (some ⟨X, 2, none⟩) := hold 22 (by kernel_rfl)
     have k2 : ac.tmps.getD 2 undef = .pointer (some ⟨w.heap.size + 1, 0, none⟩) := hold 2 (by kernel_rfl)
     have k3 : ac.tmps.getD 3 undef = .pointer (some ⟨X, 0, none⟩) := hold 3 (by kernel_rfl)
     have k23 : ac.tmps.getD 23 undef = .slice (some ⟨g, 0, none⟩) V.r.length s22 := hold 23 (by kernel_rfl)
     have k24 : ac.tmps.getD 24 undef = .int .i64 (V.r.length : Int) := hold 24 (by kernel_rfl)
     have k25 : ac.tmps.getD 25 undef = .int .i64 (k : Int) := hold 25 (by kernel_rfl)
     have k0 : ac.tmps.getD 0 undef = u0 := hold 0 (by kernel_rfl)
     have k6 : ac.tmps.getD 6 undef = u6 := hold 6 (by kernel_rfl)
     have k7 : ac.tmps.getD 7 undef = u7 := hold 7 (by kernel_rfl)
     have k8 : ac.tmps.getD 8 undef = u8 := hold 8 (by kernel_rfl)
     have k9 : ac.tmps.getD 9 undef = u9 := hold 9 (by kernel_rfl)
     have k10 : ac.tmps.getD 10 undef = u10 := hold 10 (by kernel_rfl)
     have k11 : ac.tmps.getD 11 undef = u11 := hold 11 (by kernel_rfl)
     have k12 : ac.tmps.getD 12 undef = u12 := hold 12 (by kernel_rfl)
     have k13 : ac.tmps.getD 13 undef = u13 := hold 13 (by kernel_rfl)
     have k14 : ac.tmps.getD 14 undef = u14 := hold 14 (by kernel_rfl)
     have k15 : ac.tmps.getD 15 undef = u15 := hold 15 (by kernel_rfl)
     have k16 : ac.tmps.getD 16 undef = u16 := hold 16 (by kernel_rfl)
     have k17 : ac.tmps.getD 17 undef = u17 := hold 17 (by kernel_rfl)
     have k18 : ac.tmps.getD 18 undef = u18 := hold 18 (by kernel_rfl)
     have k19 : ac.tmps.getD 19 undef = u19 := hold 19 (by kernel_rfl)
     have k20 : ac.tmps.getD 20 undef = u20 := hold 20 (by kernel_rfl)
     have k21 : ac.tmps.getD 21 undef = u21 := hold 21 (by kernel_rfl)
     have k39 : ac.tmps.getD 39 undef = u39 := hold 39 (by kernel_rfl)
     have hE := (act_eta ac 40 hs).trans (show _ = (⟨#[ac.tmps.getD 0 undef, ac.tmps.getD 1 undef, ac.tmps.getD 2 undef, ac.tmps.getD 3 undef, ac.tmps.getD 4 undef, ac.tmps.getD 5 undef, ac.tmps.getD 6 undef, ac.tmps.getD 7 undef, ac.tmps.getD 8 undef, ac.tmps.getD 9 undef, ac.tmps.getD 10 undef, ac.tmps.getD 11 undef, ac.tmps.getD 12 undef, ac.tmps.getD 13 undef, ac.tmps.getD 14 undef, ac.tmps.getD 15 undef, ac.tmps.getD 16 undef, ac.tmps.getD 17 undef, ac.tmps.getD 18 undef, ac.tmps.getD 19 undef, ac.tmps.getD 20 undef, ac.tmps.getD 21 undef, ac.tmps.getD 22 undef, ac.tmps.getD 23 undef, ac.tmps.getD 24 undef, ac.tmps.getD 25 undef, ac.tmps.getD 26 undef, ac.tmps.getD 27 undef, ac.tmps.getD 28 undef, ac.tmps.getD 29 undef, ac.tmps.getD 30 undef, ac.tmps.getD 31 undef, ac.tmps.getD 32 undef, ac.tmps.getD 33 undef, ac.tmps.getD 34 undef, ac.tmps.getD 35 undef, ac.tmps.getD 36 undef, ac.tmps.getD 37 undef, ac.tmps.getD 38 undef, ac.tmps.getD 39 undef], []⟩ : Act) by rw [hd]; rfl)
     rw [k1, k22, k2, k3, k23, k24, k25, k0, k6, k7, k8, k9, k10, k11, k12, k13, k14, k15, k16, k17, k18, k19, k20, k21, k39] at hE;clear hold hf hs hd hdone k1 k22 k2 k3 k23 k24 k25 hG RG k0 k6 k7 k8 k9 k10 k11 k12 k13 k14 k15 k16 k17 k18 k19 k20 k21 k39;generalize ac.tmps.getD 4 undef = v4 at hE;generalize ac.tmps.getD 5 undef = v5 at hE;generalize ac.tmps.getD 26 undef = v26 at hE;generalize ac.tmps.getD 27 undef = v27 at hE;generalize ac.tmps.getD 28 undef = v28 at hE;generalize ac.tmps.getD 29 undef = v29 at hE;generalize ac.tmps.getD 30 undef = v30 at hE;generalize ac.tmps.getD 31 undef = v31 at hE;generalize ac.tmps.getD 32 undef = v32 at hE;generalize ac.tmps.getD 33 undef = v33 at hE;generalize ac.tmps.getD 34 undef = v34 at hE;generalize ac.tmps.getD 35 undef = v35 at hE;generalize ac.tmps.getD 36 undef = v36 at hE;generalize ac.tmps.getD 37 undef = v37 at hE;generalize ac.tmps.getD 38 undef = v38 at hE;subst hE;go_wp2_with fail;go_roundw
     case rel => exact ⟨k + 1, by omega, by go_num, HL2⟩
     case measure => simp [intOf]; omega
   ·have hdk : decide ((k : Int) < (V.r.length : Int)) = false := decide_eq_false (by omega)
    obtain ⟨p0, p1, p2, p3, p4⟩ := aa_ HR.out.x;dsimp only at p0 p1 p2 p3 p4;obtain ⟨z0, z1, z2, z3, z4⟩ := aa_ HR.out.z;obtain ⟨f0, f1, f2, f3, f4⟩ := al_ HR.out.z;dsimp only at z0 z1 z2 z3 z4;go_wp2_with fail;have hk := kp_set HR.out.z [.slice s0.1 s0.2.1 s0.2.2, .slice s1.1 s1.2.1 s1.2.2, .slice s20 V.r.length s22, .slice s3.1 s3.2.1 s3.2.2, .slice s4.1 s4.2.1 s4.2.2];have HB := hd_ (below_setCells HR.out.below (show w.heap.size ≤ w.heap.size + 1 by omega) 0 [.slice s0.1 s0.2.1 s0.2.2, .slice s1.1 s1.2.1 s1.2.2, .slice s20 V.r.length s22, .slice s3.1 s3.2.1 s3.2.2, .slice s4.1 s4.2.1 s4.2.2])
    have HV := hd_ ((HR.out.r.rv).kp hk);obtain ⟨c0, c1, c2, c3, c4⟩ := aa_ (a2_ HR.out.z s0 s1 (s20, V.r.length, s22) s3 s4);dsimp only at c0 c1 c2 c3 c4;refine bodyPost_ret (v := .agg #[.slice s0.1 s0.2.1 s0.2.2, .slice s1.1 s1.2.1 s1.2.2, .slice s20 V.r.length s22, .slice s3.1 s3.2.1 s3.2.2, .slice s4.1 s4.2.1 s4.2.2]) (by simp [results, Tryz.results19, go_sem, c0, c1, c2, c3, c4]) rfl ?_
    exact ⟨_, rfl, ⟨s0, s1, (s20, V.r.length, s22), s3, s4, rfl, HV.out⟩, HB.out⟩
end
end Go.Proofs.YthkkipbmlafdiaaGreat
