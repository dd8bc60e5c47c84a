/-
  Contracts and plain facts.
-/
import Derived.Test.YthkkipbmlafdiaaGreatOy
import Derived.Test.YthkkipbmlafdiaaGreatB46
import Derived.Test.YthkkipbmlafdiaaGreatB47
set_option maxRecDepth 20000
namespace Go.Proofs.YthkkipbmlafdiaaGreat
section
open Go Go.RowKit
theorem frameG_any (v : Value) (V : Vw) (kd p q r s : Int) (w : World) (hk : kd = 3 ∨ kd = 4) (h : VAt w v V) (hV : FitVIE 1000 V) (hz : NzV V) :
  Calls Tryz.prog 33 #[v, .agg #[.int .i64 p, .int .i64 q], .agg #[.int .i64 r, .int .i64 s], .int .u8 kd] w fun e w' => ∃ a b c d e2 : SL, e = .returned (.tuple #[.agg #[.int .u8 kd, .int .i64 p, .int .i64 q, .int .i64 r, .int .i64 s, .int .i64 0, .int .i64 0, .int .i64 0, .int .i64 0, .slice a.1 a.2.1 a.2.2, .slice b.1 b.2.1 b.2.2, .slice c.1 c.2.1 c.2.2, .slice d.1 d.2.1 d.2.2, .slice e2.1 e2.2.1 e2.2.2], .bool true]) ∧ RV w' a b c d e2 (fvw kd V) ∧ Below w.heap.size w w' := by
 rcases hk with rfl | rfl
 ·exact frame3_any v V p q r s w h hV hz
 ·exact frame4_any v V p q r s w h hV hz
theorem fbx_there {w : World} {g : Nat} {k f1 f2 t1 t2 n tk b1 b2 : Int} {a b c d e : SL} (h : FBx w g k f1 f2 t1 t2 n tk b1 b2 a b c d e) : w.there g 0 14 := by
 unfold FBx at h;intro j hj;rw [Nat.zero_add];refine ⟨?_, by simp [World.frozen?, h]⟩
 rw [cell_of_row _ _ _ _ _ _ h, Array.getElem?_eq_getElem (by simpa using hj)]
 rfl
theorem step_falloc {ops : Array Oper} {o : Oper} {A : Act} {K : Act → World → Prop} {Q : Exit → Act → World → Prop} {E : Prop} (hgd : o.guard = none) (ho : o.op = .alloc 48) (W : World)
  (h : ∀ g W', FBx W' g 0 0 0 0 0 0 0 0 0 (none, 0, 0) (none, 0, 0) (none, 0, 0) (none, 0, 0) (none, 0, 0) → Below W.heap.size W W' → W.heap.size ≤ g → K (A.put o.dst (.pointer (some ⟨g, 0, none⟩))) W') :
  if Region.wanted o (yielded ops A.tmps) = true then Oper.wp Tryz.prog o A W K Q else E := by
 have hw : Region.wanted o (yielded ops A.tmps) = true := by simp [Region.wanted, hgd]
 rw [if_pos hw];have hr : (Instr.alloc 48 true (.tuple #[])).run Tryz.prog W = .ok (.pointer (some ⟨W.heap.size, 0, none⟩)) (W.alloc (.cells #[.int .u8 0, .int .i64 0, .int .i64 0, .int .i64 0, .int .i64 0, .int .i64 0, .int .i64 0, .int .i64 0, .int .i64 0, .slice none 0 0, .slice none 0 0, .slice none 0 0, .slice none 0 0, .slice none 0 0] 48)) := by kernel_rfl
 unfold Oper.wp execOp;simp only [ho, Sem.run_bind, Sem.run_pure, Result.andThen_ok, hr];exact h _ _ (fbx_new W 0 0 0 0 0 0 0 0 0 (none, 0, 0) (none, 0, 0) (none, 0, 0) (none, 0, 0) (none, 0, 0)) (ad_ W _) (Nat.le_refl _)
theorem step_fstore {ops : Array Oper} {o : Oper} {A : Act} {K : Act → World → Prop} {Q : Exit → Act → World → Prop} {E : Prop} (hgd : o.guard = none) (x y : Operand) (ho : o.op = .store 48 x y) (W : World) (g : Nat) (k' f1' f2' t1' t2' n' tk' b1' b2' : Int) (a' b' c' d' e' : SL) (V : Vw)
  (hx : A.eval x = .pointer (some ⟨g, 0, none⟩)) (hy : A.eval y = .agg #[.int .u8 k', .int .i64 f1', .int .i64 f2', .int .i64 t1', .int .i64 t2', .int .i64 n', .int .i64 tk', .int .i64 b1', .int .i64 b2', .slice a'.1 a'.2.1 a'.2.2, .slice b'.1 b'.2.1 b'.2.2, .slice c'.1 c'.2.1 c'.2.2, .slice d'.1 d'.2.1 d'.2.2, .slice e'.1 e'.2.1 e'.2.2]) (hb : FBx W g 0 0 0 0 0 0 0 0 0 (none, 0, 0) (none, 0, 0) (none, 0, 0) (none, 0, 0) (none, 0, 0)) (hr : RV W a' b' c' d' e' V) (hz : NzV V)
  (h : ∀ W', FBx W' g k' f1' f2' t1' t2' n' tk' b1' b2' a' b' c' d' e' → RV W' a' b' c' d' e' V → W.grownBy W' (some g) → K (A.put o.dst undef) W') :
  if Region.wanted o (yielded ops A.tmps) = true then Oper.wp Tryz.prog o A W K Q else E := by
 have hw : Region.wanted o (yielded ops A.tmps) = true := by simp [Region.wanted, hgd]
 rw [if_pos hw];have hs := run_storeAt_mid (P := Tryz.prog) W g 0 48 #[.int .u8 k', .int .i64 f1', .int .i64 f2', .int .i64 t1', .int .i64 t2', .int .i64 n', .int .i64 tk', .int .i64 b1', .int .i64 b2', .slice a'.1 a'.2.1 a'.2.2, .slice b'.1 b'.2.1 b'.2.2, .slice c'.1 c'.2.1 c'.2.2, .slice d'.1 d'.2.1 d'.2.2, .slice e'.1 e'.2.1 e'.2.2] (fbx_there hb) (by kernel_rfl) (by simp [Value.oneCell'])
 have hg := grown_setCells (World.grownBy.refl W (some g)) 0 [.int .u8 k', .int .i64 f1', .int .i64 f2', .int .i64 t1', .int .i64 t2', .int .i64 n', .int .i64 tk', .int .i64 b1', .int .i64 b2', .slice a'.1 a'.2.1 a'.2.2, .slice b'.1 b'.2.1 b'.2.2, .slice c'.1 c'.2.1 c'.2.2, .slice d'.1 d'.2.1 d'.2.2, .slice e'.1 e'.2.1 e'.2.2]
 have hf : FBx (W.setCells g 0 [.int .u8 k', .int .i64 f1', .int .i64 f2', .int .i64 t1', .int .i64 t2', .int .i64 n', .int .i64 tk', .int .i64 b1', .int .i64 b2', .slice a'.1 a'.2.1 a'.2.2, .slice b'.1 b'.2.1 b'.2.2, .slice c'.1 c'.2.1 c'.2.2, .slice d'.1 d'.2.1 d'.2.2, .slice e'.1 e'.2.1 e'.2.2]) g k' f1' f2' t1' t2' n' tk' b1' b2' a' b' c' d' e' := by
  have h := fbx_set hb k' f1' f2' t1' t2' n' tk' b1' b2' a' b' c' d' e';simpa only [World.setCells, Nat.zero_add] using h
 unfold Oper.wp execOp;simp only [ho, hx, hy, Sem.run_bind, Sem.run_pure, Result.andThen_ok, hs];exact h _ hf (hr.kz (kz_frame hb hg) hz) hg
def IBx (w : World) (g : Nat) (p : Nat → Nat) : Prop := w.heap[g]? = some (.cells #[.int .i64 ((p 0 : Nat) + 1 : Int), .int .i64 1, .int .i64 ((p 1 : Nat) + 1 : Int), .int .i64 1] 60 (0, 0))
theorem ibx_new (w : World) (p : Nat → Nat) : IBx (w.alloc (.cells #[.int .i64 ((p 0 : Nat) + 1 : Int), .int .i64 1, .int .i64 ((p 1 : Nat) + 1 : Int), .int .i64 1] 60)) w.heap.size p := heap_alloc_new w _
theorem ibx_lt {w : World} {g : Nat} {p : Nat → Nat} (h : IBx w g p) : g < w.heap.size := row_lt h
theorem ibx_below {w w' : World} {g : Nat} {p : Nat → Nat} (h : IBx w g p) (hb : Below w.heap.size w w') : IBx w' g p := (hb.block _ (ibx_lt h)).trans h
theorem ibx_cells {w : World} {g : Nat} {p : Nat → Nat} (h : IBx w g p) : w.cell? ⟨g, 0, none⟩ = some (.int .i64 ((p 0 : Nat) + 1 : Int)) ∧ w.cell? ⟨g, 1, none⟩ = some (.int .i64 1) ∧ w.cell? ⟨g, 2, none⟩ = some (.int .i64 ((p 1 : Nat) + 1 : Int)) ∧ w.cell? ⟨g, 3, none⟩ = some (.int .i64 1) := by
 unfold IBx at h;exact ⟨by rw [cell_of_row _ _ 0 _ _ _ h]; rfl, by rw [cell_of_row _ _ 1 _ _ _ h]; rfl, by rw [cell_of_row _ _ 2 _ _ _ h]; rfl, by rw [cell_of_row _ _ 3 _ _ _ h]; rfl⟩
theorem ibx_at {w : World} {g : Nat} {p : Nat → Nat} (h : IBx w g p) {f : Nat} (hf : f < 2) : w.cell? ⟨g, f * 2, none⟩ = some (.int .i64 ((p f : Nat) + 1 : Int)) ∧ w.cell? ⟨g, f * 2 + 1, none⟩ = some (.int .i64 1) := by
 obtain ⟨a, b, c, d⟩ := ibx_cells h;rcases (show f = 0 ∨ f = 1 by omega) with rfl | rfl
 ·exact ⟨a, b⟩
 ·exact ⟨c, d⟩
def PBx (w : World) (g : Nat) (a0 b0 c0 d0 e0 a1 b1 c1 d1 e1 : SL) : Prop := w.heap[g]? = some (.cells #[.slice a0.1 a0.2.1 a0.2.2, .slice b0.1 b0.2.1 b0.2.2, .slice c0.1 c0.2.1 c0.2.2, .slice d0.1 d0.2.1 d0.2.2, .slice e0.1 e0.2.1 e0.2.2, .slice a1.1 a1.2.1 a1.2.2, .slice b1.1 b1.2.1 b1.2.2, .slice c1.1 c1.2.1 c1.2.2, .slice d1.1 d1.2.1 d1.2.2, .slice e1.1 e1.2.1 e1.2.2] 61 (0, 0))
theorem pbx_there {w : World} {g : Nat} {a0 b0 c0 d0 e0 a1 b1 c1 d1 e1 : SL} (h : PBx w g a0 b0 c0 d0 e0 a1 b1 c1 d1 e1) : w.there g 0 10 := by
 unfold PBx at h;intro j hj;rw [Nat.zero_add];refine ⟨?_, by simp [World.frozen?, h]⟩
 rw [cell_of_row _ _ _ _ _ _ h, Array.getElem?_eq_getElem (by simpa using hj)]
 rfl
theorem pbx_now {w : World} {g : Nat} {a0 b0 c0 d0 e0 a1 b1 c1 d1 e1 : SL} {V : Nat → Vw} (h : PBx w g a0 b0 c0 d0 e0 a1 b1 c1 d1 e1) (h0 : RV w a0 b0 c0 d0 e0 (V 0)) (h1 : RV w a1 b1 c1 d1 e1 (V 1)) : NowN w g 2 V := by
 refine nowN_of (dn := #[(a0, b0, c0, d0, e0), (a1, b1, c1, d1, e1)]) rfl h rfl fun k hk => ?_
 rcases (show k = 0 ∨ k = 1 by omega) with rfl | rfl
 ·exact h0
 ·exact h1
theorem pbx_noInt {w : World} {g : Nat} {a0 b0 c0 d0 e0 a1 b1 c1 d1 e1 : SL} (h : PBx w g a0 b0 c0 d0 e0 a1 b1 c1 d1 e1) : NoInt w g := noInt_cells h (by simp)
theorem step_palloc {ops : Array Oper} {o : Oper} {A : Act} {K : Act → World → Prop} {Q : Exit → Act → World → Prop} {E : Prop} (hgd : o.guard = none) (ho : o.op = .alloc 61) (W : World)
  (h : ∀ g W', PBx W' g (none, 0, 0) (none, 0, 0) (none, 0, 0) (none, 0, 0) (none, 0, 0) (none, 0, 0) (none, 0, 0) (none, 0, 0) (none, 0, 0) (none, 0, 0) → Below W.heap.size W W' → W.heap.size ≤ g → K (A.put o.dst (.pointer (some ⟨g, 0, none⟩))) W') :
  if Region.wanted o (yielded ops A.tmps) = true then Oper.wp Tryz.prog o A W K Q else E := by
 have hw : Region.wanted o (yielded ops A.tmps) = true := by simp [Region.wanted, hgd]
 rw [if_pos hw];have hr : (Instr.alloc 61 true (.tuple #[])).run Tryz.prog W = .ok (.pointer (some ⟨W.heap.size, 0, none⟩)) (W.alloc (.cells #[.slice none 0 0, .slice none 0 0, .slice none 0 0, .slice none 0 0, .slice none 0 0, .slice none 0 0, .slice none 0 0, .slice none 0 0, .slice none 0 0, .slice none 0 0] 61)) := by kernel_rfl
 unfold Oper.wp execOp;simp only [ho, Sem.run_bind, Sem.run_pure, Result.andThen_ok, hr];exact h _ _ (heap_alloc_new W _) (ad_ W _) (Nat.le_refl _)
theorem step_pstore {ops : Array Oper} {o : Oper} {A : Act} {K : Act → World → Prop} {Q : Exit → Act → World → Prop} {E : Prop} (hgd : o.guard = none) (x y : Operand) (ho : o.op = .store 61 x y) (W : World) (g : Nat) (a0 b0 c0 d0 e0 a1 b1 c1 d1 e1 : SL) (V : Nat → Vw)
  (hx : A.eval x = .pointer (some ⟨g, 0, none⟩)) (hy : A.eval y = .agg #[.slice a0.1 a0.2.1 a0.2.2, .slice b0.1 b0.2.1 b0.2.2, .slice c0.1 c0.2.1 c0.2.2, .slice d0.1 d0.2.1 d0.2.2, .slice e0.1 e0.2.1 e0.2.2, .slice a1.1 a1.2.1 a1.2.2, .slice b1.1 b1.2.1 b1.2.2, .slice c1.1 c1.2.1 c1.2.2, .slice d1.1 d1.2.1 d1.2.2, .slice e1.1 e1.2.1 e1.2.2]) (hb : PBx W g (none, 0, 0) (none, 0, 0) (none, 0, 0) (none, 0, 0) (none, 0, 0) (none, 0, 0) (none, 0, 0) (none, 0, 0) (none, 0, 0) (none, 0, 0)) (h0 : RV W a0 b0 c0 d0 e0 (V 0)) (h1 : RV W a1 b1 c1 d1 e1 (V 1))
  (h : ∀ W', NowN W' g 2 V → W.grownBy W' (some g) → K (A.put o.dst undef) W') :
  if Region.wanted o (yielded ops A.tmps) = true then Oper.wp Tryz.prog o A W K Q else E := by
 have hw : Region.wanted o (yielded ops A.tmps) = true := by simp [Region.wanted, hgd]
 rw [if_pos hw];have hs := run_storeAt_mid (P := Tryz.prog) W g 0 61 #[.slice a0.1 a0.2.1 a0.2.2, .slice b0.1 b0.2.1 b0.2.2, .slice c0.1 c0.2.1 c0.2.2, .slice d0.1 d0.2.1 d0.2.2, .slice e0.1 e0.2.1 e0.2.2, .slice a1.1 a1.2.1 a1.2.2, .slice b1.1 b1.2.1 b1.2.2, .slice c1.1 c1.2.1 c1.2.2, .slice d1.1 d1.2.1 d1.2.2, .slice e1.1 e1.2.1 e1.2.2] (pbx_there hb) (by kernel_rfl) (by simp [Value.oneCell'])
 have hg := grown_setCells (World.grownBy.refl W (some g)) 0 [.slice a0.1 a0.2.1 a0.2.2, .slice b0.1 b0.2.1 b0.2.2, .slice c0.1 c0.2.1 c0.2.2, .slice d0.1 d0.2.1 d0.2.2, .slice e0.1 e0.2.1 e0.2.2, .slice a1.1 a1.2.1 a1.2.2, .slice b1.1 b1.2.1 b1.2.2, .slice c1.1 c1.2.1 c1.2.2, .slice d1.1 d1.2.1 d1.2.2, .slice e1.1 e1.2.1 e1.2.2];have hk : Kp W (W.setCells g 0 [.slice a0.1 a0.2.1 a0.2.2, .slice b0.1 b0.2.1 b0.2.2, .slice c0.1 c0.2.1 c0.2.2, .slice d0.1 d0.2.1 d0.2.2, .slice e0.1 e0.2.1 e0.2.2, .slice a1.1 a1.2.1 a1.2.2, .slice b1.1 b1.2.1 b1.2.2, .slice c1.1 c1.2.1 c1.2.2, .slice d1.1 d1.2.1 d1.2.2, .slice e1.1 e1.2.1 e1.2.2]) := kp_noInt hg fun g' e => by obtain rfl := Option.some.inj e; exact pbx_noInt hb
 have hf : PBx (W.setCells g 0 [.slice a0.1 a0.2.1 a0.2.2, .slice b0.1 b0.2.1 b0.2.2, .slice c0.1 c0.2.1 c0.2.2, .slice d0.1 d0.2.1 d0.2.2, .slice e0.1 e0.2.1 e0.2.2, .slice a1.1 a1.2.1 a1.2.2, .slice b1.1 b1.2.1 b1.2.2, .slice c1.1 c1.2.1 c1.2.2, .slice d1.1 d1.2.1 d1.2.2, .slice e1.1 e1.2.1 e1.2.2]) g a0 b0 c0 d0 e0 a1 b1 c1 d1 e1 := by
  unfold PBx at *;simp [World.setCells, World.setCell, Array.getElem?_modify, hb]
 unfold Oper.wp execOp;simp only [ho, hx, hy, Sem.run_bind, Sem.run_pure, Result.andThen_ok, hs];exact h _ (pbx_now hf (h0.kp hk) (h1.kp hk)) hg
structure BoG (w : World) (GI GV GJ : Nat) (p : Nat → Nat) (J : Vw) (j0 j1 j2 j3 j4 : SL) (V : Nat → Vw) (W : World) : Prop where
 ib : IBx W GI p
 nv : NowN W GV 2 V
 bj : VBox W GJ j0 j1 j2 j3 j4
 rj : RV W j0 j1 j2 j3 j4 J
 gi : GI ≠ GV
 gj : GJ ≠ GV
 gw : w.heap.size ≤ GV
 below : Below w.heap.size w W
theorem BoG.step {w : World} {GI GV GJ : Nat} {p : Nat → Nat} {J : Vw} {j0 j1 j2 j3 j4 : SL} {V : Nat → Vw} {W W' : World} (h : BoG w GI GV GJ p J j0 j1 j2 j3 j4 V W) (hb : Below W.heap.size W W') : BoG w GI GV GJ p J j0 j1 j2 j3 j4 V W' :=
 ⟨ibx_below h.ib hb, h.nv.kept (kp_below hb) (hb.block _ h.nv.lt), ab_ h.bj hb, h.rj.below hb, h.gi, h.gj, h.gw, ba_ h.below hb⟩
theorem BoG.put {w : World} {GI GV GJ : Nat} {p : Nat → Nat} {J : Vw} {j0 j1 j2 j3 j4 : SL} {V : Nat → Vw} {W : World} (h : BoG w GI GV GJ p J j0 j1 j2 j3 j4 V W) {k : Nat} (hk : k < 2) {t : V5} {T : Vw} (ht : RVt W t T) : BoG w GI GV GJ p J j0 j1 j2 j3 j4 (now1 V k T) (W.setCells GV (k * 5) (encV t)) := by
 obtain ⟨h1, h2⟩ := h.nv.put hk ht (by decide)
 exact ⟨(heap_setCells _ _ _ _ _ h.gi).trans h.ib, h1, (heap_setCells _ _ _ _ _ h.gj).trans h.bj, h.rj.kp h2, h.gi, h.gj, h.gw, below_setCells h.below h.gw _ _⟩
theorem BoG.cells {w : World} {GI GV GJ : Nat} {p : Nat → Nat} {J : Vw} {j0 j1 j2 j3 j4 : SL} {V : Nat → Vw} {W : World} (h : BoG w GI GV GJ p J j0 j1 j2 j3 j4 V W) : ∃ a b x d e a' b' x' d' e' : SL, RV W a b x d e (V 0) ∧ RV W a' b' x' d' e' (V 1) ∧ (W.cell? ⟨GV, 0, none⟩ = some (.slice a.1 a.2.1 a.2.2) ∧ W.cell? ⟨GV, 1, none⟩ = some (.slice b.1 b.2.1 b.2.2) ∧ W.cell? ⟨GV, 2, none⟩ = some (.slice x.1 x.2.1 x.2.2) ∧ W.cell? ⟨GV, 3, none⟩ = some (.slice d.1 d.2.1 d.2.2) ∧ W.cell? ⟨GV, 4, none⟩ = some (.slice e.1 e.2.1 e.2.2) ∧ W.cell? ⟨GV, 5, none⟩ = some (.slice a'.1 a'.2.1 a'.2.2) ∧ W.cell? ⟨GV, 6, none⟩ = some (.slice b'.1 b'.2.1 b'.2.2) ∧ W.cell? ⟨GV, 7, none⟩ = some (.slice x'.1 x'.2.1 x'.2.2) ∧ W.cell? ⟨GV, 8, none⟩ = some (.slice d'.1 d'.2.1 d'.2.2) ∧ W.cell? ⟨GV, 9, none⟩ = some (.slice e'.1 e'.2.1 e'.2.2)) ∧ W.cell? ⟨GI, 0, none⟩ = some (.int .i64 ((p 0 : Nat) + 1 : Int)) ∧ W.cell? ⟨GI, 1, none⟩ = some (.int .i64 1) ∧ W.cell? ⟨GI, 2, none⟩ = some (.int .i64 ((p 1 : Nat) + 1 : Int)) ∧ W.cell? ⟨GI, 3, none⟩ = some (.int .i64 1) := by
 obtain ⟨a, b, x, d, e, h0, ⟨n0, n1, n2, n3, n4⟩, -⟩ := h.nv.at_ (k := 0) (by decide)
 obtain ⟨a', b', x', d', e', h1, ⟨o0, o1, o2, o3, o4⟩, -⟩ := h.nv.at_ (k := 1) (by decide)
 exact ⟨a, b, x, d, e, a', b', x', d', e', h0, h1, ⟨n0, n1, n2, n3, n4, o0, o1, o2, o3, o4⟩, ibx_cells h.ib⟩
theorem sameV_of {V U : Vw} (h : SameC V U) (hs : V.s = U.s) : sameV V U = true := by
 unfold sameV sameB;rw [same_core h, hs];simp
theorem sameV_is {V U : Vw} (h : sameV V U = true) (hV : OkV V) (hU : OkV U) : SameC V U ∧ V.s = U.s := by
 unfold sameV at h;rw [Bool.and_eq_true] at h;refine ⟨core_same h.1 hV.nr hU.nr, ?_⟩
 have h2 := h.2;unfold sameB at h2;exact of_decide_eq_true h2
end
end Go.Proofs.YthkkipbmlafdiaaGreat
