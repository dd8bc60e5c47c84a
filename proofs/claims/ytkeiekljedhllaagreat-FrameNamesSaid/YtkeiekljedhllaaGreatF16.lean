/-
  Carried over and put together: contracts of this program's functions, and plain facts. No statement is proved in this text.
-/
import Derived.Test.YtkeiekljedhllaaGreatF15
set_option maxRecDepth 20000
namespace Go.Proofs.YtkeiekljedhllaaGreat
open Go Go.RowKit
/-- What stands while a view is written: the view's variable, its lists, and the writer. -/
structure WvG (w0 w : World) (g X : Nat) (v : Value) (a b c d e : SL) (V : Vw) (W : World) (v' : Value) (s : WS) : Prop where
  x : VBox W X a b c d e
  r : RV W a b c d e V
  b : Below w0.heap.size w0 W
  st : WSt W w0.heap.size g v' s
  p : Puts w g v W v'
theorem WvG.step {w0 w : World} {g X : Nat} {v : Value} {a b c d e : SL} {V : Vw} {W : World} {v1 : Value} {s : WS} (h : WvG w0 w g X v a b c d e V W v1 s) (h0 : RV w0 a b c d e V) {W' : World} {v2 : Value} {s' : WS} (h1 : WSt W' w0.heap.size g v2 s') (h2 : Puts W g v1 W' v2) : WvG w0 w g X v a b c d e V W' v2 s' := by
  have hb := h2.ahead h.b h.st
  exact ⟨h2.kept h.st h.x (by decide) (by decide), h0.below hb, hb, h1, h.p.trans h2⟩
theorem WvG.boxed {w0 w : World} {g X : Nat} {v : Value} {a b c d e : SL} {V : Vw} {W : World} {v1 : Value} {s : WS} (h : WvG w0 w g X v a b c d e V W v1 s) (h0 : RV w0 a b c d e V) (o : Obj) : WvG w0 w g X v a b c d e V (W.alloc o) v1 s :=
  h.step h0 (h.st.below (below_one W o)) (Puts.grown g v1 (below_one W o))
theorem fold_take {α : Type} (f : WS → α → WS) (s : WS) {l : List α} {k : Nat} (h : k < l.length) : (l.take (k + 1)).foldl f s = f ((l.take k).foldl f s) l[k] := by
  rw [List.take_succ_eq_append_getElem h, List.foldl_append]
  rfl
theorem fold_len {α : Type} {f : WS → α → WS} (m : Nat) (h : ∀ s x, (f s x).1.length ≤ s.1.length + m) (l : List α) : ∀ s, (l.foldl f s).1.length ≤ s.1.length + l.length * m := by
  induction l with
  | nil => intro s; simp
  | cons x l ih =>
    intro s
    rw [List.foldl_cons]
    have h1 := ih (f s x)
    have h2 := h s x
    rw [List.length_cons, Nat.add_mul, Nat.one_mul]
    omega
theorem wMem_len (s : WS) (m : Ros.Mm) : (wMem s m).1.length ≤ s.1.length + 2000 := by
  unfold wMem
  have h1 := wId_len s m.1
  have h2 := wNum_len (wId s m.1) m.2.1
  have h3 := wNum_len (wNum (wId s m.1) m.2.1) m.2.2
  omega
theorem wRow_len (s : WS) (r : RowSets.Row) : (wRow s r).1.length ≤ s.1.length + 2000 := by
  unfold wRow
  have h1 := wId_len s r.1
  have h2 := wNum_len (wId s r.1) r.2.1
  have h3 := wIds_len (wNum (wId s r.1) r.2.1) r.2.2
  omega
theorem wTick_len (s : WS) (t : Clocks.Tick) : (wTick s t).1.length ≤ s.1.length + 2000 := by
  unfold wTick
  have h1 := wId_len s t.1
  have h2 := wNum_len (wId s t.1) t.2
  omega
theorem take_len_le {α : Type} (l : List α) (k : Nat) : (l.take k).length ≤ l.length := by simp; omega
theorem fold_small {α : Type} {f : WS → α → WS} (h : ∀ s x, (f s x).1.length ≤ s.1.length + 2000) {l : List α} (hl : l.length ≤ 5000) (s : WS) (n : Int) (k m : Nat) (hs : s.1.length ≤ m) : ((l.take k).foldl f (wNum s n)).1.length ≤ m + 10000100 := by
  have h1 := fold_len 2000 h (l.take k) (wNum s n)
  have h2 := wNum_len s n
  have h3 := take_len_le l k
  have h4 : (l.take k).length * 2000 ≤ 5000 * 2000 := Nat.mul_le_mul (by omega) (Nat.le_refl _)
  omega
theorem wList_len {α : Type} {f : WS → α → WS} (h : ∀ s x, (f s x).1.length ≤ s.1.length + 2000) {l : List α} (hl : l.length ≤ 5000) (s : WS) (m : Nat) (hs : s.1.length ≤ m) : (wList f s l).1.length ≤ m + 10000100 := by
  have := fold_small h hl s (l.length : Int) l.length m hs
  rwa [List.take_length] at this
set_option maxHeartbeats 8000000 in
theorem wView_any (g : Nat) (v u : Value) (V : Vw) (s : WS) (w0 w : World) (hu : VAt w0 u V) (hF : FitVIE 5000 V) (hst : ∀ x ∈ V.m, 0 ≤ x.2.1 ∧ x.2.1 ≤ 255) (hb0 : Below w0.heap.size w0 w) (h : WSt w w0.heap.size g v s) (hl : s.1.length ≤ 1000) :
    Calls Tryz.prog 35 #[.pointer (some ⟨g, 0, none⟩), u] w (PutTo w0.heap.size g v (wView s V) w) := by
  obtain ⟨⟨a0, a1, a2⟩, b, ⟨c0, c1, c2⟩, ⟨d0, d1, d2⟩, e, rfl, hr⟩ := hu
  obtain rfl : a1 = V.m.length := rcs_len hr.m
  obtain rfl : c1 = V.r.length := rows_len hr.r
  obtain rfl : d1 = V.c.length := rcs_len hr.c
  have H0 := Lib.hid hr
  have HF := Lib.hid hF
  have HST := Lib.hid hst
  have HL := Lib.hid hl
  have G0 := Lib.hid (show WvG w0 w g w.heap.size v (a0, V.m.length, a2) b (c0, V.r.length, c2) (d0, V.c.length, d2) e V (w.alloc (.cells #[.slice a0 V.m.length a2, .slice b.1 b.2.1 b.2.2, .slice c0 V.r.length c2, .slice d0 V.c.length d2, .slice e.1 e.2.1 e.2.2] 33)) v s from ⟨vbox_new w (a0, V.m.length, a2) b (c0, V.r.length, c2) (d0, V.c.length, d2) e, (hr.below hb0).below (below_one w _), hb0.trans ((below_one w _).mono hb0.size), h.below (below_one w _), Puts.grown g v (below_one w _)⟩)

  clear hr hF hst h hb0 hl
  obtain ⟨p0, p1, p2, p3, p4⟩ := vbox_cells G0.out.x
  dsimp only at p0 p1 p2 p3 p4
  go_enter Tryz.func35, Tryz.ntmps35
  go_wp2_with fail
  (with_reducible refine (wNum_any w0.heap.size g _ s (V.m.length : Int) _ G0.out.st (by have := HL.out; omega)).mono ?_)
  rintro e1 w1 ⟨rfl, v1, h1, h2⟩
  have G1 := Lib.hid (G0.out.step H0.out h1 h2)
  clear h1 h2 p0 p1 p2 p3 p4 G0
  obtain ⟨p0, p1, p2, p3, p4⟩ := vbox_cells G1.out.x
  dsimp only at p0 p1 p2 p3 p4
  go_wp2_with fail
  go_loopw [18] (fun s18 wr => ∃ (k : Nat) (v' : Value), k ≤ V.m.length ∧ s18 = .int .i64 k ∧ Hid (WvG w0 w g w.heap.size v (a0, V.m.length, a2) b (c0, V.r.length, c2) (d0, V.c.length, d2) e V wr v' ((V.m.take k).foldl wMem (wNum s (V.m.length : Int))))) (fun s18 _ => V.m.length - (intOf s18).toNat)
  case atStart => exact ⟨0, _, by omega, rfl, G1⟩
  case round =>
    clear G1 p0 p1 p2 p3 p4
    obtain ⟨k, vk, hk, rfl, G2⟩ := hrel
    obtain ⟨p0, p1, p2, p3, p4⟩ := vbox_cells G2.out.x
    dsimp only at p0 p1 p2 p3 p4
    by_cases hlt : k < V.m.length
    · have hd : decide ((k : Int) < (V.m.length : Int)) = true := by simp; omega
      have i3 : (0 : Int) ≤ (k : Int) := by omega
      have hbd := HF.out.m
      have i4 : (k : Int) < (V.m.length : Int) := by omega
      have LK := Lib.hid (fold_small wMem_len HF.out.m s (V.m.length : Int) k 1000 HL.out)
      have HFK := Lib.hid (fold_take wMem (wNum s (V.m.length : Int)) hlt)
      obtain ⟨ad, rfl, c1, c2, c3, c4⟩ := Ms.at_ G2.out.r.m (Below.refl _ _) hlt
      obtain ⟨t0, t1⟩ := HST.out _ (List.getElem_mem hlt)
      generalize V.m[k] = y at *
      obtain ⟨⟨y0, y1⟩, y2, y3⟩ := y
      dsimp only at c1 c2 c3 c4 t0 t1
      generalize hsk : (V.m.take k).foldl wMem (wNum s (V.m.length : Int)) = sk at *
      clear hsk
      have XB := Lib.hid (mbox_new wr y0 y1 y2 y3)
      have G3 := Lib.hid (G2.out.boxed H0.out (.cells #[.int .i64 y0, .int .i64 y1, .int .u8 y2, .int .i64 y3] 35))
      clear p0 p1 p2 p3 p4 G2
      obtain ⟨p0, p1, p2, p3, p4⟩ := vbox_cells G3.out.x
      dsimp only at p0 p1 p2 p3 p4
      obtain ⟨x1, x2, x3, x4⟩ := mbox_cells XB.out
      go_wp2_with fail
      (with_reducible refine (wId_any w0.heap.size g _ sk (y0, y1) _ G3.out.st (by have := LK.out; omega)).mono ?_)
      rintro e4 w4 ⟨rfl, v4, h1, h2⟩
      have XC := Lib.hid (show MBox w4 wr.heap.size y0 y1 y2 y3 from h2.kept G3.out.st XB.out (by decide) (by decide))
      clear XB
      (try clear c1 c2 c3 c4)
      (try clear c1 c2 c3)
      (try clear x1 x2 x3 x4)
      (try clear x1 x2 x3)
      have XB := XC
      clear XC
      have G4 := Lib.hid (G3.out.step H0.out h1 h2)
      clear h1 h2 p0 p1 p2 p3 p4 G3
      obtain ⟨p0, p1, p2, p3, p4⟩ := vbox_cells G4.out.x
      dsimp only at p0 p1 p2 p3 p4
      obtain ⟨x1, x2, x3, x4⟩ := mbox_cells XB.out
      go_wp2_with fail
      (with_reducible refine (wNum_any w0.heap.size g _ (wId sk (y0, y1)) y2 _ G4.out.st (by have := LK.out; have := wId_len sk (y0, y1); omega)).mono ?_)
      rintro e5 w5 ⟨rfl, v5, h1, h2⟩
      have XC := Lib.hid (show MBox w5 wr.heap.size y0 y1 y2 y3 from h2.kept G4.out.st XB.out (by decide) (by decide))
      clear XB
      (try clear c1 c2 c3 c4)
      (try clear c1 c2 c3)
      (try clear x1 x2 x3 x4)
      (try clear x1 x2 x3)
      have XB := XC
      clear XC
      have G5 := Lib.hid (G4.out.step H0.out h1 h2)
      clear h1 h2 p0 p1 p2 p3 p4 G4
      obtain ⟨p0, p1, p2, p3, p4⟩ := vbox_cells G5.out.x
      dsimp only at p0 p1 p2 p3 p4
      obtain ⟨x1, x2, x3, x4⟩ := mbox_cells XB.out
      go_wp2_with fail
      (with_reducible refine (wNum_any w0.heap.size g _ (wNum (wId sk (y0, y1)) y2) y3 _ G5.out.st (by have := LK.out; have := wId_len sk (y0, y1); have := wNum_len (wId sk (y0, y1)) y2; omega)).mono ?_)
      rintro e6 w6 ⟨rfl, v6, h1, h2⟩
      have G6 := Lib.hid (G5.out.step H0.out h1 h2)
      clear h1 h2 p0 p1 p2 p3 p4 G5
      obtain ⟨p0, p1, p2, p3, p4⟩ := vbox_cells G6.out.x
      dsimp only at p0 p1 p2 p3 p4
      go_wp2_with fail
      go_roundw
      case rel => exact ⟨k + 1, _, by omega, by go_num, by rw [HFK.out]; exact G6⟩
      case measure => simp [intOf]; omega
    · have hd : decide ((k : Int) < (V.m.length : Int)) = false := by simp; omega
      have HWL := Lib.hid (show (V.m.take k).foldl wMem (wNum s (V.m.length : Int)) = wList wMem s V.m by rw [List.take_of_length_le (by omega)]; rfl)
      rw [HWL.out] at G2
      have G7 := G2
      clear G2 HWL hk
      go_wp2_with fail
      clear hlt hd
      have HL1 := Lib.hid (wList_len wMem_len HF.out.m s 1000 HL.out)
      (with_reducible refine (wIds_any w0.heap.size g _ _ (wList wMem s V.m) V.f _ G7.out.st (by have := HL1.out; omega) G7.out.r.f).mono ?_)
      rintro e8 w8 ⟨rfl, v8, h1, h2⟩
      have G8 := Lib.hid (G7.out.step H0.out h1 h2)
      clear h1 h2 p0 p1 p2 p3 p4 G7
      obtain ⟨p0, p1, p2, p3, p4⟩ := vbox_cells G8.out.x
      dsimp only at p0 p1 p2 p3 p4
      go_wp2_with fail
      have HL2 := Lib.hid (show (wIds (wList wMem s V.m) V.f).1.length ≤ 20000000 by have := HL1.out; have := wIds_len (wList wMem s V.m) V.f; omega)
      (with_reducible refine (wNum_any w0.heap.size g _ (wIds (wList wMem s V.m) V.f) (V.r.length : Int) _ G8.out.st (by have := HL2.out; omega)).mono ?_)
      rintro e9 w9 ⟨rfl, v9, h1, h2⟩
      have G9 := Lib.hid (G8.out.step H0.out h1 h2)
      clear h1 h2 p0 p1 p2 p3 p4 G8
      obtain ⟨p0, p1, p2, p3, p4⟩ := vbox_cells G9.out.x
      dsimp only at p0 p1 p2 p3 p4
      go_wp2_with fail
      go_loopw [48] (fun s48 wr => ∃ (k : Nat) (v' : Value), k ≤ V.r.length ∧ s48 = .int .i64 k ∧ Hid (WvG w0 w g w.heap.size v (a0, V.m.length, a2) b (c0, V.r.length, c2) (d0, V.c.length, d2) e V wr v' ((V.r.take k).foldl wRow (wNum (wIds (wList wMem s V.m) V.f) (V.r.length : Int))))) (fun s48 _ => V.r.length - (intOf s48).toNat)
      case atStart => exact ⟨0, _, by omega, rfl, G9⟩
      case round =>
        clear G9 p0 p1 p2 p3 p4
        obtain ⟨k, vk, hk, rfl, G10⟩ := hrel
        obtain ⟨p0, p1, p2, p3, p4⟩ := vbox_cells G10.out.x
        dsimp only at p0 p1 p2 p3 p4
        by_cases hlt : k < V.r.length
        · have hd : decide ((k : Int) < (V.r.length : Int)) = true := by simp; omega
          have i3 : (0 : Int) ≤ (k : Int) := by omega
          have hbd := HF.out.r
          have i4 : (k : Int) < (V.r.length : Int) := by omega
          have LK := Lib.hid (fold_small wRow_len HF.out.r (wIds (wList wMem s V.m) V.f) (V.r.length : Int) k 20000000 HL2.out)
          have HFK := Lib.hid (fold_take wRow (wNum (wIds (wList wMem s V.m) V.f) (V.r.length : Int)) hlt)
          obtain ⟨ad, y4, rfl, c1, c2, c3, c4, hy4⟩ := RowsAt.at_ H0.out.r G10.out.b hlt
          obtain ⟨y5, rfl⟩ := sl_ids hy4
          have HY4 := Lib.hid hy4
          clear hy4
          generalize V.r[k] = y at *
          obtain ⟨⟨y0, y1⟩, y2, y3⟩ := y
          dsimp only at c1 c2 c3 c4
          generalize hsk : (V.r.take k).foldl wRow (wNum (wIds (wList wMem s V.m) V.f) (V.r.length : Int)) = sk at *
          clear hsk
          have XB := Lib.hid (wbox_new wr y0 y1 y2 (.slice y5.1 y5.2.1 y5.2.2))
          have G11 := Lib.hid (G10.out.boxed H0.out (.cells #[.int .i64 y0, .int .i64 y1, .int .i64 y2, .slice y5.1 y5.2.1 y5.2.2] 37))
          clear p0 p1 p2 p3 p4 G10
          obtain ⟨p0, p1, p2, p3, p4⟩ := vbox_cells G11.out.x
          dsimp only at p0 p1 p2 p3 p4
          obtain ⟨x1, x2, x3, x4⟩ := wbox_cells XB.out
          go_wp2_with fail
          (with_reducible refine (wId_any w0.heap.size g _ sk (y0, y1) _ G11.out.st (by have := LK.out; omega)).mono ?_)
          rintro e12 w12 ⟨rfl, v12, h1, h2⟩
          have XC := Lib.hid (show WBox w12 wr.heap.size y0 y1 y2 (.slice y5.1 y5.2.1 y5.2.2) from h2.kept G11.out.st XB.out (by decide) (by decide))
          clear XB
          (try clear c1 c2 c3 c4)
          (try clear c1 c2 c3)
          (try clear x1 x2 x3 x4)
          (try clear x1 x2 x3)
          have XB := XC
          clear XC
          have G12 := Lib.hid (G11.out.step H0.out h1 h2)
          clear h1 h2 p0 p1 p2 p3 p4 G11
          obtain ⟨p0, p1, p2, p3, p4⟩ := vbox_cells G12.out.x
          dsimp only at p0 p1 p2 p3 p4
          obtain ⟨x1, x2, x3, x4⟩ := wbox_cells XB.out
          go_wp2_with fail
          (with_reducible refine (wNum_any w0.heap.size g _ (wId sk (y0, y1)) y2 _ G12.out.st (by have := LK.out; have := wId_len sk (y0, y1); omega)).mono ?_)
          rintro e13 w13 ⟨rfl, v13, h1, h2⟩
          have XC := Lib.hid (show WBox w13 wr.heap.size y0 y1 y2 (.slice y5.1 y5.2.1 y5.2.2) from h2.kept G12.out.st XB.out (by decide) (by decide))
          clear XB
          (try clear c1 c2 c3 c4)
          (try clear c1 c2 c3)
          (try clear x1 x2 x3 x4)
          (try clear x1 x2 x3)
          have XB := XC
          clear XC
          have G13 := Lib.hid (G12.out.step H0.out h1 h2)
          clear h1 h2 p0 p1 p2 p3 p4 G12
          obtain ⟨p0, p1, p2, p3, p4⟩ := vbox_cells G13.out.x
          dsimp only at p0 p1 p2 p3 p4
          obtain ⟨x1, x2, x3, x4⟩ := wbox_cells XB.out
          go_wp2_with fail
          (with_reducible refine (wIds_any w0.heap.size g _ _ (wNum (wId sk (y0, y1)) y2) y3 _ G13.out.st (by have := LK.out; have := wId_len sk (y0, y1); have := wNum_len (wId sk (y0, y1)) y2; omega) (HY4.out.below G13.out.b)).mono ?_)
          rintro e14 w14 ⟨rfl, v14, h1, h2⟩
          have G14 := Lib.hid (G13.out.step H0.out h1 h2)
          clear h1 h2 p0 p1 p2 p3 p4 G13
          obtain ⟨p0, p1, p2, p3, p4⟩ := vbox_cells G14.out.x
          dsimp only at p0 p1 p2 p3 p4
          go_wp2_with fail
          go_roundw
          case rel => exact ⟨k + 1, _, by omega, by go_num, by rw [HFK.out]; exact G14⟩
          case measure => simp [intOf]; omega
        · have hd : decide ((k : Int) < (V.r.length : Int)) = false := by simp; omega
          have HWL := Lib.hid (show (V.r.take k).foldl wRow (wNum (wIds (wList wMem s V.m) V.f) (V.r.length : Int)) = wList wRow (wIds (wList wMem s V.m) V.f) V.r by rw [List.take_of_length_le (by omega)]; rfl)
          rw [HWL.out] at G10
          have G15 := G10
          clear G10 HWL hk
          go_wp2_with fail
          clear hlt hd
          have HL3 := Lib.hid (wList_len wRow_len HF.out.r (wIds (wList wMem s V.m) V.f) 20000000 HL2.out)
          (with_reducible refine (wNum_any w0.heap.size g _ (wList wRow (wIds (wList wMem s V.m) V.f) V.r) (V.c.length : Int) _ G15.out.st (by have := HL3.out; omega)).mono ?_)
          rintro e16 w16 ⟨rfl, v16, h1, h2⟩
          have G16 := Lib.hid (G15.out.step H0.out h1 h2)
          clear h1 h2 p0 p1 p2 p3 p4 G15
          obtain ⟨p0, p1, p2, p3, p4⟩ := vbox_cells G16.out.x
          dsimp only at p0 p1 p2 p3 p4
          go_wp2_with fail
          go_loopw [73] (fun s73 wr => ∃ (k : Nat) (v' : Value), k ≤ V.c.length ∧ s73 = .int .i64 k ∧ Hid (WvG w0 w g w.heap.size v (a0, V.m.length, a2) b (c0, V.r.length, c2) (d0, V.c.length, d2) e V wr v' ((V.c.take k).foldl wTick (wNum (wList wRow (wIds (wList wMem s V.m) V.f) V.r) (V.c.length : Int))))) (fun s73 _ => V.c.length - (intOf s73).toNat)
          case atStart => exact ⟨0, _, by omega, rfl, G16⟩
          case round =>
            clear G16 p0 p1 p2 p3 p4
            obtain ⟨k, vk, hk, rfl, G17⟩ := hrel
            obtain ⟨p0, p1, p2, p3, p4⟩ := vbox_cells G17.out.x
            dsimp only at p0 p1 p2 p3 p4
            by_cases hlt : k < V.c.length
            · have hd : decide ((k : Int) < (V.c.length : Int)) = true := by simp; omega
              have i3 : (0 : Int) ≤ (k : Int) := by omega
              have hbd := HF.out.c
              have i4 : (k : Int) < (V.c.length : Int) := by omega
              have LK := Lib.hid (fold_small wTick_len HF.out.c (wList wRow (wIds (wList wMem s V.m) V.f) V.r) (V.c.length : Int) k 40000000 (Nat.le_trans HL3.out (by decide)))
              have HFK := Lib.hid (fold_take wTick (wNum (wList wRow (wIds (wList wMem s V.m) V.f) V.r) (V.c.length : Int)) hlt)
              obtain ⟨ad, rfl, c1, c2, c3⟩ := ticks_at G17.out.r.c (Below.refl _ _) hlt
              have c4 := c3
              generalize V.c[k] = y at *
              obtain ⟨⟨y0, y1⟩, y2⟩ := y
              dsimp only at c1 c2 c3
              generalize hsk : (V.c.take k).foldl wTick (wNum (wList wRow (wIds (wList wMem s V.m) V.f) V.r) (V.c.length : Int)) = sk at *
              clear hsk
              have XB := Lib.hid (tbox_new wr y0 y1 y2)
              have G18 := Lib.hid (G17.out.boxed H0.out (.cells #[.int .i64 y0, .int .i64 y1, .int .i64 y2] 27))
              clear p0 p1 p2 p3 p4 G17
              obtain ⟨p0, p1, p2, p3, p4⟩ := vbox_cells G18.out.x
              dsimp only at p0 p1 p2 p3 p4
              obtain ⟨x1, x2, x3⟩ := tbox_cells XB.out
              go_wp2_with fail
              (with_reducible refine (wId_any w0.heap.size g _ sk (y0, y1) _ G18.out.st (by have := LK.out; omega)).mono ?_)
              rintro e19 w19 ⟨rfl, v19, h1, h2⟩
              have XC := Lib.hid (show TBox w19 wr.heap.size y0 y1 y2 from h2.kept G18.out.st XB.out (by decide) (by decide))
              clear XB
              (try clear c1 c2 c3 c4)
              (try clear c1 c2 c3)
              (try clear x1 x2 x3 x4)
              (try clear x1 x2 x3)
              have XB := XC
              clear XC
              have G19 := Lib.hid (G18.out.step H0.out h1 h2)
              clear h1 h2 p0 p1 p2 p3 p4 G18
              obtain ⟨p0, p1, p2, p3, p4⟩ := vbox_cells G19.out.x
              dsimp only at p0 p1 p2 p3 p4
              obtain ⟨x1, x2, x3⟩ := tbox_cells XB.out
              go_wp2_with fail
              (with_reducible refine (wNum_any w0.heap.size g _ (wId sk (y0, y1)) y2 _ G19.out.st (by have := LK.out; have := wId_len sk (y0, y1); omega)).mono ?_)
              rintro e20 w20 ⟨rfl, v20, h1, h2⟩
              have G20 := Lib.hid (G19.out.step H0.out h1 h2)
              clear h1 h2 p0 p1 p2 p3 p4 G19
              obtain ⟨p0, p1, p2, p3, p4⟩ := vbox_cells G20.out.x
              dsimp only at p0 p1 p2 p3 p4
              go_wp2_with fail
              go_roundw
              case rel => exact ⟨k + 1, _, by omega, by go_num, by rw [HFK.out]; exact G20⟩
              case measure => simp [intOf]; omega
            · have hd : decide ((k : Int) < (V.c.length : Int)) = false := by simp; omega
              have HWL := Lib.hid (show (V.c.take k).foldl wTick (wNum (wList wRow (wIds (wList wMem s V.m) V.f) V.r) (V.c.length : Int)) = wList wTick (wList wRow (wIds (wList wMem s V.m) V.f) V.r) V.c by rw [List.take_of_length_le (by omega)]; rfl)
              rw [HWL.out] at G17
              have G21 := G17
              clear G17 HWL hk
              go_wp2_with fail
              clear hlt hd
              have HL4 := Lib.hid (wList_len wTick_len HF.out.c (wList wRow (wIds (wList wMem s V.m) V.f) V.r) 40000000 (Nat.le_trans HL3.out (by decide)))
              (with_reducible refine (wIds_any w0.heap.size g _ _ (wList wTick (wList wRow (wIds (wList wMem s V.m) V.f) V.r) V.c) V.s _ G21.out.st (by have := HL4.out; omega) G21.out.r.s).mono ?_)
              rintro e22 w22 ⟨rfl, v22, h1, h2⟩
              have G22 := Lib.hid (G21.out.step H0.out h1 h2)
              clear h1 h2 p0 p1 p2 p3 p4 G21
              obtain ⟨p0, p1, p2, p3, p4⟩ := vbox_cells G22.out.x
              dsimp only at p0 p1 p2 p3 p4
              go_wp2_with fail
              go_end0
              exact ⟨rfl, _, G22.out.st, G22.out.p⟩
end Go.Proofs.YtkeiekljedhllaaGreat
namespace Go.Proofs.YtkeiekljedhllaaGreat
open Go Go.RowKit
/-- The value v is a frame, and reads as F. -/
def FAt (w : World) (v : Value) (F : Fr) : Prop := ∃ a b c d e : SL, v = .agg #[.int .u8 F.k, .int .i64 F.f.1, .int .i64 F.f.2, .int .i64 F.t.1, .int .i64 F.t.2, .int .i64 F.n, .int .i64 F.q, .int .i64 F.b.1, .int .i64 F.b.2, .slice a.1 a.2.1 a.2.2, .slice b.1 b.2.1 b.2.2, .slice c.1 c.2.1 c.2.2, .slice d.1 d.2.1 d.2.2, .slice e.1 e.2.1 e.2.2] ∧ RV w a b c d e F.v
theorem FAt.below {w w' : World} {v : Value} {F : Fr} (h : FAt w v F) (hb : Below w.heap.size w w') : FAt w' v F := by
  obtain ⟨a, b, c, d, e, h1, h2⟩ := h
  exact ⟨a, b, c, d, e, h1, h2.below hb⟩
/-- Block g holds the frame F, of these slices. -/
def FBox (w : World) (g : Nat) (F : Fr) (a b c d e : SL) : Prop := w.heap[g]? = some (.cells #[.int .u8 F.k, .int .i64 F.f.1, .int .i64 F.f.2, .int .i64 F.t.1, .int .i64 F.t.2, .int .i64 F.n, .int .i64 F.q, .int .i64 F.b.1, .int .i64 F.b.2, .slice a.1 a.2.1 a.2.2, .slice b.1 b.2.1 b.2.2, .slice c.1 c.2.1 c.2.2, .slice d.1 d.2.1 d.2.2, .slice e.1 e.2.1 e.2.2] 39 (0, 0))
theorem fbox_cells {w : World} {g : Nat} {F : Fr} {a b c d e : SL} (h : FBox w g F a b c d e) : w.cell? ⟨g, 0, none⟩ = some (.int .u8 F.k) ∧ w.cell? ⟨g, 1, none⟩ = some (.int .i64 F.f.1) ∧ w.cell? ⟨g, 2, none⟩ = some (.int .i64 F.f.2) ∧ w.cell? ⟨g, 3, none⟩ = some (.int .i64 F.t.1) ∧ w.cell? ⟨g, 4, none⟩ = some (.int .i64 F.t.2) ∧ w.cell? ⟨g, 5, none⟩ = some (.int .i64 F.n) ∧ w.cell? ⟨g, 6, none⟩ = some (.int .i64 F.q) ∧ w.cell? ⟨g, 7, none⟩ = some (.int .i64 F.b.1) ∧ w.cell? ⟨g, 8, none⟩ = some (.int .i64 F.b.2) ∧ w.cell? ⟨g, 9, none⟩ = some (.slice a.1 a.2.1 a.2.2) ∧ w.cell? ⟨g, 10, none⟩ = some (.slice b.1 b.2.1 b.2.2) ∧ w.cell? ⟨g, 11, none⟩ = some (.slice c.1 c.2.1 c.2.2) ∧ w.cell? ⟨g, 12, none⟩ = some (.slice d.1 d.2.1 d.2.2) ∧ w.cell? ⟨g, 13, none⟩ = some (.slice e.1 e.2.1 e.2.2) := by
  unfold FBox at h
  refine ⟨?_, ?_, ?_, ?_, ?_, ?_, ?_, ?_, ?_, ?_, ?_, ?_, ?_, ?_⟩ <;> (rw [cell_of_row _ _ _ _ _ _ h]; rfl)
theorem fbox_free {w : World} {g : Nat} {F : Fr} {a b c d e : SL} (h : FBox w g F a b c d e) : w.frozen? ⟨g, 0, none⟩ = false ∧ w.frozen? ⟨g, 1, none⟩ = false ∧ w.frozen? ⟨g, 2, none⟩ = false ∧ w.frozen? ⟨g, 3, none⟩ = false ∧ w.frozen? ⟨g, 4, none⟩ = false ∧ w.frozen? ⟨g, 5, none⟩ = false ∧ w.frozen? ⟨g, 6, none⟩ = false ∧ w.frozen? ⟨g, 7, none⟩ = false ∧ w.frozen? ⟨g, 8, none⟩ = false ∧ w.frozen? ⟨g, 9, none⟩ = false ∧ w.frozen? ⟨g, 10, none⟩ = false ∧ w.frozen? ⟨g, 11, none⟩ = false ∧ w.frozen? ⟨g, 12, none⟩ = false ∧ w.frozen? ⟨g, 13, none⟩ = false := by
  unfold FBox at h
  refine ⟨?_, ?_, ?_, ?_, ?_, ?_, ?_, ?_, ?_, ?_, ?_, ?_, ?_, ?_⟩ <;> simp [World.frozen?, h]
theorem fbox_new (w : World) (F : Fr) (a b c d e : SL) : FBox (w.alloc (.cells #[.int .u8 F.k, .int .i64 F.f.1, .int .i64 F.f.2, .int .i64 F.t.1, .int .i64 F.t.2, .int .i64 F.n, .int .i64 F.q, .int .i64 F.b.1, .int .i64 F.b.2, .slice a.1 a.2.1 a.2.2, .slice b.1 b.2.1 b.2.2, .slice c.1 c.2.1 c.2.2, .slice d.1 d.2.1 d.2.2, .slice e.1 e.2.1 e.2.2] 39)) w.heap.size F a b c d e := heap_alloc_new w _
theorem fbox_lt {w : World} {g : Nat} {F : Fr} {a b c d e : SL} (h : FBox w g F a b c d e) : g < w.heap.size := row_lt h
theorem fbox_below {w w' : World} {g : Nat} {F : Fr} {a b c d e : SL} (h : FBox w g F a b c d e) (hb : Below w.heap.size w w') : FBox w' g F a b c d e := (hb.block _ (fbox_lt h)).trans h
theorem RV.fat {w : World} {a b c d e : SL} {F : Fr} (h : RV w a b c d e F.v) : FAt w (.agg #[.int .u8 F.k, .int .i64 F.f.1, .int .i64 F.f.2, .int .i64 F.t.1, .int .i64 F.t.2, .int .i64 F.n, .int .i64 F.q, .int .i64 F.b.1, .int .i64 F.b.2, .slice a.1 a.2.1 a.2.2, .slice b.1 b.2.1 b.2.2, .slice c.1 c.2.1 c.2.2, .slice d.1 d.2.1 d.2.2, .slice e.1 e.2.1 e.2.2]) F := ⟨a, b, c, d, e, rfl, h⟩
theorem putS_ge (s : WS) (b : List UInt8) (e : Nat) : s.1.length ≤ (putS s b e).1.length := by rw [putS_len]; omega
theorem wNum_ge (s : WS) (n : Int) : s.1.length ≤ (wNum s n).1.length := putS_ge _ _ _
theorem wId_ge (s : WS) (x : Sets.Id2) : s.1.length ≤ (wId s x).1.length := Nat.le_trans (wNum_ge _ _) (wNum_ge _ _)
theorem wIds_ge (s : WS) (l : List Sets.Id2) : s.1.length ≤ (wIds s l).1.length := putS_ge _ _ _
theorem fold_ge {α : Type} {f : WS → α → WS} (h : ∀ s x, s.1.length ≤ (f s x).1.length) (l : List α) : ∀ s, s.1.length ≤ (l.foldl f s).1.length := by
  induction l with
  | nil => intro s; exact Nat.le_refl _
  | cons x l ih => intro s; exact Nat.le_trans (h s x) (ih _)
theorem wList_ge {α : Type} {f : WS → α → WS} (h : ∀ s x, s.1.length ≤ (f s x).1.length) (s : WS) (l : List α) : s.1.length ≤ (wList f s l).1.length := Nat.le_trans (wNum_ge _ _) (fold_ge h _ _)
theorem wView_ge (s : WS) (V : Vw) : s.1.length ≤ (wView s V).1.length := by
  unfold wView
  refine Nat.le_trans ?_ (wIds_ge _ _)
  refine Nat.le_trans ?_ (wList_ge (fun s x => Nat.le_trans (wId_ge _ _) (wNum_ge _ _)) _ _)
  refine Nat.le_trans ?_ (wList_ge (fun s x => Nat.le_trans (Nat.le_trans (wId_ge _ _) (wNum_ge _ _)) (wIds_ge _ _)) _ _)
  refine Nat.le_trans ?_ (wIds_ge _ _)
  exact wList_ge (fun s x => Nat.le_trans (Nat.le_trans (wId_ge _ _) (wNum_ge _ _)) (wNum_ge _ _)) _ _
theorem wFr_pos (F : Fr) (h : good F.k = true) : 0 < (wFr F).1.length := by
  unfold wFr
  refine Nat.lt_of_lt_of_le ?_ (wView_ge _ _)
  refine Nat.lt_of_lt_of_le ?_ (wId_ge _ _)
  refine Nat.lt_of_lt_of_le ?_ (wNum_ge _ _)
  refine Nat.lt_of_lt_of_le ?_ (wNum_ge _ _)
  refine Nat.lt_of_lt_of_le ?_ (wId_ge _ _)
  refine Nat.lt_of_lt_of_le ?_ (wId_ge _ _)
  unfold wNum outN
  rw [putS_len, h]
  have := (encI_lenCOD F.k).1
  simp
  omega
theorem wView_len (s : WS) (V : Vw) (hF : FitVIE 5000 V) (h : s.1.length ≤ 1000) : (wView s V).1.length ≤ 60000000 := by
  have h1 := wList_len wMem_len hF.m s 1000 h
  have h2 := wIds_len (wList wMem s V.m) V.f
  have h3 := wList_len wRow_len hF.r (wIds (wList wMem s V.m) V.f) 20000000 (by omega)
  have h4 := wList_len wTick_len hF.c (wList wRow (wIds (wList wMem s V.m) V.f) V.r) 40000000 (by omega)
  have h5 := wIds_len (wList wTick (wList wRow (wIds (wList wMem s V.m) V.f) V.r) V.c) V.s
  unfold wView
  omega
/-- What stands while a frame is written. -/
structure WfG (w0 : World) (g X : Nat) (F : Fr) (a b c d e : SL) (W : World) (v : Value) (s : WS) : Prop where
  x : FBox W X F a b c d e
  b : Below w0.heap.size w0 W
  st : WSt W w0.heap.size g v s
theorem WfG.step {w0 : World} {g X : Nat} {F : Fr} {a b c d e : SL} {W : World} {v1 : Value} {s : WS} (h : WfG w0 g X F a b c d e W v1 s) {W' : World} {v2 : Value} {s' : WS} (h1 : WSt W' w0.heap.size g v2 s') (h2 : Puts W g v1 W' v2) : WfG w0 g X F a b c d e W' v2 s' :=
  ⟨h2.kept h.st h.x (by decide) (by decide), h2.ahead h.b h.st, h1⟩
/-- The bytes of a frame, or what was wrong. -/
def body (F : Fr) : List UInt8 := if (wFr F).2 = 0 then (wFr F).1 else []
set_option maxHeartbeats 8000000 in
theorem written_any (v : Value) (F : Fr) (w : World) (h : FAt w v F) (hF : FitVIE 5000 F.v) (hst : ∀ x ∈ F.v.m, 0 ≤ x.2.1 ∧ x.2.1 ≤ 255) (hk : 0 ≤ F.k ∧ F.k ≤ 255) :
    Calls Tryz.prog 22 #[v] w fun e w' => e = .returned (.tuple #[.string (bs (body F)), .int .i64 ((wFr F).2 : Nat)]) ∧ Below w.heap.size w w' := by
  obtain ⟨a, b, c, d, e, rfl, hr⟩ := h
  have W0 := Lib.hid (show Below w.heap.size w (w.alloc (.cells #[.int .u8 F.k, .int .i64 F.f.1, .int .i64 F.f.2, .int .i64 F.t.1, .int .i64 F.t.2, .int .i64 F.n, .int .i64 F.q, .int .i64 F.b.1, .int .i64 F.b.2, .slice a.1 a.2.1 a.2.2, .slice b.1 b.2.1 b.2.2, .slice c.1 c.2.1 c.2.2, .slice d.1 d.2.1 d.2.2, .slice e.1 e.2.1 e.2.2] 39)) from below_one w _)
  have X0 := Lib.hid (show FBox (w.alloc (.cells #[.int .u8 F.k, .int .i64 F.f.1, .int .i64 F.f.2, .int .i64 F.t.1, .int .i64 F.t.2, .int .i64 F.n, .int .i64 F.q, .int .i64 F.b.1, .int .i64 F.b.2, .slice a.1 a.2.1 a.2.2, .slice b.1 b.2.1 b.2.2, .slice c.1 c.2.1 c.2.2, .slice d.1 d.2.1 d.2.2, .slice e.1 e.2.1 e.2.2] 39)) w.heap.size F a b c d e from fbox_new w F a b c d e)
  have R0 := Lib.hid (show VAt (w.alloc (.cells #[.int .u8 F.k, .int .i64 F.f.1, .int .i64 F.f.2, .int .i64 F.t.1, .int .i64 F.t.2, .int .i64 F.n, .int .i64 F.q, .int .i64 F.b.1, .int .i64 F.b.2, .slice a.1 a.2.1 a.2.2, .slice b.1 b.2.1 b.2.2, .slice c.1 c.2.1 c.2.2, .slice d.1 d.2.1 d.2.2, .slice e.1 e.2.1 e.2.2] 39)) (.agg #[.slice a.1 a.2.1 a.2.2, .slice b.1 b.2.1 b.2.2, .slice c.1 c.2.1 c.2.2, .slice d.1 d.2.1 d.2.2, .slice e.1 e.2.1 e.2.2]) F.v from (hr.below (below_one w _)).at_)
  have HF := Lib.hid hF
  have HST := Lib.hid hst
  have HP := Lib.hid (wFr_pos F (by unfold good; simp; omega))
  have HVL := Lib.hid fun s => wView_len s F.v hF
  have HW : Hid (wFr F = wView (wId (wNum (wNum (wId (wId (wNum ([], 0) F.k) F.f) F.t) F.n) F.q) F.b) F.v) := Lib.hid rfl
  obtain ⟨t0, t1⟩ := hk
  clear hr hF hst
  have HZ := Lib.hid (show (w.alloc (.cells #[.int .u8 F.k, .int .i64 F.f.1, .int .i64 F.f.2, .int .i64 F.t.1, .int .i64 F.t.2, .int .i64 F.n, .int .i64 F.q, .int .i64 F.b.1, .int .i64 F.b.2, .slice a.1 a.2.1 a.2.2, .slice b.1 b.2.1 b.2.2, .slice c.1 c.2.1 c.2.2, .slice d.1 d.2.1 d.2.2, .slice e.1 e.2.1 e.2.2] 39)).heap.size = w.heap.size + 1 by simp)
  have X1 := Lib.hid (show GBox ((w.alloc (.cells #[.int .u8 F.k, .int .i64 F.f.1, .int .i64 F.f.2, .int .i64 F.t.1, .int .i64 F.t.2, .int .i64 F.n, .int .i64 F.q, .int .i64 F.b.1, .int .i64 F.b.2, .slice a.1 a.2.1 a.2.2, .slice b.1 b.2.1 b.2.2, .slice c.1 c.2.1 c.2.2, .slice d.1 d.2.1 d.2.2, .slice e.1 e.2.1 e.2.2] 39)).alloc (.cells #[.slice none 0 0, .int .i64 0] 74)) (w.heap.size + 1) (.slice none 0 0) 0 by have := gbox_new (w.alloc (.cells #[.int .u8 F.k, .int .i64 F.f.1, .int .i64 F.f.2, .int .i64 F.t.1, .int .i64 F.t.2, .int .i64 F.n, .int .i64 F.q, .int .i64 F.b.1, .int .i64 F.b.2, .slice a.1 a.2.1 a.2.2, .slice b.1 b.2.1 b.2.2, .slice c.1 c.2.1 c.2.2, .slice d.1 d.2.1 d.2.2, .slice e.1 e.2.1 e.2.2] 39)); rw [HZ.out] at this; exact this)
  have G0 := Lib.hid (show WfG (w.alloc (.cells #[.int .u8 F.k, .int .i64 F.f.1, .int .i64 F.f.2, .int .i64 F.t.1, .int .i64 F.t.2, .int .i64 F.n, .int .i64 F.q, .int .i64 F.b.1, .int .i64 F.b.2, .slice a.1 a.2.1 a.2.2, .slice b.1 b.2.1 b.2.2, .slice c.1 c.2.1 c.2.2, .slice d.1 d.2.1 d.2.2, .slice e.1 e.2.1 e.2.2] 39)) (w.heap.size + 1) w.heap.size F a b c d e ((w.alloc (.cells #[.int .u8 F.k, .int .i64 F.f.1, .int .i64 F.f.2, .int .i64 F.t.1, .int .i64 F.t.2, .int .i64 F.n, .int .i64 F.q, .int .i64 F.b.1, .int .i64 F.b.2, .slice a.1 a.2.1 a.2.2, .slice b.1 b.2.1 b.2.2, .slice c.1 c.2.1 c.2.2, .slice d.1 d.2.1 d.2.2, .slice e.1 e.2.1 e.2.2] 39)).alloc (.cells #[.slice none 0 0, .int .i64 0] 74)) (.slice none 0 0) ([], 0) from ⟨fbox_below X0.out (below_one _ _), below_one _ _, X1.out, owns_nilCOD _ _, Nat.le_of_eq HZ.out⟩)
  clear HZ X1
  obtain ⟨p0, p1, p2, p3, p4, p5, p6, p7, p8, p9, p10, p11, p12, p13⟩ := fbox_cells G0.out.x
  go_enter Tryz.func22, Tryz.ntmps22
  go_wp2_with fail
  generalize hw0 : w.alloc (.cells #[.int .u8 F.k, .int .i64 F.f.1, .int .i64 F.f.2, .int .i64 F.t.1, .int .i64 F.t.2, .int .i64 F.n, .int .i64 F.q, .int .i64 F.b.1, .int .i64 F.b.2, .slice a.1 a.2.1 a.2.2, .slice b.1 b.2.1 b.2.2, .slice c.1 c.2.1 c.2.2, .slice d.1 d.2.1 d.2.2, .slice e.1 e.2.1 e.2.2] 39) = w0 at *
  clear hw0
  have L0 := Lib.hid (show (([], 0) : WS).1.length ≤ 0 from Nat.le_refl _)
  (with_reducible refine (wNum_any w0.heap.size (w.heap.size + 1) _ ([], 0) F.k _ G0.out.st (by have := L0.out; omega)).mono ?_)
  rintro e1 w1 ⟨rfl, v1, h1, h2⟩
  have G1 := Lib.hid (G0.out.step h1 h2)
  clear h1 h2 p0 p1 p2 p3 p4 p5 p6 p7 p8 p9 p10 p11 p12 p13 G0
  obtain ⟨p0, p1, p2, p3, p4, p5, p6, p7, p8, p9, p10, p11, p12, p13⟩ := fbox_cells G1.out.x
  go_wp2_with fail
  have L1 := Lib.hid (show (wNum ([], 0) F.k).1.length ≤ 6 by have := L0.out; have := wNum_len ([], 0) F.k; omega)
  (with_reducible refine (wId_any w0.heap.size (w.heap.size + 1) _ (wNum ([], 0) F.k) F.f _ G1.out.st (by have := L1.out; omega)).mono ?_)
  rintro e2 w2 ⟨rfl, v2, h1, h2⟩
  have G2 := Lib.hid (G1.out.step h1 h2)
  clear h1 h2 p0 p1 p2 p3 p4 p5 p6 p7 p8 p9 p10 p11 p12 p13 G1
  obtain ⟨p0, p1, p2, p3, p4, p5, p6, p7, p8, p9, p10, p11, p12, p13⟩ := fbox_cells G2.out.x
  go_wp2_with fail
  have L2 := Lib.hid (show (wId (wNum ([], 0) F.k) F.f).1.length ≤ 18 by have := L1.out; have := wId_len (wNum ([], 0) F.k) F.f; omega)
  (with_reducible refine (wId_any w0.heap.size (w.heap.size + 1) _ (wId (wNum ([], 0) F.k) F.f) F.t _ G2.out.st (by have := L2.out; omega)).mono ?_)
  rintro e3 w3 ⟨rfl, v3, h1, h2⟩
  have G3 := Lib.hid (G2.out.step h1 h2)
  clear h1 h2 p0 p1 p2 p3 p4 p5 p6 p7 p8 p9 p10 p11 p12 p13 G2
  obtain ⟨p0, p1, p2, p3, p4, p5, p6, p7, p8, p9, p10, p11, p12, p13⟩ := fbox_cells G3.out.x
  go_wp2_with fail
  have L3 := Lib.hid (show (wId (wId (wNum ([], 0) F.k) F.f) F.t).1.length ≤ 30 by have := L2.out; have := wId_len (wId (wNum ([], 0) F.k) F.f) F.t; omega)
  (with_reducible refine (wNum_any w0.heap.size (w.heap.size + 1) _ (wId (wId (wNum ([], 0) F.k) F.f) F.t) F.n _ G3.out.st (by have := L3.out; omega)).mono ?_)
  rintro e4 w4 ⟨rfl, v4, h1, h2⟩
  have G4 := Lib.hid (G3.out.step h1 h2)
  clear h1 h2 p0 p1 p2 p3 p4 p5 p6 p7 p8 p9 p10 p11 p12 p13 G3
  obtain ⟨p0, p1, p2, p3, p4, p5, p6, p7, p8, p9, p10, p11, p12, p13⟩ := fbox_cells G4.out.x
  go_wp2_with fail
  have L4 := Lib.hid (show (wNum (wId (wId (wNum ([], 0) F.k) F.f) F.t) F.n).1.length ≤ 36 by have := L3.out; have := wNum_len (wId (wId (wNum ([], 0) F.k) F.f) F.t) F.n; omega)
  (with_reducible refine (wNum_any w0.heap.size (w.heap.size + 1) _ (wNum (wId (wId (wNum ([], 0) F.k) F.f) F.t) F.n) F.q _ G4.out.st (by have := L4.out; omega)).mono ?_)
  rintro e5 w5 ⟨rfl, v5, h1, h2⟩
  have G5 := Lib.hid (G4.out.step h1 h2)
  clear h1 h2 p0 p1 p2 p3 p4 p5 p6 p7 p8 p9 p10 p11 p12 p13 G4
  obtain ⟨p0, p1, p2, p3, p4, p5, p6, p7, p8, p9, p10, p11, p12, p13⟩ := fbox_cells G5.out.x
  go_wp2_with fail
  have L5 := Lib.hid (show (wNum (wNum (wId (wId (wNum ([], 0) F.k) F.f) F.t) F.n) F.q).1.length ≤ 42 by have := L4.out; have := wNum_len (wNum (wId (wId (wNum ([], 0) F.k) F.f) F.t) F.n) F.q; omega)
  (with_reducible refine (wId_any w0.heap.size (w.heap.size + 1) _ (wNum (wNum (wId (wId (wNum ([], 0) F.k) F.f) F.t) F.n) F.q) F.b _ G5.out.st (by have := L5.out; omega)).mono ?_)
  rintro e6 w6 ⟨rfl, v6, h1, h2⟩
  have G6 := Lib.hid (G5.out.step h1 h2)
  clear h1 h2 p0 p1 p2 p3 p4 p5 p6 p7 p8 p9 p10 p11 p12 p13 G5
  obtain ⟨p0, p1, p2, p3, p4, p5, p6, p7, p8, p9, p10, p11, p12, p13⟩ := fbox_cells G6.out.x
  go_wp2_with fail
  have L6 := Lib.hid (show (wId (wNum (wNum (wId (wId (wNum ([], 0) F.k) F.f) F.t) F.n) F.q) F.b).1.length ≤ 54 by have := L5.out; have := wId_len (wNum (wNum (wId (wId (wNum ([], 0) F.k) F.f) F.t) F.n) F.q) F.b; omega)
  have HVL1 := Lib.hid (HVL.out (wId (wNum (wNum (wId (wId (wNum ([], 0) F.k) F.f) F.t) F.n) F.q) F.b) (by have := L6.out; omega))
  have HW1 := Lib.hid (show wFr F = wView (wId (wNum (wNum (wId (wId (wNum ([], 0) F.k) F.f) F.t) F.n) F.q) F.b) F.v from HW.out)
  generalize hS : (wId (wNum (wNum (wId (wId (wNum ([], 0) F.k) F.f) F.t) F.n) F.q) F.b) = S at *
  clear hS L0 L1 L2 L3 L4 L5 HW HVL
  (with_reducible refine (wView_any (w.heap.size + 1) _ _ F.v S w0 _ R0.out HF.out HST.out G6.out.b G6.out.st (by have := L6.out; omega)).mono ?_)
  rintro e7 w7 ⟨rfl, v7, h1, h2⟩
  have G7 := Lib.hid (G6.out.step h1 h2)
  clear h1 h2 p0 p1 p2 p3 p4 p5 p6 p7 p8 p9 p10 p11 p12 p13 G6
  rw [← HW1.out] at G7
  have hp := HP.out
  have hl := HVL1.out
  rw [← HW1.out] at hl
  have HB : Hid (body F = if (wFr F).2 = 0 then (wFr F).1 else []) := Lib.hid rfl
  generalize hTT : wFr F = T at *
  have HTT := Lib.hid hTT
  clear hTT
  obtain ⟨T1, T2⟩ := T
  dsimp only at hp hl
  obtain ⟨c0, c1⟩ := gbox_cells G7.out.st.x
  dsimp only at c1
  have hc := owns_text G7.out.st.o hp
  dsimp only at hc
  by_cases hT : T2 = 0
  · have dT : ((T2 : Int) == 0) = true := by simp; omega
    have HB1 := Lib.hid (show body F = T1 by rw [HB.out]; exact if_pos hT)
    have HT := Lib.hid hT
    clear hT HB
    go_wp2_with fail
    go_ret2
    exact ⟨ret_pair (by rw [HB1.out]) (by rw [HTT.out]; show (0 : Int) = ((T2 : Nat) : Int); rw [HT.out]; rfl), W0.out.trans (G7.out.b.mono W0.out.size)⟩
  · have dT : ((T2 : Int) == 0) = false := by simp; omega
    have HB1 := Lib.hid (show body F = [] by rw [HB.out]; exact if_neg hT)
    have HT := Lib.hid hT
    clear hT HB
    go_wp2_with fail
    go_quiet (fail)
    go_wp2_with fail
    go_ret2
    exact ⟨ret_pair (by rw [HB1.out]; rfl) (by rw [HTT.out]), below_drewN (W0.out.trans (G7.out.b.mono W0.out.size))⟩
end Go.Proofs.YtkeiekljedhllaaGreat
namespace Go.Proofs.YtkeiekljedhllaaGreat
open Go Go.RowKit
/-- The byte at place i, when k are there. -/
def cb (x k i : Nat) : Value := .int .u8 ((if i < k then x / 256 ^ i % 256 else 0 : Nat) : Int)
/-- Block g holds the first k bytes of a number. -/
def CBox (w : World) (g x k : Nat) : Prop := w.heap[g]? = some (.cells #[cb x k 0, cb x k 1, cb x k 2, cb x k 3] 79 (0, 0))
theorem cbox_cell {w : World} {g x k : Nat} (h : CBox w g x k) (i : Nat) (hi : i < 4) : w.cell? ⟨g, i, none⟩ = some (cb x k i) := by
  unfold CBox at h
  rw [cell_of_row _ _ _ _ _ _ h]
  match i, hi with
  | 0, _ => rfl
  | 1, _ => rfl
  | 2, _ => rfl
  | 3, _ => rfl
theorem cbox_free {w : World} {g x k : Nat} (h : CBox w g x k) (i : Nat) : w.frozen? ⟨g, i, none⟩ = false := by
  unfold CBox at h
  simp [World.frozen?, h]
theorem cbox_new (w : World) (x : Nat) : CBox (w.alloc (.cells #[.int .u8 0, .int .u8 0, .int .u8 0, .int .u8 0] 79)) w.heap.size x 0 := heap_alloc_new w _
theorem cbox_set {w : World} {g x k : Nat} (h : CBox w g x k) (hk : k < 4) (v : Value) (hv : v = .int .u8 ((x / 256 ^ k % 256 : Nat) : Int)) : CBox (w.setCell ⟨g, k, none⟩ v) g x (k + 1) := by
  subst hv
  unfold CBox at *
  match k, hk with
  | 0, _ => simp [World.setCell, Array.getElem?_modify, h, cb]
  | 1, _ => simp [World.setCell, Array.getElem?_modify, h, cb]
  | 2, _ => simp [World.setCell, Array.getElem?_modify, h, cb]
  | 3, _ => simp [World.setCell, Array.getElem?_modify, h, cb]
theorem cbox_text {w : World} {g x : Nat} (h : CBox w g x 4) : (convert 63 9 (.slice (some ⟨g, 0, none⟩) 4 4)).run Tryz.prog w = .ok (.string (bs (le4 x))) w := by
  have e : (le4 x).map (fun c => (c.toNat : Int)) = [((x % 256 : Nat) : Int), ((x / 256 % 256 : Nat) : Int), ((x / 65536 % 256 : Nat) : Int), ((x / 16777216 % 256 : Nat) : Int)] := by simp [le4]
  have := run_convert_bytes_arg (P := Tryz.prog) w 63 5 Tryz.underlying63 Tryz.underlying5 g 0 4 4 ((le4 x).map fun c => (c.toNat : Int)) (by simp [le4]) (fun i hi => by
    rw [Nat.zero_add, cbox_cell h i hi, e]
    match i, hi with
    | 0, _ => simp [cb]
    | 1, _ => simp [cb]
    | 2, _ => simp [cb]
    | 3, _ => simp [cb]) 9 Tryz.underlying9
  rw [strOfNums_bytes] at this
  exact this
theorem below_cbox {w wr : World} {g k : Nat} (v : Value) (h : Below w.heap.size w wr) (hg : w.heap.size ≤ g) : Below w.heap.size w (wr.setCell ⟨g, k, none⟩ v) :=
  ⟨h.os, h.tape, h.output, by have := h.size; simpa [World.setCell] using this, fun i hi => (Below.heap_setCell _ _ _ _ (Nat.ne_of_lt (Nat.lt_of_lt_of_le hi hg))).trans (h.block i hi)⟩
set_option maxHeartbeats 1000000 in
theorem checksum_any (s : ByteArray) (w : World) (hs : s.size ≤ 281474976710656) :
    Calls Tryz.prog 23 #[.string s] w fun e w' => e = .returned (.string (bs (le4 (Crc.add 0 s.data.toList)))) ∧ Below w.heap.size w w' := by
  have HX := Lib.hid (Crc.add_lt 0 s.data.toList)
  have HS := Lib.hid (sum_any s w hs)
  generalize Crc.add 0 s.data.toList = x at *
  go_enter Tryz.func23, Tryz.ntmps23
  go_wp2_with fail
  (with_reducible refine HS.out.mono ?_)
  rintro e1 w1 ⟨rfl, hb⟩
  have HB := Lib.hid (show Below w.heap.size w (w1.alloc (.cells #[.int .u8 0, .int .u8 0, .int .u8 0, .int .u8 0] 79)) from hb.trans ((below_one w1 _).mono hb.size))
  have HC := Lib.hid (cbox_new w1 x)
  have HZ := Lib.hid hb.size
  clear hb HS
  go_wp2_with fail
  go_loopw [3, 8] (fun s3 s8 wr => ∃ k : Nat, k ≤ 4 ∧ s8 = .int .i64 k ∧ s3 = .int .u32 ((x / 256 ^ k : Nat) : Int) ∧ Hid (CBox wr w1.heap.size x k) ∧ Hid (Below w.heap.size w wr)) (fun _ s8 _ => 4 - (intOf s8).toNat)
  case atStart => exact ⟨0, by omega, rfl, by simp, HC, HB⟩
  case round =>
    clear HC HB
    obtain ⟨k, hk, rfl, rfl, HC, HB⟩ := hrel
    by_cases hlt : k < 4
    · have i1 : (0 : Int) ≤ (k : Int) := by omega
      have i2 : (k : Int) < 4 := by omega
      have q1 := cbox_cell HC.out k hlt
      have q2 := cbox_free HC.out k
      have HY := Lib.hid (cbox_set HC.out hlt (.int .u8 ((x / 256 ^ k % 256 : Nat) : Int)) rfl)
      have HD := Lib.hid (show x / 256 ^ (k + 1) = x / 256 ^ k / 256 by rw [Nat.pow_succ, Nat.div_div_eq_div_mul])
      have HL := Lib.hid (Nat.lt_of_le_of_lt (Nat.div_le_self x (256 ^ k)) HX.out)
      generalize x / 256 ^ k = y at *
      have hy := HL.out
      go_wp2_with fail
      go_roundw
      case rel => exact ⟨k + 1, by omega, by go_num, by rw [HD.out]; simp, by simpa using HY, Lib.hid (below_cbox _ HB.out HZ.out)⟩
      case measure => simp [intOf]; omega
    · obtain rfl : k = 4 := by omega
      have hc := cbox_text HC.out
      go_wp2_with fail
      go_ret
      exact ⟨rfl, HB.out⟩
end Go.Proofs.YtkeiekljedhllaaGreat
