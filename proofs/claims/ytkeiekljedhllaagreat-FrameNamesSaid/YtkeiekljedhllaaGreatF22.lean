/-
  Carried over and put together: contracts of this program's functions, and plain facts. No statement is proved in this text.
-/
import Derived.Test.YtkeiekljedhllaaGreatF21
set_option maxRecDepth 20000
namespace Go.Proofs.YtkeiekljedhllaaGreat
open Go Go.RowKit
theorem below_gone {w w' : World} {B x : Nat} (k : w.grownBy w' (some x)) (hx : B ≤ x) (hB : B ≤ w.heap.size) : Below B w w' := ⟨k.os, k.tape, k.output, k.size, fun i hi => k.block i (Nat.lt_of_lt_of_le hi hB) (fun e => by injection e with e; omega)⟩
theorem grownThen {a b c : World} {x : Nat} (h : a.grownBy b (some x)) (k : b.grownBy c (some x)) : a.grownBy c (some x) := grown_transCOD h k
theorem fbox_put_k {w : World} {g : Nat} {F : Fr} {a b c d e : SL} (h : FBox w g F a b c d e) (k : Int) : FBox (w.setCell ⟨g, 0, none⟩ (.int .u8 k)) g {F with k := k} a b c d e := by
  unfold FBox at *
  simp [World.setCell, Array.getElem?_modify, h]
theorem fbox_put_f {w : World} {g : Nat} {F : Fr} {a b c d e : SL} (h : FBox w g F a b c d e) (x : Sets.Id2) : FBox ((w.setCell ⟨g, 1, none⟩ (.int .i64 x.1)).setCell ⟨g, 2, none⟩ (.int .i64 x.2)) g {F with f := x} a b c d e := by
  unfold FBox at *
  simp [World.setCell, Array.getElem?_modify, h]
theorem fbox_put_t {w : World} {g : Nat} {F : Fr} {a b c d e : SL} (h : FBox w g F a b c d e) (x : Sets.Id2) : FBox ((w.setCell ⟨g, 3, none⟩ (.int .i64 x.1)).setCell ⟨g, 4, none⟩ (.int .i64 x.2)) g {F with t := x} a b c d e := by
  unfold FBox at *
  simp [World.setCell, Array.getElem?_modify, h]
theorem fbox_put_n {w : World} {g : Nat} {F : Fr} {a b c d e : SL} (h : FBox w g F a b c d e) (k : Int) : FBox (w.setCell ⟨g, 5, none⟩ (.int .i64 k)) g {F with n := k} a b c d e := by
  unfold FBox at *
  simp [World.setCell, Array.getElem?_modify, h]
theorem fbox_put_q {w : World} {g : Nat} {F : Fr} {a b c d e : SL} (h : FBox w g F a b c d e) (k : Int) : FBox (w.setCell ⟨g, 6, none⟩ (.int .i64 k)) g {F with q := k} a b c d e := by
  unfold FBox at *
  simp [World.setCell, Array.getElem?_modify, h]
theorem fbox_put_b {w : World} {g : Nat} {F : Fr} {a b c d e : SL} (h : FBox w g F a b c d e) (x : Sets.Id2) : FBox ((w.setCell ⟨g, 7, none⟩ (.int .i64 x.1)).setCell ⟨g, 8, none⟩ (.int .i64 x.2)) g {F with b := x} a b c d e := by
  unfold FBox at *
  simp [World.setCell, Array.getElem?_modify, h]
theorem fbox_put_v {w : World} {g : Nat} {F : Fr} {a b c d e : SL} (h : FBox w g F a b c d e) (V : Vw) (a' b' c' d' e' : SL) : FBox (((((w.setCell ⟨g, 9, none⟩ (.slice a'.1 a'.2.1 a'.2.2)).setCell ⟨g, 10, none⟩ (.slice b'.1 b'.2.1 b'.2.2)).setCell ⟨g, 11, none⟩ (.slice c'.1 c'.2.1 c'.2.2)).setCell ⟨g, 12, none⟩ (.slice d'.1 d'.2.1 d'.2.2)).setCell ⟨g, 13, none⟩ (.slice e'.1 e'.2.1 e'.2.2)) g {F with v := V} a' b' c' d' e' := by
  unfold FBox at *
  simp [World.setCell, Array.getElem?_modify, h]
/-- What stands while a frame is read. -/
structure ReG (w : World) (p g Z Y : Nat) (F : Fr) (a b c d e : SL) (W : World) (s : RS) : Prop where
  z : FBox W Z ⟨0, (0, 0), (0, 0), 0, 0, (0, 0), ⟨[], [], [], [], []⟩⟩ (none, 0, 0) (none, 0, 0) (none, 0, 0) (none, 0, 0) (none, 0, 0)
  y : FBox W Y F a b c d e
  o : OwnV W w.heap.size a b c d e F.v
  r : RSt W p g s
  b : Below w.heap.size w W
  n : Z ≠ Y ∧ p ≠ Y ∧ g ≠ Y ∧ w.heap.size ≤ Y ∧ w.heap.size ≤ p ∧ w.heap.size ≤ g ∧ w.heap.size ≤ Z ∧ p ≠ Z ∧ g ≠ Z
theorem ReG.step {w : World} {p g Z Y : Nat} {F : Fr} {a b c d e : SL} {W W' : World} {s s' : RS} (h : ReG w p g Z Y F a b c d e W s) (h1 : RSt W' p g s') (h2 : Gr p g W W') : ReG w p g Z Y F a b c d e W' s' :=
  ⟨h2.kept h.r h.z (by decide) (by decide), h2.kept h.r h.y (by decide) (by decide), h.o.gr h.r h2, h1,
    h.b.trans ⟨h2.os, h2.tape, h2.output, h2.size, fun k hk => h2.block k (Nat.lt_of_lt_of_le hk h.b.size) (by have := h.n; omega) (by have := h.n; omega)⟩, h.n⟩
theorem ReG.write {w : World} {p g Z Y : Nat} {F F' : Fr} {a b c d e a' b' c' d' e' : SL} {W W' : World} {s : RS} (h : ReG w p g Z Y F a b c d e W s) (k : W.grownBy W' (some Y)) (hy : FBox W' Y F' a' b' c' d' e') (ho : OwnV W' w.heap.size a' b' c' d' e' F'.v) : ReG w p g Z Y F' a' b' c' d' e' W' s :=
  ⟨(k.block Z (fbox_lt h.z) (fun e => h.n.1 (by injection e))).trans h.z, hy, ho, ⟨(k.block p h.r.lt.1 (fun e => h.n.2.1 (by injection e))).trans h.r.x, (k.block g h.r.lt.2 (fun e => h.n.2.2.1 (by injection e))).trans h.r.r⟩,
    h.b.trans ⟨k.os, k.tape, k.output, k.size, fun i hi => k.block i (Nat.lt_of_lt_of_le hi h.b.size) (fun e => by injection e with e; have := h.n; omega)⟩, h.n⟩
theorem re_start (w : World) (l : List UInt8) : ReG w (w.heap.size + 1 + 1) (w.heap.size + 1) w.heap.size (w.heap.size + 1 + 1 + 1) ⟨0, (0, 0), (0, 0), 0, 0, (0, 0), ⟨[], [], [], [], []⟩⟩ (none, 0, 0) (none, 0, 0) (none, 0, 0) (none, 0, 0) (none, 0, 0) ((((w.alloc (.cells #[.int .u8 0, .int .i64 0, .int .i64 0, .int .i64 0, .int .i64 0, .int .i64 0, .int .i64 0, .int .i64 0, .int .i64 0, .slice none 0 0, .slice none 0 0, .slice none 0 0, .slice none 0 0, .slice none 0 0] 39)).alloc (.cells #[.string (bs l), .int .i64 0] 113)).alloc (.cells #[.pointer (some ⟨w.heap.size + 1, 0, none⟩), .bool false] 84)).alloc (.cells #[.int .u8 0, .int .i64 0, .int .i64 0, .int .i64 0, .int .i64 0, .int .i64 0, .int .i64 0, .int .i64 0, .int .i64 0, .slice none 0 0, .slice none 0 0, .slice none 0 0, .slice none 0 0, .slice none 0 0] 39)) (l, 0, false) := by
  have b1 := below_one w (.cells #[.int .u8 0, .int .i64 0, .int .i64 0, .int .i64 0, .int .i64 0, .int .i64 0, .int .i64 0, .int .i64 0, .int .i64 0, .slice none 0 0, .slice none 0 0, .slice none 0 0, .slice none 0 0, .slice none 0 0] 39)
  have b2 := below_one (w.alloc (.cells #[.int .u8 0, .int .i64 0, .int .i64 0, .int .i64 0, .int .i64 0, .int .i64 0, .int .i64 0, .int .i64 0, .int .i64 0, .slice none 0 0, .slice none 0 0, .slice none 0 0, .slice none 0 0, .slice none 0 0] 39)) (.cells #[.string (bs l), .int .i64 0] 113)
  have b3 := below_one ((w.alloc (.cells #[.int .u8 0, .int .i64 0, .int .i64 0, .int .i64 0, .int .i64 0, .int .i64 0, .int .i64 0, .int .i64 0, .int .i64 0, .slice none 0 0, .slice none 0 0, .slice none 0 0, .slice none 0 0, .slice none 0 0] 39)).alloc (.cells #[.string (bs l), .int .i64 0] 113)) (.cells #[.pointer (some ⟨w.heap.size + 1, 0, none⟩), .bool false] 84)
  have b4 := below_one (((w.alloc (.cells #[.int .u8 0, .int .i64 0, .int .i64 0, .int .i64 0, .int .i64 0, .int .i64 0, .int .i64 0, .int .i64 0, .int .i64 0, .slice none 0 0, .slice none 0 0, .slice none 0 0, .slice none 0 0, .slice none 0 0] 39)).alloc (.cells #[.string (bs l), .int .i64 0] 113)).alloc (.cells #[.pointer (some ⟨w.heap.size + 1, 0, none⟩), .bool false] 84)) (.cells #[.int .u8 0, .int .i64 0, .int .i64 0, .int .i64 0, .int .i64 0, .int .i64 0, .int .i64 0, .int .i64 0, .int .i64 0, .slice none 0 0, .slice none 0 0, .slice none 0 0, .slice none 0 0, .slice none 0 0] 39)
  have h1 : (w.alloc (.cells #[.int .u8 0, .int .i64 0, .int .i64 0, .int .i64 0, .int .i64 0, .int .i64 0, .int .i64 0, .int .i64 0, .int .i64 0, .slice none 0 0, .slice none 0 0, .slice none 0 0, .slice none 0 0, .slice none 0 0] 39)).heap.size = w.heap.size + 1 := by simp
  have h2 : ((w.alloc (.cells #[.int .u8 0, .int .i64 0, .int .i64 0, .int .i64 0, .int .i64 0, .int .i64 0, .int .i64 0, .int .i64 0, .int .i64 0, .slice none 0 0, .slice none 0 0, .slice none 0 0, .slice none 0 0, .slice none 0 0] 39)).alloc (.cells #[.string (bs l), .int .i64 0] 113)).heap.size = w.heap.size + 1 + 1 := by simp
  have h3 : (((w.alloc (.cells #[.int .u8 0, .int .i64 0, .int .i64 0, .int .i64 0, .int .i64 0, .int .i64 0, .int .i64 0, .int .i64 0, .int .i64 0, .slice none 0 0, .slice none 0 0, .slice none 0 0, .slice none 0 0, .slice none 0 0] 39)).alloc (.cells #[.string (bs l), .int .i64 0] 113)).alloc (.cells #[.pointer (some ⟨w.heap.size + 1, 0, none⟩), .bool false] 84)).heap.size = w.heap.size + 1 + 1 + 1 := by simp
  have k2 : ((w.alloc (.cells #[.int .u8 0, .int .i64 0, .int .i64 0, .int .i64 0, .int .i64 0, .int .i64 0, .int .i64 0, .int .i64 0, .int .i64 0, .slice none 0 0, .slice none 0 0, .slice none 0 0, .slice none 0 0, .slice none 0 0] 39)).alloc (.cells #[.string (bs l), .int .i64 0] 113)).heap[w.heap.size + 1]? = some (.cells #[.string (bs l), .int .i64 0] 113 (0, 0)) := by have := heap_alloc_new (w.alloc (.cells #[.int .u8 0, .int .i64 0, .int .i64 0, .int .i64 0, .int .i64 0, .int .i64 0, .int .i64 0, .int .i64 0, .int .i64 0, .slice none 0 0, .slice none 0 0, .slice none 0 0, .slice none 0 0, .slice none 0 0] 39)) (.cells #[.string (bs l), .int .i64 0] 113); rw [h1] at this; exact this
  have k3 : (((w.alloc (.cells #[.int .u8 0, .int .i64 0, .int .i64 0, .int .i64 0, .int .i64 0, .int .i64 0, .int .i64 0, .int .i64 0, .int .i64 0, .slice none 0 0, .slice none 0 0, .slice none 0 0, .slice none 0 0, .slice none 0 0] 39)).alloc (.cells #[.string (bs l), .int .i64 0] 113)).alloc (.cells #[.pointer (some ⟨w.heap.size + 1, 0, none⟩), .bool false] 84)).heap[w.heap.size + 1 + 1]? = some (.cells #[.pointer (some ⟨w.heap.size + 1, 0, none⟩), .bool false] 84 (0, 0)) := by have := heap_alloc_new ((w.alloc (.cells #[.int .u8 0, .int .i64 0, .int .i64 0, .int .i64 0, .int .i64 0, .int .i64 0, .int .i64 0, .int .i64 0, .int .i64 0, .slice none 0 0, .slice none 0 0, .slice none 0 0, .slice none 0 0, .slice none 0 0] 39)).alloc (.cells #[.string (bs l), .int .i64 0] 113)) (.cells #[.pointer (some ⟨w.heap.size + 1, 0, none⟩), .bool false] 84); rw [h2] at this; exact this
  have k4 : ((((w.alloc (.cells #[.int .u8 0, .int .i64 0, .int .i64 0, .int .i64 0, .int .i64 0, .int .i64 0, .int .i64 0, .int .i64 0, .int .i64 0, .slice none 0 0, .slice none 0 0, .slice none 0 0, .slice none 0 0, .slice none 0 0] 39)).alloc (.cells #[.string (bs l), .int .i64 0] 113)).alloc (.cells #[.pointer (some ⟨w.heap.size + 1, 0, none⟩), .bool false] 84)).alloc (.cells #[.int .u8 0, .int .i64 0, .int .i64 0, .int .i64 0, .int .i64 0, .int .i64 0, .int .i64 0, .int .i64 0, .int .i64 0, .slice none 0 0, .slice none 0 0, .slice none 0 0, .slice none 0 0, .slice none 0 0] 39)).heap[w.heap.size + 1 + 1 + 1]? = some (.cells #[.int .u8 0, .int .i64 0, .int .i64 0, .int .i64 0, .int .i64 0, .int .i64 0, .int .i64 0, .int .i64 0, .int .i64 0, .slice none 0 0, .slice none 0 0, .slice none 0 0, .slice none 0 0, .slice none 0 0] 39 (0, 0)) := by have := heap_alloc_new (((w.alloc (.cells #[.int .u8 0, .int .i64 0, .int .i64 0, .int .i64 0, .int .i64 0, .int .i64 0, .int .i64 0, .int .i64 0, .int .i64 0, .slice none 0 0, .slice none 0 0, .slice none 0 0, .slice none 0 0, .slice none 0 0] 39)).alloc (.cells #[.string (bs l), .int .i64 0] 113)).alloc (.cells #[.pointer (some ⟨w.heap.size + 1, 0, none⟩), .bool false] 84)) (.cells #[.int .u8 0, .int .i64 0, .int .i64 0, .int .i64 0, .int .i64 0, .int .i64 0, .int .i64 0, .int .i64 0, .int .i64 0, .slice none 0 0, .slice none 0 0, .slice none 0 0, .slice none 0 0, .slice none 0 0] 39); rw [h3] at this; exact this
  refine ⟨fbox_below (fbox_below (fbox_below (heap_alloc_new w _) b2) b3) b4, k4, OwnV.nil _ _, ⟨?_, ?_⟩, below_after (below_after (below_after b1 b2 (Nat.le_refl _)) b3 (Nat.le_refl _)) b4 (Nat.le_refl _), ?_⟩
  · exact (b4.block _ (by rw [h3]; omega)).trans k3
  · exact (b4.block _ (by rw [h3]; omega)).trans ((b3.block _ (by rw [h2]; omega)).trans k2)
  · omega
/-- What is read of bytes. -/
def ReadsAs (F : Fr) (ok : Bool) (w : World) (e' : Ending) (w' : World) : Prop := ∃ (a b c d e : SL), e' = .returned (.tuple #[.agg #[.int .u8 F.k, .int .i64 F.f.1, .int .i64 F.f.2, .int .i64 F.t.1, .int .i64 F.t.2, .int .i64 F.n, .int .i64 F.q, .int .i64 F.b.1, .int .i64 F.b.2, .slice a.1 a.2.1 a.2.2, .slice b.1 b.2.1 b.2.2, .slice c.1 c.2.1 c.2.2, .slice d.1 d.2.1 d.2.2, .slice e.1 e.2.1 e.2.2], .bool ok]) ∧ OwnV w' w.heap.size a b c d e F.v ∧ Below w.heap.size w w'
/-- The frame that is read of bytes. -/
def readF (l : List UInt8) : Fr := (rFr (l, 0, false)).1
def readOk (l : List UInt8) : Bool := !(rFr (l, 0, false)).2.2.2 && (((endS (rFr (l, 0, false)).2.1 (rFr (l, 0, false)).2.2.1 : Nat) : Int) == 0)
set_option maxHeartbeats 16000000 in
theorem read_any (S : ByteArray) (w : World) : Calls Tryz.prog 24 #[.string S] w (ReadsAs (readF S.data.toList) (readOk S.data.toList) w) := by
  have G0 := Lib.hid (re_start w S.data.toList)
  rw [bs_of] at G0
  generalize S.data.toList = l at *
  have HV : Hid (rFr (l, 0, false) = (let k := rSmall (l, 0, false); let f := rId k.2; let t := rId f.2; let n := rNum t.2; let q := rNum n.2; let b := rId q.2; let v := rView b.2; (⟨k.1, f.1, t.1, n.1, q.1, b.1, v.1⟩, v.2))) := Lib.hid rfl
  have HO : Hid (readOk l = (!(rFr (l, 0, false)).2.2.2 && (((endS (rFr (l, 0, false)).2.1 (rFr (l, 0, false)).2.2.1 : Nat) : Int) == 0))) := Lib.hid rfl
  have HF : Hid (readF l = (rFr (l, 0, false)).1) := Lib.hid rfl
  generalize rFr (l, 0, false) = R at *
  dsimp only at HV
  go_enter Tryz.func24, Tryz.ntmps24
  go_wp2_with (go_at_call 37; (with_reducible refine (open_any S _).mono ?_); rintro e1 w1 ⟨rfl, rfl⟩)
  (with_reducible refine (rSmall_any _ _ (l, 0, false) _ G0.out.r).mono ?_)
  rintro e1 w1 ⟨rfl, h1, h2⟩
  generalize rSmall (l, 0, false) = r1 at *
  obtain ⟨x1, s1⟩ := r1
  dsimp only at h1 HV
  dsimp only
  have G1 := Lib.hid (G0.out.step h1 h2)
  clear h1 h2
  clear G0
  obtain ⟨p0, p1, p2, p3, p4, p5, p6, p7, p8, p9, p10, p11, p12, p13⟩ := fbox_cells G1.out.y
  obtain ⟨f0, f1, f2, f3, f4, f5, f6, f7, f8, f9, f10, f11, f12, f13⟩ := fbox_free G1.out.y
  (try dsimp only at p0 p1 p2 p3 p4 p5 p6 p7 p8 p9 p10 p11 p12 p13)
  have G2 := Lib.hid (G1.out.write (grownSet _ _ _ _) (fbox_put_k G1.out.y x1) (G1.out.o.write G1.out.y (by decide) (by decide) (by decide) (by decide) (grownSet _ _ _ _)))
  go_wp2_with fail
  (with_reducible refine (rId_any _ _ s1 _ G2.out.r).mono ?_)
  rintro e2 w2 ⟨rfl, h1, h2⟩
  generalize rId s1 = r2 at *
  obtain ⟨x2, s2⟩ := r2
  dsimp only at h1 HV
  dsimp only
  have G3 := Lib.hid (G2.out.step h1 h2)
  clear h1 h2
  clear p0 p1 p2 p3 p4 p5 p6 p7 p8 p9 p10 p11 p12 p13 f0 f1 f2 f3 f4 f5 f6 f7 f8 f9 f10 f11 f12 f13
  clear G2
  obtain ⟨p0, p1, p2, p3, p4, p5, p6, p7, p8, p9, p10, p11, p12, p13⟩ := fbox_cells G3.out.y
  obtain ⟨f0, f1, f2, f3, f4, f5, f6, f7, f8, f9, f10, f11, f12, f13⟩ := fbox_free G3.out.y
  (try dsimp only at p0 p1 p2 p3 p4 p5 p6 p7 p8 p9 p10 p11 p12 p13)
  have G4 := Lib.hid (G3.out.write (grownThen (grownSet _ _ _ _) (grownSet _ _ _ _)) (fbox_put_f G3.out.y x2) (G3.out.o.write G3.out.y (by decide) (by decide) (by decide) (by decide) (grownThen (grownSet _ _ _ _) (grownSet _ _ _ _))))
  go_wp2_with fail
  (with_reducible refine (rId_any _ _ s2 _ G4.out.r).mono ?_)
  rintro e3 w3 ⟨rfl, h1, h2⟩
  generalize rId s2 = r3 at *
  obtain ⟨x3, s3⟩ := r3
  dsimp only at h1 HV
  dsimp only
  have G5 := Lib.hid (G4.out.step h1 h2)
  clear h1 h2
  clear p0 p1 p2 p3 p4 p5 p6 p7 p8 p9 p10 p11 p12 p13 f0 f1 f2 f3 f4 f5 f6 f7 f8 f9 f10 f11 f12 f13
  clear G4
  obtain ⟨p0, p1, p2, p3, p4, p5, p6, p7, p8, p9, p10, p11, p12, p13⟩ := fbox_cells G5.out.y
  obtain ⟨f0, f1, f2, f3, f4, f5, f6, f7, f8, f9, f10, f11, f12, f13⟩ := fbox_free G5.out.y
  (try dsimp only at p0 p1 p2 p3 p4 p5 p6 p7 p8 p9 p10 p11 p12 p13)
  have G6 := Lib.hid (G5.out.write (grownThen (grownSet _ _ _ _) (grownSet _ _ _ _)) (fbox_put_t G5.out.y x3) (G5.out.o.write G5.out.y (by decide) (by decide) (by decide) (by decide) (grownThen (grownSet _ _ _ _) (grownSet _ _ _ _))))
  go_wp2_with fail
  (with_reducible refine (rNum_is_any _ _ s3 _ G6.out.r).mono ?_)
  rintro e4 w4 ⟨rfl, h1, h2⟩
  generalize rNum s3 = r4 at *
  obtain ⟨x4, s4⟩ := r4
  dsimp only at h1 HV
  dsimp only
  have G7 := Lib.hid (G6.out.step h1 h2)
  clear h1 h2
  clear p0 p1 p2 p3 p4 p5 p6 p7 p8 p9 p10 p11 p12 p13 f0 f1 f2 f3 f4 f5 f6 f7 f8 f9 f10 f11 f12 f13
  clear G6
  obtain ⟨p0, p1, p2, p3, p4, p5, p6, p7, p8, p9, p10, p11, p12, p13⟩ := fbox_cells G7.out.y
  obtain ⟨f0, f1, f2, f3, f4, f5, f6, f7, f8, f9, f10, f11, f12, f13⟩ := fbox_free G7.out.y
  (try dsimp only at p0 p1 p2 p3 p4 p5 p6 p7 p8 p9 p10 p11 p12 p13)
  have G8 := Lib.hid (G7.out.write (grownSet _ _ _ _) (fbox_put_n G7.out.y x4) (G7.out.o.write G7.out.y (by decide) (by decide) (by decide) (by decide) (grownSet _ _ _ _)))
  go_wp2_with fail
  (with_reducible refine (rNum_is_any _ _ s4 _ G8.out.r).mono ?_)
  rintro e5 w5 ⟨rfl, h1, h2⟩
  generalize rNum s4 = r5 at *
  obtain ⟨x5, s5⟩ := r5
  dsimp only at h1 HV
  dsimp only
  have G9 := Lib.hid (G8.out.step h1 h2)
  clear h1 h2
  clear p0 p1 p2 p3 p4 p5 p6 p7 p8 p9 p10 p11 p12 p13 f0 f1 f2 f3 f4 f5 f6 f7 f8 f9 f10 f11 f12 f13
  clear G8
  obtain ⟨p0, p1, p2, p3, p4, p5, p6, p7, p8, p9, p10, p11, p12, p13⟩ := fbox_cells G9.out.y
  obtain ⟨f0, f1, f2, f3, f4, f5, f6, f7, f8, f9, f10, f11, f12, f13⟩ := fbox_free G9.out.y
  (try dsimp only at p0 p1 p2 p3 p4 p5 p6 p7 p8 p9 p10 p11 p12 p13)
  have G10 := Lib.hid (G9.out.write (grownSet _ _ _ _) (fbox_put_q G9.out.y x5) (G9.out.o.write G9.out.y (by decide) (by decide) (by decide) (by decide) (grownSet _ _ _ _)))
  go_wp2_with fail
  (with_reducible refine (rId_any _ _ s5 _ G10.out.r).mono ?_)
  rintro e6 w6 ⟨rfl, h1, h2⟩
  generalize rId s5 = r6 at *
  obtain ⟨x6, s6⟩ := r6
  dsimp only at h1 HV
  dsimp only
  have G11 := Lib.hid (G10.out.step h1 h2)
  clear h1 h2
  clear p0 p1 p2 p3 p4 p5 p6 p7 p8 p9 p10 p11 p12 p13 f0 f1 f2 f3 f4 f5 f6 f7 f8 f9 f10 f11 f12 f13
  clear G10
  obtain ⟨p0, p1, p2, p3, p4, p5, p6, p7, p8, p9, p10, p11, p12, p13⟩ := fbox_cells G11.out.y
  obtain ⟨f0, f1, f2, f3, f4, f5, f6, f7, f8, f9, f10, f11, f12, f13⟩ := fbox_free G11.out.y
  (try dsimp only at p0 p1 p2 p3 p4 p5 p6 p7 p8 p9 p10 p11 p12 p13)
  have G12 := Lib.hid (G11.out.write (grownThen (grownSet _ _ _ _) (grownSet _ _ _ _)) (fbox_put_b G11.out.y x6) (G11.out.o.write G11.out.y (by decide) (by decide) (by decide) (by decide) (grownThen (grownSet _ _ _ _) (grownSet _ _ _ _))))
  go_wp2_with fail
  (with_reducible refine (rView_any _ _ s6 _ G12.out.r).mono ?_)
  rintro e7 w7 ⟨a, b, c, d, e, rfl, ho, h1, h2⟩
  generalize rView s6 = r7 at *
  obtain ⟨x7, s7⟩ := r7
  dsimp only at h1 HV ho
  dsimp only
  have G13 := Lib.hid (G12.out.step h1 h2)
  have HO7 := Lib.hid (ho.m.mono (show w.heap.size ≤ _ from G12.out.b.size))
  have ho2 : OwnV w7 w.heap.size a b c d e x7 := by
    obtain ⟨qs, k1, k2⟩ := ho.r
    have hz : w.heap.size ≤ _ := G12.out.b.size
    exact ⟨ho.m.mono hz, ho.f.mono hz, ⟨qs, k1.mono hz, k2.mono hz⟩, ho.c.mono hz, ho.s.mono hz⟩
  have HO8 := Lib.hid ho2
  clear h1 h2 ho ho2 HO7 p0 p1 p2 p3 p4 p5 p6 p7 p8 p9 p10 p11 p12 p13 f0 f1 f2 f3 f4 f5 f6 f7 f8 f9 f10 f11 f12 f13 G12
  obtain ⟨p0, p1, p2, p3, p4, p5, p6, p7, p8, p9, p10, p11, p12, p13⟩ := fbox_cells G13.out.y
  obtain ⟨f0, f1, f2, f3, f4, f5, f6, f7, f8, f9, f10, f11, f12, f13⟩ := fbox_free G13.out.y
  (try dsimp only at p0 p1 p2 p3 p4 p5 p6 p7 p8 p9 p10 p11 p12 p13)
  have G14 := Lib.hid (G13.out.write (grownThen (grownThen (grownThen (grownThen (grownSet _ _ _ _) (grownSet _ _ _ _)) (grownSet _ _ _ _)) (grownSet _ _ _ _)) (grownSet _ _ _ _)) (fbox_put_v G13.out.y x7 a b c d e) (HO8.out.write G13.out.y (by decide) (by decide) (by decide) (by decide) (grownThen (grownThen (grownThen (grownThen (grownSet _ _ _ _) (grownSet _ _ _ _)) (grownSet _ _ _ _)) (grownSet _ _ _ _)) (grownSet _ _ _ _))))
  go_wp2_with fail
  clear p0 p1 p2 p3 p4 p5 p6 p7 p8 p9 p10 p11 p12 p13 f0 f1 f2 f3 f4 f5 f6 f7 f8 f9 f10 f11 f12 f13 G13 HO8
  generalize hW : (((((w7.setCell ⟨w.heap.size + 1 + 1 + 1, 9, none⟩ (.slice a.1 a.2.1 a.2.2)).setCell ⟨w.heap.size + 1 + 1 + 1, 10, none⟩ (.slice b.1 b.2.1 b.2.2)).setCell ⟨w.heap.size + 1 + 1 + 1, 11, none⟩ (.slice c.1 c.2.1 c.2.2)).setCell ⟨w.heap.size + 1 + 1 + 1, 12, none⟩ (.slice d.1 d.2.1 d.2.2)).setCell ⟨w.heap.size + 1 + 1 + 1, 13, none⟩ (.slice e.1 e.2.1 e.2.2)) = w8 at *
  clear hW
  obtain ⟨l7, e7, b7⟩ := s7
  have HC := Lib.hid fun W hW => rEnd_any (w.heap.size + 1) e7 l7 W hW
  have HP7 := Lib.hid (show PBox w8 (w.heap.size + 1 + 1) (w.heap.size + 1) b7 from G14.out.r.x)
  have HR7 := Lib.hid (show Rdr w8 (w.heap.size + 1) l7 e7 from G14.out.r.r)
  have HR8 := Lib.hid (show Rdr w8.drew (w.heap.size + 1) l7 e7 from HR7.out)
  have HS := Lib.hid (show (Tryz.prog.info? 39).map (·.size) = some 14 by kernel_rfl)
  obtain ⟨c0, c1⟩ := pbox_cells HP7.out
  obtain ⟨p0, p1, p2, p3, p4, p5, p6, p7, p8, p9, p10, p11, p12, p13⟩ := fbox_cells G14.out.y
  (try dsimp only at p0 p1 p2 p3 p4 p5 p6 p7 p8 p9 p10 p11 p12 p13)
  have HZ1 := Lib.hid (show w8.heap[w.heap.size]? = some (.cells #[.int .u8 0, .int .i64 0, .int .i64 0, .int .i64 0, .int .i64 0, .int .i64 0, .int .i64 0, .int .i64 0, .int .i64 0, .slice none 0 0, .slice none 0 0, .slice none 0 0, .slice none 0 0, .slice none 0 0] 39 (0, 0)) from G14.out.z)
  cases b7
  · have hn0 := G14.out.n
    refine wp_region_held_drew (S := fun w' => (w'.cell? ⟨w.heap.size + 1 + 1, 0, none⟩ = some (.pointer (some ⟨w.heap.size + 1, 0, none⟩)) ∧ w'.cell? ⟨w.heap.size + 1 + 1, 1, none⟩ = some (.bool false)) ∧ w'.cell? ⟨w.heap.size + 1 + 1 + 1, 0, none⟩ = some (.int .u8 x1) ∧ w'.cell? ⟨w.heap.size + 1 + 1 + 1, 1, none⟩ = some (.int .i64 x2.1) ∧ w'.cell? ⟨w.heap.size + 1 + 1 + 1, 2, none⟩ = some (.int .i64 x2.2) ∧ w'.cell? ⟨w.heap.size + 1 + 1 + 1, 3, none⟩ = some (.int .i64 x3.1) ∧ w'.cell? ⟨w.heap.size + 1 + 1 + 1, 4, none⟩ = some (.int .i64 x3.2) ∧ w'.cell? ⟨w.heap.size + 1 + 1 + 1, 5, none⟩ = some (.int .i64 x4) ∧ w'.cell? ⟨w.heap.size + 1 + 1 + 1, 6, none⟩ = some (.int .i64 x5) ∧ w'.cell? ⟨w.heap.size + 1 + 1 + 1, 7, none⟩ = some (.int .i64 x6.1) ∧ w'.cell? ⟨w.heap.size + 1 + 1 + 1, 8, none⟩ = some (.int .i64 x6.2) ∧ w'.cell? ⟨w.heap.size + 1 + 1 + 1, 9, none⟩ = some (.slice a.1 a.2.1 a.2.2) ∧ w'.cell? ⟨w.heap.size + 1 + 1 + 1, 10, none⟩ = some (.slice b.1 b.2.1 b.2.2) ∧ w'.cell? ⟨w.heap.size + 1 + 1 + 1, 11, none⟩ = some (.slice c.1 c.2.1 c.2.2) ∧ w'.cell? ⟨w.heap.size + 1 + 1 + 1, 12, none⟩ = some (.slice d.1 d.2.1 d.2.2) ∧ w'.cell? ⟨w.heap.size + 1 + 1 + 1, 13, none⟩ = some (.slice e.1 e.2.1 e.2.2)) (by kernel_rfl) ?_ (fun hHeld => ?_)
    · exact ⟨pbox_cells HP7.out, fbox_cells G14.out.y⟩
    (refine wpAnyH_take (i := 0) (oi := ⟨_, _, _, _, _, _⟩) (v := ?_) rfl (by kernel_rfl) (by kernel_rfl) (by kernel_rfl) (fun _ _ _ h => h) (Or.inl ⟨by rfl, ?_⟩) (by assumption) ?_; rotate_left 1; · (intro w hSw; (try dsimp only at hSw); go_simp; all_goals with_reducible rfl))
    try simp only [Act.put, List.setIfInBounds_toArray, List.set_cons_zero, List.set_cons_succ]
    (refine wpAnyH_take (i := 1) (oi := ⟨_, _, _, _, _, _⟩) (v := ?_) rfl (by kernel_rfl) (by kernel_rfl) (by kernel_rfl) (fun _ _ _ h => h) (Or.inl ⟨by rfl, ?_⟩) (by assumption) ?_; rotate_left 1; · (intro w hSw; (try dsimp only at hSw); go_simp; all_goals with_reducible rfl))
    try simp only [Act.put, List.setIfInBounds_toArray, List.set_cons_zero, List.set_cons_succ]
    (refine wpAnyH_take (i := 2) (oi := ⟨_, _, _, _, _, _⟩) (v := ?_) rfl (by kernel_rfl) (by kernel_rfl) (by kernel_rfl) (fun _ _ _ h => h) (Or.inl ⟨by rfl, ?_⟩) (by assumption) ?_; rotate_left 1; · (intro w hSw; (try dsimp only at hSw); go_simp; all_goals with_reducible rfl))
    try simp only [Act.put, List.setIfInBounds_toArray, List.set_cons_zero, List.set_cons_succ]
    (refine wpAnyH_take (i := 3) (oi := ⟨_, _, _, _, _, _⟩) (v := ?_) rfl (by kernel_rfl) (by kernel_rfl) (by kernel_rfl) (fun _ _ _ h => h) (Or.inl ⟨by rfl, ?_⟩) (by assumption) ?_; rotate_left 1; · (intro w hSw; (try dsimp only at hSw); go_simp; all_goals with_reducible rfl))
    try simp only [Act.put, List.setIfInBounds_toArray, List.set_cons_zero, List.set_cons_succ]
    (refine wpAnyH_take (i := 4) (oi := ⟨_, _, _, _, _, _⟩) (v := ?_) rfl (by kernel_rfl) (by kernel_rfl) (by kernel_rfl) (fun _ _ _ h => h) (Or.inl ⟨by rfl, ?_⟩) (by assumption) ?_; rotate_left 1; · (intro w hSw; (try dsimp only at hSw); go_simp; all_goals with_reducible rfl))
    try simp only [Act.put, List.setIfInBounds_toArray, List.set_cons_zero, List.set_cons_succ]
    (refine wpAnyH_take (i := 5) (oi := ⟨_, _, _, _, _, _⟩) (v := ?_) rfl (by kernel_rfl) (by kernel_rfl) (by kernel_rfl) (fun _ _ _ h => h) (Or.inl ⟨by rfl, ?_⟩) (by assumption) ?_; rotate_left 1; · (intro w hSw; (try dsimp only at hSw); go_simp; all_goals with_reducible rfl))
    try simp only [Act.put, List.setIfInBounds_toArray, List.set_cons_zero, List.set_cons_succ]
    (refine wpAnyH_take (i := 6) (oi := ⟨_, _, _, _, _, _⟩) (v := ?_) rfl (by kernel_rfl) (by kernel_rfl) (by kernel_rfl) (fun _ _ _ h => h) (Or.inl ⟨by rfl, ?_⟩) (by assumption) ?_; rotate_left 1; · (intro w hSw; (try dsimp only at hSw); go_simp; all_goals with_reducible rfl))
    try simp only [Act.put, List.setIfInBounds_toArray, List.set_cons_zero, List.set_cons_succ]
    first | (refine wpAnyH_take (i := 7) (oi := ⟨_, _, _, _, _, _⟩) (v := ?_) rfl (by kernel_rfl) (by kernel_rfl) (by kernel_rfl) (fun _ _ _ h => h) (Or.inl ⟨by rfl, ?_⟩) (by assumption) ?_; rotate_left 1; · (intro w hSw; (try dsimp only at hSw); go_simp; all_goals with_reducible rfl)) | refine wpAnyH_take (i := 7) (oi := ⟨_, _, _, _, _, _⟩) (v := undef) rfl (by kernel_rfl) (by kernel_rfl) (by kernel_rfl) (fun _ _ _ h => h) (Or.inr ⟨by kernel_rfl, rfl⟩) (by assumption) ?_
    try simp only [Act.put, List.setIfInBounds_toArray, List.set_cons_zero, List.set_cons_succ]
    first | (refine wpAnyH_take (i := 8) (oi := ⟨_, _, _, _, _, _⟩) (v := ?_) rfl (by kernel_rfl) (by kernel_rfl) (by kernel_rfl) (fun _ _ _ h => h) (Or.inl ⟨by rfl, ?_⟩) (by assumption) ?_; rotate_left 1; · (intro w hSw; (try dsimp only at hSw); go_simp; all_goals with_reducible rfl)) | refine wpAnyH_take (i := 8) (oi := ⟨_, _, _, _, _, _⟩) (v := undef) rfl (by kernel_rfl) (by kernel_rfl) (by kernel_rfl) (fun _ _ _ h => h) (Or.inr ⟨by kernel_rfl, rfl⟩) (by assumption) ?_
    try simp only [Act.put, List.setIfInBounds_toArray, List.set_cons_zero, List.set_cons_succ]
    first | (refine wpAnyH_take (i := 9) (oi := ⟨_, _, _, _, _, _⟩) (v := ?_) rfl (by kernel_rfl) (by kernel_rfl) (by kernel_rfl) (fun _ _ _ h => h) (Or.inl ⟨by rfl, ?_⟩) (by assumption) ?_; rotate_left 1; · (intro w hSw; (try dsimp only at hSw); go_simp; all_goals with_reducible rfl)) | refine wpAnyH_take (i := 9) (oi := ⟨_, _, _, _, _, _⟩) (v := undef) rfl (by kernel_rfl) (by kernel_rfl) (by kernel_rfl) (fun _ _ _ h => h) (Or.inr ⟨by kernel_rfl, rfl⟩) (by assumption) ?_
    try simp only [Act.put, List.setIfInBounds_toArray, List.set_cons_zero, List.set_cons_succ]
    first | (refine wpAnyH_take (i := 10) (oi := ⟨_, _, _, _, _, _⟩) (v := ?_) rfl (by kernel_rfl) (by kernel_rfl) (by kernel_rfl) (fun _ _ _ h => h) (Or.inl ⟨by rfl, ?_⟩) (by assumption) ?_; rotate_left 1; · (intro w hSw; (try dsimp only at hSw); go_simp; all_goals with_reducible rfl)) | refine wpAnyH_take (i := 10) (oi := ⟨_, _, _, _, _, _⟩) (v := undef) rfl (by kernel_rfl) (by kernel_rfl) (by kernel_rfl) (fun _ _ _ h => h) (Or.inr ⟨by kernel_rfl, rfl⟩) (by assumption) ?_
    try simp only [Act.put, List.setIfInBounds_toArray, List.set_cons_zero, List.set_cons_succ]
    refine wpAnyH_ready (rs := [11]) (by kernel_rfl) (by simp) ?_
    refine AllReadyH.cons (o := ⟨_, _, _, _, _, _⟩) rfl (fun Kq hKq => ?_) AllReadyH.nil
    go_simp
    clear hHeld
    (go_at_call 42; (with_reducible refine (HC.out _ HR8.out).mono ?_); rintro e9 w9 ⟨rfl, hg, hr⟩; have HG := Lib.hid (show w8.grownBy w9 (some (w.heap.size + 1)) from ⟨hg.os, hg.tape, hg.output, hg.size, hg.block⟩); clear hg hr; have hn := G14.out.n; have P9 := Lib.hid (show PBox w9 (w.heap.size + 1 + 1) (w.heap.size + 1) false from (HG.out.block _ G14.out.r.lt.1 (fun e => by injection e with e; omega)).trans HP7.out); have Y9 := Lib.hid ((HG.out.block _ (fbox_lt G14.out.y) (fun e => by injection e with e; omega)).trans G14.out.y); have Z9 := Lib.hid ((HG.out.block _ (fbox_lt G14.out.z) (fun e => by injection e with e; omega)).trans HZ1.out); clear hn)
    refine hKq.out _ _ ?_ (fun hHeld => ?_)
    · (try dsimp only); exact ⟨pbox_cells P9.out, fbox_cells Y9.out⟩
    clear hKq Kq
    try simp only [Act.put, List.setIfInBounds_toArray, List.set_cons_zero, List.set_cons_succ]
    first | (refine wpAnyH_take (i := 12) (oi := ⟨_, _, _, _, _, _⟩) (v := ?_) rfl (by kernel_rfl) (by kernel_rfl) (by kernel_rfl) (fun _ _ _ h => h) (Or.inl ⟨by rfl, ?_⟩) (by assumption) ?_; rotate_left 1; · (intro w hSw; (try dsimp only at hSw); go_simp; all_goals with_reducible rfl)) | refine wpAnyH_take (i := 12) (oi := ⟨_, _, _, _, _, _⟩) (v := undef) rfl (by kernel_rfl) (by kernel_rfl) (by kernel_rfl) (fun _ _ _ h => h) (Or.inr ⟨by kernel_rfl, rfl⟩) (by assumption) ?_
    try simp only [Act.put, List.setIfInBounds_toArray, List.set_cons_zero, List.set_cons_succ]
    (refine wpAnyH_take (i := 13) (oi := ⟨_, _, _, _, _, _⟩) (v := ?_) rfl (by kernel_rfl) (by kernel_rfl) (by kernel_rfl) (fun _ _ _ h => h) (Or.inl ⟨by rfl, ?_⟩) (by assumption) ?_; rotate_left 1; · (intro w hSw; (try dsimp only at hSw); go_simp; all_goals with_reducible rfl))
    try simp only [Act.put, List.setIfInBounds_toArray, List.set_cons_zero, List.set_cons_succ]
    refine wpAnyH_ready (rs := [14]) (by kernel_rfl) (by simp) ?_
    refine AllReadyH.cons (o := ⟨_, _, _, _, _, _⟩) rfl (fun Kq hKq => ?_) AllReadyH.nil
    clear hHeld
    refine wp_store_row 39 _ _ rfl w.heap.size #[.int .u8 x1, .int .i64 x2.1, .int .i64 x2.2, .int .i64 x3.1, .int .i64 x3.2, .int .i64 x4, .int .i64 x5, .int .i64 x6.1, .int .i64 x6.2, .slice a.1 a.2.1 a.2.2, .slice b.1 b.2.1 b.2.2, .slice c.1 c.2.1 c.2.2, .slice d.1 d.2.1 d.2.2, .slice e.1 e.2.1 e.2.2] rfl rfl 39 #[.int .u8 0, .int .i64 0, .int .i64 0, .int .i64 0, .int .i64 0, .int .i64 0, .int .i64 0, .int .i64 0, .int .i64 0, .slice none 0 0, .slice none 0 0, .slice none 0 0, .slice none 0 0, .slice none 0 0] Z9.out HS.out rfl (by simp [Value.oneCell']) ?_
    refine hKq.out _ _ ?_ (fun hHeld => ?_)
    · (try dsimp only); exact ⟨pbox_cells (p := w.heap.size + 1 + 1) (g := w.heap.size + 1) (b := false) ((setRow_other _ _ _ _ (by omega)).trans P9.out), fbox_cells (g := w.heap.size + 1 + 1 + 1) (F := {k := x1, f := x2, t := x3, n := x4, q := x5, b := x6, v := x7 : Fr}) ((setRow_other _ _ _ _ (by omega)).trans Y9.out)⟩
    clear hKq Kq
    try simp only [Act.put]
    (refine wpAnyH_take (i := 15) (oi := ⟨_, _, _, _, _, _⟩) (v := ?_) rfl (by kernel_rfl) (by kernel_rfl) (by kernel_rfl) (fun _ _ _ h => h) (Or.inl ⟨by rfl, ?_⟩) (by assumption) ?_; rotate_left 1; · (intro w hSw; (try dsimp only at hSw); go_simp; all_goals with_reducible rfl))
    try simp only [Act.put, List.setIfInBounds_toArray, List.set_cons_zero, List.set_cons_succ]
    refine wpAnyH_done (by kernel_rfl) ?_ _
    have HU := Lib.hid (show FBox (w9.setRow w.heap.size #[.int .u8 x1, .int .i64 x2.1, .int .i64 x2.2, .int .i64 x3.1, .int .i64 x3.2, .int .i64 x4, .int .i64 x5, .int .i64 x6.1, .int .i64 x6.2, .slice a.1 a.2.1 a.2.2, .slice b.1 b.2.1 b.2.2, .slice c.1 c.2.1 c.2.2, .slice d.1 d.2.1 d.2.2, .slice e.1 e.2.1 e.2.2]) w.heap.size {k := x1, f := x2, t := x3, n := x4, q := x5, b := x6, v := x7 : Fr} a b c d e from setRow_heap w9 w.heap.size #[.int .u8 0, .int .i64 0, .int .i64 0, .int .i64 0, .int .i64 0, .int .i64 0, .int .i64 0, .int .i64 0, .int .i64 0, .slice none 0 0, .slice none 0 0, .slice none 0 0, .slice none 0 0, .slice none 0 0] #[.int .u8 x1, .int .i64 x2.1, .int .i64 x2.2, .int .i64 x3.1, .int .i64 x3.2, .int .i64 x4, .int .i64 x5, .int .i64 x6.1, .int .i64 x6.2, .slice a.1 a.2.1 a.2.2, .slice b.1 b.2.1 b.2.2, .slice c.1 c.2.1 c.2.2, .slice d.1 d.2.1 d.2.2, .slice e.1 e.2.1 e.2.2] 39 _ Z9.out)
    have KU := Lib.hid (show w9.grownBy (w9.setRow w.heap.size #[.int .u8 x1, .int .i64 x2.1, .int .i64 x2.2, .int .i64 x3.1, .int .i64 x3.2, .int .i64 x4, .int .i64 x5, .int .i64 x6.1, .int .i64 x6.2, .slice a.1 a.2.1 a.2.2, .slice b.1 b.2.1 b.2.2, .slice c.1 c.2.1 c.2.2, .slice d.1 d.2.1 d.2.2, .slice e.1 e.2.1 e.2.2]) (some w.heap.size) from ⟨(grown_row w9 w.heap.size #[.int .u8 x1, .int .i64 x2.1, .int .i64 x2.2, .int .i64 x3.1, .int .i64 x3.2, .int .i64 x4, .int .i64 x5, .int .i64 x6.1, .int .i64 x6.2, .slice a.1 a.2.1 a.2.2, .slice b.1 b.2.1 b.2.2, .slice c.1 c.2.1 c.2.2, .slice d.1 d.2.1 d.2.2, .slice e.1 e.2.1 e.2.2]).os, (grown_row w9 w.heap.size #[.int .u8 x1, .int .i64 x2.1, .int .i64 x2.2, .int .i64 x3.1, .int .i64 x3.2, .int .i64 x4, .int .i64 x5, .int .i64 x6.1, .int .i64 x6.2, .slice a.1 a.2.1 a.2.2, .slice b.1 b.2.1 b.2.2, .slice c.1 c.2.1 c.2.2, .slice d.1 d.2.1 d.2.2, .slice e.1 e.2.1 e.2.2]).tape, (grown_row w9 w.heap.size #[.int .u8 x1, .int .i64 x2.1, .int .i64 x2.2, .int .i64 x3.1, .int .i64 x3.2, .int .i64 x4, .int .i64 x5, .int .i64 x6.1, .int .i64 x6.2, .slice a.1 a.2.1 a.2.2, .slice b.1 b.2.1 b.2.2, .slice c.1 c.2.1 c.2.2, .slice d.1 d.2.1 d.2.2, .slice e.1 e.2.1 e.2.2]).output, (grown_row w9 w.heap.size #[.int .u8 x1, .int .i64 x2.1, .int .i64 x2.2, .int .i64 x3.1, .int .i64 x3.2, .int .i64 x4, .int .i64 x5, .int .i64 x6.1, .int .i64 x6.2, .slice a.1 a.2.1 a.2.2, .slice b.1 b.2.1 b.2.2, .slice c.1 c.2.1 c.2.2, .slice d.1 d.2.1 d.2.2, .slice e.1 e.2.1 e.2.2]).size, (grown_row w9 w.heap.size #[.int .u8 x1, .int .i64 x2.1, .int .i64 x2.2, .int .i64 x3.1, .int .i64 x3.2, .int .i64 x4, .int .i64 x5, .int .i64 x6.1, .int .i64 x6.2, .slice a.1 a.2.1 a.2.2, .slice b.1 b.2.1 b.2.2, .slice c.1 c.2.1 c.2.2, .slice d.1 d.2.1 d.2.2, .slice e.1 e.2.1 e.2.2]).block⟩)
    go_wp2_with fail
    obtain ⟨q0, q1, q2, q3, q4, q5, q6, q7, q8, q9, q10, q11, q12, q13⟩ := fbox_cells HU.out
    dsimp only at q0 q1 q2 q3 q4 q5 q6 q7 q8 q9 q10 q11 q12 q13
    refine bodyPost_ret (v := .tuple #[.agg #[.int .u8 x1, .int .i64 x2.1, .int .i64 x2.2, .int .i64 x3.1, .int .i64 x3.2, .int .i64 x4, .int .i64 x5, .int .i64 x6.1, .int .i64 x6.2, .slice a.1 a.2.1 a.2.2, .slice b.1 b.2.1 b.2.2, .slice c.1 c.2.1 c.2.2, .slice d.1 d.2.1 d.2.2, .slice e.1 e.2.1 e.2.2], .bool (((endS l7 e7 : Nat) : Int) == 0)]) (by simp [results, Tryz.results24, go_sem, q0, q1, q2, q3, q4, q5, q6, q7, q8, q9, q10, q11, q12, q13]) rfl ?_
    rw [HF.out, HO.out, HV.out]
    refine ⟨a, b, c, d, e, rfl, ?_, ?_⟩
    · exact ((G14.out.o.write (show w8.heap[w.heap.size + 1]? = some (.cells #[.string (bs l7), .int .i64 e7] 113 (0, 0)) from HR7.out) (by decide) (by decide) (by decide) (by decide) HG.out).write (show w9.heap[w.heap.size]? = _ from Z9.out) (by decide) (by decide) (by decide) (by decide) KU.out)
    · exact (G14.out.b.trans (below_gone HG.out (by have := G14.out.n; omega) G14.out.b.size)).trans (below_gone KU.out (Nat.le_refl _) (Nat.le_trans G14.out.b.size HG.out.size))
  · have hn0 := G14.out.n
    refine wp_region_held_drew (S := fun w' => (w'.cell? ⟨w.heap.size + 1 + 1, 0, none⟩ = some (.pointer (some ⟨w.heap.size + 1, 0, none⟩)) ∧ w'.cell? ⟨w.heap.size + 1 + 1, 1, none⟩ = some (.bool true)) ∧ w'.cell? ⟨w.heap.size + 1 + 1 + 1, 0, none⟩ = some (.int .u8 x1) ∧ w'.cell? ⟨w.heap.size + 1 + 1 + 1, 1, none⟩ = some (.int .i64 x2.1) ∧ w'.cell? ⟨w.heap.size + 1 + 1 + 1, 2, none⟩ = some (.int .i64 x2.2) ∧ w'.cell? ⟨w.heap.size + 1 + 1 + 1, 3, none⟩ = some (.int .i64 x3.1) ∧ w'.cell? ⟨w.heap.size + 1 + 1 + 1, 4, none⟩ = some (.int .i64 x3.2) ∧ w'.cell? ⟨w.heap.size + 1 + 1 + 1, 5, none⟩ = some (.int .i64 x4) ∧ w'.cell? ⟨w.heap.size + 1 + 1 + 1, 6, none⟩ = some (.int .i64 x5) ∧ w'.cell? ⟨w.heap.size + 1 + 1 + 1, 7, none⟩ = some (.int .i64 x6.1) ∧ w'.cell? ⟨w.heap.size + 1 + 1 + 1, 8, none⟩ = some (.int .i64 x6.2) ∧ w'.cell? ⟨w.heap.size + 1 + 1 + 1, 9, none⟩ = some (.slice a.1 a.2.1 a.2.2) ∧ w'.cell? ⟨w.heap.size + 1 + 1 + 1, 10, none⟩ = some (.slice b.1 b.2.1 b.2.2) ∧ w'.cell? ⟨w.heap.size + 1 + 1 + 1, 11, none⟩ = some (.slice c.1 c.2.1 c.2.2) ∧ w'.cell? ⟨w.heap.size + 1 + 1 + 1, 12, none⟩ = some (.slice d.1 d.2.1 d.2.2) ∧ w'.cell? ⟨w.heap.size + 1 + 1 + 1, 13, none⟩ = some (.slice e.1 e.2.1 e.2.2)) (by kernel_rfl) ?_ (fun hHeld => ?_)
    · exact ⟨pbox_cells HP7.out, fbox_cells G14.out.y⟩
    (refine wpAnyH_take (i := 0) (oi := ⟨_, _, _, _, _, _⟩) (v := ?_) rfl (by kernel_rfl) (by kernel_rfl) (by kernel_rfl) (fun _ _ _ h => h) (Or.inl ⟨by rfl, ?_⟩) (by assumption) ?_; rotate_left 1; · (intro w hSw; (try dsimp only at hSw); go_simp; all_goals with_reducible rfl))
    try simp only [Act.put, List.setIfInBounds_toArray, List.set_cons_zero, List.set_cons_succ]
    (refine wpAnyH_take (i := 1) (oi := ⟨_, _, _, _, _, _⟩) (v := ?_) rfl (by kernel_rfl) (by kernel_rfl) (by kernel_rfl) (fun _ _ _ h => h) (Or.inl ⟨by rfl, ?_⟩) (by assumption) ?_; rotate_left 1; · (intro w hSw; (try dsimp only at hSw); go_simp; all_goals with_reducible rfl))
    try simp only [Act.put, List.setIfInBounds_toArray, List.set_cons_zero, List.set_cons_succ]
    (refine wpAnyH_take (i := 2) (oi := ⟨_, _, _, _, _, _⟩) (v := ?_) rfl (by kernel_rfl) (by kernel_rfl) (by kernel_rfl) (fun _ _ _ h => h) (Or.inl ⟨by rfl, ?_⟩) (by assumption) ?_; rotate_left 1; · (intro w hSw; (try dsimp only at hSw); go_simp; all_goals with_reducible rfl))
    try simp only [Act.put, List.setIfInBounds_toArray, List.set_cons_zero, List.set_cons_succ]
    (refine wpAnyH_take (i := 3) (oi := ⟨_, _, _, _, _, _⟩) (v := ?_) rfl (by kernel_rfl) (by kernel_rfl) (by kernel_rfl) (fun _ _ _ h => h) (Or.inl ⟨by rfl, ?_⟩) (by assumption) ?_; rotate_left 1; · (intro w hSw; (try dsimp only at hSw); go_simp; all_goals with_reducible rfl))
    try simp only [Act.put, List.setIfInBounds_toArray, List.set_cons_zero, List.set_cons_succ]
    (refine wpAnyH_take (i := 4) (oi := ⟨_, _, _, _, _, _⟩) (v := ?_) rfl (by kernel_rfl) (by kernel_rfl) (by kernel_rfl) (fun _ _ _ h => h) (Or.inl ⟨by rfl, ?_⟩) (by assumption) ?_; rotate_left 1; · (intro w hSw; (try dsimp only at hSw); go_simp; all_goals with_reducible rfl))
    try simp only [Act.put, List.setIfInBounds_toArray, List.set_cons_zero, List.set_cons_succ]
    (refine wpAnyH_take (i := 5) (oi := ⟨_, _, _, _, _, _⟩) (v := ?_) rfl (by kernel_rfl) (by kernel_rfl) (by kernel_rfl) (fun _ _ _ h => h) (Or.inl ⟨by rfl, ?_⟩) (by assumption) ?_; rotate_left 1; · (intro w hSw; (try dsimp only at hSw); go_simp; all_goals with_reducible rfl))
    try simp only [Act.put, List.setIfInBounds_toArray, List.set_cons_zero, List.set_cons_succ]
    (refine wpAnyH_take (i := 6) (oi := ⟨_, _, _, _, _, _⟩) (v := ?_) rfl (by kernel_rfl) (by kernel_rfl) (by kernel_rfl) (fun _ _ _ h => h) (Or.inl ⟨by rfl, ?_⟩) (by assumption) ?_; rotate_left 1; · (intro w hSw; (try dsimp only at hSw); go_simp; all_goals with_reducible rfl))
    try simp only [Act.put, List.setIfInBounds_toArray, List.set_cons_zero, List.set_cons_succ]
    refine wpAnyH_take (i := 7) (oi := ⟨_, _, _, _, _, _⟩) (v := undef) rfl (by kernel_rfl) (by kernel_rfl) (by kernel_rfl) (fun _ _ _ h => h) (Or.inr ⟨by kernel_rfl, rfl⟩) (by assumption) ?_
    try simp only [Act.put, List.setIfInBounds_toArray, List.set_cons_zero, List.set_cons_succ]
    refine wpAnyH_take (i := 8) (oi := ⟨_, _, _, _, _, _⟩) (v := undef) rfl (by kernel_rfl) (by kernel_rfl) (by kernel_rfl) (fun _ _ _ h => h) (Or.inr ⟨by kernel_rfl, rfl⟩) (by assumption) ?_
    try simp only [Act.put, List.setIfInBounds_toArray, List.set_cons_zero, List.set_cons_succ]
    refine wpAnyH_take (i := 9) (oi := ⟨_, _, _, _, _, _⟩) (v := undef) rfl (by kernel_rfl) (by kernel_rfl) (by kernel_rfl) (fun _ _ _ h => h) (Or.inr ⟨by kernel_rfl, rfl⟩) (by assumption) ?_
    try simp only [Act.put, List.setIfInBounds_toArray, List.set_cons_zero, List.set_cons_succ]
    refine wpAnyH_take (i := 10) (oi := ⟨_, _, _, _, _, _⟩) (v := undef) rfl (by kernel_rfl) (by kernel_rfl) (by kernel_rfl) (fun _ _ _ h => h) (Or.inr ⟨by kernel_rfl, rfl⟩) (by assumption) ?_
    try simp only [Act.put, List.setIfInBounds_toArray, List.set_cons_zero, List.set_cons_succ]
    refine wpAnyH_take (i := 11) (oi := ⟨_, _, _, _, _, _⟩) (v := undef) rfl (by kernel_rfl) (by kernel_rfl) (by kernel_rfl) (fun _ _ _ h => h) (Or.inr ⟨by kernel_rfl, rfl⟩) (by assumption) ?_
    try simp only [Act.put, List.setIfInBounds_toArray, List.set_cons_zero, List.set_cons_succ]
    refine wpAnyH_take (i := 12) (oi := ⟨_, _, _, _, _, _⟩) (v := undef) rfl (by kernel_rfl) (by kernel_rfl) (by kernel_rfl) (fun _ _ _ h => h) (Or.inr ⟨by kernel_rfl, rfl⟩) (by assumption) ?_
    try simp only [Act.put, List.setIfInBounds_toArray, List.set_cons_zero, List.set_cons_succ]
    (refine wpAnyH_take (i := 13) (oi := ⟨_, _, _, _, _, _⟩) (v := ?_) rfl (by kernel_rfl) (by kernel_rfl) (by kernel_rfl) (fun _ _ _ h => h) (Or.inl ⟨by rfl, ?_⟩) (by assumption) ?_; rotate_left 1; · (intro w hSw; (try dsimp only at hSw); go_simp; all_goals with_reducible rfl))
    try simp only [Act.put, List.setIfInBounds_toArray, List.set_cons_zero, List.set_cons_succ]
    refine wpAnyH_ready (rs := [14]) (by kernel_rfl) (by simp) ?_
    refine AllReadyH.cons (o := ⟨_, _, _, _, _, _⟩) rfl (fun Kq hKq => ?_) AllReadyH.nil
    clear hHeld
    refine wp_store_row 39 _ _ rfl w.heap.size #[.int .u8 x1, .int .i64 x2.1, .int .i64 x2.2, .int .i64 x3.1, .int .i64 x3.2, .int .i64 x4, .int .i64 x5, .int .i64 x6.1, .int .i64 x6.2, .slice a.1 a.2.1 a.2.2, .slice b.1 b.2.1 b.2.2, .slice c.1 c.2.1 c.2.2, .slice d.1 d.2.1 d.2.2, .slice e.1 e.2.1 e.2.2] rfl rfl 39 #[.int .u8 0, .int .i64 0, .int .i64 0, .int .i64 0, .int .i64 0, .int .i64 0, .int .i64 0, .int .i64 0, .int .i64 0, .slice none 0 0, .slice none 0 0, .slice none 0 0, .slice none 0 0, .slice none 0 0] HZ1.out HS.out rfl (by simp [Value.oneCell']) ?_
    refine hKq.out _ _ ?_ (fun hHeld => ?_)
    · (try dsimp only); exact ⟨pbox_cells (p := w.heap.size + 1 + 1) (g := w.heap.size + 1) (b := true) ((setRow_other _ _ _ _ (by omega)).trans HP7.out), fbox_cells (g := w.heap.size + 1 + 1 + 1) (F := {k := x1, f := x2, t := x3, n := x4, q := x5, b := x6, v := x7 : Fr}) ((setRow_other _ _ _ _ (by omega)).trans G14.out.y)⟩
    clear hKq Kq
    try simp only [Act.put]
    (refine wpAnyH_take (i := 15) (oi := ⟨_, _, _, _, _, _⟩) (v := ?_) rfl (by kernel_rfl) (by kernel_rfl) (by kernel_rfl) (fun _ _ _ h => h) (Or.inl ⟨by rfl, ?_⟩) (by assumption) ?_; rotate_left 1; · (intro w hSw; (try dsimp only at hSw); go_simp; all_goals with_reducible rfl))
    try simp only [Act.put, List.setIfInBounds_toArray, List.set_cons_zero, List.set_cons_succ]
    refine wpAnyH_done (by kernel_rfl) ?_ _
    have HU := Lib.hid (show FBox (w8.drew.setRow w.heap.size #[.int .u8 x1, .int .i64 x2.1, .int .i64 x2.2, .int .i64 x3.1, .int .i64 x3.2, .int .i64 x4, .int .i64 x5, .int .i64 x6.1, .int .i64 x6.2, .slice a.1 a.2.1 a.2.2, .slice b.1 b.2.1 b.2.2, .slice c.1 c.2.1 c.2.2, .slice d.1 d.2.1 d.2.2, .slice e.1 e.2.1 e.2.2]) w.heap.size {k := x1, f := x2, t := x3, n := x4, q := x5, b := x6, v := x7 : Fr} a b c d e from setRow_heap w8.drew w.heap.size #[.int .u8 0, .int .i64 0, .int .i64 0, .int .i64 0, .int .i64 0, .int .i64 0, .int .i64 0, .int .i64 0, .int .i64 0, .slice none 0 0, .slice none 0 0, .slice none 0 0, .slice none 0 0, .slice none 0 0] #[.int .u8 x1, .int .i64 x2.1, .int .i64 x2.2, .int .i64 x3.1, .int .i64 x3.2, .int .i64 x4, .int .i64 x5, .int .i64 x6.1, .int .i64 x6.2, .slice a.1 a.2.1 a.2.2, .slice b.1 b.2.1 b.2.2, .slice c.1 c.2.1 c.2.2, .slice d.1 d.2.1 d.2.2, .slice e.1 e.2.1 e.2.2] 39 _ HZ1.out)
    have KU := Lib.hid (show w8.grownBy (w8.drew.setRow w.heap.size #[.int .u8 x1, .int .i64 x2.1, .int .i64 x2.2, .int .i64 x3.1, .int .i64 x3.2, .int .i64 x4, .int .i64 x5, .int .i64 x6.1, .int .i64 x6.2, .slice a.1 a.2.1 a.2.2, .slice b.1 b.2.1 b.2.2, .slice c.1 c.2.1 c.2.2, .slice d.1 d.2.1 d.2.2, .slice e.1 e.2.1 e.2.2]) (some w.heap.size) from ⟨(grown_row w8.drew w.heap.size #[.int .u8 x1, .int .i64 x2.1, .int .i64 x2.2, .int .i64 x3.1, .int .i64 x3.2, .int .i64 x4, .int .i64 x5, .int .i64 x6.1, .int .i64 x6.2, .slice a.1 a.2.1 a.2.2, .slice b.1 b.2.1 b.2.2, .slice c.1 c.2.1 c.2.2, .slice d.1 d.2.1 d.2.2, .slice e.1 e.2.1 e.2.2]).os, (grown_row w8.drew w.heap.size #[.int .u8 x1, .int .i64 x2.1, .int .i64 x2.2, .int .i64 x3.1, .int .i64 x3.2, .int .i64 x4, .int .i64 x5, .int .i64 x6.1, .int .i64 x6.2, .slice a.1 a.2.1 a.2.2, .slice b.1 b.2.1 b.2.2, .slice c.1 c.2.1 c.2.2, .slice d.1 d.2.1 d.2.2, .slice e.1 e.2.1 e.2.2]).tape, (grown_row w8.drew w.heap.size #[.int .u8 x1, .int .i64 x2.1, .int .i64 x2.2, .int .i64 x3.1, .int .i64 x3.2, .int .i64 x4, .int .i64 x5, .int .i64 x6.1, .int .i64 x6.2, .slice a.1 a.2.1 a.2.2, .slice b.1 b.2.1 b.2.2, .slice c.1 c.2.1 c.2.2, .slice d.1 d.2.1 d.2.2, .slice e.1 e.2.1 e.2.2]).output, (grown_row w8.drew w.heap.size #[.int .u8 x1, .int .i64 x2.1, .int .i64 x2.2, .int .i64 x3.1, .int .i64 x3.2, .int .i64 x4, .int .i64 x5, .int .i64 x6.1, .int .i64 x6.2, .slice a.1 a.2.1 a.2.2, .slice b.1 b.2.1 b.2.2, .slice c.1 c.2.1 c.2.2, .slice d.1 d.2.1 d.2.2, .slice e.1 e.2.1 e.2.2]).size, (grown_row w8.drew w.heap.size #[.int .u8 x1, .int .i64 x2.1, .int .i64 x2.2, .int .i64 x3.1, .int .i64 x3.2, .int .i64 x4, .int .i64 x5, .int .i64 x6.1, .int .i64 x6.2, .slice a.1 a.2.1 a.2.2, .slice b.1 b.2.1 b.2.2, .slice c.1 c.2.1 c.2.2, .slice d.1 d.2.1 d.2.2, .slice e.1 e.2.1 e.2.2]).block⟩)
    go_wp2_with fail
    obtain ⟨q0, q1, q2, q3, q4, q5, q6, q7, q8, q9, q10, q11, q12, q13⟩ := fbox_cells HU.out
    dsimp only at q0 q1 q2 q3 q4 q5 q6 q7 q8 q9 q10 q11 q12 q13
    refine bodyPost_ret (v := .tuple #[.agg #[.int .u8 x1, .int .i64 x2.1, .int .i64 x2.2, .int .i64 x3.1, .int .i64 x3.2, .int .i64 x4, .int .i64 x5, .int .i64 x6.1, .int .i64 x6.2, .slice a.1 a.2.1 a.2.2, .slice b.1 b.2.1 b.2.2, .slice c.1 c.2.1 c.2.2, .slice d.1 d.2.1 d.2.2, .slice e.1 e.2.1 e.2.2], .bool (false)]) (by simp [results, Tryz.results24, go_sem, q0, q1, q2, q3, q4, q5, q6, q7, q8, q9, q10, q11, q12, q13]) rfl ?_
    rw [HF.out, HO.out, HV.out]
    refine ⟨a, b, c, d, e, rfl, ?_, ?_⟩
    · exact (G14.out.o.write (show w8.heap[w.heap.size]? = _ from HZ1.out) (by decide) (by decide) (by decide) (by decide) KU.out)
    · exact G14.out.b.trans (below_gone KU.out (Nat.le_refl _) G14.out.b.size)
end Go.Proofs.YtkeiekljedhllaaGreat
