/-
  Carried over and put together: contracts of this program's functions, and plain facts. No statement is proved in this text.
-/
import Derived.Test.YtkeiekljedhllaaGreatF17
set_option maxRecDepth 20000
namespace Go.Proofs.YtkeiekljedhllaaGreat
open Go Go.RowKit
/-- Is an ID none? -/
def zeroI (x : Sets.Id2) : Bool := x.1 == 0 && x.2 == 0
def zeroS (F : Fr) : Bool := (F.v.c.length : Int) + (F.v.s.length : Int) == 0
def zeroK (F : Fr) : Bool := (F.v.m.length : Int) + (F.v.f.length : Int) + (F.v.r.length : Int) == 0
def y1 (F : Fr) : Bool := fitsB (fieldsN F.k) 1 (Ros.vid F.f.1 F.f.2) (zeroI F.f)
def y2 (F : Fr) : Bool := fitsB (fieldsN F.k) 2 (adrB F.t) (zeroI F.t)
def y3 (F : Fr) : Bool := fitsB (fieldsN F.k) 4 (good F.n) (F.n == 0)
def y4 (F : Fr) : Bool := fitsB (fieldsN F.k) 8 (good F.q) (F.q == 0)
def y5 (F : Fr) : Bool := fitsB (fieldsN F.k) 16 (Ros.vid F.b.1 F.b.2) (zeroI F.b)
def y6 (F : Fr) : Bool := fitsB (fieldsN F.k) 32 (mayV F.v) (zeroS F)
def y7 (F : Fr) : Bool := fitsB (fieldsN F.k) 64 true (zeroK F)
/-- May a frame be? -/
def mayF (F : Fr) : Bool := (((((((fieldsN F.k != 0) && (y1 F)) && (y2 F)) && (y3 F)) && (y4 F)) && (y5 F)) && (y6 F)) && (y7 F)
/-- What stands of the world. -/
structure MaG (w : World) (X H Z Y : Nat) (F : Fr) (a b c d e : SL) (W : World) : Prop where
  x : FBox W X F a b c d e
  h : One W H 5 (.int .u8 (fieldsN F.k))
  z : Box W Z 0 0
  y : VBox W Y a b c d e
  r : RV W a b c d e F.v
  f : FitVIE 5000 F.v
  below : Below w.heap.size w W
theorem MaG.step {w : World} {X H Z Y : Nat} {F : Fr} {a b c d e : SL} {W W' : World} (h : MaG w X H Z Y F a b c d e W) (hb : Below W.heap.size W W') : MaG w X H Z Y F a b c d e W' :=
  ⟨fbox_below h.x hb, one_below h.h hb, box_below h.z hb, vbox_below h.y hb, h.r.below hb, h.f, below_after h.below hb (Nat.le_refl _)⟩
/-- The slots of the region's operations. -/
def maFDs : List (Option Tmp) := [some 13, some 14, some 15, some 16, some 17, some 18, some 19, some 20, some 21, some 22, some 23, some 24, some 25, some 26, some 27, some 28, some 29, some 30, some 31, some 32, some 33, some 34, some 35, some 36, some 37, some 38, some 39, some 40, some 41, some 42, some 43, some 44, some 45, some 46, some 47, some 48, some 49, some 50, some 51, some 52, some 53, some 54, some 55, some 56, some 57, some 58, some 59, some 60, some 61, some 62, some 63, some 64, some 65, some 66, some 67, some 68, some 69, some 70, some 71, some 72, some 73, some 74, some 75, some 76, some 77, some 78, some 79, some 80, some 81, some 82, some 83, some 84, some 85, some 86, some 87, some 88, some 89, some 90, some 91, some 92, some 93, some 94, some 95, some 96, some 97, some 2]
/-- What is said of them. -/
def maFF (X H _ Y : Nat) (F : Fr) (a0 b0 c0 d0 e0 : Option Addr) (a2 b2 c2 d2 e2 : Nat) : Nat → Value → World → Prop := fun i v _ => match i with
  | 0 => v = .int .u8 (fieldsN F.k)
  | 1 => v = .bool (fieldsN F.k != 0)
  | 2 => v = .bool (fieldsN F.k != 0)
  | 3 => (fieldsN F.k != 0) = true → v = .func (.func 15) #[] #[.pointer (some ⟨H, 0, none⟩)]
  | 4 => (fieldsN F.k != 0) = true → v = .pointer (some ⟨X, 1, none⟩)
  | 5 => (fieldsN F.k != 0) = true → v = .agg #[.int .i64 F.f.1, .int .i64 F.f.2]
  | 6 => (fieldsN F.k != 0) = true → v = .bool (Ros.vid F.f.1 F.f.2)
  | 7 => (fieldsN F.k != 0) = true → v = .pointer (some ⟨X, 1, none⟩)
  | 8 => (fieldsN F.k != 0) = true → v = .agg #[.int .i64 F.f.1, .int .i64 F.f.2]
  | 9 => (fieldsN F.k != 0) = true → v = .agg #[.int .i64 0, .int .i64 0]
  | 10 => (fieldsN F.k != 0) = true → v = .bool (zeroI F.f)
  | 11 => (fieldsN F.k != 0) = true → v = .bool (y1 F)
  | 12 => v = .bool ((fieldsN F.k != 0) && (y1 F))
  | 13 => v = .bool ((fieldsN F.k != 0) && (y1 F))
  | 14 => ((fieldsN F.k != 0) && (y1 F)) = true → v = .func (.func 15) #[] #[.pointer (some ⟨H, 0, none⟩)]
  | 15 => ((fieldsN F.k != 0) && (y1 F)) = true → v = .pointer (some ⟨X, 3, none⟩)
  | 16 => ((fieldsN F.k != 0) && (y1 F)) = true → v = .agg #[.int .i64 F.t.1, .int .i64 F.t.2]
  | 17 => ((fieldsN F.k != 0) && (y1 F)) = true → v = .bool (adrB F.t)
  | 18 => ((fieldsN F.k != 0) && (y1 F)) = true → v = .pointer (some ⟨X, 3, none⟩)
  | 19 => ((fieldsN F.k != 0) && (y1 F)) = true → v = .agg #[.int .i64 F.t.1, .int .i64 F.t.2]
  | 20 => ((fieldsN F.k != 0) && (y1 F)) = true → v = .agg #[.int .i64 0, .int .i64 0]
  | 21 => ((fieldsN F.k != 0) && (y1 F)) = true → v = .bool (zeroI F.t)
  | 22 => ((fieldsN F.k != 0) && (y1 F)) = true → v = .bool (y2 F)
  | 23 => v = .bool (((fieldsN F.k != 0) && (y1 F)) && (y2 F))
  | 24 => v = .bool (((fieldsN F.k != 0) && (y1 F)) && (y2 F))
  | 25 => (((fieldsN F.k != 0) && (y1 F)) && (y2 F)) = true → v = .func (.func 15) #[] #[.pointer (some ⟨H, 0, none⟩)]
  | 26 => (((fieldsN F.k != 0) && (y1 F)) && (y2 F)) = true → v = .pointer (some ⟨X, 5, none⟩)
  | 27 => (((fieldsN F.k != 0) && (y1 F)) && (y2 F)) = true → v = .int .i64 F.n
  | 28 => (((fieldsN F.k != 0) && (y1 F)) && (y2 F)) = true → v = .bool (good F.n)
  | 29 => (((fieldsN F.k != 0) && (y1 F)) && (y2 F)) = true → v = .pointer (some ⟨X, 5, none⟩)
  | 30 => (((fieldsN F.k != 0) && (y1 F)) && (y2 F)) = true → v = .int .i64 F.n
  | 31 => (((fieldsN F.k != 0) && (y1 F)) && (y2 F)) = true → v = .bool (F.n == 0)
  | 32 => (((fieldsN F.k != 0) && (y1 F)) && (y2 F)) = true → v = .bool (y3 F)
  | 33 => v = .bool ((((fieldsN F.k != 0) && (y1 F)) && (y2 F)) && (y3 F))
  | 34 => v = .bool ((((fieldsN F.k != 0) && (y1 F)) && (y2 F)) && (y3 F))
  | 35 => ((((fieldsN F.k != 0) && (y1 F)) && (y2 F)) && (y3 F)) = true → v = .func (.func 15) #[] #[.pointer (some ⟨H, 0, none⟩)]
  | 36 => ((((fieldsN F.k != 0) && (y1 F)) && (y2 F)) && (y3 F)) = true → v = .pointer (some ⟨X, 6, none⟩)
  | 37 => ((((fieldsN F.k != 0) && (y1 F)) && (y2 F)) && (y3 F)) = true → v = .int .i64 F.q
  | 38 => ((((fieldsN F.k != 0) && (y1 F)) && (y2 F)) && (y3 F)) = true → v = .bool (good F.q)
  | 39 => ((((fieldsN F.k != 0) && (y1 F)) && (y2 F)) && (y3 F)) = true → v = .pointer (some ⟨X, 6, none⟩)
  | 40 => ((((fieldsN F.k != 0) && (y1 F)) && (y2 F)) && (y3 F)) = true → v = .int .i64 F.q
  | 41 => ((((fieldsN F.k != 0) && (y1 F)) && (y2 F)) && (y3 F)) = true → v = .bool (F.q == 0)
  | 42 => ((((fieldsN F.k != 0) && (y1 F)) && (y2 F)) && (y3 F)) = true → v = .bool (y4 F)
  | 43 => v = .bool (((((fieldsN F.k != 0) && (y1 F)) && (y2 F)) && (y3 F)) && (y4 F))
  | 44 => v = .bool (((((fieldsN F.k != 0) && (y1 F)) && (y2 F)) && (y3 F)) && (y4 F))
  | 45 => (((((fieldsN F.k != 0) && (y1 F)) && (y2 F)) && (y3 F)) && (y4 F)) = true → v = .func (.func 15) #[] #[.pointer (some ⟨H, 0, none⟩)]
  | 46 => (((((fieldsN F.k != 0) && (y1 F)) && (y2 F)) && (y3 F)) && (y4 F)) = true → v = .pointer (some ⟨X, 7, none⟩)
  | 47 => (((((fieldsN F.k != 0) && (y1 F)) && (y2 F)) && (y3 F)) && (y4 F)) = true → v = .agg #[.int .i64 F.b.1, .int .i64 F.b.2]
  | 48 => (((((fieldsN F.k != 0) && (y1 F)) && (y2 F)) && (y3 F)) && (y4 F)) = true → v = .bool (Ros.vid F.b.1 F.b.2)
  | 49 => (((((fieldsN F.k != 0) && (y1 F)) && (y2 F)) && (y3 F)) && (y4 F)) = true → v = .pointer (some ⟨X, 7, none⟩)
  | 50 => (((((fieldsN F.k != 0) && (y1 F)) && (y2 F)) && (y3 F)) && (y4 F)) = true → v = .agg #[.int .i64 F.b.1, .int .i64 F.b.2]
  | 51 => (((((fieldsN F.k != 0) && (y1 F)) && (y2 F)) && (y3 F)) && (y4 F)) = true → v = .agg #[.int .i64 0, .int .i64 0]
  | 52 => (((((fieldsN F.k != 0) && (y1 F)) && (y2 F)) && (y3 F)) && (y4 F)) = true → v = .bool (zeroI F.b)
  | 53 => (((((fieldsN F.k != 0) && (y1 F)) && (y2 F)) && (y3 F)) && (y4 F)) = true → v = .bool (y5 F)
  | 54 => v = .bool ((((((fieldsN F.k != 0) && (y1 F)) && (y2 F)) && (y3 F)) && (y4 F)) && (y5 F))
  | 55 => v = .bool ((((((fieldsN F.k != 0) && (y1 F)) && (y2 F)) && (y3 F)) && (y4 F)) && (y5 F))
  | 56 => ((((((fieldsN F.k != 0) && (y1 F)) && (y2 F)) && (y3 F)) && (y4 F)) && (y5 F)) = true → v = .func (.func 15) #[] #[.pointer (some ⟨H, 0, none⟩)]
  | 57 => ((((((fieldsN F.k != 0) && (y1 F)) && (y2 F)) && (y3 F)) && (y4 F)) && (y5 F)) = true → v = .agg #[.slice a0 F.v.m.length a2, .slice b0 F.v.f.length b2, .slice c0 F.v.r.length c2, .slice d0 F.v.c.length d2, .slice e0 F.v.s.length e2]
  | 58 => ((((((fieldsN F.k != 0) && (y1 F)) && (y2 F)) && (y3 F)) && (y4 F)) && (y5 F)) = true → v = .bool (mayV F.v)
  | 59 => ((((((fieldsN F.k != 0) && (y1 F)) && (y2 F)) && (y3 F)) && (y4 F)) && (y5 F)) = true → v = .pointer (some ⟨Y, 3, none⟩)
  | 60 => ((((((fieldsN F.k != 0) && (y1 F)) && (y2 F)) && (y3 F)) && (y4 F)) && (y5 F)) = true → v = .slice d0 F.v.c.length d2
  | 61 => ((((((fieldsN F.k != 0) && (y1 F)) && (y2 F)) && (y3 F)) && (y4 F)) && (y5 F)) = true → v = .int .i64 (F.v.c.length : Int)
  | 62 => ((((((fieldsN F.k != 0) && (y1 F)) && (y2 F)) && (y3 F)) && (y4 F)) && (y5 F)) = true → v = .pointer (some ⟨Y, 4, none⟩)
  | 63 => ((((((fieldsN F.k != 0) && (y1 F)) && (y2 F)) && (y3 F)) && (y4 F)) && (y5 F)) = true → v = .slice e0 F.v.s.length e2
  | 64 => ((((((fieldsN F.k != 0) && (y1 F)) && (y2 F)) && (y3 F)) && (y4 F)) && (y5 F)) = true → v = .int .i64 (F.v.s.length : Int)
  | 65 => ((((((fieldsN F.k != 0) && (y1 F)) && (y2 F)) && (y3 F)) && (y4 F)) && (y5 F)) = true → v = .int .i64 ((F.v.c.length : Int) + (F.v.s.length : Int))
  | 66 => ((((((fieldsN F.k != 0) && (y1 F)) && (y2 F)) && (y3 F)) && (y4 F)) && (y5 F)) = true → v = .bool (zeroS F)
  | 67 => ((((((fieldsN F.k != 0) && (y1 F)) && (y2 F)) && (y3 F)) && (y4 F)) && (y5 F)) = true → v = .bool (y6 F)
  | 68 => v = .bool (((((((fieldsN F.k != 0) && (y1 F)) && (y2 F)) && (y3 F)) && (y4 F)) && (y5 F)) && (y6 F))
  | 69 => v = .bool (((((((fieldsN F.k != 0) && (y1 F)) && (y2 F)) && (y3 F)) && (y4 F)) && (y5 F)) && (y6 F))
  | 70 => (((((((fieldsN F.k != 0) && (y1 F)) && (y2 F)) && (y3 F)) && (y4 F)) && (y5 F)) && (y6 F)) = true → v = .func (.func 15) #[] #[.pointer (some ⟨H, 0, none⟩)]
  | 71 => (((((((fieldsN F.k != 0) && (y1 F)) && (y2 F)) && (y3 F)) && (y4 F)) && (y5 F)) && (y6 F)) = true → v = .pointer (some ⟨Y, 0, none⟩)
  | 72 => (((((((fieldsN F.k != 0) && (y1 F)) && (y2 F)) && (y3 F)) && (y4 F)) && (y5 F)) && (y6 F)) = true → v = .slice a0 F.v.m.length a2
  | 73 => (((((((fieldsN F.k != 0) && (y1 F)) && (y2 F)) && (y3 F)) && (y4 F)) && (y5 F)) && (y6 F)) = true → v = .int .i64 (F.v.m.length : Int)
  | 74 => (((((((fieldsN F.k != 0) && (y1 F)) && (y2 F)) && (y3 F)) && (y4 F)) && (y5 F)) && (y6 F)) = true → v = .pointer (some ⟨Y, 1, none⟩)
  | 75 => (((((((fieldsN F.k != 0) && (y1 F)) && (y2 F)) && (y3 F)) && (y4 F)) && (y5 F)) && (y6 F)) = true → v = .slice b0 F.v.f.length b2
  | 76 => (((((((fieldsN F.k != 0) && (y1 F)) && (y2 F)) && (y3 F)) && (y4 F)) && (y5 F)) && (y6 F)) = true → v = .int .i64 (F.v.f.length : Int)
  | 77 => (((((((fieldsN F.k != 0) && (y1 F)) && (y2 F)) && (y3 F)) && (y4 F)) && (y5 F)) && (y6 F)) = true → v = .int .i64 ((F.v.m.length : Int) + (F.v.f.length : Int))
  | 78 => (((((((fieldsN F.k != 0) && (y1 F)) && (y2 F)) && (y3 F)) && (y4 F)) && (y5 F)) && (y6 F)) = true → v = .pointer (some ⟨Y, 2, none⟩)
  | 79 => (((((((fieldsN F.k != 0) && (y1 F)) && (y2 F)) && (y3 F)) && (y4 F)) && (y5 F)) && (y6 F)) = true → v = .slice c0 F.v.r.length c2
  | 80 => (((((((fieldsN F.k != 0) && (y1 F)) && (y2 F)) && (y3 F)) && (y4 F)) && (y5 F)) && (y6 F)) = true → v = .int .i64 (F.v.r.length : Int)
  | 81 => (((((((fieldsN F.k != 0) && (y1 F)) && (y2 F)) && (y3 F)) && (y4 F)) && (y5 F)) && (y6 F)) = true → v = .int .i64 ((((F.v.m.length : Int) + (F.v.f.length : Int))) + (F.v.r.length : Int))
  | 82 => (((((((fieldsN F.k != 0) && (y1 F)) && (y2 F)) && (y3 F)) && (y4 F)) && (y5 F)) && (y6 F)) = true → v = .bool (zeroK F)
  | 83 => (((((((fieldsN F.k != 0) && (y1 F)) && (y2 F)) && (y3 F)) && (y4 F)) && (y5 F)) && (y6 F)) = true → v = .bool (y7 F)
  | 84 => v = .bool ((((((((fieldsN F.k != 0) && (y1 F)) && (y2 F)) && (y3 F)) && (y4 F)) && (y5 F)) && (y6 F)) && (y7 F))
  | 85 => v = .bool ((((((((fieldsN F.k != 0) && (y1 F)) && (y2 F)) && (y3 F)) && (y4 F)) && (y5 F)) && (y6 F)) && (y7 F))
  | _ => True
theorem maFF_mono (X H Z Y : Nat) (F : Fr) (a0 b0 c0 d0 e0 : Option Addr) (a2 b2 c2 d2 e2 : Nat) : ∀ i v w w', maFF X H Z Y F a0 b0 c0 d0 e0 a2 b2 c2 d2 e2 i v w → Below w.heap.size w w' → maFF X H Z Y F a0 b0 c0 d0 e0 a2 b2 c2 d2 e2 i v w' := by
  intro i v w w' h _
  unfold maFF at h ⊢
  exact h
theorem ma_start (w : World) (F : Fr) (a b c d e : SL) (hr : RV w a b c d e F.v) (hF : FitVIE 5000 F.v) :
    MaG w w.heap.size (w.heap.size + 1) (w.heap.size + 1 + 1) (w.heap.size + 1 + 1 + 1) F a b c d e ((((w.alloc (.cells #[.int .u8 F.k, .int .i64 F.f.1, .int .i64 F.f.2, .int .i64 F.t.1, .int .i64 F.t.2, .int .i64 F.n, .int .i64 F.q, .int .i64 F.b.1, .int .i64 F.b.2, .slice a.1 a.2.1 a.2.2, .slice b.1 b.2.1 b.2.2, .slice c.1 c.2.1 c.2.2, .slice d.1 d.2.1 d.2.2, .slice e.1 e.2.1 e.2.2] 39)).alloc (.cells #[.int .u8 (fieldsN F.k)] 5)).alloc (.cells #[.int .i64 0, .int .i64 0] 24)).alloc (.cells #[.slice a.1 a.2.1 a.2.2, .slice b.1 b.2.1 b.2.2, .slice c.1 c.2.1 c.2.2, .slice d.1 d.2.1 d.2.2, .slice e.1 e.2.1 e.2.2] 33)) := by
  have b1 := below_one w (.cells #[.int .u8 F.k, .int .i64 F.f.1, .int .i64 F.f.2, .int .i64 F.t.1, .int .i64 F.t.2, .int .i64 F.n, .int .i64 F.q, .int .i64 F.b.1, .int .i64 F.b.2, .slice a.1 a.2.1 a.2.2, .slice b.1 b.2.1 b.2.2, .slice c.1 c.2.1 c.2.2, .slice d.1 d.2.1 d.2.2, .slice e.1 e.2.1 e.2.2] 39)
  have b2 := below_one (w.alloc (.cells #[.int .u8 F.k, .int .i64 F.f.1, .int .i64 F.f.2, .int .i64 F.t.1, .int .i64 F.t.2, .int .i64 F.n, .int .i64 F.q, .int .i64 F.b.1, .int .i64 F.b.2, .slice a.1 a.2.1 a.2.2, .slice b.1 b.2.1 b.2.2, .slice c.1 c.2.1 c.2.2, .slice d.1 d.2.1 d.2.2, .slice e.1 e.2.1 e.2.2] 39)) (.cells #[.int .u8 (fieldsN F.k)] 5)
  have b3 := below_one ((w.alloc (.cells #[.int .u8 F.k, .int .i64 F.f.1, .int .i64 F.f.2, .int .i64 F.t.1, .int .i64 F.t.2, .int .i64 F.n, .int .i64 F.q, .int .i64 F.b.1, .int .i64 F.b.2, .slice a.1 a.2.1 a.2.2, .slice b.1 b.2.1 b.2.2, .slice c.1 c.2.1 c.2.2, .slice d.1 d.2.1 d.2.2, .slice e.1 e.2.1 e.2.2] 39)).alloc (.cells #[.int .u8 (fieldsN F.k)] 5)) (.cells #[.int .i64 0, .int .i64 0] 24)
  have b4 := below_one (((w.alloc (.cells #[.int .u8 F.k, .int .i64 F.f.1, .int .i64 F.f.2, .int .i64 F.t.1, .int .i64 F.t.2, .int .i64 F.n, .int .i64 F.q, .int .i64 F.b.1, .int .i64 F.b.2, .slice a.1 a.2.1 a.2.2, .slice b.1 b.2.1 b.2.2, .slice c.1 c.2.1 c.2.2, .slice d.1 d.2.1 d.2.2, .slice e.1 e.2.1 e.2.2] 39)).alloc (.cells #[.int .u8 (fieldsN F.k)] 5)).alloc (.cells #[.int .i64 0, .int .i64 0] 24)) (.cells #[.slice a.1 a.2.1 a.2.2, .slice b.1 b.2.1 b.2.2, .slice c.1 c.2.1 c.2.2, .slice d.1 d.2.1 d.2.2, .slice e.1 e.2.1 e.2.2] 33)
  have h1 : (w.alloc (.cells #[.int .u8 F.k, .int .i64 F.f.1, .int .i64 F.f.2, .int .i64 F.t.1, .int .i64 F.t.2, .int .i64 F.n, .int .i64 F.q, .int .i64 F.b.1, .int .i64 F.b.2, .slice a.1 a.2.1 a.2.2, .slice b.1 b.2.1 b.2.2, .slice c.1 c.2.1 c.2.2, .slice d.1 d.2.1 d.2.2, .slice e.1 e.2.1 e.2.2] 39)).heap.size = w.heap.size + 1 := by simp
  have h2 : ((w.alloc (.cells #[.int .u8 F.k, .int .i64 F.f.1, .int .i64 F.f.2, .int .i64 F.t.1, .int .i64 F.t.2, .int .i64 F.n, .int .i64 F.q, .int .i64 F.b.1, .int .i64 F.b.2, .slice a.1 a.2.1 a.2.2, .slice b.1 b.2.1 b.2.2, .slice c.1 c.2.1 c.2.2, .slice d.1 d.2.1 d.2.2, .slice e.1 e.2.1 e.2.2] 39)).alloc (.cells #[.int .u8 (fieldsN F.k)] 5)).heap.size = w.heap.size + 1 + 1 := by simp
  have h3 : (((w.alloc (.cells #[.int .u8 F.k, .int .i64 F.f.1, .int .i64 F.f.2, .int .i64 F.t.1, .int .i64 F.t.2, .int .i64 F.n, .int .i64 F.q, .int .i64 F.b.1, .int .i64 F.b.2, .slice a.1 a.2.1 a.2.2, .slice b.1 b.2.1 b.2.2, .slice c.1 c.2.1 c.2.2, .slice d.1 d.2.1 d.2.2, .slice e.1 e.2.1 e.2.2] 39)).alloc (.cells #[.int .u8 (fieldsN F.k)] 5)).alloc (.cells #[.int .i64 0, .int .i64 0] 24)).heap.size = w.heap.size + 1 + 1 + 1 := by simp
  refine ⟨fbox_below (fbox_below (fbox_below (fbox_new w F a b c d e) b2) b3) b4, ?_, ?_, ?_, (((hr.below b1).below b2).below b3).below b4, hF, ?_⟩
  · have := one_new (w.alloc (.cells #[.int .u8 F.k, .int .i64 F.f.1, .int .i64 F.f.2, .int .i64 F.t.1, .int .i64 F.t.2, .int .i64 F.n, .int .i64 F.q, .int .i64 F.b.1, .int .i64 F.b.2, .slice a.1 a.2.1 a.2.2, .slice b.1 b.2.1 b.2.2, .slice c.1 c.2.1 c.2.2, .slice d.1 d.2.1 d.2.2, .slice e.1 e.2.1 e.2.2] 39)) 5 (.int .u8 (fieldsN F.k))
    rw [h1] at this
    exact one_below (one_below this b3) b4
  · have := box_new ((w.alloc (.cells #[.int .u8 F.k, .int .i64 F.f.1, .int .i64 F.f.2, .int .i64 F.t.1, .int .i64 F.t.2, .int .i64 F.n, .int .i64 F.q, .int .i64 F.b.1, .int .i64 F.b.2, .slice a.1 a.2.1 a.2.2, .slice b.1 b.2.1 b.2.2, .slice c.1 c.2.1 c.2.2, .slice d.1 d.2.1 d.2.2, .slice e.1 e.2.1 e.2.2] 39)).alloc (.cells #[.int .u8 (fieldsN F.k)] 5)) 0 0
    rw [h2] at this
    exact box_below this b4
  · have := vbox_new (((w.alloc (.cells #[.int .u8 F.k, .int .i64 F.f.1, .int .i64 F.f.2, .int .i64 F.t.1, .int .i64 F.t.2, .int .i64 F.n, .int .i64 F.q, .int .i64 F.b.1, .int .i64 F.b.2, .slice a.1 a.2.1 a.2.2, .slice b.1 b.2.1 b.2.2, .slice c.1 c.2.1 c.2.2, .slice d.1 d.2.1 d.2.2, .slice e.1 e.2.1 e.2.2] 39)).alloc (.cells #[.int .u8 (fieldsN F.k)] 5)).alloc (.cells #[.int .i64 0, .int .i64 0] 24)) a b c d e
    rw [h3] at this
    exact this
  · exact below_after (below_after (below_after b1 b2 (Nat.le_refl _)) b3 (Nat.le_refl _)) b4 (Nat.le_refl _)
set_option maxHeartbeats 16000000 in
theorem mayF_any (v : Value) (F : Fr) (w : World) (h : FAt w v F) (hF : FitVIE 5000 F.v) :
    Calls Tryz.prog 7 #[v] w fun e w' => e = .returned (.bool (mayF F)) ∧ Below w.heap.size w w' := by
  obtain ⟨⟨a0, a1, a2⟩, ⟨b0, b1, b2⟩, ⟨c0, c1, c2⟩, ⟨d0, d1, d2⟩, ⟨e0, e1, e2⟩, rfl, hr⟩ := h
  obtain rfl : a1 = F.v.m.length := rcs_len hr.m
  obtain rfl : b1 = F.v.f.length := ids_len hr.f
  obtain rfl : c1 = F.v.r.length := rows_len hr.r
  obtain rfl : d1 = F.v.c.length := rcs_len hr.c
  obtain rfl : e1 = F.v.s.length := ids_len hr.s
  have HF := Lib.hid hF
  have G0 := Lib.hid (ma_start w F (a0, F.v.m.length, a2) (b0, F.v.f.length, b2) (c0, F.v.r.length, c2) (d0, F.v.c.length, d2) (e0, F.v.s.length, e2) hr hF)
  obtain ⟨p0, p1, p2, p3, p4, p5, p6, p7, p8, p9, p10, p11, p12, p13⟩ := fbox_cells (fbox_new w F (a0, F.v.m.length, a2) (b0, F.v.f.length, b2) (c0, F.v.r.length, c2) (d0, F.v.c.length, d2) (e0, F.v.s.length, e2))
  clear hr hF
  go_enter Tryz.func7, Tryz.ntmps7
  go_wp2_with (go_at_call 14; (with_reducible refine (fields_any F.k _).mono ?_); rintro e1 w1 ⟨rfl, rfl⟩)
  clear p0 p1 p2 p3 p4 p5 p6 p7 p8 p9 p10 p11 p12 p13
  refine wp_region_due (by kernel_rfl) maFDs (maFF w.heap.size (w.heap.size + 1) (w.heap.size + 1 + 1) (w.heap.size + 1 + 1 + 1) F a0 b0 c0 d0 e0 a2 b2 c2 d2 e2) (MaG w w.heap.size (w.heap.size + 1) (w.heap.size + 1 + 1) (w.heap.size + 1 + 1 + 1) F (a0, F.v.m.length, a2) (b0, F.v.f.length, b2) (c0, F.v.r.length, c2) (d0, F.v.c.length, d2) (e0, F.v.s.length, e2)) rfl (by kernel_rfl) (by kernel_rfl) (by kernel_rfl) (maFF_mono w.heap.size (w.heap.size + 1) (w.heap.size + 1 + 1) (w.heap.size + 1 + 1 + 1) F a0 b0 c0 d0 e0 a2 b2 c2 d2 e2) (G0.out.step (below_drewN (n := 1) (Below.refl _ _))) ?_ ?_
  · clear G0
    refine AllDue.cons (due_met (.inl rfl) fun q w1 hG hold hf K hK => ?_) ?_
    · have f3 : q.tmps.getD 3 undef = .pointer (some ⟨w.heap.size + 1, 0, none⟩) := hold 3 (by kernel_rfl)
      have q3 := f3
      rw [Array.getD_eq_getD_getElem?] at q3
      have p0 := one_cell hG.h
      clear hf hold
      go_simp
      exact hK _ _ hG (Below.refl _ _) rfl
    refine AllDue.cons (due_met (.inl rfl) fun q w1 hG hold hf K hK => ?_) ?_
    · have f13 : q.tmps.getD 13 undef = .int .u8 (fieldsN F.k) := hf 0 13 (by kernel_rfl) rfl
      have q13 := f13
      rw [Array.getD_eq_getD_getElem?] at q13
      clear hf hold
      go_simp
      exact hK _ _ hG (Below.refl _ _) rfl
    refine AllDue.cons (due_met (.inl rfl) fun q w1 hG hold hf K hK => ?_) ?_
    · have f14 : q.tmps.getD 14 undef = .bool (fieldsN F.k != 0) := hf 1 14 (by kernel_rfl) rfl
      have q14 := f14
      rw [Array.getD_eq_getD_getElem?] at q14
      clear hf hold
      go_simp
      exact hK _ _ hG (Below.refl _ _) rfl
    refine AllDue.cons (due_ask (c := fieldsN F.k != 0) (b := true) (k := 2) (s := 15) rfl rfl (by kernel_rfl) (fun _ _ h => h) (fun h _ e => absurd e h) fun hc q w1 hG hold hf K hK => ?_) ?_
    · have f4 : q.tmps.getD 4 undef = .func (.func 15) #[] #[.pointer (some ⟨w.heap.size + 1, 0, none⟩)] := hold 4 (by kernel_rfl)
      have q4 := f4
      rw [Array.getD_eq_getD_getElem?] at q4
      clear hf hold
      go_simp
      exact hK _ _ hG (Below.refl _ _) (fun _ => rfl)
    refine AllDue.cons (due_ask (c := fieldsN F.k != 0) (b := true) (k := 2) (s := 15) rfl rfl (by kernel_rfl) (fun _ _ h => h) (fun h _ e => absurd e h) fun hc q w1 hG hold hf K hK => ?_) ?_
    · have f1 : q.tmps.getD 1 undef = .pointer (some ⟨w.heap.size, 0, none⟩) := hold 1 (by kernel_rfl)
      have q1 := f1
      rw [Array.getD_eq_getD_getElem?] at q1
      clear hf hold
      go_simp
      exact hK _ _ hG (Below.refl _ _) (fun _ => rfl)
    refine AllDue.cons (due_ask (c := fieldsN F.k != 0) (b := true) (k := 2) (s := 15) rfl rfl (by kernel_rfl) (fun _ _ h => h) (fun h _ e => absurd e h) fun hc q w1 hG hold hf K hK => ?_) ?_
    · have f17 : q.tmps.getD 17 undef = .pointer (some ⟨w.heap.size, 1, none⟩) := hf 4 17 (by kernel_rfl) rfl hc
      have q17 := f17
      rw [Array.getD_eq_getD_getElem?] at q17
      obtain ⟨p0, p1, p2, p3, p4, p5, p6, p7, p8, p9, p10, p11, p12, p13⟩ := fbox_cells hG.x
      clear hf hold
      go_simp
      exact hK _ _ hG (Below.refl _ _) (fun _ => rfl)
    refine AllDue.cons (due_ask (c := fieldsN F.k != 0) (b := true) (k := 2) (s := 15) rfl rfl (by kernel_rfl) (fun _ _ h => h) (fun h _ e => absurd e h) fun hc q w1 hG hold hf K hK => ?_) ?_
    · have f18 : q.tmps.getD 18 undef = .agg #[.int .i64 F.f.1, .int .i64 F.f.2] := hf 5 18 (by kernel_rfl) rfl hc
      have q18 := f18
      rw [Array.getD_eq_getD_getElem?] at q18
      clear hf hold
      go_simp
      go_at_call 16
      refine (may_anyROS _ _ _).mono ?_
      rintro e2 w2 ⟨rfl, hb⟩
      exact hK _ _ (hG.step hb) hb (fun _ => rfl)
    refine AllDue.cons (due_ask (c := fieldsN F.k != 0) (b := true) (k := 2) (s := 15) rfl rfl (by kernel_rfl) (fun _ _ h => h) (fun h _ e => absurd e h) fun hc q w1 hG hold hf K hK => ?_) ?_
    · have f1 : q.tmps.getD 1 undef = .pointer (some ⟨w.heap.size, 0, none⟩) := hold 1 (by kernel_rfl)
      have q1 := f1
      rw [Array.getD_eq_getD_getElem?] at q1
      clear hf hold
      go_simp
      exact hK _ _ hG (Below.refl _ _) (fun _ => rfl)
    refine AllDue.cons (due_ask (c := fieldsN F.k != 0) (b := true) (k := 2) (s := 15) rfl rfl (by kernel_rfl) (fun _ _ h => h) (fun h _ e => absurd e h) fun hc q w1 hG hold hf K hK => ?_) ?_
    · have f20 : q.tmps.getD 20 undef = .pointer (some ⟨w.heap.size, 1, none⟩) := hf 7 20 (by kernel_rfl) rfl hc
      have q20 := f20
      rw [Array.getD_eq_getD_getElem?] at q20
      obtain ⟨p0, p1, p2, p3, p4, p5, p6, p7, p8, p9, p10, p11, p12, p13⟩ := fbox_cells hG.x
      clear hf hold
      go_simp
      exact hK _ _ hG (Below.refl _ _) (fun _ => rfl)
    refine AllDue.cons (due_ask (c := fieldsN F.k != 0) (b := true) (k := 2) (s := 15) rfl rfl (by kernel_rfl) (fun _ _ h => h) (fun h _ e => absurd e h) fun hc q w1 hG hold hf K hK => ?_) ?_
    · have f5 : q.tmps.getD 5 undef = .pointer (some ⟨w.heap.size + 1 + 1, 0, none⟩) := hold 5 (by kernel_rfl)
      have q5 := f5
      rw [Array.getD_eq_getD_getElem?] at q5
      obtain ⟨p0, p1⟩ := box_cells hG.z
      clear hf hold
      go_simp
      exact hK _ _ hG (Below.refl _ _) (fun _ => rfl)
    refine AllDue.cons (due_ask (c := fieldsN F.k != 0) (b := true) (k := 2) (s := 15) rfl rfl (by kernel_rfl) (fun _ _ h => h) (fun h _ e => absurd e h) fun hc q w1 hG hold hf K hK => ?_) ?_
    · have f21 : q.tmps.getD 21 undef = .agg #[.int .i64 F.f.1, .int .i64 F.f.2] := hf 8 21 (by kernel_rfl) rfl hc
      have q21 := f21
      rw [Array.getD_eq_getD_getElem?] at q21
      have f22 : q.tmps.getD 22 undef = .agg #[.int .i64 0, .int .i64 0] := hf 9 22 (by kernel_rfl) rfl hc
      have q22 := f22
      rw [Array.getD_eq_getD_getElem?] at q22
      clear hf hold
      go_simp
      by_cases z1 : F.f.1 = 0
      · by_cases z2 : F.f.2 = 0
        · rw [if_pos z1, if_pos z2]
          exact hK _ _ hG (Below.refl _ _) (fun _ => by rw [show zeroI F.f = true by unfold zeroI; simp [z1, z2]])
        · rw [if_pos z1, if_neg z2]
          exact hK _ _ hG (Below.refl _ _) (fun _ => by rw [show zeroI F.f = false by unfold zeroI; simp [z2]])
      · rw [if_neg z1]
        exact hK _ _ hG (Below.refl _ _) (fun _ => by rw [show zeroI F.f = false by unfold zeroI; simp [z1]])
    refine AllDue.cons (due_ask (c := fieldsN F.k != 0) (b := true) (k := 2) (s := 15) rfl rfl (by kernel_rfl) (fun _ _ h => h) (fun h _ e => absurd e h) fun hc q w1 hG hold hf K hK => ?_) ?_
    · have f16 : q.tmps.getD 16 undef = .func (.func 15) #[] #[.pointer (some ⟨w.heap.size + 1, 0, none⟩)] := hf 3 16 (by kernel_rfl) rfl hc
      have q16 := f16
      rw [Array.getD_eq_getD_getElem?] at q16
      have f19 : q.tmps.getD 19 undef = .bool (Ros.vid F.f.1 F.f.2) := hf 6 19 (by kernel_rfl) rfl hc
      have q19 := f19
      rw [Array.getD_eq_getD_getElem?] at q19
      have f23 : q.tmps.getD 23 undef = .bool (zeroI F.f) := hf 10 23 (by kernel_rfl) rfl hc
      have q23 := f23
      rw [Array.getD_eq_getD_getElem?] at q23
      clear hf hold
      go_simp
      go_at_call 15
      refine (fits_any _ _ _ _ _ _ hG.h).mono ?_
      rintro e2 w2 ⟨rfl, rfl⟩
      exact hK _ _ hG (Below.refl _ _) (fun _ => rfl)
    refine AllDue.cons (due_met (.inl rfl) fun q w1 hG hold hf K hK => ?_) ?_
    · have g15 : q.tmps.getD 15 undef = .bool (fieldsN F.k != 0) := hf 2 15 (by kernel_rfl) rfl
      have g24 : (fieldsN F.k != 0) = true → q.tmps.getD 24 undef = .bool (y1 F) := hf 11 24 (by kernel_rfl) rfl
      clear hf hold
      rcases hb : (fieldsN F.k != 0) with _ | _
      · rw [hb] at g15
        rw [Array.getD_eq_getD_getElem?] at g15
        clear g24
        go_simp
        exact hK _ _ hG (Below.refl _ _) (show Value.bool false = .bool ((fieldsN F.k != 0) && (y1 F)) by rw [hb]; rfl)
      · rw [hb] at g15
        have k24 := g24 hb
        rw [Array.getD_eq_getD_getElem?] at k24
        rw [Array.getD_eq_getD_getElem?] at g15
        clear g24
        go_simp
        exact hK _ _ hG (Below.refl _ _) (show Value.bool (y1 F) = .bool ((fieldsN F.k != 0) && (y1 F)) by rw [hb]; rfl)
    refine AllDue.cons (due_met (.inl rfl) fun q w1 hG hold hf K hK => ?_) ?_
    · have f25 : q.tmps.getD 25 undef = .bool ((fieldsN F.k != 0) && (y1 F)) := hf 12 25 (by kernel_rfl) rfl
      have q25 := f25
      rw [Array.getD_eq_getD_getElem?] at q25
      clear hf hold
      go_simp
      exact hK _ _ hG (Below.refl _ _) rfl
    refine AllDue.cons (due_ask (c := (fieldsN F.k != 0) && (y1 F)) (b := true) (k := 13) (s := 26) rfl rfl (by kernel_rfl) (fun _ _ h => h) (fun h _ e => absurd e h) fun hc q w1 hG hold hf K hK => ?_) ?_
    · have f4 : q.tmps.getD 4 undef = .func (.func 15) #[] #[.pointer (some ⟨w.heap.size + 1, 0, none⟩)] := hold 4 (by kernel_rfl)
      have q4 := f4
      rw [Array.getD_eq_getD_getElem?] at q4
      clear hf hold
      go_simp
      exact hK _ _ hG (Below.refl _ _) (fun _ => rfl)
    refine AllDue.cons (due_ask (c := (fieldsN F.k != 0) && (y1 F)) (b := true) (k := 13) (s := 26) rfl rfl (by kernel_rfl) (fun _ _ h => h) (fun h _ e => absurd e h) fun hc q w1 hG hold hf K hK => ?_) ?_
    · have f1 : q.tmps.getD 1 undef = .pointer (some ⟨w.heap.size, 0, none⟩) := hold 1 (by kernel_rfl)
      have q1 := f1
      rw [Array.getD_eq_getD_getElem?] at q1
      clear hf hold
      go_simp
      exact hK _ _ hG (Below.refl _ _) (fun _ => rfl)
    refine AllDue.cons (due_ask (c := (fieldsN F.k != 0) && (y1 F)) (b := true) (k := 13) (s := 26) rfl rfl (by kernel_rfl) (fun _ _ h => h) (fun h _ e => absurd e h) fun hc q w1 hG hold hf K hK => ?_) ?_
    · have f28 : q.tmps.getD 28 undef = .pointer (some ⟨w.heap.size, 3, none⟩) := hf 15 28 (by kernel_rfl) rfl hc
      have q28 := f28
      rw [Array.getD_eq_getD_getElem?] at q28
      obtain ⟨p0, p1, p2, p3, p4, p5, p6, p7, p8, p9, p10, p11, p12, p13⟩ := fbox_cells hG.x
      clear hf hold
      go_simp
      exact hK _ _ hG (Below.refl _ _) (fun _ => rfl)
    refine AllDue.cons (due_ask (c := (fieldsN F.k != 0) && (y1 F)) (b := true) (k := 13) (s := 26) rfl rfl (by kernel_rfl) (fun _ _ h => h) (fun h _ e => absurd e h) fun hc q w1 hG hold hf K hK => ?_) ?_
    · have f29 : q.tmps.getD 29 undef = .agg #[.int .i64 F.t.1, .int .i64 F.t.2] := hf 16 29 (by kernel_rfl) rfl hc
      have q29 := f29
      rw [Array.getD_eq_getD_getElem?] at q29
      clear hf hold
      go_simp
      go_at_call 17
      refine (mayAdr_any _ _ _).mono ?_
      rintro e2 w2 ⟨rfl, hb⟩
      exact hK _ _ (hG.step hb) hb (fun _ => rfl)
    refine AllDue.cons (due_ask (c := (fieldsN F.k != 0) && (y1 F)) (b := true) (k := 13) (s := 26) rfl rfl (by kernel_rfl) (fun _ _ h => h) (fun h _ e => absurd e h) fun hc q w1 hG hold hf K hK => ?_) ?_
    · have f1 : q.tmps.getD 1 undef = .pointer (some ⟨w.heap.size, 0, none⟩) := hold 1 (by kernel_rfl)
      have q1 := f1
      rw [Array.getD_eq_getD_getElem?] at q1
      clear hf hold
      go_simp
      exact hK _ _ hG (Below.refl _ _) (fun _ => rfl)
    refine AllDue.cons (due_ask (c := (fieldsN F.k != 0) && (y1 F)) (b := true) (k := 13) (s := 26) rfl rfl (by kernel_rfl) (fun _ _ h => h) (fun h _ e => absurd e h) fun hc q w1 hG hold hf K hK => ?_) ?_
    · have f31 : q.tmps.getD 31 undef = .pointer (some ⟨w.heap.size, 3, none⟩) := hf 18 31 (by kernel_rfl) rfl hc
      have q31 := f31
      rw [Array.getD_eq_getD_getElem?] at q31
      obtain ⟨p0, p1, p2, p3, p4, p5, p6, p7, p8, p9, p10, p11, p12, p13⟩ := fbox_cells hG.x
      clear hf hold
      go_simp
      exact hK _ _ hG (Below.refl _ _) (fun _ => rfl)
    refine AllDue.cons (due_ask (c := (fieldsN F.k != 0) && (y1 F)) (b := true) (k := 13) (s := 26) rfl rfl (by kernel_rfl) (fun _ _ h => h) (fun h _ e => absurd e h) fun hc q w1 hG hold hf K hK => ?_) ?_
    · have f5 : q.tmps.getD 5 undef = .pointer (some ⟨w.heap.size + 1 + 1, 0, none⟩) := hold 5 (by kernel_rfl)
      have q5 := f5
      rw [Array.getD_eq_getD_getElem?] at q5
      obtain ⟨p0, p1⟩ := box_cells hG.z
      clear hf hold
      go_simp
      exact hK _ _ hG (Below.refl _ _) (fun _ => rfl)
    refine AllDue.cons (due_ask (c := (fieldsN F.k != 0) && (y1 F)) (b := true) (k := 13) (s := 26) rfl rfl (by kernel_rfl) (fun _ _ h => h) (fun h _ e => absurd e h) fun hc q w1 hG hold hf K hK => ?_) ?_
    · have f32 : q.tmps.getD 32 undef = .agg #[.int .i64 F.t.1, .int .i64 F.t.2] := hf 19 32 (by kernel_rfl) rfl hc
      have q32 := f32
      rw [Array.getD_eq_getD_getElem?] at q32
      have f33 : q.tmps.getD 33 undef = .agg #[.int .i64 0, .int .i64 0] := hf 20 33 (by kernel_rfl) rfl hc
      have q33 := f33
      rw [Array.getD_eq_getD_getElem?] at q33
      clear hf hold
      go_simp
      by_cases z1 : F.t.1 = 0
      · by_cases z2 : F.t.2 = 0
        · rw [if_pos z1, if_pos z2]
          exact hK _ _ hG (Below.refl _ _) (fun _ => by rw [show zeroI F.t = true by unfold zeroI; simp [z1, z2]])
        · rw [if_pos z1, if_neg z2]
          exact hK _ _ hG (Below.refl _ _) (fun _ => by rw [show zeroI F.t = false by unfold zeroI; simp [z2]])
      · rw [if_neg z1]
        exact hK _ _ hG (Below.refl _ _) (fun _ => by rw [show zeroI F.t = false by unfold zeroI; simp [z1]])
    refine AllDue.cons (due_ask (c := (fieldsN F.k != 0) && (y1 F)) (b := true) (k := 13) (s := 26) rfl rfl (by kernel_rfl) (fun _ _ h => h) (fun h _ e => absurd e h) fun hc q w1 hG hold hf K hK => ?_) ?_
    · have f27 : q.tmps.getD 27 undef = .func (.func 15) #[] #[.pointer (some ⟨w.heap.size + 1, 0, none⟩)] := hf 14 27 (by kernel_rfl) rfl hc
      have q27 := f27
      rw [Array.getD_eq_getD_getElem?] at q27
      have f30 : q.tmps.getD 30 undef = .bool (adrB F.t) := hf 17 30 (by kernel_rfl) rfl hc
      have q30 := f30
      rw [Array.getD_eq_getD_getElem?] at q30
      have f34 : q.tmps.getD 34 undef = .bool (zeroI F.t) := hf 21 34 (by kernel_rfl) rfl hc
      have q34 := f34
      rw [Array.getD_eq_getD_getElem?] at q34
      clear hf hold
      go_simp
      go_at_call 15
      refine (fits_any _ _ _ _ _ _ hG.h).mono ?_
      rintro e2 w2 ⟨rfl, rfl⟩
      exact hK _ _ hG (Below.refl _ _) (fun _ => rfl)
    refine AllDue.cons (due_met (.inl rfl) fun q w1 hG hold hf K hK => ?_) ?_
    · have g26 : q.tmps.getD 26 undef = .bool ((fieldsN F.k != 0) && (y1 F)) := hf 13 26 (by kernel_rfl) rfl
      have g35 : ((fieldsN F.k != 0) && (y1 F)) = true → q.tmps.getD 35 undef = .bool (y2 F) := hf 22 35 (by kernel_rfl) rfl
      clear hf hold
      rcases hb : ((fieldsN F.k != 0) && (y1 F)) with _ | _
      · rw [hb] at g26
        rw [Array.getD_eq_getD_getElem?] at g26
        clear g35
        go_simp
        exact hK _ _ hG (Below.refl _ _) (show Value.bool false = .bool (((fieldsN F.k != 0) && (y1 F)) && (y2 F)) by rw [hb]; rfl)
      · rw [hb] at g26
        have k35 := g35 hb
        rw [Array.getD_eq_getD_getElem?] at k35
        rw [Array.getD_eq_getD_getElem?] at g26
        clear g35
        go_simp
        exact hK _ _ hG (Below.refl _ _) (show Value.bool (y2 F) = .bool (((fieldsN F.k != 0) && (y1 F)) && (y2 F)) by rw [hb]; rfl)
    refine AllDue.cons (due_met (.inl rfl) fun q w1 hG hold hf K hK => ?_) ?_
    · have f36 : q.tmps.getD 36 undef = .bool (((fieldsN F.k != 0) && (y1 F)) && (y2 F)) := hf 23 36 (by kernel_rfl) rfl
      have q36 := f36
      rw [Array.getD_eq_getD_getElem?] at q36
      clear hf hold
      go_simp
      exact hK _ _ hG (Below.refl _ _) rfl
    refine AllDue.cons (due_ask (c := ((fieldsN F.k != 0) && (y1 F)) && (y2 F)) (b := true) (k := 24) (s := 37) rfl rfl (by kernel_rfl) (fun _ _ h => h) (fun h _ e => absurd e h) fun hc q w1 hG hold hf K hK => ?_) ?_
    · have f4 : q.tmps.getD 4 undef = .func (.func 15) #[] #[.pointer (some ⟨w.heap.size + 1, 0, none⟩)] := hold 4 (by kernel_rfl)
      have q4 := f4
      rw [Array.getD_eq_getD_getElem?] at q4
      clear hf hold
      go_simp
      exact hK _ _ hG (Below.refl _ _) (fun _ => rfl)
    refine AllDue.cons (due_ask (c := ((fieldsN F.k != 0) && (y1 F)) && (y2 F)) (b := true) (k := 24) (s := 37) rfl rfl (by kernel_rfl) (fun _ _ h => h) (fun h _ e => absurd e h) fun hc q w1 hG hold hf K hK => ?_) ?_
    · have f1 : q.tmps.getD 1 undef = .pointer (some ⟨w.heap.size, 0, none⟩) := hold 1 (by kernel_rfl)
      have q1 := f1
      rw [Array.getD_eq_getD_getElem?] at q1
      clear hf hold
      go_simp
      exact hK _ _ hG (Below.refl _ _) (fun _ => rfl)
    refine AllDue.cons (due_ask (c := ((fieldsN F.k != 0) && (y1 F)) && (y2 F)) (b := true) (k := 24) (s := 37) rfl rfl (by kernel_rfl) (fun _ _ h => h) (fun h _ e => absurd e h) fun hc q w1 hG hold hf K hK => ?_) ?_
    · have f39 : q.tmps.getD 39 undef = .pointer (some ⟨w.heap.size, 5, none⟩) := hf 26 39 (by kernel_rfl) rfl hc
      have q39 := f39
      rw [Array.getD_eq_getD_getElem?] at q39
      obtain ⟨p0, p1, p2, p3, p4, p5, p6, p7, p8, p9, p10, p11, p12, p13⟩ := fbox_cells hG.x
      clear hf hold
      go_simp
      exact hK _ _ hG (Below.refl _ _) (fun _ => rfl)
    refine AllDue.cons (due_ask (c := ((fieldsN F.k != 0) && (y1 F)) && (y2 F)) (b := true) (k := 24) (s := 37) rfl rfl (by kernel_rfl) (fun _ _ h => h) (fun h _ e => absurd e h) fun hc q w1 hG hold hf K hK => ?_) ?_
    · have f40 : q.tmps.getD 40 undef = .int .i64 F.n := hf 27 40 (by kernel_rfl) rfl hc
      have q40 := f40
      rw [Array.getD_eq_getD_getElem?] at q40
      clear hf hold
      go_simp
      go_at_call 18
      refine (mayNum_any _ _).mono ?_
      rintro e2 w2 ⟨rfl, rfl⟩
      exact hK _ _ hG (Below.refl _ _) (fun _ => rfl)
    refine AllDue.cons (due_ask (c := ((fieldsN F.k != 0) && (y1 F)) && (y2 F)) (b := true) (k := 24) (s := 37) rfl rfl (by kernel_rfl) (fun _ _ h => h) (fun h _ e => absurd e h) fun hc q w1 hG hold hf K hK => ?_) ?_
    · have f1 : q.tmps.getD 1 undef = .pointer (some ⟨w.heap.size, 0, none⟩) := hold 1 (by kernel_rfl)
      have q1 := f1
      rw [Array.getD_eq_getD_getElem?] at q1
      clear hf hold
      go_simp
      exact hK _ _ hG (Below.refl _ _) (fun _ => rfl)
    refine AllDue.cons (due_ask (c := ((fieldsN F.k != 0) && (y1 F)) && (y2 F)) (b := true) (k := 24) (s := 37) rfl rfl (by kernel_rfl) (fun _ _ h => h) (fun h _ e => absurd e h) fun hc q w1 hG hold hf K hK => ?_) ?_
    · have f42 : q.tmps.getD 42 undef = .pointer (some ⟨w.heap.size, 5, none⟩) := hf 29 42 (by kernel_rfl) rfl hc
      have q42 := f42
      rw [Array.getD_eq_getD_getElem?] at q42
      obtain ⟨p0, p1, p2, p3, p4, p5, p6, p7, p8, p9, p10, p11, p12, p13⟩ := fbox_cells hG.x
      clear hf hold
      go_simp
      exact hK _ _ hG (Below.refl _ _) (fun _ => rfl)
    refine AllDue.cons (due_ask (c := ((fieldsN F.k != 0) && (y1 F)) && (y2 F)) (b := true) (k := 24) (s := 37) rfl rfl (by kernel_rfl) (fun _ _ h => h) (fun h _ e => absurd e h) fun hc q w1 hG hold hf K hK => ?_) ?_
    · have f43 : q.tmps.getD 43 undef = .int .i64 F.n := hf 30 43 (by kernel_rfl) rfl hc
      have q43 := f43
      rw [Array.getD_eq_getD_getElem?] at q43
      clear hf hold
      go_simp
      exact hK _ _ hG (Below.refl _ _) (fun _ => rfl)
    refine AllDue.cons (due_ask (c := ((fieldsN F.k != 0) && (y1 F)) && (y2 F)) (b := true) (k := 24) (s := 37) rfl rfl (by kernel_rfl) (fun _ _ h => h) (fun h _ e => absurd e h) fun hc q w1 hG hold hf K hK => ?_) ?_
    · have f38 : q.tmps.getD 38 undef = .func (.func 15) #[] #[.pointer (some ⟨w.heap.size + 1, 0, none⟩)] := hf 25 38 (by kernel_rfl) rfl hc
      have q38 := f38
      rw [Array.getD_eq_getD_getElem?] at q38
      have f41 : q.tmps.getD 41 undef = .bool (good F.n) := hf 28 41 (by kernel_rfl) rfl hc
      have q41 := f41
      rw [Array.getD_eq_getD_getElem?] at q41
      have f44 : q.tmps.getD 44 undef = .bool (F.n == 0) := hf 31 44 (by kernel_rfl) rfl hc
      have q44 := f44
      rw [Array.getD_eq_getD_getElem?] at q44
      clear hf hold
      go_simp
      go_at_call 15
      refine (fits_any _ _ _ _ _ _ hG.h).mono ?_
      rintro e2 w2 ⟨rfl, rfl⟩
      exact hK _ _ hG (Below.refl _ _) (fun _ => rfl)
    refine AllDue.cons (due_met (.inl rfl) fun q w1 hG hold hf K hK => ?_) ?_
    · have g37 : q.tmps.getD 37 undef = .bool (((fieldsN F.k != 0) && (y1 F)) && (y2 F)) := hf 24 37 (by kernel_rfl) rfl
      have g45 : (((fieldsN F.k != 0) && (y1 F)) && (y2 F)) = true → q.tmps.getD 45 undef = .bool (y3 F) := hf 32 45 (by kernel_rfl) rfl
      clear hf hold
      rcases hb : (((fieldsN F.k != 0) && (y1 F)) && (y2 F)) with _ | _
      · rw [hb] at g37
        rw [Array.getD_eq_getD_getElem?] at g37
        clear g45
        go_simp
        exact hK _ _ hG (Below.refl _ _) (show Value.bool false = .bool ((((fieldsN F.k != 0) && (y1 F)) && (y2 F)) && (y3 F)) by rw [hb]; rfl)
      · rw [hb] at g37
        have k45 := g45 hb
        rw [Array.getD_eq_getD_getElem?] at k45
        rw [Array.getD_eq_getD_getElem?] at g37
        clear g45
        go_simp
        exact hK _ _ hG (Below.refl _ _) (show Value.bool (y3 F) = .bool ((((fieldsN F.k != 0) && (y1 F)) && (y2 F)) && (y3 F)) by rw [hb]; rfl)
    refine AllDue.cons (due_met (.inl rfl) fun q w1 hG hold hf K hK => ?_) ?_
    · have f46 : q.tmps.getD 46 undef = .bool ((((fieldsN F.k != 0) && (y1 F)) && (y2 F)) && (y3 F)) := hf 33 46 (by kernel_rfl) rfl
      have q46 := f46
      rw [Array.getD_eq_getD_getElem?] at q46
      clear hf hold
      go_simp
      exact hK _ _ hG (Below.refl _ _) rfl
    refine AllDue.cons (due_ask (c := (((fieldsN F.k != 0) && (y1 F)) && (y2 F)) && (y3 F)) (b := true) (k := 34) (s := 47) rfl rfl (by kernel_rfl) (fun _ _ h => h) (fun h _ e => absurd e h) fun hc q w1 hG hold hf K hK => ?_) ?_
    · have f4 : q.tmps.getD 4 undef = .func (.func 15) #[] #[.pointer (some ⟨w.heap.size + 1, 0, none⟩)] := hold 4 (by kernel_rfl)
      have q4 := f4
      rw [Array.getD_eq_getD_getElem?] at q4
      clear hf hold
      go_simp
      exact hK _ _ hG (Below.refl _ _) (fun _ => rfl)
    refine AllDue.cons (due_ask (c := (((fieldsN F.k != 0) && (y1 F)) && (y2 F)) && (y3 F)) (b := true) (k := 34) (s := 47) rfl rfl (by kernel_rfl) (fun _ _ h => h) (fun h _ e => absurd e h) fun hc q w1 hG hold hf K hK => ?_) ?_
    · have f1 : q.tmps.getD 1 undef = .pointer (some ⟨w.heap.size, 0, none⟩) := hold 1 (by kernel_rfl)
      have q1 := f1
      rw [Array.getD_eq_getD_getElem?] at q1
      clear hf hold
      go_simp
      exact hK _ _ hG (Below.refl _ _) (fun _ => rfl)
    refine AllDue.cons (due_ask (c := (((fieldsN F.k != 0) && (y1 F)) && (y2 F)) && (y3 F)) (b := true) (k := 34) (s := 47) rfl rfl (by kernel_rfl) (fun _ _ h => h) (fun h _ e => absurd e h) fun hc q w1 hG hold hf K hK => ?_) ?_
    · have f49 : q.tmps.getD 49 undef = .pointer (some ⟨w.heap.size, 6, none⟩) := hf 36 49 (by kernel_rfl) rfl hc
      have q49 := f49
      rw [Array.getD_eq_getD_getElem?] at q49
      obtain ⟨p0, p1, p2, p3, p4, p5, p6, p7, p8, p9, p10, p11, p12, p13⟩ := fbox_cells hG.x
      clear hf hold
      go_simp
      exact hK _ _ hG (Below.refl _ _) (fun _ => rfl)
    refine AllDue.cons (due_ask (c := (((fieldsN F.k != 0) && (y1 F)) && (y2 F)) && (y3 F)) (b := true) (k := 34) (s := 47) rfl rfl (by kernel_rfl) (fun _ _ h => h) (fun h _ e => absurd e h) fun hc q w1 hG hold hf K hK => ?_) ?_
    · have f50 : q.tmps.getD 50 undef = .int .i64 F.q := hf 37 50 (by kernel_rfl) rfl hc
      have q50 := f50
      rw [Array.getD_eq_getD_getElem?] at q50
      clear hf hold
      go_simp
      go_at_call 18
      refine (mayNum_any _ _).mono ?_
      rintro e2 w2 ⟨rfl, rfl⟩
      exact hK _ _ hG (Below.refl _ _) (fun _ => rfl)
    refine AllDue.cons (due_ask (c := (((fieldsN F.k != 0) && (y1 F)) && (y2 F)) && (y3 F)) (b := true) (k := 34) (s := 47) rfl rfl (by kernel_rfl) (fun _ _ h => h) (fun h _ e => absurd e h) fun hc q w1 hG hold hf K hK => ?_) ?_
    · have f1 : q.tmps.getD 1 undef = .pointer (some ⟨w.heap.size, 0, none⟩) := hold 1 (by kernel_rfl)
      have q1 := f1
      rw [Array.getD_eq_getD_getElem?] at q1
      clear hf hold
      go_simp
      exact hK _ _ hG (Below.refl _ _) (fun _ => rfl)
    refine AllDue.cons (due_ask (c := (((fieldsN F.k != 0) && (y1 F)) && (y2 F)) && (y3 F)) (b := true) (k := 34) (s := 47) rfl rfl (by kernel_rfl) (fun _ _ h => h) (fun h _ e => absurd e h) fun hc q w1 hG hold hf K hK => ?_) ?_
    · have f52 : q.tmps.getD 52 undef = .pointer (some ⟨w.heap.size, 6, none⟩) := hf 39 52 (by kernel_rfl) rfl hc
      have q52 := f52
      rw [Array.getD_eq_getD_getElem?] at q52
      obtain ⟨p0, p1, p2, p3, p4, p5, p6, p7, p8, p9, p10, p11, p12, p13⟩ := fbox_cells hG.x
      clear hf hold
      go_simp
      exact hK _ _ hG (Below.refl _ _) (fun _ => rfl)
    refine AllDue.cons (due_ask (c := (((fieldsN F.k != 0) && (y1 F)) && (y2 F)) && (y3 F)) (b := true) (k := 34) (s := 47) rfl rfl (by kernel_rfl) (fun _ _ h => h) (fun h _ e => absurd e h) fun hc q w1 hG hold hf K hK => ?_) ?_
    · have f53 : q.tmps.getD 53 undef = .int .i64 F.q := hf 40 53 (by kernel_rfl) rfl hc
      have q53 := f53
      rw [Array.getD_eq_getD_getElem?] at q53
      clear hf hold
      go_simp
      exact hK _ _ hG (Below.refl _ _) (fun _ => rfl)
    refine AllDue.cons (due_ask (c := (((fieldsN F.k != 0) && (y1 F)) && (y2 F)) && (y3 F)) (b := true) (k := 34) (s := 47) rfl rfl (by kernel_rfl) (fun _ _ h => h) (fun h _ e => absurd e h) fun hc q w1 hG hold hf K hK => ?_) ?_
    · have f48 : q.tmps.getD 48 undef = .func (.func 15) #[] #[.pointer (some ⟨w.heap.size + 1, 0, none⟩)] := hf 35 48 (by kernel_rfl) rfl hc
      have q48 := f48
      rw [Array.getD_eq_getD_getElem?] at q48
      have f51 : q.tmps.getD 51 undef = .bool (good F.q) := hf 38 51 (by kernel_rfl) rfl hc
      have q51 := f51
      rw [Array.getD_eq_getD_getElem?] at q51
      have f54 : q.tmps.getD 54 undef = .bool (F.q == 0) := hf 41 54 (by kernel_rfl) rfl hc
      have q54 := f54
      rw [Array.getD_eq_getD_getElem?] at q54
      clear hf hold
      go_simp
      go_at_call 15
      refine (fits_any _ _ _ _ _ _ hG.h).mono ?_
      rintro e2 w2 ⟨rfl, rfl⟩
      exact hK _ _ hG (Below.refl _ _) (fun _ => rfl)
    refine AllDue.cons (due_met (.inl rfl) fun q w1 hG hold hf K hK => ?_) ?_
    · have g47 : q.tmps.getD 47 undef = .bool ((((fieldsN F.k != 0) && (y1 F)) && (y2 F)) && (y3 F)) := hf 34 47 (by kernel_rfl) rfl
      have g55 : ((((fieldsN F.k != 0) && (y1 F)) && (y2 F)) && (y3 F)) = true → q.tmps.getD 55 undef = .bool (y4 F) := hf 42 55 (by kernel_rfl) rfl
      clear hf hold
      rcases hb : ((((fieldsN F.k != 0) && (y1 F)) && (y2 F)) && (y3 F)) with _ | _
      · rw [hb] at g47
        rw [Array.getD_eq_getD_getElem?] at g47
        clear g55
        go_simp
        exact hK _ _ hG (Below.refl _ _) (show Value.bool false = .bool (((((fieldsN F.k != 0) && (y1 F)) && (y2 F)) && (y3 F)) && (y4 F)) by rw [hb]; rfl)
      · rw [hb] at g47
        have k55 := g55 hb
        rw [Array.getD_eq_getD_getElem?] at k55
        rw [Array.getD_eq_getD_getElem?] at g47
        clear g55
        go_simp
        exact hK _ _ hG (Below.refl _ _) (show Value.bool (y4 F) = .bool (((((fieldsN F.k != 0) && (y1 F)) && (y2 F)) && (y3 F)) && (y4 F)) by rw [hb]; rfl)
    refine AllDue.cons (due_met (.inl rfl) fun q w1 hG hold hf K hK => ?_) ?_
    · have f56 : q.tmps.getD 56 undef = .bool (((((fieldsN F.k != 0) && (y1 F)) && (y2 F)) && (y3 F)) && (y4 F)) := hf 43 56 (by kernel_rfl) rfl
      have q56 := f56
      rw [Array.getD_eq_getD_getElem?] at q56
      clear hf hold
      go_simp
      exact hK _ _ hG (Below.refl _ _) rfl
    refine AllDue.cons (due_ask (c := ((((fieldsN F.k != 0) && (y1 F)) && (y2 F)) && (y3 F)) && (y4 F)) (b := true) (k := 44) (s := 57) rfl rfl (by kernel_rfl) (fun _ _ h => h) (fun h _ e => absurd e h) fun hc q w1 hG hold hf K hK => ?_) ?_
    · have f4 : q.tmps.getD 4 undef = .func (.func 15) #[] #[.pointer (some ⟨w.heap.size + 1, 0, none⟩)] := hold 4 (by kernel_rfl)
      have q4 := f4
      rw [Array.getD_eq_getD_getElem?] at q4
      clear hf hold
      go_simp
      exact hK _ _ hG (Below.refl _ _) (fun _ => rfl)
    refine AllDue.cons (due_ask (c := ((((fieldsN F.k != 0) && (y1 F)) && (y2 F)) && (y3 F)) && (y4 F)) (b := true) (k := 44) (s := 57) rfl rfl (by kernel_rfl) (fun _ _ h => h) (fun h _ e => absurd e h) fun hc q w1 hG hold hf K hK => ?_) ?_
    · have f1 : q.tmps.getD 1 undef = .pointer (some ⟨w.heap.size, 0, none⟩) := hold 1 (by kernel_rfl)
      have q1 := f1
      rw [Array.getD_eq_getD_getElem?] at q1
      clear hf hold
      go_simp
      exact hK _ _ hG (Below.refl _ _) (fun _ => rfl)
    refine AllDue.cons (due_ask (c := ((((fieldsN F.k != 0) && (y1 F)) && (y2 F)) && (y3 F)) && (y4 F)) (b := true) (k := 44) (s := 57) rfl rfl (by kernel_rfl) (fun _ _ h => h) (fun h _ e => absurd e h) fun hc q w1 hG hold hf K hK => ?_) ?_
    · have f59 : q.tmps.getD 59 undef = .pointer (some ⟨w.heap.size, 7, none⟩) := hf 46 59 (by kernel_rfl) rfl hc
      have q59 := f59
      rw [Array.getD_eq_getD_getElem?] at q59
      obtain ⟨p0, p1, p2, p3, p4, p5, p6, p7, p8, p9, p10, p11, p12, p13⟩ := fbox_cells hG.x
      clear hf hold
      go_simp
      exact hK _ _ hG (Below.refl _ _) (fun _ => rfl)
    refine AllDue.cons (due_ask (c := ((((fieldsN F.k != 0) && (y1 F)) && (y2 F)) && (y3 F)) && (y4 F)) (b := true) (k := 44) (s := 57) rfl rfl (by kernel_rfl) (fun _ _ h => h) (fun h _ e => absurd e h) fun hc q w1 hG hold hf K hK => ?_) ?_
    · have f60 : q.tmps.getD 60 undef = .agg #[.int .i64 F.b.1, .int .i64 F.b.2] := hf 47 60 (by kernel_rfl) rfl hc
      have q60 := f60
      rw [Array.getD_eq_getD_getElem?] at q60
      clear hf hold
      go_simp
      go_at_call 16
      refine (may_anyROS _ _ _).mono ?_
      rintro e2 w2 ⟨rfl, hb⟩
      exact hK _ _ (hG.step hb) hb (fun _ => rfl)
    refine AllDue.cons (due_ask (c := ((((fieldsN F.k != 0) && (y1 F)) && (y2 F)) && (y3 F)) && (y4 F)) (b := true) (k := 44) (s := 57) rfl rfl (by kernel_rfl) (fun _ _ h => h) (fun h _ e => absurd e h) fun hc q w1 hG hold hf K hK => ?_) ?_
    · have f1 : q.tmps.getD 1 undef = .pointer (some ⟨w.heap.size, 0, none⟩) := hold 1 (by kernel_rfl)
      have q1 := f1
      rw [Array.getD_eq_getD_getElem?] at q1
      clear hf hold
      go_simp
      exact hK _ _ hG (Below.refl _ _) (fun _ => rfl)
    refine AllDue.cons (due_ask (c := ((((fieldsN F.k != 0) && (y1 F)) && (y2 F)) && (y3 F)) && (y4 F)) (b := true) (k := 44) (s := 57) rfl rfl (by kernel_rfl) (fun _ _ h => h) (fun h _ e => absurd e h) fun hc q w1 hG hold hf K hK => ?_) ?_
    · have f62 : q.tmps.getD 62 undef = .pointer (some ⟨w.heap.size, 7, none⟩) := hf 49 62 (by kernel_rfl) rfl hc
      have q62 := f62
      rw [Array.getD_eq_getD_getElem?] at q62
      obtain ⟨p0, p1, p2, p3, p4, p5, p6, p7, p8, p9, p10, p11, p12, p13⟩ := fbox_cells hG.x
      clear hf hold
      go_simp
      exact hK _ _ hG (Below.refl _ _) (fun _ => rfl)
    refine AllDue.cons (due_ask (c := ((((fieldsN F.k != 0) && (y1 F)) && (y2 F)) && (y3 F)) && (y4 F)) (b := true) (k := 44) (s := 57) rfl rfl (by kernel_rfl) (fun _ _ h => h) (fun h _ e => absurd e h) fun hc q w1 hG hold hf K hK => ?_) ?_
    · have f5 : q.tmps.getD 5 undef = .pointer (some ⟨w.heap.size + 1 + 1, 0, none⟩) := hold 5 (by kernel_rfl)
      have q5 := f5
      rw [Array.getD_eq_getD_getElem?] at q5
      obtain ⟨p0, p1⟩ := box_cells hG.z
      clear hf hold
      go_simp
      exact hK _ _ hG (Below.refl _ _) (fun _ => rfl)
    refine AllDue.cons (due_ask (c := ((((fieldsN F.k != 0) && (y1 F)) && (y2 F)) && (y3 F)) && (y4 F)) (b := true) (k := 44) (s := 57) rfl rfl (by kernel_rfl) (fun _ _ h => h) (fun h _ e => absurd e h) fun hc q w1 hG hold hf K hK => ?_) ?_
    · have f63 : q.tmps.getD 63 undef = .agg #[.int .i64 F.b.1, .int .i64 F.b.2] := hf 50 63 (by kernel_rfl) rfl hc
      have q63 := f63
      rw [Array.getD_eq_getD_getElem?] at q63
      have f64 : q.tmps.getD 64 undef = .agg #[.int .i64 0, .int .i64 0] := hf 51 64 (by kernel_rfl) rfl hc
      have q64 := f64
      rw [Array.getD_eq_getD_getElem?] at q64
      clear hf hold
      go_simp
      by_cases z1 : F.b.1 = 0
      · by_cases z2 : F.b.2 = 0
        · rw [if_pos z1, if_pos z2]
          exact hK _ _ hG (Below.refl _ _) (fun _ => by rw [show zeroI F.b = true by unfold zeroI; simp [z1, z2]])
        · rw [if_pos z1, if_neg z2]
          exact hK _ _ hG (Below.refl _ _) (fun _ => by rw [show zeroI F.b = false by unfold zeroI; simp [z2]])
      · rw [if_neg z1]
        exact hK _ _ hG (Below.refl _ _) (fun _ => by rw [show zeroI F.b = false by unfold zeroI; simp [z1]])
    refine AllDue.cons (due_ask (c := ((((fieldsN F.k != 0) && (y1 F)) && (y2 F)) && (y3 F)) && (y4 F)) (b := true) (k := 44) (s := 57) rfl rfl (by kernel_rfl) (fun _ _ h => h) (fun h _ e => absurd e h) fun hc q w1 hG hold hf K hK => ?_) ?_
    · have f58 : q.tmps.getD 58 undef = .func (.func 15) #[] #[.pointer (some ⟨w.heap.size + 1, 0, none⟩)] := hf 45 58 (by kernel_rfl) rfl hc
      have q58 := f58
      rw [Array.getD_eq_getD_getElem?] at q58
      have f61 : q.tmps.getD 61 undef = .bool (Ros.vid F.b.1 F.b.2) := hf 48 61 (by kernel_rfl) rfl hc
      have q61 := f61
      rw [Array.getD_eq_getD_getElem?] at q61
      have f65 : q.tmps.getD 65 undef = .bool (zeroI F.b) := hf 52 65 (by kernel_rfl) rfl hc
      have q65 := f65
      rw [Array.getD_eq_getD_getElem?] at q65
      clear hf hold
      go_simp
      go_at_call 15
      refine (fits_any _ _ _ _ _ _ hG.h).mono ?_
      rintro e2 w2 ⟨rfl, rfl⟩
      exact hK _ _ hG (Below.refl _ _) (fun _ => rfl)
    refine AllDue.cons (due_met (.inl rfl) fun q w1 hG hold hf K hK => ?_) ?_
    · have g57 : q.tmps.getD 57 undef = .bool (((((fieldsN F.k != 0) && (y1 F)) && (y2 F)) && (y3 F)) && (y4 F)) := hf 44 57 (by kernel_rfl) rfl
      have g66 : (((((fieldsN F.k != 0) && (y1 F)) && (y2 F)) && (y3 F)) && (y4 F)) = true → q.tmps.getD 66 undef = .bool (y5 F) := hf 53 66 (by kernel_rfl) rfl
      clear hf hold
      rcases hb : (((((fieldsN F.k != 0) && (y1 F)) && (y2 F)) && (y3 F)) && (y4 F)) with _ | _
      · rw [hb] at g57
        rw [Array.getD_eq_getD_getElem?] at g57
        clear g66
        go_simp
        exact hK _ _ hG (Below.refl _ _) (show Value.bool false = .bool ((((((fieldsN F.k != 0) && (y1 F)) && (y2 F)) && (y3 F)) && (y4 F)) && (y5 F)) by rw [hb]; rfl)
      · rw [hb] at g57
        have k66 := g66 hb
        rw [Array.getD_eq_getD_getElem?] at k66
        rw [Array.getD_eq_getD_getElem?] at g57
        clear g66
        go_simp
        exact hK _ _ hG (Below.refl _ _) (show Value.bool (y5 F) = .bool ((((((fieldsN F.k != 0) && (y1 F)) && (y2 F)) && (y3 F)) && (y4 F)) && (y5 F)) by rw [hb]; rfl)
    refine AllDue.cons (due_met (.inl rfl) fun q w1 hG hold hf K hK => ?_) ?_
    · have f67 : q.tmps.getD 67 undef = .bool ((((((fieldsN F.k != 0) && (y1 F)) && (y2 F)) && (y3 F)) && (y4 F)) && (y5 F)) := hf 54 67 (by kernel_rfl) rfl
      have q67 := f67
      rw [Array.getD_eq_getD_getElem?] at q67
      clear hf hold
      go_simp
      exact hK _ _ hG (Below.refl _ _) rfl
    refine AllDue.cons (due_ask (c := (((((fieldsN F.k != 0) && (y1 F)) && (y2 F)) && (y3 F)) && (y4 F)) && (y5 F)) (b := true) (k := 55) (s := 68) rfl rfl (by kernel_rfl) (fun _ _ h => h) (fun h _ e => absurd e h) fun hc q w1 hG hold hf K hK => ?_) ?_
    · have f4 : q.tmps.getD 4 undef = .func (.func 15) #[] #[.pointer (some ⟨w.heap.size + 1, 0, none⟩)] := hold 4 (by kernel_rfl)
      have q4 := f4
      rw [Array.getD_eq_getD_getElem?] at q4
      clear hf hold
      go_simp
      exact hK _ _ hG (Below.refl _ _) (fun _ => rfl)
    refine AllDue.cons (due_ask (c := (((((fieldsN F.k != 0) && (y1 F)) && (y2 F)) && (y3 F)) && (y4 F)) && (y5 F)) (b := true) (k := 55) (s := 68) rfl rfl (by kernel_rfl) (fun _ _ h => h) (fun h _ e => absurd e h) fun hc q w1 hG hold hf K hK => ?_) ?_
    · have f6 : q.tmps.getD 6 undef = .pointer (some ⟨w.heap.size + 1 + 1 + 1, 0, none⟩) := hold 6 (by kernel_rfl)
      have q6 := f6
      rw [Array.getD_eq_getD_getElem?] at q6
      obtain ⟨p0, p1, p2, p3, p4⟩ := vbox_cells hG.y
      (dsimp only at p0 p1 p2 p3 p4)
      clear hf hold
      go_simp
      exact hK _ _ hG (Below.refl _ _) (fun _ => rfl)
    refine AllDue.cons (due_ask (c := (((((fieldsN F.k != 0) && (y1 F)) && (y2 F)) && (y3 F)) && (y4 F)) && (y5 F)) (b := true) (k := 55) (s := 68) rfl rfl (by kernel_rfl) (fun _ _ h => h) (fun h _ e => absurd e h) fun hc q w1 hG hold hf K hK => ?_) ?_
    · have f70 : q.tmps.getD 70 undef = .agg #[.slice a0 F.v.m.length a2, .slice b0 F.v.f.length b2, .slice c0 F.v.r.length c2, .slice d0 F.v.c.length d2, .slice e0 F.v.s.length e2] := hf 57 70 (by kernel_rfl) rfl hc
      have q70 := f70
      rw [Array.getD_eq_getD_getElem?] at q70
      clear hf hold
      go_simp
      go_at_call 19
      refine (mayV_any _ F.v _ hG.r.at_ hG.f).mono ?_
      rintro e2 w2 ⟨rfl, hb⟩
      exact hK _ _ (hG.step hb) hb (fun _ => rfl)
    refine AllDue.cons (due_ask (c := (((((fieldsN F.k != 0) && (y1 F)) && (y2 F)) && (y3 F)) && (y4 F)) && (y5 F)) (b := true) (k := 55) (s := 68) rfl rfl (by kernel_rfl) (fun _ _ h => h) (fun h _ e => absurd e h) fun hc q w1 hG hold hf K hK => ?_) ?_
    · have f6 : q.tmps.getD 6 undef = .pointer (some ⟨w.heap.size + 1 + 1 + 1, 0, none⟩) := hold 6 (by kernel_rfl)
      have q6 := f6
      rw [Array.getD_eq_getD_getElem?] at q6
      clear hf hold
      go_simp
      exact hK _ _ hG (Below.refl _ _) (fun _ => rfl)
    refine AllDue.cons (due_ask (c := (((((fieldsN F.k != 0) && (y1 F)) && (y2 F)) && (y3 F)) && (y4 F)) && (y5 F)) (b := true) (k := 55) (s := 68) rfl rfl (by kernel_rfl) (fun _ _ h => h) (fun h _ e => absurd e h) fun hc q w1 hG hold hf K hK => ?_) ?_
    · have f72 : q.tmps.getD 72 undef = .pointer (some ⟨w.heap.size + 1 + 1 + 1, 3, none⟩) := hf 59 72 (by kernel_rfl) rfl hc
      have q72 := f72
      rw [Array.getD_eq_getD_getElem?] at q72
      obtain ⟨p0, p1, p2, p3, p4⟩ := vbox_cells hG.y
      (dsimp only at p0 p1 p2 p3 p4)
      clear hf hold
      go_simp
      exact hK _ _ hG (Below.refl _ _) (fun _ => rfl)
    refine AllDue.cons (due_ask (c := (((((fieldsN F.k != 0) && (y1 F)) && (y2 F)) && (y3 F)) && (y4 F)) && (y5 F)) (b := true) (k := 55) (s := 68) rfl rfl (by kernel_rfl) (fun _ _ h => h) (fun h _ e => absurd e h) fun hc q w1 hG hold hf K hK => ?_) ?_
    · have f73 : q.tmps.getD 73 undef = .slice d0 F.v.c.length d2 := hf 60 73 (by kernel_rfl) rfl hc
      have q73 := f73
      rw [Array.getD_eq_getD_getElem?] at q73
      clear hf hold
      go_simp
      exact hK _ _ hG (Below.refl _ _) (fun _ => rfl)
    refine AllDue.cons (due_ask (c := (((((fieldsN F.k != 0) && (y1 F)) && (y2 F)) && (y3 F)) && (y4 F)) && (y5 F)) (b := true) (k := 55) (s := 68) rfl rfl (by kernel_rfl) (fun _ _ h => h) (fun h _ e => absurd e h) fun hc q w1 hG hold hf K hK => ?_) ?_
    · have f6 : q.tmps.getD 6 undef = .pointer (some ⟨w.heap.size + 1 + 1 + 1, 0, none⟩) := hold 6 (by kernel_rfl)
      have q6 := f6
      rw [Array.getD_eq_getD_getElem?] at q6
      clear hf hold
      go_simp
      exact hK _ _ hG (Below.refl _ _) (fun _ => rfl)
    refine AllDue.cons (due_ask (c := (((((fieldsN F.k != 0) && (y1 F)) && (y2 F)) && (y3 F)) && (y4 F)) && (y5 F)) (b := true) (k := 55) (s := 68) rfl rfl (by kernel_rfl) (fun _ _ h => h) (fun h _ e => absurd e h) fun hc q w1 hG hold hf K hK => ?_) ?_
    · have f75 : q.tmps.getD 75 undef = .pointer (some ⟨w.heap.size + 1 + 1 + 1, 4, none⟩) := hf 62 75 (by kernel_rfl) rfl hc
      have q75 := f75
      rw [Array.getD_eq_getD_getElem?] at q75
      obtain ⟨p0, p1, p2, p3, p4⟩ := vbox_cells hG.y
      (dsimp only at p0 p1 p2 p3 p4)
      clear hf hold
      go_simp
      exact hK _ _ hG (Below.refl _ _) (fun _ => rfl)
    refine AllDue.cons (due_ask (c := (((((fieldsN F.k != 0) && (y1 F)) && (y2 F)) && (y3 F)) && (y4 F)) && (y5 F)) (b := true) (k := 55) (s := 68) rfl rfl (by kernel_rfl) (fun _ _ h => h) (fun h _ e => absurd e h) fun hc q w1 hG hold hf K hK => ?_) ?_
    · have f76 : q.tmps.getD 76 undef = .slice e0 F.v.s.length e2 := hf 63 76 (by kernel_rfl) rfl hc
      have q76 := f76
      rw [Array.getD_eq_getD_getElem?] at q76
      clear hf hold
      go_simp
      exact hK _ _ hG (Below.refl _ _) (fun _ => rfl)
    refine AllDue.cons (due_ask (c := (((((fieldsN F.k != 0) && (y1 F)) && (y2 F)) && (y3 F)) && (y4 F)) && (y5 F)) (b := true) (k := 55) (s := 68) rfl rfl (by kernel_rfl) (fun _ _ h => h) (fun h _ e => absurd e h) fun hc q w1 hG hold hf K hK => ?_) ?_
    · have f74 : q.tmps.getD 74 undef = .int .i64 (F.v.c.length : Int) := hf 61 74 (by kernel_rfl) rfl hc
      have q74 := f74
      rw [Array.getD_eq_getD_getElem?] at q74
      have f77 : q.tmps.getD 77 undef = .int .i64 (F.v.s.length : Int) := hf 64 77 (by kernel_rfl) rfl hc
      have q77 := f77
      rw [Array.getD_eq_getD_getElem?] at q77
      have l1 := hG.f.m
      have l2 := hG.f.f
      have l3 := hG.f.r
      have l4 := hG.f.c
      have l5 := hG.f.s
      clear hf hold
      go_simp
      exact hK _ _ hG (Below.refl _ _) (fun _ => by rw [IntWalk.i64_in _ ⟨by omega, by omega⟩])
    refine AllDue.cons (due_ask (c := (((((fieldsN F.k != 0) && (y1 F)) && (y2 F)) && (y3 F)) && (y4 F)) && (y5 F)) (b := true) (k := 55) (s := 68) rfl rfl (by kernel_rfl) (fun _ _ h => h) (fun h _ e => absurd e h) fun hc q w1 hG hold hf K hK => ?_) ?_
    · have f78 : q.tmps.getD 78 undef = .int .i64 ((F.v.c.length : Int) + (F.v.s.length : Int)) := hf 65 78 (by kernel_rfl) rfl hc
      have q78 := f78
      rw [Array.getD_eq_getD_getElem?] at q78
      clear hf hold
      go_simp
      exact hK _ _ hG (Below.refl _ _) (fun _ => rfl)
    refine AllDue.cons (due_ask (c := (((((fieldsN F.k != 0) && (y1 F)) && (y2 F)) && (y3 F)) && (y4 F)) && (y5 F)) (b := true) (k := 55) (s := 68) rfl rfl (by kernel_rfl) (fun _ _ h => h) (fun h _ e => absurd e h) fun hc q w1 hG hold hf K hK => ?_) ?_
    · have f69 : q.tmps.getD 69 undef = .func (.func 15) #[] #[.pointer (some ⟨w.heap.size + 1, 0, none⟩)] := hf 56 69 (by kernel_rfl) rfl hc
      have q69 := f69
      rw [Array.getD_eq_getD_getElem?] at q69
      have f71 : q.tmps.getD 71 undef = .bool (mayV F.v) := hf 58 71 (by kernel_rfl) rfl hc
      have q71 := f71
      rw [Array.getD_eq_getD_getElem?] at q71
      have f79 : q.tmps.getD 79 undef = .bool (zeroS F) := hf 66 79 (by kernel_rfl) rfl hc
      have q79 := f79
      rw [Array.getD_eq_getD_getElem?] at q79
      clear hf hold
      go_simp
      go_at_call 15
      refine (fits_any _ _ _ _ _ _ hG.h).mono ?_
      rintro e2 w2 ⟨rfl, rfl⟩
      exact hK _ _ hG (Below.refl _ _) (fun _ => rfl)
    refine AllDue.cons (due_met (.inl rfl) fun q w1 hG hold hf K hK => ?_) ?_
    · have g68 : q.tmps.getD 68 undef = .bool ((((((fieldsN F.k != 0) && (y1 F)) && (y2 F)) && (y3 F)) && (y4 F)) && (y5 F)) := hf 55 68 (by kernel_rfl) rfl
      have g80 : ((((((fieldsN F.k != 0) && (y1 F)) && (y2 F)) && (y3 F)) && (y4 F)) && (y5 F)) = true → q.tmps.getD 80 undef = .bool (y6 F) := hf 67 80 (by kernel_rfl) rfl
      clear hf hold
      rcases hb : ((((((fieldsN F.k != 0) && (y1 F)) && (y2 F)) && (y3 F)) && (y4 F)) && (y5 F)) with _ | _
      · rw [hb] at g68
        rw [Array.getD_eq_getD_getElem?] at g68
        clear g80
        go_simp
        exact hK _ _ hG (Below.refl _ _) (show Value.bool false = .bool (((((((fieldsN F.k != 0) && (y1 F)) && (y2 F)) && (y3 F)) && (y4 F)) && (y5 F)) && (y6 F)) by rw [hb]; rfl)
      · rw [hb] at g68
        have k80 := g80 hb
        rw [Array.getD_eq_getD_getElem?] at k80
        rw [Array.getD_eq_getD_getElem?] at g68
        clear g80
        go_simp
        exact hK _ _ hG (Below.refl _ _) (show Value.bool (y6 F) = .bool (((((((fieldsN F.k != 0) && (y1 F)) && (y2 F)) && (y3 F)) && (y4 F)) && (y5 F)) && (y6 F)) by rw [hb]; rfl)
    refine AllDue.cons (due_met (.inl rfl) fun q w1 hG hold hf K hK => ?_) ?_
    · have f81 : q.tmps.getD 81 undef = .bool (((((((fieldsN F.k != 0) && (y1 F)) && (y2 F)) && (y3 F)) && (y4 F)) && (y5 F)) && (y6 F)) := hf 68 81 (by kernel_rfl) rfl
      have q81 := f81
      rw [Array.getD_eq_getD_getElem?] at q81
      clear hf hold
      go_simp
      exact hK _ _ hG (Below.refl _ _) rfl
    refine AllDue.cons (due_ask (c := ((((((fieldsN F.k != 0) && (y1 F)) && (y2 F)) && (y3 F)) && (y4 F)) && (y5 F)) && (y6 F)) (b := true) (k := 69) (s := 82) rfl rfl (by kernel_rfl) (fun _ _ h => h) (fun h _ e => absurd e h) fun hc q w1 hG hold hf K hK => ?_) ?_
    · have f4 : q.tmps.getD 4 undef = .func (.func 15) #[] #[.pointer (some ⟨w.heap.size + 1, 0, none⟩)] := hold 4 (by kernel_rfl)
      have q4 := f4
      rw [Array.getD_eq_getD_getElem?] at q4
      clear hf hold
      go_simp
      exact hK _ _ hG (Below.refl _ _) (fun _ => rfl)
    refine AllDue.cons (due_ask (c := ((((((fieldsN F.k != 0) && (y1 F)) && (y2 F)) && (y3 F)) && (y4 F)) && (y5 F)) && (y6 F)) (b := true) (k := 69) (s := 82) rfl rfl (by kernel_rfl) (fun _ _ h => h) (fun h _ e => absurd e h) fun hc q w1 hG hold hf K hK => ?_) ?_
    · have f6 : q.tmps.getD 6 undef = .pointer (some ⟨w.heap.size + 1 + 1 + 1, 0, none⟩) := hold 6 (by kernel_rfl)
      have q6 := f6
      rw [Array.getD_eq_getD_getElem?] at q6
      clear hf hold
      go_simp
      exact hK _ _ hG (Below.refl _ _) (fun _ => rfl)
    refine AllDue.cons (due_ask (c := ((((((fieldsN F.k != 0) && (y1 F)) && (y2 F)) && (y3 F)) && (y4 F)) && (y5 F)) && (y6 F)) (b := true) (k := 69) (s := 82) rfl rfl (by kernel_rfl) (fun _ _ h => h) (fun h _ e => absurd e h) fun hc q w1 hG hold hf K hK => ?_) ?_
    · have f84 : q.tmps.getD 84 undef = .pointer (some ⟨w.heap.size + 1 + 1 + 1, 0, none⟩) := hf 71 84 (by kernel_rfl) rfl hc
      have q84 := f84
      rw [Array.getD_eq_getD_getElem?] at q84
      obtain ⟨p0, p1, p2, p3, p4⟩ := vbox_cells hG.y
      (dsimp only at p0 p1 p2 p3 p4)
      clear hf hold
      go_simp
      exact hK _ _ hG (Below.refl _ _) (fun _ => rfl)
    refine AllDue.cons (due_ask (c := ((((((fieldsN F.k != 0) && (y1 F)) && (y2 F)) && (y3 F)) && (y4 F)) && (y5 F)) && (y6 F)) (b := true) (k := 69) (s := 82) rfl rfl (by kernel_rfl) (fun _ _ h => h) (fun h _ e => absurd e h) fun hc q w1 hG hold hf K hK => ?_) ?_
    · have f85 : q.tmps.getD 85 undef = .slice a0 F.v.m.length a2 := hf 72 85 (by kernel_rfl) rfl hc
      have q85 := f85
      rw [Array.getD_eq_getD_getElem?] at q85
      clear hf hold
      go_simp
      exact hK _ _ hG (Below.refl _ _) (fun _ => rfl)
    refine AllDue.cons (due_ask (c := ((((((fieldsN F.k != 0) && (y1 F)) && (y2 F)) && (y3 F)) && (y4 F)) && (y5 F)) && (y6 F)) (b := true) (k := 69) (s := 82) rfl rfl (by kernel_rfl) (fun _ _ h => h) (fun h _ e => absurd e h) fun hc q w1 hG hold hf K hK => ?_) ?_
    · have f6 : q.tmps.getD 6 undef = .pointer (some ⟨w.heap.size + 1 + 1 + 1, 0, none⟩) := hold 6 (by kernel_rfl)
      have q6 := f6
      rw [Array.getD_eq_getD_getElem?] at q6
      clear hf hold
      go_simp
      exact hK _ _ hG (Below.refl _ _) (fun _ => rfl)
    refine AllDue.cons (due_ask (c := ((((((fieldsN F.k != 0) && (y1 F)) && (y2 F)) && (y3 F)) && (y4 F)) && (y5 F)) && (y6 F)) (b := true) (k := 69) (s := 82) rfl rfl (by kernel_rfl) (fun _ _ h => h) (fun h _ e => absurd e h) fun hc q w1 hG hold hf K hK => ?_) ?_
    · have f87 : q.tmps.getD 87 undef = .pointer (some ⟨w.heap.size + 1 + 1 + 1, 1, none⟩) := hf 74 87 (by kernel_rfl) rfl hc
      have q87 := f87
      rw [Array.getD_eq_getD_getElem?] at q87
      obtain ⟨p0, p1, p2, p3, p4⟩ := vbox_cells hG.y
      (dsimp only at p0 p1 p2 p3 p4)
      clear hf hold
      go_simp
      exact hK _ _ hG (Below.refl _ _) (fun _ => rfl)
    refine AllDue.cons (due_ask (c := ((((((fieldsN F.k != 0) && (y1 F)) && (y2 F)) && (y3 F)) && (y4 F)) && (y5 F)) && (y6 F)) (b := true) (k := 69) (s := 82) rfl rfl (by kernel_rfl) (fun _ _ h => h) (fun h _ e => absurd e h) fun hc q w1 hG hold hf K hK => ?_) ?_
    · have f88 : q.tmps.getD 88 undef = .slice b0 F.v.f.length b2 := hf 75 88 (by kernel_rfl) rfl hc
      have q88 := f88
      rw [Array.getD_eq_getD_getElem?] at q88
      clear hf hold
      go_simp
      exact hK _ _ hG (Below.refl _ _) (fun _ => rfl)
    refine AllDue.cons (due_ask (c := ((((((fieldsN F.k != 0) && (y1 F)) && (y2 F)) && (y3 F)) && (y4 F)) && (y5 F)) && (y6 F)) (b := true) (k := 69) (s := 82) rfl rfl (by kernel_rfl) (fun _ _ h => h) (fun h _ e => absurd e h) fun hc q w1 hG hold hf K hK => ?_) ?_
    · have f86 : q.tmps.getD 86 undef = .int .i64 (F.v.m.length : Int) := hf 73 86 (by kernel_rfl) rfl hc
      have q86 := f86
      rw [Array.getD_eq_getD_getElem?] at q86
      have f89 : q.tmps.getD 89 undef = .int .i64 (F.v.f.length : Int) := hf 76 89 (by kernel_rfl) rfl hc
      have q89 := f89
      rw [Array.getD_eq_getD_getElem?] at q89
      have l1 := hG.f.m
      have l2 := hG.f.f
      have l3 := hG.f.r
      have l4 := hG.f.c
      have l5 := hG.f.s
      clear hf hold
      go_simp
      exact hK _ _ hG (Below.refl _ _) (fun _ => by rw [IntWalk.i64_in _ ⟨by omega, by omega⟩])
    refine AllDue.cons (due_ask (c := ((((((fieldsN F.k != 0) && (y1 F)) && (y2 F)) && (y3 F)) && (y4 F)) && (y5 F)) && (y6 F)) (b := true) (k := 69) (s := 82) rfl rfl (by kernel_rfl) (fun _ _ h => h) (fun h _ e => absurd e h) fun hc q w1 hG hold hf K hK => ?_) ?_
    · have f6 : q.tmps.getD 6 undef = .pointer (some ⟨w.heap.size + 1 + 1 + 1, 0, none⟩) := hold 6 (by kernel_rfl)
      have q6 := f6
      rw [Array.getD_eq_getD_getElem?] at q6
      clear hf hold
      go_simp
      exact hK _ _ hG (Below.refl _ _) (fun _ => rfl)
    refine AllDue.cons (due_ask (c := ((((((fieldsN F.k != 0) && (y1 F)) && (y2 F)) && (y3 F)) && (y4 F)) && (y5 F)) && (y6 F)) (b := true) (k := 69) (s := 82) rfl rfl (by kernel_rfl) (fun _ _ h => h) (fun h _ e => absurd e h) fun hc q w1 hG hold hf K hK => ?_) ?_
    · have f91 : q.tmps.getD 91 undef = .pointer (some ⟨w.heap.size + 1 + 1 + 1, 2, none⟩) := hf 78 91 (by kernel_rfl) rfl hc
      have q91 := f91
      rw [Array.getD_eq_getD_getElem?] at q91
      obtain ⟨p0, p1, p2, p3, p4⟩ := vbox_cells hG.y
      (dsimp only at p0 p1 p2 p3 p4)
      clear hf hold
      go_simp
      exact hK _ _ hG (Below.refl _ _) (fun _ => rfl)
    refine AllDue.cons (due_ask (c := ((((((fieldsN F.k != 0) && (y1 F)) && (y2 F)) && (y3 F)) && (y4 F)) && (y5 F)) && (y6 F)) (b := true) (k := 69) (s := 82) rfl rfl (by kernel_rfl) (fun _ _ h => h) (fun h _ e => absurd e h) fun hc q w1 hG hold hf K hK => ?_) ?_
    · have f92 : q.tmps.getD 92 undef = .slice c0 F.v.r.length c2 := hf 79 92 (by kernel_rfl) rfl hc
      have q92 := f92
      rw [Array.getD_eq_getD_getElem?] at q92
      clear hf hold
      go_simp
      exact hK _ _ hG (Below.refl _ _) (fun _ => rfl)
    refine AllDue.cons (due_ask (c := ((((((fieldsN F.k != 0) && (y1 F)) && (y2 F)) && (y3 F)) && (y4 F)) && (y5 F)) && (y6 F)) (b := true) (k := 69) (s := 82) rfl rfl (by kernel_rfl) (fun _ _ h => h) (fun h _ e => absurd e h) fun hc q w1 hG hold hf K hK => ?_) ?_
    · have f90 : q.tmps.getD 90 undef = .int .i64 ((F.v.m.length : Int) + (F.v.f.length : Int)) := hf 77 90 (by kernel_rfl) rfl hc
      have q90 := f90
      rw [Array.getD_eq_getD_getElem?] at q90
      have f93 : q.tmps.getD 93 undef = .int .i64 (F.v.r.length : Int) := hf 80 93 (by kernel_rfl) rfl hc
      have q93 := f93
      rw [Array.getD_eq_getD_getElem?] at q93
      have l1 := hG.f.m
      have l2 := hG.f.f
      have l3 := hG.f.r
      have l4 := hG.f.c
      have l5 := hG.f.s
      clear hf hold
      go_simp
      exact hK _ _ hG (Below.refl _ _) (fun _ => by rw [IntWalk.i64_in _ ⟨by omega, by omega⟩])
    refine AllDue.cons (due_ask (c := ((((((fieldsN F.k != 0) && (y1 F)) && (y2 F)) && (y3 F)) && (y4 F)) && (y5 F)) && (y6 F)) (b := true) (k := 69) (s := 82) rfl rfl (by kernel_rfl) (fun _ _ h => h) (fun h _ e => absurd e h) fun hc q w1 hG hold hf K hK => ?_) ?_
    · have f94 : q.tmps.getD 94 undef = .int .i64 ((((F.v.m.length : Int) + (F.v.f.length : Int))) + (F.v.r.length : Int)) := hf 81 94 (by kernel_rfl) rfl hc
      have q94 := f94
      rw [Array.getD_eq_getD_getElem?] at q94
      clear hf hold
      go_simp
      exact hK _ _ hG (Below.refl _ _) (fun _ => rfl)
    refine AllDue.cons (due_ask (c := ((((((fieldsN F.k != 0) && (y1 F)) && (y2 F)) && (y3 F)) && (y4 F)) && (y5 F)) && (y6 F)) (b := true) (k := 69) (s := 82) rfl rfl (by kernel_rfl) (fun _ _ h => h) (fun h _ e => absurd e h) fun hc q w1 hG hold hf K hK => ?_) ?_
    · have f83 : q.tmps.getD 83 undef = .func (.func 15) #[] #[.pointer (some ⟨w.heap.size + 1, 0, none⟩)] := hf 70 83 (by kernel_rfl) rfl hc
      have q83 := f83
      rw [Array.getD_eq_getD_getElem?] at q83
      have f95 : q.tmps.getD 95 undef = .bool (zeroK F) := hf 82 95 (by kernel_rfl) rfl hc
      have q95 := f95
      rw [Array.getD_eq_getD_getElem?] at q95
      clear hf hold
      go_simp
      go_at_call 15
      refine (fits_any _ _ _ _ _ _ hG.h).mono ?_
      rintro e2 w2 ⟨rfl, rfl⟩
      exact hK _ _ hG (Below.refl _ _) (fun _ => rfl)
    refine AllDue.cons (due_met (.inl rfl) fun q w1 hG hold hf K hK => ?_) ?_
    · have g82 : q.tmps.getD 82 undef = .bool (((((((fieldsN F.k != 0) && (y1 F)) && (y2 F)) && (y3 F)) && (y4 F)) && (y5 F)) && (y6 F)) := hf 69 82 (by kernel_rfl) rfl
      have g96 : (((((((fieldsN F.k != 0) && (y1 F)) && (y2 F)) && (y3 F)) && (y4 F)) && (y5 F)) && (y6 F)) = true → q.tmps.getD 96 undef = .bool (y7 F) := hf 83 96 (by kernel_rfl) rfl
      clear hf hold
      rcases hb : (((((((fieldsN F.k != 0) && (y1 F)) && (y2 F)) && (y3 F)) && (y4 F)) && (y5 F)) && (y6 F)) with _ | _
      · rw [hb] at g82
        rw [Array.getD_eq_getD_getElem?] at g82
        clear g96
        go_simp
        exact hK _ _ hG (Below.refl _ _) (show Value.bool false = .bool ((((((((fieldsN F.k != 0) && (y1 F)) && (y2 F)) && (y3 F)) && (y4 F)) && (y5 F)) && (y6 F)) && (y7 F)) by rw [hb]; rfl)
      · rw [hb] at g82
        have k96 := g96 hb
        rw [Array.getD_eq_getD_getElem?] at k96
        rw [Array.getD_eq_getD_getElem?] at g82
        clear g96
        go_simp
        exact hK _ _ hG (Below.refl _ _) (show Value.bool (y7 F) = .bool ((((((((fieldsN F.k != 0) && (y1 F)) && (y2 F)) && (y3 F)) && (y4 F)) && (y5 F)) && (y6 F)) && (y7 F)) by rw [hb]; rfl)
    refine AllDue.cons (due_met (.inl rfl) fun q w1 hG hold hf K hK => ?_) ?_
    · have f97 : q.tmps.getD 97 undef = .bool ((((((((fieldsN F.k != 0) && (y1 F)) && (y2 F)) && (y3 F)) && (y4 F)) && (y5 F)) && (y6 F)) && (y7 F)) := hf 84 97 (by kernel_rfl) rfl
      have q97 := f97
      rw [Array.getD_eq_getD_getElem?] at q97
      clear hf hold
      go_simp
      exact hK _ _ hG (Below.refl _ _) rfl
    exact AllDue.nil
  · intro q w1 hG hd hs hold hf
    have f2 : q.tmps.getD 2 undef = .bool (mayF F) := hf 85 2 (by kernel_rfl)
    clear hf hold
    go_wp2_with fail
    refine bodyPost_ret (results_tmp rfl _ _ _) hd ?_
    exact ⟨by rw [f2], hG.below⟩
end Go.Proofs.YtkeiekljedhllaaGreat
