/-
  Carried over and put together: contracts of this program's functions, and plain facts. No statement is proved in this text.
-/
import Derived.BigFrame
import Derived.Deep.Cut
import Derived.Deep.CutRange
import Derived.Deep.MidRow
import Derived.Great.Walk
import Derived.Great.BuildSlice
import Derived.Test.YtkeiekljedhllaaGreatF25
set_option maxRecDepth 20000
namespace Go.Proofs.YtkeiekljedhllaaGreat
open Go Go.RowKit
/-- A region, found by its number. -/
def findR (n : Nat) : Code → Option Code
  | .region k ops d => if k = n then some (.region k ops d) else none
  | .seq a b => match findR n a with
    | some c => some c
    | none => findR n b
  | .cond _ a b => match findR n a with
    | some c => some c
    | none => findR n b
  | .block _ c => findR n c
  | .loop c => findR n c
  | _ => none
/-- A region with what stands right behind it. -/
def findS (n : Nat) : Code → Option Code
  | .seq (.region k ops d) b => if k = n then some (.seq (.region k ops d) b) else findS n b
  | .seq a b => match findS n a with
    | some c => some c
    | none => findS n b
  | .cond _ a b => match findS n a with
    | some c => some c
    | none => findS n b
  | .block _ c => findS n c
  | .loop c => findS n c
  | _ => none
noncomputable def reg (n : Nat) : Code := ((Tryz.f3.body.bind (findR n)).getD .skip)
noncomputable def ifs (n : Nat) : Code := ((Tryz.f3.body.bind (findS n)).getD .skip)
theorem lit276 (f : Nat → Value) : (List.range 276).map f = [f 0, f 1, f 2, f 3, f 4, f 5, f 6, f 7, f 8, f 9, f 10, f 11, f 12, f 13, f 14, f 15, f 16, f 17, f 18, f 19, f 20, f 21, f 22, f 23, f 24, f 25, f 26, f 27, f 28, f 29, f 30, f 31, f 32, f 33, f 34, f 35, f 36, f 37, f 38, f 39, f 40, f 41, f 42, f 43, f 44, f 45, f 46, f 47, f 48, f 49, f 50, f 51, f 52, f 53, f 54, f 55, f 56, f 57, f 58, f 59, f 60, f 61, f 62, f 63, f 64, f 65, f 66, f 67, f 68, f 69, f 70, f 71, f 72, f 73, f 74, f 75, f 76, f 77, f 78, f 79, f 80, f 81, f 82, f 83, f 84, f 85, f 86, f 87, f 88, f 89, f 90, f 91, f 92, f 93, f 94, f 95, f 96, f 97, f 98, f 99, f 100, f 101, f 102, f 103, f 104, f 105, f 106, f 107, f 108, f 109, f 110, f 111, f 112, f 113, f 114, f 115, f 116, f 117, f 118, f 119, f 120, f 121, f 122, f 123, f 124, f 125, f 126, f 127, f 128, f 129, f 130, f 131, f 132, f 133, f 134, f 135, f 136, f 137, f 138, f 139, f 140, f 141, f 142, f 143, f 144, f 145, f 146, f 147, f 148, f 149, f 150, f 151, f 152, f 153, f 154, f 155, f 156, f 157, f 158, f 159, f 160, f 161, f 162, f 163, f 164, f 165, f 166, f 167, f 168, f 169, f 170, f 171, f 172, f 173, f 174, f 175, f 176, f 177, f 178, f 179, f 180, f 181, f 182, f 183, f 184, f 185, f 186, f 187, f 188, f 189, f 190, f 191, f 192, f 193, f 194, f 195, f 196, f 197, f 198, f 199, f 200, f 201, f 202, f 203, f 204, f 205, f 206, f 207, f 208, f 209, f 210, f 211, f 212, f 213, f 214, f 215, f 216, f 217, f 218, f 219, f 220, f 221, f 222, f 223, f 224, f 225, f 226, f 227, f 228, f 229, f 230, f 231, f 232, f 233, f 234, f 235, f 236, f 237, f 238, f 239, f 240, f 241, f 242, f 243, f 244, f 245, f 246, f 247, f 248, f 249, f 250, f 251, f 252, f 253, f 254, f 255, f 256, f 257, f 258, f 259, f 260, f 261, f 262, f 263, f 264, f 265, f 266, f 267, f 268, f 269, f 270, f 271, f 272, f 273, f 274, f 275] := by kernel_rfl
theorem spread (a : Act) (hs : a.tmps.size = 276) (hd : a.defers = []) : a = ⟨List.toArray [(fun i => a.tmps.getD i undef) 0, (fun i => a.tmps.getD i undef) 1, (fun i => a.tmps.getD i undef) 2, (fun i => a.tmps.getD i undef) 3, (fun i => a.tmps.getD i undef) 4, (fun i => a.tmps.getD i undef) 5, (fun i => a.tmps.getD i undef) 6, (fun i => a.tmps.getD i undef) 7, (fun i => a.tmps.getD i undef) 8, (fun i => a.tmps.getD i undef) 9, (fun i => a.tmps.getD i undef) 10, (fun i => a.tmps.getD i undef) 11, (fun i => a.tmps.getD i undef) 12, (fun i => a.tmps.getD i undef) 13, (fun i => a.tmps.getD i undef) 14, (fun i => a.tmps.getD i undef) 15, (fun i => a.tmps.getD i undef) 16, (fun i => a.tmps.getD i undef) 17, (fun i => a.tmps.getD i undef) 18, (fun i => a.tmps.getD i undef) 19, (fun i => a.tmps.getD i undef) 20, (fun i => a.tmps.getD i undef) 21, (fun i => a.tmps.getD i undef) 22, (fun i => a.tmps.getD i undef) 23, (fun i => a.tmps.getD i undef) 24, (fun i => a.tmps.getD i undef) 25, (fun i => a.tmps.getD i undef) 26, (fun i => a.tmps.getD i undef) 27, (fun i => a.tmps.getD i undef) 28, (fun i => a.tmps.getD i undef) 29, (fun i => a.tmps.getD i undef) 30, (fun i => a.tmps.getD i undef) 31, (fun i => a.tmps.getD i undef) 32, (fun i => a.tmps.getD i undef) 33, (fun i => a.tmps.getD i undef) 34, (fun i => a.tmps.getD i undef) 35, (fun i => a.tmps.getD i undef) 36, (fun i => a.tmps.getD i undef) 37, (fun i => a.tmps.getD i undef) 38, (fun i => a.tmps.getD i undef) 39, (fun i => a.tmps.getD i undef) 40, (fun i => a.tmps.getD i undef) 41, (fun i => a.tmps.getD i undef) 42, (fun i => a.tmps.getD i undef) 43, (fun i => a.tmps.getD i undef) 44, (fun i => a.tmps.getD i undef) 45, (fun i => a.tmps.getD i undef) 46, (fun i => a.tmps.getD i undef) 47, (fun i => a.tmps.getD i undef) 48, (fun i => a.tmps.getD i undef) 49, (fun i => a.tmps.getD i undef) 50, (fun i => a.tmps.getD i undef) 51, (fun i => a.tmps.getD i undef) 52, (fun i => a.tmps.getD i undef) 53, (fun i => a.tmps.getD i undef) 54, (fun i => a.tmps.getD i undef) 55, (fun i => a.tmps.getD i undef) 56, (fun i => a.tmps.getD i undef) 57, (fun i => a.tmps.getD i undef) 58, (fun i => a.tmps.getD i undef) 59, (fun i => a.tmps.getD i undef) 60, (fun i => a.tmps.getD i undef) 61, (fun i => a.tmps.getD i undef) 62, (fun i => a.tmps.getD i undef) 63, (fun i => a.tmps.getD i undef) 64, (fun i => a.tmps.getD i undef) 65, (fun i => a.tmps.getD i undef) 66, (fun i => a.tmps.getD i undef) 67, (fun i => a.tmps.getD i undef) 68, (fun i => a.tmps.getD i undef) 69, (fun i => a.tmps.getD i undef) 70, (fun i => a.tmps.getD i undef) 71, (fun i => a.tmps.getD i undef) 72, (fun i => a.tmps.getD i undef) 73, (fun i => a.tmps.getD i undef) 74, (fun i => a.tmps.getD i undef) 75, (fun i => a.tmps.getD i undef) 76, (fun i => a.tmps.getD i undef) 77, (fun i => a.tmps.getD i undef) 78, (fun i => a.tmps.getD i undef) 79, (fun i => a.tmps.getD i undef) 80, (fun i => a.tmps.getD i undef) 81, (fun i => a.tmps.getD i undef) 82, (fun i => a.tmps.getD i undef) 83, (fun i => a.tmps.getD i undef) 84, (fun i => a.tmps.getD i undef) 85, (fun i => a.tmps.getD i undef) 86, (fun i => a.tmps.getD i undef) 87, (fun i => a.tmps.getD i undef) 88, (fun i => a.tmps.getD i undef) 89, (fun i => a.tmps.getD i undef) 90, (fun i => a.tmps.getD i undef) 91, (fun i => a.tmps.getD i undef) 92, (fun i => a.tmps.getD i undef) 93, (fun i => a.tmps.getD i undef) 94, (fun i => a.tmps.getD i undef) 95, (fun i => a.tmps.getD i undef) 96, (fun i => a.tmps.getD i undef) 97, (fun i => a.tmps.getD i undef) 98, (fun i => a.tmps.getD i undef) 99, (fun i => a.tmps.getD i undef) 100, (fun i => a.tmps.getD i undef) 101, (fun i => a.tmps.getD i undef) 102, (fun i => a.tmps.getD i undef) 103, (fun i => a.tmps.getD i undef) 104, (fun i => a.tmps.getD i undef) 105, (fun i => a.tmps.getD i undef) 106, (fun i => a.tmps.getD i undef) 107, (fun i => a.tmps.getD i undef) 108, (fun i => a.tmps.getD i undef) 109, (fun i => a.tmps.getD i undef) 110, (fun i => a.tmps.getD i undef) 111, (fun i => a.tmps.getD i undef) 112, (fun i => a.tmps.getD i undef) 113, (fun i => a.tmps.getD i undef) 114, (fun i => a.tmps.getD i undef) 115, (fun i => a.tmps.getD i undef) 116, (fun i => a.tmps.getD i undef) 117, (fun i => a.tmps.getD i undef) 118, (fun i => a.tmps.getD i undef) 119, (fun i => a.tmps.getD i undef) 120, (fun i => a.tmps.getD i undef) 121, (fun i => a.tmps.getD i undef) 122, (fun i => a.tmps.getD i undef) 123, (fun i => a.tmps.getD i undef) 124, (fun i => a.tmps.getD i undef) 125, (fun i => a.tmps.getD i undef) 126, (fun i => a.tmps.getD i undef) 127, (fun i => a.tmps.getD i undef) 128, (fun i => a.tmps.getD i undef) 129, (fun i => a.tmps.getD i undef) 130, (fun i => a.tmps.getD i undef) 131, (fun i => a.tmps.getD i undef) 132, (fun i => a.tmps.getD i undef) 133, (fun i => a.tmps.getD i undef) 134, (fun i => a.tmps.getD i undef) 135, (fun i => a.tmps.getD i undef) 136, (fun i => a.tmps.getD i undef) 137, (fun i => a.tmps.getD i undef) 138, (fun i => a.tmps.getD i undef) 139, (fun i => a.tmps.getD i undef) 140, (fun i => a.tmps.getD i undef) 141, (fun i => a.tmps.getD i undef) 142, (fun i => a.tmps.getD i undef) 143, (fun i => a.tmps.getD i undef) 144, (fun i => a.tmps.getD i undef) 145, (fun i => a.tmps.getD i undef) 146, (fun i => a.tmps.getD i undef) 147, (fun i => a.tmps.getD i undef) 148, (fun i => a.tmps.getD i undef) 149, (fun i => a.tmps.getD i undef) 150, (fun i => a.tmps.getD i undef) 151, (fun i => a.tmps.getD i undef) 152, (fun i => a.tmps.getD i undef) 153, (fun i => a.tmps.getD i undef) 154, (fun i => a.tmps.getD i undef) 155, (fun i => a.tmps.getD i undef) 156, (fun i => a.tmps.getD i undef) 157, (fun i => a.tmps.getD i undef) 158, (fun i => a.tmps.getD i undef) 159, (fun i => a.tmps.getD i undef) 160, (fun i => a.tmps.getD i undef) 161, (fun i => a.tmps.getD i undef) 162, (fun i => a.tmps.getD i undef) 163, (fun i => a.tmps.getD i undef) 164, (fun i => a.tmps.getD i undef) 165, (fun i => a.tmps.getD i undef) 166, (fun i => a.tmps.getD i undef) 167, (fun i => a.tmps.getD i undef) 168, (fun i => a.tmps.getD i undef) 169, (fun i => a.tmps.getD i undef) 170, (fun i => a.tmps.getD i undef) 171, (fun i => a.tmps.getD i undef) 172, (fun i => a.tmps.getD i undef) 173, (fun i => a.tmps.getD i undef) 174, (fun i => a.tmps.getD i undef) 175, (fun i => a.tmps.getD i undef) 176, (fun i => a.tmps.getD i undef) 177, (fun i => a.tmps.getD i undef) 178, (fun i => a.tmps.getD i undef) 179, (fun i => a.tmps.getD i undef) 180, (fun i => a.tmps.getD i undef) 181, (fun i => a.tmps.getD i undef) 182, (fun i => a.tmps.getD i undef) 183, (fun i => a.tmps.getD i undef) 184, (fun i => a.tmps.getD i undef) 185, (fun i => a.tmps.getD i undef) 186, (fun i => a.tmps.getD i undef) 187, (fun i => a.tmps.getD i undef) 188, (fun i => a.tmps.getD i undef) 189, (fun i => a.tmps.getD i undef) 190, (fun i => a.tmps.getD i undef) 191, (fun i => a.tmps.getD i undef) 192, (fun i => a.tmps.getD i undef) 193, (fun i => a.tmps.getD i undef) 194, (fun i => a.tmps.getD i undef) 195, (fun i => a.tmps.getD i undef) 196, (fun i => a.tmps.getD i undef) 197, (fun i => a.tmps.getD i undef) 198, (fun i => a.tmps.getD i undef) 199, (fun i => a.tmps.getD i undef) 200, (fun i => a.tmps.getD i undef) 201, (fun i => a.tmps.getD i undef) 202, (fun i => a.tmps.getD i undef) 203, (fun i => a.tmps.getD i undef) 204, (fun i => a.tmps.getD i undef) 205, (fun i => a.tmps.getD i undef) 206, (fun i => a.tmps.getD i undef) 207, (fun i => a.tmps.getD i undef) 208, (fun i => a.tmps.getD i undef) 209, (fun i => a.tmps.getD i undef) 210, (fun i => a.tmps.getD i undef) 211, (fun i => a.tmps.getD i undef) 212, (fun i => a.tmps.getD i undef) 213, (fun i => a.tmps.getD i undef) 214, (fun i => a.tmps.getD i undef) 215, (fun i => a.tmps.getD i undef) 216, (fun i => a.tmps.getD i undef) 217, (fun i => a.tmps.getD i undef) 218, (fun i => a.tmps.getD i undef) 219, (fun i => a.tmps.getD i undef) 220, (fun i => a.tmps.getD i undef) 221, (fun i => a.tmps.getD i undef) 222, (fun i => a.tmps.getD i undef) 223, (fun i => a.tmps.getD i undef) 224, (fun i => a.tmps.getD i undef) 225, (fun i => a.tmps.getD i undef) 226, (fun i => a.tmps.getD i undef) 227, (fun i => a.tmps.getD i undef) 228, (fun i => a.tmps.getD i undef) 229, (fun i => a.tmps.getD i undef) 230, (fun i => a.tmps.getD i undef) 231, (fun i => a.tmps.getD i undef) 232, (fun i => a.tmps.getD i undef) 233, (fun i => a.tmps.getD i undef) 234, (fun i => a.tmps.getD i undef) 235, (fun i => a.tmps.getD i undef) 236, (fun i => a.tmps.getD i undef) 237, (fun i => a.tmps.getD i undef) 238, (fun i => a.tmps.getD i undef) 239, (fun i => a.tmps.getD i undef) 240, (fun i => a.tmps.getD i undef) 241, (fun i => a.tmps.getD i undef) 242, (fun i => a.tmps.getD i undef) 243, (fun i => a.tmps.getD i undef) 244, (fun i => a.tmps.getD i undef) 245, (fun i => a.tmps.getD i undef) 246, (fun i => a.tmps.getD i undef) 247, (fun i => a.tmps.getD i undef) 248, (fun i => a.tmps.getD i undef) 249, (fun i => a.tmps.getD i undef) 250, (fun i => a.tmps.getD i undef) 251, (fun i => a.tmps.getD i undef) 252, (fun i => a.tmps.getD i undef) 253, (fun i => a.tmps.getD i undef) 254, (fun i => a.tmps.getD i undef) 255, (fun i => a.tmps.getD i undef) 256, (fun i => a.tmps.getD i undef) 257, (fun i => a.tmps.getD i undef) 258, (fun i => a.tmps.getD i undef) 259, (fun i => a.tmps.getD i undef) 260, (fun i => a.tmps.getD i undef) 261, (fun i => a.tmps.getD i undef) 262, (fun i => a.tmps.getD i undef) 263, (fun i => a.tmps.getD i undef) 264, (fun i => a.tmps.getD i undef) 265, (fun i => a.tmps.getD i undef) 266, (fun i => a.tmps.getD i undef) 267, (fun i => a.tmps.getD i undef) 268, (fun i => a.tmps.getD i undef) 269, (fun i => a.tmps.getD i undef) 270, (fun i => a.tmps.getD i undef) 271, (fun i => a.tmps.getD i undef) 272, (fun i => a.tmps.getD i undef) 273, (fun i => a.tmps.getD i undef) 274, (fun i => a.tmps.getD i undef) 275], []⟩ := by
  obtain ⟨t, d⟩ := a
  simp only at hs hd
  subst hd
  congr 1
  rw [← lit276 fun i => t.getD i undef]
  apply Array.ext
  · simp [hs]
  · intro i h1 h2
    simp [Array.getD, h1]
/-- The slots that stand while the kinds are gone through. -/
structure Fz (a : Act) (gv ga gi g i : Nat) : Prop where
  size : a.tmps.size = 276
  no : a.defers = []
  s0 : a.tmps.getD 0 undef = .bool false
  s1 : a.tmps.getD 1 undef = .pointer (some ⟨gv, 0, none⟩)
  s2 : a.tmps.getD 2 undef = .pointer (some ⟨ga, 0, none⟩)
  s3 : a.tmps.getD 3 undef = .pointer (some ⟨gi, 0, none⟩)
  s4 : a.tmps.getD 4 undef = .pointer (some ⟨gi + 1, 0, none⟩)
  s79 : a.tmps.getD 79 undef = .slice (some ⟨g, 0, none⟩) 13 13
  s80 : a.tmps.getD 80 undef = .int .i64 13
  s81 : a.tmps.getD 81 undef = .int .i64 i
/-- A slot holds a value. -/
def Sl (a : Act) (j : Nat) (v : Value) : Prop := a.tmps.getD j undef = v
/-- A slot holds a pointer to a block. -/
def Pt (a : Act) (j g : Nat) : Prop := a.tmps.getD j undef = .pointer (some ⟨g, 0, none⟩)
theorem Fz.spell {a : Act} {gv ga gi g i : Nat} (h : Fz a gv ga gi g i) : ∃ f : Nat → Value, (∀ j, a.tmps.getD j undef = f j) ∧ a = ⟨List.toArray [f 0, f 1, f 2, f 3, f 4, f 5, f 6, f 7, f 8, f 9, f 10, f 11, f 12, f 13, f 14, f 15, f 16, f 17, f 18, f 19, f 20, f 21, f 22, f 23, f 24, f 25, f 26, f 27, f 28, f 29, f 30, f 31, f 32, f 33, f 34, f 35, f 36, f 37, f 38, f 39, f 40, f 41, f 42, f 43, f 44, f 45, f 46, f 47, f 48, f 49, f 50, f 51, f 52, f 53, f 54, f 55, f 56, f 57, f 58, f 59, f 60, f 61, f 62, f 63, f 64, f 65, f 66, f 67, f 68, f 69, f 70, f 71, f 72, f 73, f 74, f 75, f 76, f 77, f 78, f 79, f 80, f 81, f 82, f 83, f 84, f 85, f 86, f 87, f 88, f 89, f 90, f 91, f 92, f 93, f 94, f 95, f 96, f 97, f 98, f 99, f 100, f 101, f 102, f 103, f 104, f 105, f 106, f 107, f 108, f 109, f 110, f 111, f 112, f 113, f 114, f 115, f 116, f 117, f 118, f 119, f 120, f 121, f 122, f 123, f 124, f 125, f 126, f 127, f 128, f 129, f 130, f 131, f 132, f 133, f 134, f 135, f 136, f 137, f 138, f 139, f 140, f 141, f 142, f 143, f 144, f 145, f 146, f 147, f 148, f 149, f 150, f 151, f 152, f 153, f 154, f 155, f 156, f 157, f 158, f 159, f 160, f 161, f 162, f 163, f 164, f 165, f 166, f 167, f 168, f 169, f 170, f 171, f 172, f 173, f 174, f 175, f 176, f 177, f 178, f 179, f 180, f 181, f 182, f 183, f 184, f 185, f 186, f 187, f 188, f 189, f 190, f 191, f 192, f 193, f 194, f 195, f 196, f 197, f 198, f 199, f 200, f 201, f 202, f 203, f 204, f 205, f 206, f 207, f 208, f 209, f 210, f 211, f 212, f 213, f 214, f 215, f 216, f 217, f 218, f 219, f 220, f 221, f 222, f 223, f 224, f 225, f 226, f 227, f 228, f 229, f 230, f 231, f 232, f 233, f 234, f 235, f 236, f 237, f 238, f 239, f 240, f 241, f 242, f 243, f 244, f 245, f 246, f 247, f 248, f 249, f 250, f 251, f 252, f 253, f 254, f 255, f 256, f 257, f 258, f 259, f 260, f 261, f 262, f 263, f 264, f 265, f 266, f 267, f 268, f 269, f 270, f 271, f 272, f 273, f 274, f 275], []⟩ ∧ f 0 = .bool false ∧ f 1 = .pointer (some ⟨gv, 0, none⟩) ∧ f 2 = .pointer (some ⟨ga, 0, none⟩) ∧ f 3 = .pointer (some ⟨gi, 0, none⟩) ∧ f 4 = .pointer (some ⟨gi + 1, 0, none⟩) ∧ f 79 = .slice (some ⟨g, 0, none⟩) 13 13 ∧ f 80 = .int .i64 13 ∧ f 81 = .int .i64 i :=
  ⟨fun j => a.tmps.getD j undef, fun _ => rfl, spread a h.size h.no, h.s0, h.s1, h.s2, h.s3, h.s4, h.s79, h.s80, h.s81⟩
theorem below_gone2 {w0 w w' : World} {X : Nat} (hb : Below w0.heap.size w0 w) (hx : w0.heap.size ≤ X) (k : w.grownBy w' (some X)) : Below w0.heap.size w0 w' := hb.grown k hb.size fun j hj => by injection hj with hj; omega
set_option maxHeartbeats 8000000 in
theorem r11 {a : Act} {w : World} {gv ga gi g i : Nat} {Q : Exit → Act → World → Prop} (h : Fz a gv ga gi g i) (x : Kd) (hx : w.rangeAt g (i * 20) (encKd x)) (hi : i < 13)
    (hQ : ∀ a' w' X, Fz a' gv ga gi g i → Pt a' 6 X → XBox w' X x → w.heap.size ≤ X → Below w.heap.size w w' → Q .normal a' w') : Code.wp Tryz.prog (reg 11) Q a w := by
  obtain ⟨f, -, rfl, h0, h1, h2, h3, h4, h79, h80, h81⟩ := h.spell
  have HQ := Lib.hid hQ
  have RH := Lib.hid (show w.rangeAt g (i * 20) [.int .u8 x.k, .int .i64 0, .int .i64 0, .int .i64 0, .int .i64 0, .int .i64 0, .int .i64 0, .int .i64 0, .int .i64 0, .slice none 0 0, .slice none 0 0, .slice none 0 0, .slice none 0 0, .slice none 0 0, .bool x.f, .bool x.t, .bool x.n, .bool x.q, .bool x.b, .int .i64 x.v] from hx)
  clear hQ h hx
  have hi2 : (i : Int) < 13 := by omega
  have hi3 : (0 : Int) ≤ (i : Int) := by omega
  have HX : Hid (XBox (w.alloc (.cells #[.int .u8 x.k, .int .i64 0, .int .i64 0, .int .i64 0, .int .i64 0, .int .i64 0, .int .i64 0, .int .i64 0, .int .i64 0, .slice none 0 0, .slice none 0 0, .slice none 0 0, .slice none 0 0, .slice none 0 0, .bool x.f, .bool x.t, .bool x.n, .bool x.q, .bool x.b, .int .i64 x.v] 40)) w.heap.size x) := Lib.hid (heap_alloc_new w _)
  have B := Lib.hid (below_one w (.cells #[.int .u8 x.k, .int .i64 0, .int .i64 0, .int .i64 0, .int .i64 0, .int .i64 0, .int .i64 0, .int .i64 0, .int .i64 0, .slice none 0 0, .slice none 0 0, .slice none 0 0, .slice none 0 0, .slice none 0 0, .bool x.f, .bool x.t, .bool x.n, .bool x.q, .bool x.b, .int .i64 x.v] 40))
  conv => arg 2; whnf
  go_wp2_with (first | (refine wpList_load_mid rfl 40 (.tmp 83) rfl g (i * 20) (by first | rfl | (show Value.pointer (some (Addr.add ⟨g, 0, none⟩ (i * 20))) = _; rw [Addr.add_mid, Nat.zero_add])) [.int .u8 x.k, .int .i64 0, .int .i64 0, .int .i64 0, .int .i64 0, .int .i64 0, .int .i64 0, .int .i64 0, .int .i64 0, .slice none 0 0, .slice none 0 0, .slice none 0 0, .slice none 0 0, .slice none 0 0, .bool x.f, .bool x.t, .bool x.n, .bool x.q, .bool x.b, .int .i64 x.v] _ RH.out Tryz.underlying40 rfl (by kernel_rfl) ?_) | (refine wpList_store_rowTo rfl 40 (.tmp 6) (.tmp 84) rfl rfl w.heap.size #[.int .u8 x.k, .int .i64 0, .int .i64 0, .int .i64 0, .int .i64 0, .int .i64 0, .int .i64 0, .int .i64 0, .int .i64 0, .slice none 0 0, .slice none 0 0, .slice none 0 0, .slice none 0 0, .slice none 0 0, .bool x.f, .bool x.t, .bool x.n, .bool x.q, .bool x.b, .int .i64 x.v] rfl rfl 40 #[.int .u8 0, .int .i64 0, .int .i64 0, .int .i64 0, .int .i64 0, .int .i64 0, .int .i64 0, .int .i64 0, .int .i64 0, .slice none 0 0, .slice none 0 0, .slice none 0 0, .slice none 0 0, .slice none 0 0, .bool false, .bool false, .bool false, .bool false, .bool false, .int .i64 0] (heap_alloc_new _ _) (by kernel_rfl) rfl (by simp [Value.oneCell']) ?_; rw [World.setRow_alloc_new]))
  exact HQ.out _ _ w.heap.size ⟨rfl, rfl, rfl, rfl, rfl, rfl, rfl, rfl, rfl, rfl⟩ rfl HX.out (Nat.le_refl _) B.out
/-- A frame without anything but its kind. -/
def kO (x : Kd) : Fr := ⟨x.k, (0, 0), (0, 0), 0, 0, (0, 0), noV⟩
def N0 : SL := (none, 0, 0)
/-- Block g holds the frame F, whose view has nothing in memory. -/
def YBox (w : World) (g : Nat) (F : Fr) : Prop := w.heap[g]? = some (.cells #[.int .u8 F.k, .int .i64 F.f.1, .int .i64 F.f.2, .int .i64 F.t.1, .int .i64 F.t.2, .int .i64 F.n, .int .i64 F.q, .int .i64 F.b.1, .int .i64 F.b.2, .slice none 0 0, .slice none 0 0, .slice none 0 0, .slice none 0 0, .slice none 0 0] 39 (0, 0))
theorem ybox_below {w w' : World} {g : Nat} {F : Fr} (h : YBox w g F) (hb : Below w.heap.size w w') : YBox w' g F := (hb.block _ (row_lt h)).trans h
theorem ybox_free {w : World} {g : Nat} {F : Fr} (h : YBox w g F) : w.frozen? ⟨g, 1, none⟩ = false ∧ w.frozen? ⟨g, 2, none⟩ = false ∧ w.frozen? ⟨g, 3, none⟩ = false ∧ w.frozen? ⟨g, 4, none⟩ = false ∧ w.frozen? ⟨g, 7, none⟩ = false ∧ w.frozen? ⟨g, 8, none⟩ = false := by
  unfold YBox at h
  refine ⟨?_, ?_, ?_, ?_, ?_, ?_⟩ <;> simp [World.frozen?, h]
theorem ybox_cells {w : World} {g : Nat} {F : Fr} (h : YBox w g F) : w.cell? ⟨g, 1, none⟩ = some (.int .i64 F.f.1) ∧ w.cell? ⟨g, 2, none⟩ = some (.int .i64 F.f.2) ∧ w.cell? ⟨g, 3, none⟩ = some (.int .i64 F.t.1) ∧ w.cell? ⟨g, 4, none⟩ = some (.int .i64 F.t.2) ∧ w.cell? ⟨g, 7, none⟩ = some (.int .i64 F.b.1) ∧ w.cell? ⟨g, 8, none⟩ = some (.int .i64 F.b.2) := by
  unfold YBox at h
  refine ⟨?_, ?_, ?_, ?_, ?_, ?_⟩ <;> (rw [cell_of_row _ _ _ _ _ _ h]; rfl)
theorem row_range {w : World} {g n : Nat} {cs : Array Value} {T : TypeId} {l : List Value} (h : w.heap[g]? = some (.cells cs T (0, 0))) (hl : ∀ j u, l[j]? = some u → cs[n + j]? = some u) : w.rangeAt g n l := fun j u hu => by
  rw [cell_of_row _ _ _ _ _ _ h]
  exact hl j u hu
theorem ybox_range {w : World} {g : Nat} {F : Fr} (h : YBox w g F) : w.rangeAt g 0 [.int .u8 F.k, .int .i64 F.f.1, .int .i64 F.f.2, .int .i64 F.t.1, .int .i64 F.t.2, .int .i64 F.n, .int .i64 F.q, .int .i64 F.b.1, .int .i64 F.b.2, .slice none 0 0, .slice none 0 0, .slice none 0 0, .slice none 0 0, .slice none 0 0] := row_range h fun j u hu => by rw [Nat.zero_add]; simpa using hu
theorem xbox_range {w : World} {g : Nat} {x : Kd} (h : XBox w g x) : w.rangeAt g 0 [.int .u8 x.k, .int .i64 0, .int .i64 0, .int .i64 0, .int .i64 0, .int .i64 0, .int .i64 0, .int .i64 0, .int .i64 0, .slice none 0 0, .slice none 0 0, .slice none 0 0, .slice none 0 0, .slice none 0 0] := row_range h fun j u hu => by
  rw [Nat.zero_add, List.getElem?_toArray]
  match j with
  | 0 | 1 | 2 | 3 | 4 | 5 | 6 | 7 | 8 | 9 | 10 | 11 | 12 | 13 => exact hu
  | j + 14 => simp at hu
set_option maxHeartbeats 8000000 in
theorem r12 {a : Act} {w : World} {gv ga gi g i X : Nat} {Q : Exit → Act → World → Prop} (h : Fz a gv ga gi g i) (h6 : Pt a 6 X) (x : Kd) (hx : XBox w X x)
    (hQ : ∀ a' w' Y, Fz a' gv ga gi g i → Pt a' 6 X → Pt a' 7 Y → YBox w' Y (kO x) → w.heap.size ≤ Y → Below w.heap.size w w' → Q .normal a' w') : Code.wp Tryz.prog (reg 12) Q a w := by
  obtain ⟨f, hf, rfl, h0, h1, h2, h3, h4, h79, h80, h81⟩ := h.spell
  have h6 : f 6 = _ := (hf 6).symm.trans h6
  have HQ := Lib.hid hQ
  have RH := Lib.hid (xbox_range hx)
  clear hQ h hx hf
  have HY : Hid (YBox (w.alloc (.cells #[.int .u8 x.k, .int .i64 0, .int .i64 0, .int .i64 0, .int .i64 0, .int .i64 0, .int .i64 0, .int .i64 0, .int .i64 0, .slice none 0 0, .slice none 0 0, .slice none 0 0, .slice none 0 0, .slice none 0 0] 39)) w.heap.size (kO x)) := Lib.hid (heap_alloc_new w _)
  have B := Lib.hid (below_one w (.cells #[.int .u8 x.k, .int .i64 0, .int .i64 0, .int .i64 0, .int .i64 0, .int .i64 0, .int .i64 0, .int .i64 0, .int .i64 0, .slice none 0 0, .slice none 0 0, .slice none 0 0, .slice none 0 0, .slice none 0 0] 39))
  conv => arg 2; whnf
  go_wp2_with (first | (refine wpList_load_mid rfl 39 (.tmp 85) rfl X 0 rfl [.int .u8 x.k, .int .i64 0, .int .i64 0, .int .i64 0, .int .i64 0, .int .i64 0, .int .i64 0, .int .i64 0, .int .i64 0, .slice none 0 0, .slice none 0 0, .slice none 0 0, .slice none 0 0, .slice none 0 0] _ RH.out Tryz.underlying39 rfl (by kernel_rfl) ?_) | (refine wpList_store_rowTo rfl 39 (.tmp 7) (.tmp 86) rfl rfl w.heap.size #[.int .u8 x.k, .int .i64 0, .int .i64 0, .int .i64 0, .int .i64 0, .int .i64 0, .int .i64 0, .int .i64 0, .int .i64 0, .slice none 0 0, .slice none 0 0, .slice none 0 0, .slice none 0 0, .slice none 0 0] rfl rfl 39 #[.int .u8 0, .int .i64 0, .int .i64 0, .int .i64 0, .int .i64 0, .int .i64 0, .int .i64 0, .int .i64 0, .int .i64 0, .slice none 0 0, .slice none 0 0, .slice none 0 0, .slice none 0 0, .slice none 0 0] (heap_alloc_new _ _) (by kernel_rfl) rfl (by simp [Value.oneCell']) ?_; rw [World.setRow_alloc_new]))
  exact HQ.out _ _ w.heap.size ⟨rfl, rfl, rfl, rfl, rfl, rfl, rfl, rfl, rfl, rfl⟩ rfl rfl HY.out (Nat.le_refl _) B.out
theorem grown_transF {a w w' : World} {row : Option Nat} (h : a.grownBy w row) (k : w.grownBy w' row) : a.grownBy w' row :=
  ⟨k.os.trans h.os, k.tape.trans h.tape, k.output.trans h.output, Nat.le_trans h.size k.size, fun i hi hne => (k.block i (Nat.lt_of_lt_of_le hi h.size) hne).trans (h.block i hi hne)⟩
theorem ybox_put1 {w : World} {g : Nat} {F : Fr} (h : YBox w g F) (p q : Int) : YBox ((w.setCell ⟨g, 1, none⟩ (.int .i64 p)).setCell ⟨g, 2, none⟩ (.int .i64 q)) g {F with f := (p, q)} := by
  unfold YBox at *
  simp [World.setCell, Array.getElem?_modify, h]
set_option maxHeartbeats 8000000 in
theorem r13 {a : Act} {w : World} {gv ga gi g i X Y : Nat} {Q : Exit → Act → World → Prop} (h : Fz a gv ga gi g i) (h6 : Pt a 6 X) (h7 : Pt a 7 Y) (x : Kd) (hx : XBox w X x) (F : Fr) (hy : YBox w Y F) (hD : Box w gi 4 1) (hXY : X ≠ Y)
    (hQ : ∀ a' w', Fz a' gv ga gi g i → Pt a' 6 X → Pt a' 7 Y → XBox w' X x → YBox w' Y (if x.f = true then {F with f := (4, 1)} else F) → w.grownBy w' (some Y) → Q .normal a' w') : Code.wp Tryz.prog (ifs 13) Q a w := by
  obtain ⟨f, hf, rfl, h0, h1, h2, h3, h4, h79, h80, h81⟩ := h.spell
  have h6 : f 6 = _ := (hf 6).symm.trans h6
  have h7 : f 7 = _ := (hf 7).symm.trans h7
  have HQ := Lib.hid hQ
  have HX := Lib.hid hx
  have HY := Lib.hid hy
  obtain ⟨d0, d1⟩ := box_cells hD
  have hc := (xbox_cells hx).2.2.2.2.2.2.2.2.2.2.2.2.2.2.1
  clear hQ h hx hf hy hD
  cases hb : x.f
  · rw [hb] at hc HQ
    clear hb d0 d1
    conv => arg 2; whnf
    go_wp2_with fail
    exact HQ.out _ _ ⟨rfl, rfl, rfl, rfl, rfl, rfl, rfl, rfl, rfl, rfl⟩ rfl rfl HX.out HY.out (World.grownBy.refl _ _)
  · rw [hb] at hc HQ
    clear hb
    have c1 := (ybox_cells HY.out).1
    have c2 := (ybox_cells HY.out).2.1
    have f1 := (ybox_free HY.out).1
    have f2 := (ybox_free HY.out).2.1
    have G := Lib.hid (show w.grownBy ((w.setCell ⟨Y, 1, none⟩ (.int .i64 4)).setCell ⟨Y, 2, none⟩ (.int .i64 1)) (some Y) from grown_transF (grownSet _ _ _ _) (grownSet _ _ _ _))
    conv => arg 2; whnf
    go_wp2_with fail
    exact HQ.out _ _ ⟨rfl, rfl, rfl, rfl, rfl, rfl, rfl, rfl, rfl, rfl⟩ rfl rfl (xbox_kept HX.out G.out hXY) (ybox_put1 HY.out 4 1) G.out
theorem ybox_put3 {w : World} {g : Nat} {F : Fr} (h : YBox w g F) (p q : Int) : YBox ((w.setCell ⟨g, 3, none⟩ (.int .i64 p)).setCell ⟨g, 4, none⟩ (.int .i64 q)) g {F with t := (p, q)} := by
  unfold YBox at *
  simp [World.setCell, Array.getElem?_modify, h]
set_option maxHeartbeats 8000000 in
theorem r15 {a : Act} {w : World} {gv ga gi g i X Y : Nat} {Q : Exit → Act → World → Prop} (h : Fz a gv ga gi g i) (h6 : Pt a 6 X) (h7 : Pt a 7 Y) (x : Kd) (hx : XBox w X x) (F : Fr) (hy : YBox w Y F) (hD : Box w (gi + 1) 5 0) (hXY : X ≠ Y)
    (hQ : ∀ a' w', Fz a' gv ga gi g i → Pt a' 6 X → Pt a' 7 Y → XBox w' X x → YBox w' Y (if x.t = true then {F with t := (5, 0)} else F) → w.grownBy w' (some Y) → Q .normal a' w') : Code.wp Tryz.prog (ifs 15) Q a w := by
  obtain ⟨f, hf, rfl, h0, h1, h2, h3, h4, h79, h80, h81⟩ := h.spell
  have h6 : f 6 = _ := (hf 6).symm.trans h6
  have h7 : f 7 = _ := (hf 7).symm.trans h7
  have HQ := Lib.hid hQ
  have HX := Lib.hid hx
  have HY := Lib.hid hy
  obtain ⟨d0, d1⟩ := box_cells hD
  have hc := (xbox_cells hx).2.2.2.2.2.2.2.2.2.2.2.2.2.2.2.1
  clear hQ h hx hf hy hD
  cases hb : x.t
  · rw [hb] at hc HQ
    clear hb d0 d1
    conv => arg 2; whnf
    go_wp2_with fail
    exact HQ.out _ _ ⟨rfl, rfl, rfl, rfl, rfl, rfl, rfl, rfl, rfl, rfl⟩ rfl rfl HX.out HY.out (World.grownBy.refl _ _)
  · rw [hb] at hc HQ
    clear hb
    have c1 := (ybox_cells HY.out).2.2.1
    have c2 := (ybox_cells HY.out).2.2.2.1
    have f1 := (ybox_free HY.out).2.2.1
    have f2 := (ybox_free HY.out).2.2.2.1
    have G := Lib.hid (show w.grownBy ((w.setCell ⟨Y, 3, none⟩ (.int .i64 5)).setCell ⟨Y, 4, none⟩ (.int .i64 0)) (some Y) from grown_transF (grownSet _ _ _ _) (grownSet _ _ _ _))
    conv => arg 2; whnf
    go_wp2_with fail
    exact HQ.out _ _ ⟨rfl, rfl, rfl, rfl, rfl, rfl, rfl, rfl, rfl, rfl⟩ rfl rfl (xbox_kept HX.out G.out hXY) (ybox_put3 HY.out 5 0) G.out
theorem ybox_put7 {w : World} {g : Nat} {F : Fr} (h : YBox w g F) (p q : Int) : YBox ((w.setCell ⟨g, 7, none⟩ (.int .i64 p)).setCell ⟨g, 8, none⟩ (.int .i64 q)) g {F with b := (p, q)} := by
  unfold YBox at *
  simp [World.setCell, Array.getElem?_modify, h]
set_option maxHeartbeats 8000000 in
theorem r17 {a : Act} {w : World} {gv ga gi g i X Y : Nat} {Q : Exit → Act → World → Prop} (h : Fz a gv ga gi g i) (h6 : Pt a 6 X) (h7 : Pt a 7 Y) (x : Kd) (hx : XBox w X x) (F : Fr) (hy : YBox w Y F) (hD : Box w gi 4 1) (hXY : X ≠ Y)
    (hQ : ∀ a' w', Fz a' gv ga gi g i → Pt a' 6 X → Pt a' 7 Y → XBox w' X x → YBox w' Y (if x.b = true then {F with b := (4, 1)} else F) → w.grownBy w' (some Y) → Q .normal a' w') : Code.wp Tryz.prog (ifs 17) Q a w := by
  obtain ⟨f, hf, rfl, h0, h1, h2, h3, h4, h79, h80, h81⟩ := h.spell
  have h6 : f 6 = _ := (hf 6).symm.trans h6
  have h7 : f 7 = _ := (hf 7).symm.trans h7
  have HQ := Lib.hid hQ
  have HX := Lib.hid hx
  have HY := Lib.hid hy
  obtain ⟨d0, d1⟩ := box_cells hD
  have hc := (xbox_cells hx).2.2.2.2.2.2.2.2.2.2.2.2.2.2.2.2.2.2.1
  clear hQ h hx hf hy hD
  cases hb : x.b
  · rw [hb] at hc HQ
    clear hb d0 d1
    conv => arg 2; whnf
    go_wp2_with fail
    exact HQ.out _ _ ⟨rfl, rfl, rfl, rfl, rfl, rfl, rfl, rfl, rfl, rfl⟩ rfl rfl HX.out HY.out (World.grownBy.refl _ _)
  · rw [hb] at hc HQ
    clear hb
    have c1 := (ybox_cells HY.out).2.2.2.2.1
    have c2 := (ybox_cells HY.out).2.2.2.2.2
    have f1 := (ybox_free HY.out).2.2.2.2.1
    have f2 := (ybox_free HY.out).2.2.2.2.2
    have G := Lib.hid (show w.grownBy ((w.setCell ⟨Y, 7, none⟩ (.int .i64 4)).setCell ⟨Y, 8, none⟩ (.int .i64 1)) (some Y) from grown_transF (grownSet _ _ _ _) (grownSet _ _ _ _))
    conv => arg 2; whnf
    go_wp2_with fail
    exact HQ.out _ _ ⟨rfl, rfl, rfl, rfl, rfl, rfl, rfl, rfl, rfl, rfl⟩ rfl rfl (xbox_kept HX.out G.out hXY) (ybox_put7 HY.out 4 1) G.out
end Go.Proofs.YtkeiekljedhllaaGreat
namespace Go.Proofs.YtkeiekljedhllaaGreat
open Go Go.RowKit
theorem fat_y (w : World) {F : Fr} (h : F.v = noV) : FAt w (.agg #[.int .u8 F.k, .int .i64 F.f.1, .int .i64 F.f.2, .int .i64 F.t.1, .int .i64 F.t.2, .int .i64 F.n, .int .i64 F.q, .int .i64 F.b.1, .int .i64 F.b.2, .slice none 0 0, .slice none 0 0, .slice none 0 0, .slice none 0 0, .slice none 0 0]) F :=
  ⟨(none, 0, 0), (none, 0, 0), (none, 0, 0), (none, 0, 0), (none, 0, 0), rfl, by rw [h]; exact nilRV w⟩
theorem ybox_all {w : World} {g : Nat} {F : Fr} (h : YBox w g F) : w.cell? ⟨g, 0, none⟩ = some (.int .u8 F.k) ∧ w.cell? ⟨g, 1, none⟩ = some (.int .i64 F.f.1) ∧ w.cell? ⟨g, 2, none⟩ = some (.int .i64 F.f.2) ∧ w.cell? ⟨g, 3, none⟩ = some (.int .i64 F.t.1) ∧ w.cell? ⟨g, 4, none⟩ = some (.int .i64 F.t.2) ∧ w.cell? ⟨g, 5, none⟩ = some (.int .i64 F.n) ∧ w.cell? ⟨g, 6, none⟩ = some (.int .i64 F.q) ∧ w.cell? ⟨g, 7, none⟩ = some (.int .i64 F.b.1) ∧ w.cell? ⟨g, 8, none⟩ = some (.int .i64 F.b.2) ∧ w.cell? ⟨g, 9, none⟩ = some (.slice none 0 0) ∧ w.cell? ⟨g, 10, none⟩ = some (.slice none 0 0) ∧ w.cell? ⟨g, 11, none⟩ = some (.slice none 0 0) ∧ w.cell? ⟨g, 12, none⟩ = some (.slice none 0 0) ∧ w.cell? ⟨g, 13, none⟩ = some (.slice none 0 0) := by
  unfold YBox at h
  refine ⟨?_, ?_, ?_, ?_, ?_, ?_, ?_, ?_, ?_, ?_, ?_, ?_, ?_, ?_⟩ <;> (rw [cell_of_row _ _ _ _ _ _ h]; rfl)
theorem fitNo : FitVIE 5000 noV := ⟨by simp [noV], by simp [noV], by simp [noV], by simp [noV], by simp [noV], fun r hr => by cases hr⟩
set_option maxHeartbeats 8000000 in
theorem r19 {a : Act} {w : World} {gv ga gi g i X Y : Nat} {Q : Exit → Act → World → Prop} (h : Fz a gv ga gi g i) (h6 : Pt a 6 X) (h7 : Pt a 7 Y) (F : Fr) (hv : F.v = noV) (hy : YBox w Y F) (hm : mayF F = true) (he : encE F = 0)
    (hQ : ∀ a' w', Fz a' gv ga gi g i → Pt a' 6 X → Pt a' 7 Y → Below w.heap.size w w' → Q .normal a' w') : Code.wp Tryz.prog (ifs 19) Q a w := by
  obtain ⟨f, hf, rfl, h0, h1, h2, h3, h4, h79, h80, h81⟩ := h.spell
  have h6 : f 6 = _ := (hf 6).symm.trans h6
  have h7 : f 7 = _ := (hf 7).symm.trans h7
  have HQ := Lib.hid hQ
  have HY := Lib.hid hy
  have RY := Lib.hid (ybox_range hy)
  have HV := Lib.hid hv
  have HM := Lib.hid hm
  have HE := Lib.hid he
  clear hQ h hf hy hv hm he
  conv => arg 2; whnf
  simp only [h0, h1, h2, h3, h4, h6, h7, h79, h80, h81]
  go_wp2_with (refine wpList_load_mid rfl 39 (.tmp 7) rfl Y 0 rfl [.int .u8 F.k, .int .i64 F.f.1, .int .i64 F.f.2, .int .i64 F.t.1, .int .i64 F.t.2, .int .i64 F.n, .int .i64 F.q, .int .i64 F.b.1, .int .i64 F.b.2, .slice none 0 0, .slice none 0 0, .slice none 0 0, .slice none 0 0, .slice none 0 0] _ RY.out Tryz.underlying39 rfl (by kernel_rfl) ?_)
  (with_reducible refine (mayF_any _ F _ (fat_y _ HV.out) (by rw [HV.out]; exact fitNo)).mono ?_)
  rintro e1 w1 ⟨rfl, hb⟩
  rw [HM.out]
  have B1 := Lib.hid hb
  obtain ⟨q0, q1, q2, q3, q4, q5, q6, q7, q8, q9, qa, qb, qc, qd⟩ := ybox_all (ybox_below HY.out hb)
  clear hb RY
  go_wp2_with fail
  (with_reducible refine (back_any _ F _ (fat_y _ HV.out) (by rw [HV.out]; exact fitNo) HE.out).mono ?_)
  rintro e2 w2 ⟨rfl, hb⟩
  have B2 := Lib.hid (below_after B1.out hb (Nat.le_refl _))
  clear hb
  go_wp2_with fail
  exact HQ.out _ _ ⟨rfl, rfl, rfl, rfl, rfl, rfl, rfl, rfl, rfl, rfl⟩ rfl rfl B2.out
/-- A frame of a list, with the lists of its view, and whether it may be. -/
structure Gl where
  F : Fr
  a : SL
  b : SL
  c : SL
  d : SL
  e : SL
  is : Bool
def encG (y : Gl) : List Value := [.int .u8 y.F.k, .int .i64 y.F.f.1, .int .i64 y.F.f.2, .int .i64 y.F.t.1, .int .i64 y.F.t.2, .int .i64 y.F.n, .int .i64 y.F.q, .int .i64 y.F.b.1, .int .i64 y.F.b.2, .slice y.a.1 y.a.2.1 y.a.2.2, .slice y.b.1 y.b.2.1 y.b.2.2, .slice y.c.1 y.c.2.1 y.c.2.2, .slice y.d.1 y.d.2.1 y.d.2.2, .slice y.e.1 y.e.2.1 y.e.2.2, .bool y.is]
theorem encG_len (y : Gl) : (encG y).length = 15 := rfl
def g0 (F : Fr) (b : Bool) : Gl := ⟨F, N0, N0, N0, N0, N0, b⟩
def kL0 (F : Fr) (x : Kd) : List Gl := [g0 F true, g0 F x.n, g0 F x.q, g0 F x.f, g0 F x.t, g0 F x.b, g0 F (decide (0 < x.v)), g0 F (decide (1 < x.v)), g0 F false, g0 F false, g0 F false]
/-- Block Z holds the list l of such frames. -/
def ZBox (w : World) (Z : Nat) (l : List Gl) : Prop := ∃ cs : Array Value, w.heap[Z]? = some (.cells cs 43 (0, 0)) ∧ cs.toList = flatR encG l
set_option maxHeartbeats 8000000 in
theorem r21 {a : Act} {w : World} {gv ga gi g i X Y : Nat} {Q : Exit → Act → World → Prop} (h : Fz a gv ga gi g i) (h6 : Pt a 6 X) (h7 : Pt a 7 Y) (x : Kd) (hx : XBox w X x) (F : Fr) (hy : YBox w Y F)
    (hQ : ∀ a' w' Z, Fz a' gv ga gi g i → Sl a' 8 (.slice (some ⟨Z, 0, none⟩) 11 11) → ZBox w' Z (kL0 F x) → w.heap.size ≤ Z → Below w.heap.size w w' → Q .normal a' w') : Code.wp Tryz.prog (reg 21) Q a w := by
  obtain ⟨f, hf, rfl, h0, h1, h2, h3, h4, h79, h80, h81⟩ := h.spell
  have h6 : f 6 = _ := (hf 6).symm.trans h6
  have h7 : f 7 = _ := (hf 7).symm.trans h7
  have HQ := Lib.hid hQ
  have RY := Lib.hid (ybox_range hy)
  obtain ⟨-, -, -, -, -, -, -, -, -, -, -, -, -, -, x14, x15, x16, x17, x18, x19⟩ := xbox_cells hx
  have HZ : Hid (ZBox (w.alloc (.cells #[.int .u8 F.k, .int .i64 F.f.1, .int .i64 F.f.2, .int .i64 F.t.1, .int .i64 F.t.2, .int .i64 F.n, .int .i64 F.q, .int .i64 F.b.1, .int .i64 F.b.2, .slice none 0 0, .slice none 0 0, .slice none 0 0, .slice none 0 0, .slice none 0 0, .bool true, .int .u8 F.k, .int .i64 F.f.1, .int .i64 F.f.2, .int .i64 F.t.1, .int .i64 F.t.2, .int .i64 F.n, .int .i64 F.q, .int .i64 F.b.1, .int .i64 F.b.2, .slice none 0 0, .slice none 0 0, .slice none 0 0, .slice none 0 0, .slice none 0 0, .bool x.n, .int .u8 F.k, .int .i64 F.f.1, .int .i64 F.f.2, .int .i64 F.t.1, .int .i64 F.t.2, .int .i64 F.n, .int .i64 F.q, .int .i64 F.b.1, .int .i64 F.b.2, .slice none 0 0, .slice none 0 0, .slice none 0 0, .slice none 0 0, .slice none 0 0, .bool x.q, .int .u8 F.k, .int .i64 F.f.1, .int .i64 F.f.2, .int .i64 F.t.1, .int .i64 F.t.2, .int .i64 F.n, .int .i64 F.q, .int .i64 F.b.1, .int .i64 F.b.2, .slice none 0 0, .slice none 0 0, .slice none 0 0, .slice none 0 0, .slice none 0 0, .bool x.f, .int .u8 F.k, .int .i64 F.f.1, .int .i64 F.f.2, .int .i64 F.t.1, .int .i64 F.t.2, .int .i64 F.n, .int .i64 F.q, .int .i64 F.b.1, .int .i64 F.b.2, .slice none 0 0, .slice none 0 0, .slice none 0 0, .slice none 0 0, .slice none 0 0, .bool x.t, .int .u8 F.k, .int .i64 F.f.1, .int .i64 F.f.2, .int .i64 F.t.1, .int .i64 F.t.2, .int .i64 F.n, .int .i64 F.q, .int .i64 F.b.1, .int .i64 F.b.2, .slice none 0 0, .slice none 0 0, .slice none 0 0, .slice none 0 0, .slice none 0 0, .bool x.b, .int .u8 F.k, .int .i64 F.f.1, .int .i64 F.f.2, .int .i64 F.t.1, .int .i64 F.t.2, .int .i64 F.n, .int .i64 F.q, .int .i64 F.b.1, .int .i64 F.b.2, .slice none 0 0, .slice none 0 0, .slice none 0 0, .slice none 0 0, .slice none 0 0, .bool (decide (0 < x.v)), .int .u8 F.k, .int .i64 F.f.1, .int .i64 F.f.2, .int .i64 F.t.1, .int .i64 F.t.2, .int .i64 F.n, .int .i64 F.q, .int .i64 F.b.1, .int .i64 F.b.2, .slice none 0 0, .slice none 0 0, .slice none 0 0, .slice none 0 0, .slice none 0 0, .bool (decide (1 < x.v)), .int .u8 F.k, .int .i64 F.f.1, .int .i64 F.f.2, .int .i64 F.t.1, .int .i64 F.t.2, .int .i64 F.n, .int .i64 F.q, .int .i64 F.b.1, .int .i64 F.b.2, .slice none 0 0, .slice none 0 0, .slice none 0 0, .slice none 0 0, .slice none 0 0, .bool false, .int .u8 F.k, .int .i64 F.f.1, .int .i64 F.f.2, .int .i64 F.t.1, .int .i64 F.t.2, .int .i64 F.n, .int .i64 F.q, .int .i64 F.b.1, .int .i64 F.b.2, .slice none 0 0, .slice none 0 0, .slice none 0 0, .slice none 0 0, .slice none 0 0, .bool false, .int .u8 F.k, .int .i64 F.f.1, .int .i64 F.f.2, .int .i64 F.t.1, .int .i64 F.t.2, .int .i64 F.n, .int .i64 F.q, .int .i64 F.b.1, .int .i64 F.b.2, .slice none 0 0, .slice none 0 0, .slice none 0 0, .slice none 0 0, .slice none 0 0, .bool false] 43)) w.heap.size (kL0 F x)) := Lib.hid ⟨_, heap_alloc_new w _, rfl⟩
  have B := Lib.hid (below_one w (.cells #[.int .u8 F.k, .int .i64 F.f.1, .int .i64 F.f.2, .int .i64 F.t.1, .int .i64 F.t.2, .int .i64 F.n, .int .i64 F.q, .int .i64 F.b.1, .int .i64 F.b.2, .slice none 0 0, .slice none 0 0, .slice none 0 0, .slice none 0 0, .slice none 0 0, .bool true, .int .u8 F.k, .int .i64 F.f.1, .int .i64 F.f.2, .int .i64 F.t.1, .int .i64 F.t.2, .int .i64 F.n, .int .i64 F.q, .int .i64 F.b.1, .int .i64 F.b.2, .slice none 0 0, .slice none 0 0, .slice none 0 0, .slice none 0 0, .slice none 0 0, .bool x.n, .int .u8 F.k, .int .i64 F.f.1, .int .i64 F.f.2, .int .i64 F.t.1, .int .i64 F.t.2, .int .i64 F.n, .int .i64 F.q, .int .i64 F.b.1, .int .i64 F.b.2, .slice none 0 0, .slice none 0 0, .slice none 0 0, .slice none 0 0, .slice none 0 0, .bool x.q, .int .u8 F.k, .int .i64 F.f.1, .int .i64 F.f.2, .int .i64 F.t.1, .int .i64 F.t.2, .int .i64 F.n, .int .i64 F.q, .int .i64 F.b.1, .int .i64 F.b.2, .slice none 0 0, .slice none 0 0, .slice none 0 0, .slice none 0 0, .slice none 0 0, .bool x.f, .int .u8 F.k, .int .i64 F.f.1, .int .i64 F.f.2, .int .i64 F.t.1, .int .i64 F.t.2, .int .i64 F.n, .int .i64 F.q, .int .i64 F.b.1, .int .i64 F.b.2, .slice none 0 0, .slice none 0 0, .slice none 0 0, .slice none 0 0, .slice none 0 0, .bool x.t, .int .u8 F.k, .int .i64 F.f.1, .int .i64 F.f.2, .int .i64 F.t.1, .int .i64 F.t.2, .int .i64 F.n, .int .i64 F.q, .int .i64 F.b.1, .int .i64 F.b.2, .slice none 0 0, .slice none 0 0, .slice none 0 0, .slice none 0 0, .slice none 0 0, .bool x.b, .int .u8 F.k, .int .i64 F.f.1, .int .i64 F.f.2, .int .i64 F.t.1, .int .i64 F.t.2, .int .i64 F.n, .int .i64 F.q, .int .i64 F.b.1, .int .i64 F.b.2, .slice none 0 0, .slice none 0 0, .slice none 0 0, .slice none 0 0, .slice none 0 0, .bool (decide (0 < x.v)), .int .u8 F.k, .int .i64 F.f.1, .int .i64 F.f.2, .int .i64 F.t.1, .int .i64 F.t.2, .int .i64 F.n, .int .i64 F.q, .int .i64 F.b.1, .int .i64 F.b.2, .slice none 0 0, .slice none 0 0, .slice none 0 0, .slice none 0 0, .slice none 0 0, .bool (decide (1 < x.v)), .int .u8 F.k, .int .i64 F.f.1, .int .i64 F.f.2, .int .i64 F.t.1, .int .i64 F.t.2, .int .i64 F.n, .int .i64 F.q, .int .i64 F.b.1, .int .i64 F.b.2, .slice none 0 0, .slice none 0 0, .slice none 0 0, .slice none 0 0, .slice none 0 0, .bool false, .int .u8 F.k, .int .i64 F.f.1, .int .i64 F.f.2, .int .i64 F.t.1, .int .i64 F.t.2, .int .i64 F.n, .int .i64 F.q, .int .i64 F.b.1, .int .i64 F.b.2, .slice none 0 0, .slice none 0 0, .slice none 0 0, .slice none 0 0, .slice none 0 0, .bool false, .int .u8 F.k, .int .i64 F.f.1, .int .i64 F.f.2, .int .i64 F.t.1, .int .i64 F.t.2, .int .i64 F.n, .int .i64 F.q, .int .i64 F.b.1, .int .i64 F.b.2, .slice none 0 0, .slice none 0 0, .slice none 0 0, .slice none 0 0, .slice none 0 0, .bool false] 43))
  clear hQ h hf hy hx
  conv => arg 2; whnf
  simp only [h0, h1, h2, h3, h4, h6, h7, h79, h80, h81]
  go_wp2_with (first | (refine wpList_load_mid rfl 39 (.tmp 7) rfl Y 0 rfl [.int .u8 F.k, .int .i64 F.f.1, .int .i64 F.f.2, .int .i64 F.t.1, .int .i64 F.t.2, .int .i64 F.n, .int .i64 F.q, .int .i64 F.b.1, .int .i64 F.b.2, .slice none 0 0, .slice none 0 0, .slice none 0 0, .slice none 0 0, .slice none 0 0] _ RY.out Tryz.underlying39 rfl (by kernel_rfl) ?_) | (refine Great.wpList_buildSliceTo rfl 44 43 11 _ rfl w.heap.size rfl (some 145) rfl Tryz.underlying44 #[.int .u8 F.k, .int .i64 F.f.1, .int .i64 F.f.2, .int .i64 F.t.1, .int .i64 F.t.2, .int .i64 F.n, .int .i64 F.q, .int .i64 F.b.1, .int .i64 F.b.2, .slice none 0 0, .slice none 0 0, .slice none 0 0, .slice none 0 0, .slice none 0 0, .bool true, .int .u8 F.k, .int .i64 F.f.1, .int .i64 F.f.2, .int .i64 F.t.1, .int .i64 F.t.2, .int .i64 F.n, .int .i64 F.q, .int .i64 F.b.1, .int .i64 F.b.2, .slice none 0 0, .slice none 0 0, .slice none 0 0, .slice none 0 0, .slice none 0 0, .bool x.n, .int .u8 F.k, .int .i64 F.f.1, .int .i64 F.f.2, .int .i64 F.t.1, .int .i64 F.t.2, .int .i64 F.n, .int .i64 F.q, .int .i64 F.b.1, .int .i64 F.b.2, .slice none 0 0, .slice none 0 0, .slice none 0 0, .slice none 0 0, .slice none 0 0, .bool x.q, .int .u8 F.k, .int .i64 F.f.1, .int .i64 F.f.2, .int .i64 F.t.1, .int .i64 F.t.2, .int .i64 F.n, .int .i64 F.q, .int .i64 F.b.1, .int .i64 F.b.2, .slice none 0 0, .slice none 0 0, .slice none 0 0, .slice none 0 0, .slice none 0 0, .bool x.f, .int .u8 F.k, .int .i64 F.f.1, .int .i64 F.f.2, .int .i64 F.t.1, .int .i64 F.t.2, .int .i64 F.n, .int .i64 F.q, .int .i64 F.b.1, .int .i64 F.b.2, .slice none 0 0, .slice none 0 0, .slice none 0 0, .slice none 0 0, .slice none 0 0, .bool x.t, .int .u8 F.k, .int .i64 F.f.1, .int .i64 F.f.2, .int .i64 F.t.1, .int .i64 F.t.2, .int .i64 F.n, .int .i64 F.q, .int .i64 F.b.1, .int .i64 F.b.2, .slice none 0 0, .slice none 0 0, .slice none 0 0, .slice none 0 0, .slice none 0 0, .bool x.b, .int .u8 F.k, .int .i64 F.f.1, .int .i64 F.f.2, .int .i64 F.t.1, .int .i64 F.t.2, .int .i64 F.n, .int .i64 F.q, .int .i64 F.b.1, .int .i64 F.b.2, .slice none 0 0, .slice none 0 0, .slice none 0 0, .slice none 0 0, .slice none 0 0, .bool (decide (0 < x.v)), .int .u8 F.k, .int .i64 F.f.1, .int .i64 F.f.2, .int .i64 F.t.1, .int .i64 F.t.2, .int .i64 F.n, .int .i64 F.q, .int .i64 F.b.1, .int .i64 F.b.2, .slice none 0 0, .slice none 0 0, .slice none 0 0, .slice none 0 0, .slice none 0 0, .bool (decide (1 < x.v)), .int .u8 F.k, .int .i64 F.f.1, .int .i64 F.f.2, .int .i64 F.t.1, .int .i64 F.t.2, .int .i64 F.n, .int .i64 F.q, .int .i64 F.b.1, .int .i64 F.b.2, .slice none 0 0, .slice none 0 0, .slice none 0 0, .slice none 0 0, .slice none 0 0, .bool false, .int .u8 F.k, .int .i64 F.f.1, .int .i64 F.f.2, .int .i64 F.t.1, .int .i64 F.t.2, .int .i64 F.n, .int .i64 F.q, .int .i64 F.b.1, .int .i64 F.b.2, .slice none 0 0, .slice none 0 0, .slice none 0 0, .slice none 0 0, .slice none 0 0, .bool false, .int .u8 F.k, .int .i64 F.f.1, .int .i64 F.f.2, .int .i64 F.t.1, .int .i64 F.t.2, .int .i64 F.n, .int .i64 F.q, .int .i64 F.b.1, .int .i64 F.b.2, .slice none 0 0, .slice none 0 0, .slice none 0 0, .slice none 0 0, .slice none 0 0, .bool false] (by kernel_rfl) ?_))
  exact HQ.out _ _ w.heap.size ⟨rfl, rfl, rfl, rfl, rfl, rfl, rfl, rfl, rfl, rfl⟩ rfl HZ.out (Nat.le_refl _) B.out
end Go.Proofs.YtkeiekljedhllaaGreat
