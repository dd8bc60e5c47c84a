/-
  The first question of each statement: the document's examples. No statement is proved in this text.
-/
import Derived.Test.YtmmpnnpkfghhcaaWalksG
import Derived.Test.YtmmpnnpkfghhcaaBase
namespace Go.Proofs.Ytmmpnnpkfghhcaa
open Go.RowKit
theorem ret_pair {a b : ByteArray} {x y : Int} (h : a = b) (k : x = y) : Ending.returned (.tuple #[.string a, .int .i64 x]) = .returned (.tuple #[.string b, .int .i64 y]) := by rw [h, k]
theorem num_lit (n : Int) (s : ByteArray) (w : World) (h0 : 0 ≤ n) (h : n ≤ 1099511627776) (e : (⟨#[]⟩ : ByteArray) ++ bs (encI n) = s) :
    Calls Try.prog 9 #[.string ⟨#[]⟩, .int .i64 n] w fun e w' => e = .returned (.tuple #[.string s, .int .i64 0]) ∧ Below w.heap.size w w' :=
  (num_yes n w h0 h ⟨#[]⟩ (by decide)).mono fun _ _ ⟨he, hb⟩ => ⟨he.trans (ret_pair e rfl), hb⟩
/-- Block g holds the four examples. -/
def Tab (w : World) (g : Nat) : Prop := w.heap[g]? = some (.cells #[.int .i64 0, .string ⟨#[0]⟩, .int .i64 127, .string ⟨#[127]⟩, .int .i64 128, .string ⟨#[128, 1]⟩, .int .i64 300, .string ⟨#[172, 2]⟩] 49 (0, 0))
theorem tab_cell {w : World} {g : Nat} (h : Tab w g) (i : Nat) : w.cell? ⟨g, i, none⟩ = (#[.int .i64 0, .string ⟨#[0]⟩, .int .i64 127, .string ⟨#[127]⟩, .int .i64 128, .string ⟨#[128, 1]⟩, .int .i64 300, .string ⟨#[172, 2]⟩] : Array Value)[i]? := cell_of_row _ _ i _ _ _ h
theorem tab_after {w w1 : World} {g : Nat} {o : Obj} (h : Tab w g) (hb : Below (w.alloc o).heap.size (w.alloc o) w1) : Tab w1 g :=
  (hb.block g (by have := row_lt h; simp; omega)).trans ((Below.heap_alloc w o g (row_lt h)).trans h)
theorem box_after {w w1 : World} {a b : Value} (hb : Below (w.alloc (.cells #[a, b] 49)).heap.size (w.alloc (.cells #[a, b] 49)) w1) : w1.cell? ⟨w.heap.size, 1, none⟩ = some b := by
  rw [hb.cell (by simp), cell_of_row _ _ 1 _ _ _ (heap_alloc_new w _)]
  rfl
theorem rNum_lit {n e : Nat} {l' : List UInt8} (g : Nat) (l : List UInt8) (w : World) (hr : Rdr w g l 0) (h : numS l 0 = (n, e, l')) :
    Calls Try.prog 17 #[.pointer (some ⟨g, 0, none⟩)] w (Took g (n, e, l') w) := by
  rw [← h]
  exact rNum_any g 0 l w hr
theorem reader_below {B : Nat} {w wr w1 : World} {s : ByteArray} (h : Below B w wr) (hg : (wr.alloc (.cells #[.string s, .int .i64 0] 57)).grownBy w1 (some wr.heap.size)) (hB : B ≤ w.heap.size) : Below B w w1 := by
  have hs : B ≤ wr.heap.size := Nat.le_trans hB h.size
  exact (h.alloc hs _).grown hg (by simp; omega) (fun k hk => by injection hk; omega)
theorem ids_lit (w : World) : Ids (w.alloc (.cells #[.int .i64 1, .int .i64 1, .int .i64 2, .int .i64 7] 23)) (.slice (some ⟨w.heap.size, 0, none⟩) 2 2) [(1, 1), (2, 7)] := by
  refine ⟨some ⟨w.heap.size, 0, none⟩, 2, rfl, (fun h => by cases h), fun k hk => ⟨_, rfl, by simp, ?_, ?_⟩⟩
  · have hk2 : k = 0 ∨ k = 1 := by simp at hk; omega
    rcases hk2 with rfl | rfl
    · show (w.alloc _).cell? ⟨w.heap.size, 0, none⟩ = _
      rw [cell_of_row _ _ 0 _ _ _ (heap_alloc_new w _)]
      rfl
    · show (w.alloc _).cell? ⟨w.heap.size, 2, none⟩ = _
      rw [cell_of_row _ _ 2 _ _ _ (heap_alloc_new w _)]
      rfl
  · have hk2 : k = 0 ∨ k = 1 := by simp at hk; omega
    rcases hk2 with rfl | rfl
    · show (w.alloc _).cell? ⟨w.heap.size, 1, none⟩ = _
      rw [cell_of_row _ _ 1 _ _ _ (heap_alloc_new w _)]
      rfl
    · show (w.alloc _).cell? ⟨w.heap.size, 3, none⟩ = _
      rw [cell_of_row _ _ 3 _ _ _ (heap_alloc_new w _)]
      rfl
set_option maxHeartbeats 1000000 in
set_option maxRecDepth 100000 in
theorem awake_any (w : World) : Calls Try.prog 8 #[] w fun e w' => e = .returned (.bool true) ∧ Below w.heap.size w w' := by
  have N0 := Lib.hid fun w => num_lit 0 ⟨#[0]⟩ w (by decide) (by decide) (by decide +kernel)
  have N1 := Lib.hid fun w => num_lit 127 ⟨#[127]⟩ w (by decide) (by decide) (by decide +kernel)
  have N2 := Lib.hid fun w => num_lit 128 ⟨#[128, 1]⟩ w (by decide) (by decide) (by decide +kernel)
  have N3 := Lib.hid fun w => num_lit 300 ⟨#[172, 2]⟩ w (by decide) (by decide) (by decide +kernel)
  go_enter Try.func8, Try.ntmps8
  go_wp2_with fail
  have T0 := Lib.hid (show Tab (w.alloc (.cells #[.int .i64 0, .string ⟨#[0]⟩, .int .i64 127, .string ⟨#[127]⟩, .int .i64 128, .string ⟨#[128, 1]⟩, .int .i64 300, .string ⟨#[172, 2]⟩] 49)) w.heap.size from heap_alloc_new w _)
  have B0 := Lib.hid ((Below.refl w.heap.size w).alloc (Nat.le_refl _) (.cells #[.int .i64 0, .string ⟨#[0]⟩, .int .i64 127, .string ⟨#[127]⟩, .int .i64 128, .string ⟨#[128, 1]⟩, .int .i64 300, .string ⟨#[172, 2]⟩] 49))
  generalize w.alloc (.cells #[.int .i64 0, .string ⟨#[0]⟩, .int .i64 127, .string ⟨#[127]⟩, .int .i64 128, .string ⟨#[128, 1]⟩, .int .i64 300, .string ⟨#[172, 2]⟩] 49) = w0 at *
  refine wp_loop_rounds 5 ?_
  rw [rounds_succ]
  have c0 := tab_cell T0.out 0
  have c1 := tab_cell T0.out 1
  go_wp2_with fail
  refine (N0.out _).mono ?_
  rintro e w1 ⟨rfl, hb⟩
  have T1 := Lib.hid (tab_after T0.out hb)
  have B1 := Lib.hid (below_boxed B0.out hb (Nat.le_refl _))
  have cb := box_after hb
  clear hb c0 c1
  go_wp2_with fail
  rw [rounds_succ]
  have c0 := tab_cell T1.out 2
  have c1 := tab_cell T1.out 3
  go_wp2_with fail
  refine (N1.out _).mono ?_
  rintro e w2 ⟨rfl, hb⟩
  have T2 := Lib.hid (tab_after T1.out hb)
  have B2 := Lib.hid (below_boxed B1.out hb (Nat.le_refl _))
  have cb := box_after hb
  clear hb c0 c1
  go_wp2_with fail
  rw [rounds_succ]
  have c0 := tab_cell T2.out 4
  have c1 := tab_cell T2.out 5
  go_wp2_with fail
  refine (N2.out _).mono ?_
  rintro e w3 ⟨rfl, hb⟩
  have T3 := Lib.hid (tab_after T2.out hb)
  have B3 := Lib.hid (below_boxed B2.out hb (Nat.le_refl _))
  have cb := box_after hb
  clear hb c0 c1
  go_wp2_with fail
  rw [rounds_succ]
  have c0 := tab_cell T3.out 6
  have c1 := tab_cell T3.out 7
  go_wp2_with fail
  refine (N3.out _).mono ?_
  rintro e w4 ⟨rfl, hb⟩
  have T4 := Lib.hid (tab_after T3.out hb)
  have B4 := Lib.hid (below_boxed B3.out hb (Nat.le_refl _))
  have cb := box_after hb
  clear hb c0 c1
  go_wp2_with fail
  rw [rounds_succ]
  go_wp2_with fail
  refine (open_any _ _).mono ?_
  rintro e w5 ⟨rfl, rfl⟩
  have hr := rdr_open [128, 0] w4
  have HX := Lib.hid fun w1 hg => reader_below (w1 := w1) (s := ⟨#[128, 0]⟩) B4.out hg (Nat.le_refl _)
  clear cb
  go_wp2_with fail
  refine (rNum_lit (n := 0) (e := 4) (l' := []) w4.heap.size [128, 0] _ hr (by decide +kernel)).mono ?_
  rintro e w5 ⟨rfl, hg, _⟩
  have B5 := Lib.hid (HX.out _ hg)
  clear hr HX hg
  go_wp2_with fail
  refine (open_any _ _).mono ?_
  rintro e w6 ⟨rfl, rfl⟩
  have hr := rdr_open [128] w5
  have HX := Lib.hid fun w1 hg => reader_below (w1 := w1) (s := ⟨#[128]⟩) B5.out hg (Nat.le_refl _)
  go_wp2_with fail
  refine (rNum_lit (n := 0) (e := 8) (l' := []) w5.heap.size [128] _ hr (by decide +kernel)).mono ?_
  rintro e w6 ⟨rfl, hg, _⟩
  have B6 := Lib.hid (HX.out _ hg)
  clear hr HX hg
  go_wp2_with fail
  have HI := Lib.hid (ids_lit w6)
  refine (ids_yes _ [(1, 1), (2, 7)] ⟨#[]⟩ _ HI.out (by decide) (by decide) (by decide +kernel)).mono ?_
  rintro e w7 ⟨he, hb⟩
  rw [show (⟨#[]⟩ : ByteArray) ++ bs (encIDs [(1, 1), (2, 7)]) = ⟨#[2, 1, 1, 2, 7]⟩ by decide +kernel] at he
  subst he
  have B7 := Lib.hid (below_boxed B6.out hb (Nat.le_refl _))
  clear hb
  go_wp2_with fail
  go_ret
  exact ⟨rfl, B7.out⟩
end Go.Proofs.Ytmmpnnpkfghhcaa
