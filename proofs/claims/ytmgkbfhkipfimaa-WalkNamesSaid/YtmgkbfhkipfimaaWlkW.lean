/-
  A walk over the laws' examples. No statement is proved in this text.
-/
import Derived.Test.YtmgkbfhkipfimaaWlkI
set_option maxRecDepth 20000
namespace Go.Proofs.Ytmgkbfhkipfimaa
open Go Go.RowKit Sets
variable {S S2 S' : Nat → Prop} {W W' w w' : World} {p : Nat} {v u : Value} {l ps r : List Id2} {d : Nat}
/-- One walk, all of whose blocks are new since W. -/
structure Ow (W wr : World) (p : Nat) (S : Nat → Prop) (l : List Id2) : Prop where
  wl : Wl 51 p l S wr
  lo : ∀ k, S k → W.heap.size ≤ k
  below : Below W.heap.size W wr
theorem Ow.keep (h : Ow W w p S l) (hb : Below w.heap.size w w') : Ow W w' p S l := ⟨h.wl.keep hb, h.lo, below_after h.below hb (Nat.le_refl _)⟩
theorem Ow.next (h : Ow W w p S l) (hw : Wl 51 p r S' w') (k : Upd S w w' S') : Ow W w' p S' r :=
  ⟨hw, fun i hi => by
    rcases k.sub i hi with e | e
    · exact h.lo i e
    · exact Nat.le_trans h.below.size e, h.below.trans (k.fr.below h.below.size h.lo)⟩
/-- A list in new memory stands where only the walk's blocks are written. -/
theorem Ow.new {b : Nat} (h : ∀ k, S k → k < b) (ho : Owns w b v ps) : ∀ W2, Fr S w W2 → Ids W2 v ps := fun _ k =>
  (ids_of_owns ho).frame k fun g hg e => by
    have := h g e
    have := (World.ownsRow.lt ho g hg).1
    omega
theorem lit_ints (w : World) (xs : List Int) : Ints (w.alloc (.cells (xs.map fun x => Value.int .i64 x).toArray 3)) w.heap.size xs := heap_alloc_new w _
/-- IDs of a literal list of addresses. -/
theorem of_lit (xs : List Int) (n : Nat) (hn : n = xs.length) (hl : n ≤ 1000) (w : World) :
    Calls Try.prog 11 #[.slice (some ⟨w.heap.size, 0, none⟩) n n] (w.alloc (.cells (xs.map fun x => Value.int .i64 x).toArray 3)) fun e w' => ∃ v, e = .returned v ∧ Owns w' w.heap.size v (ofs xs) ∧ Below w.heap.size w w' :=
  (of_any _ n xs _ (lit_ints w xs) hn hl).mono fun _ _ ⟨v, h1, h2, h3⟩ => ⟨v, h1, Owns.mono h2 (below_one w _).size, below_after (below_one w _) h3 (Nat.le_refl _)⟩
/-- What stands in the examples' loop: the walk's row, and how often each came. -/
structure Ex (W wr : World) (p : Nat) (S : Nat → Prop) (gm : Nat) (l : List Id2) (m : List Int) : Prop where
  ow : Ow W wr p S l
  met : Ints wr gm m
  no : ¬ S gm
  lom : W.heap.size ≤ gm
theorem ints_set {g k : Nat} {xs : List Int} (h : Ints w g xs) (x : Int) : Ints (w.setCell ⟨g, k, none⟩ (.int .i64 x)) g (xs.set k x) := by
  unfold Ints at *
  simp [World.setCell, Array.getElem?_modify, h]
theorem ints_free {g : Nat} {xs : List Int} (h : Ints w g xs) (k : Nat) : w.frozen? ⟨g, k, none⟩ = false := by
  unfold Ints at h
  simp [World.frozen?, h]
theorem Ex.keep {gm : Nat} {m : List Int} (h : Ex W w p S gm l m) (hb : Below w.heap.size w w') : Ex W w' p S gm l m := ⟨h.ow.keep hb, ints_below h.met hb, h.no, h.lom⟩
theorem Ex.next {gm : Nat} {m : List Int} (h : Ex W w p S gm l m) (hw : Wl 51 p r S' w') (k : Upd S w w' S') : Ex W w' p S' gm r m :=
  ⟨h.ow.next hw k, (k.fr.same gm (row_lt h.met) h.no).trans h.met, fun e => by
    rcases k.sub gm e with e | e
    · exact h.no e
    · have := row_lt h.met
      omega, h.lom⟩
theorem Ex.count {gm k : Nat} {m : List Int} (h : Ex W w p S gm l m) (x : Int) : Ex W (w.setCell ⟨gm, k, none⟩ (.int .i64 x)) p S gm l (m.set k x) := by
  have hF : Fr (fun i => i = gm) w (w.setCell ⟨gm, k, none⟩ (.int .i64 x)) := .of_set _ _ rfl
  exact ⟨⟨h.ow.wl.frame hF fun i hi e => h.no (e ▸ hi), h.ow.lo, h.ow.below.trans (hF.below h.ow.below.size fun i e => e ▸ h.lom)⟩, ints_set h.met x, h.no, h.lom⟩
def exL : Nat → List Id2
  | 0 => []
  | 1 => [(1, 1)]
  | 2 => []
  | _ => [(2, 1)]
def exM : Nat → List Int
  | 0 => [0, 0, 0]
  | 1 => [0, 0, 1]
  | 2 => [0, 1, 1]
  | _ => [0, 2, 1]
def exX : Nat → Id2
  | 0 => (2, 1)
  | _ => (1, 1)
theorem ex_next {k : Nat} (h : k < 3) : nx (exL k) (ofs [1, 2]) k = exX k :: exL (k + 1) := by
  match k, h with
  | 0, _ => decide +kernel
  | 1, _ => decide +kernel
  | 2, _ => decide +kernel
theorem ex_count {k : Nat} (h : k < 3) : ∃ a m : Nat, (exX k).1 = (a : Int) ∧ 1 ≤ a ∧ a ≤ 2 ∧ m ≤ 2 ∧ (∃ ha : a < (exM k).length, (exM k)[a] = (m : Int)) ∧ (exM k).set a ((m : Int) + 1) = exM (k + 1) := by
  match k, h with
  | 0, _ => exact ⟨2, 0, rfl, by decide, by decide, by decide, ⟨by decide, rfl⟩, rfl⟩
  | 1, _ => exact ⟨1, 0, rfl, by decide, by decide, by decide, ⟨by decide, rfl⟩, rfl⟩
  | 2, _ => exact ⟨1, 1, rfl, by decide, by decide, by decide, ⟨by decide, rfl⟩, rfl⟩
set_option maxHeartbeats 2000000 in
theorem works_any (W : World) : Calls Try.prog 12 #[] W fun e w' => e = .returned (.bool true) ∧ Below W.heap.size W w' := by
  go_enter Try.func12, Try.ntmps12
  go_wp2_with fail
  refine (new_any _).mono ?_
  rintro e w1 ⟨p, S, rfl, hw, hlo, hb⟩
  have O1 : Hid (Ow W w1 p S []) := Lib.hid ⟨hw, hlo, hb⟩
  clear hw hlo hb
  go_wp2_with fail
  refine (next_no (Ids.nil _) p 7).mono ?_
  rintro e w2 ⟨rfl, hb⟩
  have O2 := Lib.hid (O1.out.keep hb)
  clear O1 hb
  go_upto_region 3 with fail
  have O3 := Lib.hid (O2.out.keep (below_one w2 (.cells #[.int .i64 0, .int .i64 0] 24)))
  generalize w2.alloc (.cells #[.int .i64 0, .int .i64 0] 24) = w3 at *
  clear O2
  go_wp2_with fail
  refine (of_lit [3] 1 rfl (by omega) w3).mono ?_
  rintro e w4 ⟨v4, rfl, ho, hb⟩
  have V4 := Lib.hid (Ow.new O3.out.wl.lt ho)
  have O4 := Lib.hid (O3.out.keep hb)
  clear ho hb O3
  go_wp2_with fail
  refine (next_any (x := (3, 1)) (r := []) (ps := ofs [3]) (d := 7) O4.out.wl V4.out (by decide) (by decide) (by decide) (by decide) (by decide +kernel)).mono ?_
  rintro e w5 ⟨rfl, S5, hw, hu⟩
  have O5 := Lib.hid (O4.out.next hw hu)
  clear hw hu O4 V4
  go_upto_region 4 with fail
  have X6 := Lib.hid (box_new w5 3 1)
  have B6 := Lib.hid (below_one w5 (.cells #[.int .i64 3, .int .i64 1] 24))
  have O6 := Lib.hid (O5.out.keep B6.out)
  generalize w5.alloc (.cells #[.int .i64 3, .int .i64 1] 24) = w6 at *
  obtain ⟨c3, c4⟩ := box_cells X6.out
  clear B6 O5
  go_wp2_with fail
  refine (of_lit [3] 1 rfl (by omega) w6).mono ?_
  rintro e w7 ⟨v7, rfl, ho, hb⟩
  have V7 := Lib.hid (ids_of_owns ho)
  have O7 := Lib.hid (O6.out.keep hb)
  clear ho hb O6 c3 c4
  go_wp2_with fail
  refine (row_any v7 (ofs [3]) 99 w7 V7.out (by decide) (by decide)).mono ?_
  rintro e w8 ⟨v8, rfl, ho, hb⟩
  have V8 := Lib.hid ho.ids
  have O8 := Lib.hid (O7.out.keep hb)
  clear ho hb O7 V7
  go_wp2_with fail
  refine (of_lit [3] 1 rfl (by omega) w8).mono ?_
  rintro e w9 ⟨v9, rfl, ho, hb⟩
  have V9 := Lib.hid (ids_of_owns ho)
  have O9 := Lib.hid (O8.out.keep hb)
  have V89 := Lib.hid (V8.out.below hb)
  clear ho hb O8 V8
  go_wp2_with fail
  refine (ids_any v8 v9 _ _ w9 V89.out V9.out (by decide +kernel)).mono ?_
  rw [show sameB (rowP (ofs [3]) 99) (ofs [3]) = true by decide +kernel]
  rintro e w10 ⟨rfl, hb⟩
  have O10 := Lib.hid (O9.out.keep hb)
  clear hb O9 V89 V9
  go_upto_region 7 with fail
  have M0 := Lib.hid (lit_ints w10 [0, 0, 0])
  have B11 := Lib.hid (below_one w10 (.cells ([0, 0, 0].map fun x => Value.int .i64 x).toArray 3))
  have N0 := Lib.hid O10.out.wl.lt
  have D0 := Lib.hid O10.out.below.size
  have O11 := Lib.hid (O10.out.keep B11.out)
  have E11 : Hid (Ex W (w10.alloc (.cells #[.int .i64 0, .int .i64 0, .int .i64 0] 3)) p S5 w10.heap.size (exL 0) (exM 0)) := Lib.hid ⟨O11.out, M0.out, fun e => by have := N0.out _ e; omega, D0.out⟩
  clear M0 B11 N0 D0 O11 O10
  generalize w10.alloc (.cells #[.int .i64 0, .int .i64 0, .int .i64 0] 3) = w11 at *
  generalize w10.heap.size = gm at *
  go_wp2_with fail
  go_loopw [7] (fun s7 wr => ∃ (k : Nat) (S : Nat → Prop), s7 = .int .i64 k ∧ k ≤ 3 ∧ Hid (Ex W wr p S gm (exL k) (exM k))) (fun s7 _ => 3 - (intOf s7).toNat)
  case atStart => exact ⟨0, S5, rfl, by omega, E11⟩
  case round =>
    obtain ⟨k, S6, rfl, hk, HE⟩ := hrel
    by_cases hlt : k < 3
    · have HN := Lib.hid (ex_next hlt)
      have hd : decide ((k : Int) < 3) = true := decide_eq_true (by omega)
      have hu : IntKind.u32.wrap (k : Int) = (k : Int) := by simp [IntKind.wrap, IntKind.bits, IntKind.signed]; omega
      go_wp2_with fail
      refine (of_lit [1, 2] 2 rfl (by omega) wr).mono ?_
      rintro e x4 ⟨v4, rfl, ho, hb⟩
      have V4 := Lib.hid (Ow.new HE.out.ow.wl.lt ho)
      have E4 := Lib.hid (HE.out.keep hb)
      clear ho hb HE
      go_wp2_with fail
      refine (next_any (x := exX k) (r := exL (k + 1)) (ps := ofs [1, 2]) (d := k) E4.out.ow.wl V4.out (by decide) (by decide) (by match k, hlt with | 0, _ => decide | 1, _ => decide | 2, _ => decide) (by omega) HN.out).mono ?_
      rintro e x5 ⟨rfl, S7, hw, hu⟩
      have E5 := Lib.hid (E4.out.next hw hu)
      clear hw hu E4 V4
      go_upto_region 11 with fail
      have X6 := Lib.hid (box_new x5 (exX k).1 (exX k).2)
      have E6 := Lib.hid (E5.out.keep (below_one x5 (.cells #[.int .i64 (exX k).1, .int .i64 (exX k).2] 24)))
      generalize x5.alloc (.cells #[.int .i64 (exX k).1, .int .i64 (exX k).2] 24) = x6 at *
      clear E5
      obtain ⟨a, m, ha, ha1, ha2, hm, ⟨hal, hma⟩, hms⟩ := ex_count hlt
      obtain ⟨c3, c4⟩ := box_cells X6.out
      have c5 := ints_cell E6.out.met hal
      have f5 := ints_free E6.out.met a
      have E7 := Lib.hid (E6.out.count (k := a) ((m : Int) + 1))
      rw [hms] at E7
      rw [ha] at c3
      rw [hma] at c5
      rw [ha]
      generalize (exX k).2 = b at *
      have i1 : decide ((a : Int) < 1) = false := decide_eq_false (by omega)
      have i2 : decide ((2 : Int) < (a : Int)) = false := decide_eq_false (by omega)
      have i3 : (0 : Int) ≤ (a : Int) := by omega
      have i4 : (a : Int) < 3 := by omega
      have i5 : IntKind.i64.wrap ((m : Int) + 1) = (m : Int) + 1 := IntWalk.i64_in _ ⟨by omega, by omega⟩
      clear ha hma hms hal HN
      go_wp2_with fail
      go_roundw
      case rel => exact ⟨k + 1, S7, by go_num, by omega, E7⟩
      case measure => simp [intOf]; omega
    · obtain rfl : k = 3 := by omega
      have hm := ints_cell HE.out.met (k := 1) (by decide)
      have hm2 := ints_cell HE.out.met (k := 2) (by decide)
      have hm : wr.cell? ⟨gm, 1, none⟩ = some (.int .i64 2) := hm
      have hm2 : wr.cell? ⟨gm, 2, none⟩ = some (.int .i64 1) := hm2
      have HB := Lib.hid HE.out.ow.below
      go_wp2_with fail
      go_ret
      exact ⟨rfl, HB.out⟩
end Go.Proofs.Ytmgkbfhkipfimaa
