/-
  Carried over and put together: contracts of this program's functions, and plain facts. No statement is proved in this text.
-/
import Derived.Test.YthkkipbmlafdiaaGreatOz
import Derived.Test.YthkkipbmlafdiaaGreatN02
import Derived.Test.YthkkipbmlafdiaaGreatN20
import Derived.Test.YthkkipbmlafdiaaGreatN23
set_option maxRecDepth 20000
namespace Go.Proofs.YthkkipbmlafdiaaGreat
open Go.RowKit Go.Shelf Sets Clocks
theorem delete_empty (A : Option Addr) (c : Nat) (w : World) (hA : A = none → c = 0) : Calls Tryz.prog 176 #[.slice A 0 c, .func (.func 178) #[] #[]] w fun e w' => e = .returned (.slice A 0 c) ∧ Below w.heap.size w w' := by
 have HI := Lib.hid (show Rcs encT 3 w (.slice A 0 c) (#[] : Array Tick).toList from ⟨A, c, rfl, hA, Nat.zero_le _, fun k hk => absurd hk (by simp)⟩)
 go_enter Tryz.func176, Tryz.ntmps176
 go_wp2_with fail
 (with_reducible refine (index_anyCLK _ #[] _ HI.out (by simp)).mono ?_)
 rintro e w1 ⟨⟨r, rfl, hf⟩, hb⟩
 rcases hf with ⟨rfl, _⟩ | ⟨k, rfl, hk, _⟩
 ·go_wp2_with fail
  go_ret
  exact ⟨rfl, hb⟩
 ·exact absurd hk (by simp)
theorem sort_empty (A : Option Addr) (c : Nat) (w : World) : Calls Tryz.prog 179 #[.slice A 0 c, .func (.func 180) #[] #[]] w fun e w' => e = .returned (.tuple #[]) ∧ w' = w :=
 AnyF.slices_SortFunc_none sortT A c _ w
theorem compact_empty (A : Option Addr) (c : Nat) (w : World) : Calls Tryz.prog 183 #[.slice A 0 c, .func (.func 184) #[] #[]] w fun e w' => e = .returned (.slice A 0 c) ∧ w' = w := by
 go_enter Tryz.func183, Tryz.ntmps183
 go_wp2_with fail
 go_ret
 exact ⟨rfl, rfl⟩
def Fresh (B : Nat) (v : Value) : Prop := ∀ ad n c, v = .slice (some ad) n c → B ≤ ad.block
theorem nrm_nil : nrm [] = [] := rfl
set_option maxHeartbeats 1000000 in
theorem said_any (v : Value) (l : List Tick) (w : World) (h : Rcs encT 3 w v l) (hl : l.length ≤ 100000) :
  Calls Tryz.prog 147 #[v] w fun e w' => ∃ v', e = .returned v' ∧ Rcs encT 3 w' v' (nrm l) ∧ Fresh w.heap.size v' ∧ Below w.heap.size w w' := by
 have HI := Lib.hid h
 clear h
 go_enter Tryz.func147, Tryz.ntmps147
 go_wp2_with fail
 (with_reducible refine (clone_any v l _ HI.out hl).mono ?_)
 rintro e w1 ⟨v1, rfl, ho, hb⟩
 have B1 := Lib.hid hb
 have O1 := Lib.hid ho
 clear hb
 by_cases hn : l.length = 0
 ·obtain rfl := List.eq_nil_of_length_eq_zero hn
  obtain ⟨A, c, rfl, hA, hF⟩ : ∃ A c, v1 = .slice A 0 c ∧ (A = none → c = 0) ∧ Hid (Fresh w.heap.size (.slice A 0 c)) := by
   rcases id ho.2 with ⟨rfl, _⟩ | ⟨g, cap, cur, rfl, hg, _⟩
   ·exact ⟨none, 0, rfl, fun _ => rfl, Lib.hid fun ad n c e => by cases e⟩
   ·exact ⟨some ⟨g, 0, none⟩, cap, rfl, (fun h => by cases h), Lib.hid fun ad n c e => by injection e with e; injection e with e; subst e; exact hg⟩
  clear ho
  go_wp2_with fail
  (with_reducible refine (delete_empty A c _ hA).mono ?_)
  rintro e w2 ⟨rfl, hb⟩
  have B2 := Lib.hid (below_after B1.out hb (Nat.le_refl _))
  clear hb
  go_wp2_with (first | (go_at_call 179; refine (sort_empty A c _).mono ?_; rintro e w' ⟨rfl, rfl⟩) | (go_at_call 183; refine (compact_empty A c _).mono ?_; rintro e w' ⟨rfl, rfl⟩))
  go_ret
  refine ⟨_, rfl, ⟨A, c, rfl, hA, Nat.zero_le _, fun k hk => absurd hk (by rw [nrm_nil]; simp)⟩, hF.out, B2.out⟩
 ·obtain ⟨g, c, rfl, hgB, hc⟩ : ∃ g c, v1 = .slice (some ⟨g, 0, none⟩) l.toArray.size c ∧ w.heap.size ≤ g ∧ l.toArray.size ≤ c := by
   rcases id ho.2 with ⟨rfl, h0⟩ | ⟨g, cap, cur, rfl, hg, _, hc, _⟩
   ·exact absurd h0 hn
   ·exact ⟨g, cap, by simp, hg, by simpa using hc⟩
  have R1 : RowAt w1 g l.toArray := rowAt_owns (c := c) (by simpa using ho)
  have HR1 := Lib.hid R1
  clear ho R1
  have hs0 : 0 < l.toArray.size := by simp; omega
  have hs1 : l.toArray.size ≤ 100000 := by simpa using hl
  have HL := Lib.hid (show l.toArray.toList = l by simp)
  generalize l.toArray = d0 at *
  go_wp2_with fail
  (with_reducible refine (delete_any g c d0 _ HR1.out hc hs1 hs0).mono ?_)
  rintro e w2 ⟨d1, rfl, hd1, hr, hg⟩
  have HD1 := Lib.hid hd1
  have HR2 := Lib.hid hr
  have HG2 := Lib.hid hg
  have hs2 : d1.size ≤ d0.size := by
   have := List.length_filter_le (fun t : Tick => !decide (t.2 ≤ 0)) d0.toList
   rw [← hd1] at this
   simpa using this
  clear hd1 hr hg
  go_wp2_with fail
  (with_reducible refine (sort_any g c d1 _ HR2.out (by omega)).mono ?_)
  rintro e w3 ⟨rfl, d2, hsz, hp, hso, hr, hg⟩
  have HP := Lib.hid hp
  have HS := Lib.hid hso
  have HR3 := Lib.hid hr
  have HG3 := Lib.hid (grown_trans HG2.out hg)
  clear hp hso hr hg
  have hcc := compact_any g c d2 w3 HR3.out (by omega) (by omega)
  rw [hsz] at hcc
  have HCC := Lib.hid hcc
  clear hcc
  go_wp2_with fail
  (with_reducible refine HCC.out.mono ?_)
  rintro e w4 ⟨d3, rfl, hd3, hr, hg⟩
  have HG4 := Lib.hid (grown_trans HG3.out hg)
  have HN := Lib.hid (show d3.toList = nrm l by
   rw [hd3]
   refine said_is ?_ HS.out
   rw [← HL.out, ← HD1.out]
   exact HP.out)
  have HR4 := Lib.hid hr
  have hs3 : d3.size ≤ c := by
   have h1 := nrm_len l
   rw [← HN.out, ← HL.out] at h1
   simp at h1
   omega
  clear hd3 hr hg
  go_wp2_with fail
  go_ret
  refine ⟨_, rfl, ?_, fun ad n c e => ?_, B1.out.grown HG4.out B1.out.size (fun k hk => by cases hk; exact hgB)⟩
  ·have := rowAt_rcs HR4.out hs3
   rwa [HN.out] at this
  ·injection e with e
   injection e with e
   subst e
   exact hgB
end Go.Proofs.YthkkipbmlafdiaaGreat
namespace Go.Proofs.YthkkipbmlafdiaaGreat
open Go.RowKit Sets Clocks
theorem elem24CLK : Tryz.prog.elem 25 = 53 := by kernel_rfl
theorem size35 (W : World) : (sizeOf 53).run Tryz.prog W = .ok 3 W := by kernel_rfl
theorem under24CLK : Tryz.prog.underlying 25 = some (.slice (Tryz.prog.elem 25)) := by rw [elem24CLK]; exact Tryz.underlying25
def LiesCLK (lo hi : Nat) (w : World) (v : Value) (l : List Tick) : Prop := Rcs encT 3 w v l ∧ ∀ ad n c, v = .slice (some ad) n c → 0 < l.length → lo ≤ ad.block ∧ ad.block < hi
theorem LiesCLK.mid {lo hi : Nat} {w w' : World} {v : Value} {l : List Tick} (h : LiesCLK lo hi w v l) (hm : Mid lo hi w w') : LiesCLK lo hi w' v l := by
 obtain ⟨⟨A, c, rfl, h0, hc, hk⟩, hb⟩ := h
 refine ⟨⟨A, c, rfl, h0, hc, fun k hlt => ?_⟩, hb⟩
 obtain ⟨ad, rfl, h1, h2⟩ := hk k hlt
 obtain ⟨b1, b2⟩ := hb ad _ _ rfl (by omega)
 refine ⟨ad, rfl, Nat.lt_of_lt_of_le h1 hm.1, fun j u hu => ?_⟩
 rw [World.cell?_of_block (w := w) (by rw [addr_block]; exact hm.2 _ b1 b2)]
 exact h2 j u hu
theorem lies_of {lo hi : Nat} {w : World} {v : Value} {l : List Tick} (h : Rcs encT 3 w v l) (hf : Fresh lo v) (hh : w.heap.size ≤ hi) : LiesCLK lo hi w v l := by
 refine ⟨h, fun ad n c e hl => ⟨hf ad n c e, ?_⟩⟩
 subst e
 obtain ⟨A, c', hv, _, _, hk⟩ := h
 injection hv with e1 e2 e3
 subst e1
 obtain ⟨ad', e, h1, _⟩ := hk 0 hl
 injection e with e
 subst e
 omega
theorem Rcs.head {w : World} {v : Value} {t : Tick} {l : List Tick} (h : Rcs encT 3 w v (t :: l)) :
  ∃ ad c, v = .slice (some ad) (l.length + 1) c ∧ ∀ w', Below w.heap.size w w' → w'.cell? ad = some (.int .i64 t.1.1) ∧ w'.cell? ⟨ad.block, ad.off + 1, none⟩ = some (.int .i64 t.1.2) ∧ w'.cell? ⟨ad.block, ad.off + 2, none⟩ = some (.int .i64 t.2) := by
 obtain ⟨A, c, rfl, _⟩ := id h
 obtain ⟨ad, rfl⟩ := h.addr (by simp)
 refine ⟨ad, c, rfl, fun w' hb => ?_⟩
 obtain ⟨ad', e, c1, c2, c3⟩ := h.tick hb (k := 0) (by simp)
 injection e with e
 subst e
 rw [Nat.zero_mul, add_zero'] at c1 c2 c3
 exact ⟨c1, c2, c3⟩
theorem run_tailCLK {lo hi : Nat} {w : World} {v : Value} {t : Tick} {l : List Tick} (h : LiesCLK lo hi w v (t :: l)) :
  ∃ V, (∀ W, (Instr.slice 25 v (some (.int .i64 1)) none none).run Tryz.prog W = .ok V W) ∧ LiesCLK lo hi w V l := by
 obtain ⟨hr, hb⟩ := h
 obtain ⟨A, c, rfl, h0, hc, hx⟩ := id hr
 obtain ⟨ad, rfl⟩ := hr.addr (by simp)
 have hb2 := hb ad _ _ rfl (by simp)
 refine ⟨sliced (some ad) 1 (t :: l).length c 3, fun W => ?_, ?_⟩
 ·rw [run_slice_l (w := W) (P := Tryz.prog) 25 (some ad) (t :: l).length c under24CLK .i64 1 (by omega) (by simp; omega)]
  rw [elem24CLK, size35]
  rfl
 ·unfold Go.sliced
  have hl : (t :: l).length - 1 = l.length := by simp
  split
  ·rename_i e
   subst e
   have : l = [] := List.eq_nil_of_length_eq_zero (by simp only [List.length_cons] at hc; omega)
   subst this
   exact ⟨⟨some ad, 0, rfl, (fun h => by cases h), by simp, fun k hk => absurd hk (by simp)⟩, fun ad n c e hl => absurd hl (by simp)⟩
  ·have hd := Rcs.drop (k := 1) (by omega) hr (by simp) (by omega)
   refine ⟨hd, fun ad' n c' e _ => ?_⟩
   injection e with e
   injection e with e
   subst e
   rw [addr_block]
   exact hb2
set_option maxHeartbeats 1000000 in
theorem take_anyCLK (lo hi : Nat) (v : Value) (l : List Tick) (x y : Int) (w : World) (h : LiesCLK lo hi w v l) (hl : l.length ≤ 100000) :
  Calls Tryz.prog 149 #[v, .agg #[.int .i64 x, .int .i64 y]] w fun e w' => ∃ V, e = .returned (.tuple #[.int .i64 (tkN (x, y) l), V]) ∧ LiesCLK lo hi w V (tkL (x, y) l) ∧ Below w.heap.size w w' := by
 have HB := Lib.hid (show Below w.heap.size w (w.alloc (.cells #[.int .i64 x, .int .i64 y] 29)) from (Below.refl _ _).alloc (Nat.le_refl _) _)
 cases l with
 | nil =>
  obtain ⟨⟨A, c, rfl, h0, hc, hx⟩, hb⟩ := id h
  have HH := Lib.hid h
  clear hx hb h
  go_enter Tryz.func149, Tryz.ntmps149
  go_wp2_with fail
  go_quiet (fail)
  go_wp2_with fail
  refine bodyPost_ret (v := .tuple #[.int .i64 0, .slice A 0 c]) (by simp [results, Tryz.results149, go_sem]) rfl ?_
  exact ⟨_, rfl, HH.out, below_drewN HB.out⟩
 | cons t l =>
  obtain ⟨ad, c, rfl, hc⟩ := h.1.head
  obtain ⟨V, hV, hL⟩ := run_tailCLK h
  have HH := Lib.hid h
  have HL := Lib.hid hL
  have HC := Lib.hid hc
  have hlz : ((l.length : Int) + 1 == 0) = false := by simp; omega
  have i3 : (0 : Int) < (l.length : Int) + 1 := by omega
  obtain ⟨x1, x2⟩ := box_cells (box_new w x y)
  clear h hL hc
  by_cases he : t.1 = (x, y)
  ·have HN := Lib.hid (show tkN (x, y) (t :: l) = t.2 by rw [tkN, if_pos he])
   have HT := Lib.hid (show tkL (x, y) (t :: l) = l by rw [tkL, if_pos he])
   have e1 : t.1.1 = x := by rw [he]
   have e2 : t.1.2 = y := by rw [he]
   rw [e1, e2] at HC
   rw [HN.out, HT.out]
   clear he e1 e2
   obtain ⟨c1, c2, c3⟩ := HC.out _ HB.out
   go_enter Tryz.func149, Tryz.ntmps149
   go_wp2_with fail
   go_quiet (fail)
   go_wp2_with fail
   go_quiet (fail)
   go_wp2_with fail
   refine bodyPost_ret (v := .tuple #[.int .i64 t.2, V]) (by simp [results, Tryz.results149, go_sem]) rfl ?_
   exact ⟨_, rfl, HL.out, below_drewN (below_drewN HB.out)⟩
  ·have HN := Lib.hid (show tkN (x, y) (t :: l) = 0 by rw [tkN, if_neg he])
   have HT := Lib.hid (show tkL (x, y) (t :: l) = t :: l by rw [tkL, if_neg he])
   rw [HN.out, HT.out]
   obtain ⟨c1, c2, c3⟩ := HC.out _ HB.out
   by_cases h1 : t.1.1 = x
   ·have h2 : (t.1.2 == y) = false := by
     simp only [beq_eq_false_iff_ne]
     exact fun e => he (by rw [← h1, ← e])
    have h3 : (t.1.2 != y) = true := by simpa using h2
    have h4 : (t.1.1 == x) = true := by simpa using h1
    rw [h1] at c1 h4
    clear he h1
    go_enter Tryz.func149, Tryz.ntmps149
    go_wp2_with fail
    go_quiet (fail)
    go_wp2_with fail
    refine bodyPost_ret (v := .tuple #[.int .i64 0, .slice (some ad) (l.length + 1) c]) (by simp [results, Tryz.results149, go_sem]) rfl ?_
    exact ⟨_, rfl, HH.out, below_drewN HB.out⟩
   ·have h2 : (t.1.1 == x) = false := by simpa using h1
    have h3 : (t.1.1 != x) = true := by simpa using h1
    clear he
    go_enter Tryz.func149, Tryz.ntmps149
    go_wp2_with fail
    go_quiet (fail)
    go_wp2_with fail
    refine bodyPost_ret (v := .tuple #[.int .i64 0, .slice (some ad) (l.length + 1) c]) (by simp [results, Tryz.results149, go_sem]) rfl ?_
    exact ⟨_, rfl, HH.out, below_drewN HB.out⟩
end Go.Proofs.YthkkipbmlafdiaaGreat
namespace Go.Proofs.YthkkipbmlafdiaaGreat
open Go.RowKit Sets Clocks
theorem below_set2 {B g : Nat} {a w : World} (h : Below B a w) (hg : B ≤ g) (p q : Int) : Below B a ((w.setCell ⟨g, 0, none⟩ (.int .i64 p)).setCell ⟨g, 1, none⟩ (.int .i64 q)) :=
 (h.setCell (p := ⟨g, 0, none⟩) hg _).setCell (p := ⟨g, 1, none⟩) hg _
theorem fst_both (s t : Tick) (l m : List Tick) : fstI (s :: l) (t :: m) = if lss s.1.1 s.1.2 t.1.1 t.1.2 = true then s.1 else t.1 := by
 rw [fstI]
 by_cases h : lt s.1 t.1
 ·rw [if_pos h, if_pos ((lss_iff _ _).2 h)]
 ·rw [if_neg h, if_neg (fun e => h ((lss_iff _ _).1 e))]
set_option maxHeartbeats 2000000 in
theorem first_anyCLK (v u : Value) (l m : List Tick) (w : World) (h : Rcs encT 3 w v l) (h2 : Rcs encT 3 w u m) (hl : l.length ≤ 100000) (hm : m.length ≤ 100000) (hn : ¬ (l = [] ∧ m = [])) :
  Calls Tryz.prog 148 #[v, u] w fun e w' => e = .returned (.agg #[.int .i64 (fstI l m).1, .int .i64 (fstI l m).2]) ∧ Below w.heap.size w w' := by
 have HB := Lib.hid (show Below w.heap.size w (w.alloc (.cells #[.int .i64 0, .int .i64 0] 29)) from (Below.refl _ _).alloc (Nat.le_refl _) _)
 have HX := Lib.hid (box_new w 0 0)
 cases m with
 | nil =>
  cases l with
  | nil => exact absurd ⟨rfl, rfl⟩ hn
  | cons s l =>
   obtain ⟨ad, c, rfl, hc⟩ := h.head
   obtain ⟨A, c', rfl, hz⟩ := h2
   have HC := Lib.hid hc
   have i3 : (0 : Int) < (l.length : Int) + 1 := by omega
   clear hc h hn hz
   go_enter Tryz.func148, Tryz.ntmps148
   go_wp2_with fail
   refine wp_region_held_drew (S := fun w' => Hid (Below w.heap.size w w') ∧ Hid (Below (w.alloc (.cells #[.int .i64 0, .int .i64 0] 29)).heap.size (w.alloc (.cells #[.int .i64 0, .int .i64 0] 29)) w')) (by kernel_rfl) ?_ (fun hHeld => ?_)
   ·exact ⟨Lib.hid HB.out.drew, Lib.hid (Below.refl _ _).drew⟩
   (refine tk_ (i := 0) (oi := ⟨_, _, _, _, _, _⟩) (v := ?_) rfl (Or.inl ⟨by rfl, ?_⟩) ?_; rotate_left 1; · (intro w hSw; (try dsimp only at hSw); go_simp; all_goals with_reducible rfl))
   try simp only [Act.put, si0, si1, si2]
   (refine tk_ (i := 1) (oi := ⟨_, _, _, _, _, _⟩) (v := ?_) rfl (Or.inl ⟨by rfl, ?_⟩) ?_; rotate_left 1; · (intro w hSw; (try dsimp only at hSw); go_simp; all_goals with_reducible rfl))
   try simp only [Act.put, si0, si1, si2]
   (refine tk_ (i := 2) (oi := ⟨_, _, _, _, _, _⟩) (v := ?_) rfl (Or.inl ⟨by rfl, ?_⟩) ?_; rotate_left 1; · (intro w hSw; (try dsimp only at hSw); go_simp; all_goals with_reducible rfl))
   try simp only [Act.put, si0, si1, si2]
   (refine tk_ (i := 3) (oi := ⟨_, _, _, _, _, _⟩) (v := ?_) rfl (Or.inl ⟨by rfl, ?_⟩) ?_; rotate_left 1; · (intro w hSw; (try dsimp only at hSw); go_simp; all_goals with_reducible rfl))
   try simp only [Act.put, si0, si1, si2]
   refine tk_ (i := 4) (oi := ⟨_, _, _, _, _, _⟩) (v := undef) rfl (Or.inr ⟨by kernel_rfl, rfl⟩) ?_
   try simp only [Act.put, si0, si1, si2]
   refine tk_ (i := 5) (oi := ⟨_, _, _, _, _, _⟩) (v := undef) rfl (Or.inr ⟨by kernel_rfl, rfl⟩) ?_
   try simp only [Act.put, si0, si1, si2]
   refine tk_ (i := 6) (oi := ⟨_, _, _, _, _, _⟩) (v := undef) rfl (Or.inr ⟨by kernel_rfl, rfl⟩) ?_
   try simp only [Act.put, si0, si1, si2]
   refine tk_ (i := 7) (oi := ⟨_, _, _, _, _, _⟩) (v := undef) rfl (Or.inr ⟨by kernel_rfl, rfl⟩) ?_
   try simp only [Act.put, si0, si1, si2]
   refine tk_ (i := 8) (oi := ⟨_, _, _, _, _, _⟩) (v := undef) rfl (Or.inr ⟨by kernel_rfl, rfl⟩) ?_
   try simp only [Act.put, si0, si1, si2]
   refine tk_ (i := 9) (oi := ⟨_, _, _, _, _, _⟩) (v := undef) rfl (Or.inr ⟨by kernel_rfl, rfl⟩) ?_
   try simp only [Act.put, si0, si1, si2]
   refine tk_ (i := 10) (oi := ⟨_, _, _, _, _, _⟩) (v := undef) rfl (Or.inr ⟨by kernel_rfl, rfl⟩) ?_
   try simp only [Act.put, si0, si1, si2]
   refine tk_ (i := 11) (oi := ⟨_, _, _, _, _, _⟩) (v := undef) rfl (Or.inr ⟨by kernel_rfl, rfl⟩) ?_
   try simp only [Act.put, si0, si1, si2]
   refine tk_ (i := 12) (oi := ⟨_, _, _, _, _, _⟩) (v := undef) rfl (Or.inr ⟨by kernel_rfl, rfl⟩) ?_
   try simp only [Act.put, si0, si1, si2]
   refine tk_ (i := 13) (oi := ⟨_, _, _, _, _, _⟩) (v := undef) rfl (Or.inr ⟨by kernel_rfl, rfl⟩) ?_
   try simp only [Act.put, si0, si1, si2]
   refine tk_ (i := 14) (oi := ⟨_, _, _, _, _, _⟩) (v := undef) rfl (Or.inr ⟨by kernel_rfl, rfl⟩) ?_
   try simp only [Act.put, si0, si1, si2]
   refine tk_ (i := 15) (oi := ⟨_, _, _, _, _, _⟩) (v := undef) rfl (Or.inr ⟨by kernel_rfl, rfl⟩) ?_
   try simp only [Act.put, si0, si1, si2]
   refine tk_ (i := 16) (oi := ⟨_, _, _, _, _, _⟩) (v := undef) rfl (Or.inr ⟨by kernel_rfl, rfl⟩) ?_
   try simp only [Act.put, si0, si1, si2]
   refine tk_ (i := 17) (oi := ⟨_, _, _, _, _, _⟩) (v := undef) rfl (Or.inr ⟨by kernel_rfl, rfl⟩) ?_
   try simp only [Act.put, si0, si1, si2]
   (refine tk_ (i := 18) (oi := ⟨_, _, _, _, _, _⟩) (v := ?_) rfl (Or.inl ⟨by rfl, ?_⟩) ?_; rotate_left 1; · (intro w hSw; (try dsimp only at hSw); go_simp; all_goals with_reducible rfl))
   try simp only [Act.put, si0, si1, si2]
   refine wpAnyH_done (by kernel_rfl) ?_ _
   obtain ⟨h1, h2'⟩ := hHeld
   have HK := Lib.hid h1.out
   have X1 := Lib.hid (box_below HX.out h2'.out)
   clear h1 h2'
   obtain ⟨f0, f1⟩ := box_free X1.out
   obtain ⟨d0, d1⟩ := box_cells X1.out
   obtain ⟨c1, c2, c3⟩ := HC.out _ HK.out
   go_wp2_with fail
   refine bodyPost_ret (v := .agg #[.int .i64 s.1.1, .int .i64 s.1.2]) (by simp [results, Tryz.results148, go_sem]) rfl ?_
   exact ⟨rfl, ((Below.refl _ _).alloc (Nat.le_refl _) _).drew⟩
 | cons t m =>
  obtain ⟨ae, c', rfl, hc'⟩ := h2.head
  have HD := Lib.hid hc'
  have j3 : (0 : Int) < (m.length : Int) + 1 := by omega
  have hmz : ((m.length : Int) + 1 == 0) = false := by simp; omega
  cases l with
  | nil =>
   obtain ⟨A, c, rfl, hz⟩ := h
   clear hc' h2 hn hz
   go_enter Tryz.func148, Tryz.ntmps148
   go_wp2_with fail
   refine wp_region_held_drew (S := fun w' => Hid (Below w.heap.size w w') ∧ Hid (Below (w.alloc (.cells #[.int .i64 0, .int .i64 0] 29)).heap.size (w.alloc (.cells #[.int .i64 0, .int .i64 0] 29)) w')) (by kernel_rfl) ?_ (fun hHeld => ?_)
   ·exact ⟨Lib.hid HB.out.drew, Lib.hid (Below.refl _ _).drew⟩
   (refine tk_ (i := 0) (oi := ⟨_, _, _, _, _, _⟩) (v := ?_) rfl (Or.inl ⟨by rfl, ?_⟩) ?_; rotate_left 1; · (intro w hSw; (try dsimp only at hSw); go_simp; all_goals with_reducible rfl))
   try simp only [Act.put, si0, si1, si2]
   (refine tk_ (i := 1) (oi := ⟨_, _, _, _, _, _⟩) (v := ?_) rfl (Or.inl ⟨by rfl, ?_⟩) ?_; rotate_left 1; · (intro w hSw; (try dsimp only at hSw); go_simp; all_goals with_reducible rfl))
   try simp only [Act.put, si0, si1, si2]
   (refine tk_ (i := 2) (oi := ⟨_, _, _, _, _, _⟩) (v := ?_) rfl (Or.inl ⟨by rfl, ?_⟩) ?_; rotate_left 1; · (intro w hSw; (try dsimp only at hSw); go_simp; all_goals with_reducible rfl))
   try simp only [Act.put, si0, si1, si2]
   (refine tk_ (i := 3) (oi := ⟨_, _, _, _, _, _⟩) (v := ?_) rfl (Or.inl ⟨by rfl, ?_⟩) ?_; rotate_left 1; · (intro w hSw; (try dsimp only at hSw); go_simp; all_goals with_reducible rfl))
   try simp only [Act.put, si0, si1, si2]
   first | (refine tk_ (i := 4) (oi := ⟨_, _, _, _, _, _⟩) (v := ?_) rfl (Or.inl ⟨by rfl, ?_⟩) ?_; rotate_left 1; · (intro w hSw; (try dsimp only at hSw); go_simp; all_goals with_reducible rfl)) | refine tk_ (i := 4) (oi := ⟨_, _, _, _, _, _⟩) (v := undef) rfl (Or.inr ⟨by kernel_rfl, rfl⟩) ?_
   try simp only [Act.put, si0, si1, si2]
   first | (refine tk_ (i := 5) (oi := ⟨_, _, _, _, _, _⟩) (v := ?_) rfl (Or.inl ⟨by rfl, ?_⟩) ?_; rotate_left 1; · (intro w hSw; (try dsimp only at hSw); go_simp; all_goals with_reducible rfl)) | refine tk_ (i := 5) (oi := ⟨_, _, _, _, _, _⟩) (v := undef) rfl (Or.inr ⟨by kernel_rfl, rfl⟩) ?_
   try simp only [Act.put, si0, si1, si2]
   first | (refine tk_ (i := 6) (oi := ⟨_, _, _, _, _, _⟩) (v := ?_) rfl (Or.inl ⟨by rfl, ?_⟩) ?_; rotate_left 1; · (intro w hSw; (try dsimp only at hSw); go_simp; all_goals with_reducible rfl)) | refine tk_ (i := 6) (oi := ⟨_, _, _, _, _, _⟩) (v := undef) rfl (Or.inr ⟨by kernel_rfl, rfl⟩) ?_
   try simp only [Act.put, si0, si1, si2]
   first | (refine tk_ (i := 7) (oi := ⟨_, _, _, _, _, _⟩) (v := ?_) rfl (Or.inl ⟨by rfl, ?_⟩) ?_; rotate_left 1; · (intro w hSw; (try dsimp only at hSw); go_simp; all_goals with_reducible rfl)) | refine tk_ (i := 7) (oi := ⟨_, _, _, _, _, _⟩) (v := undef) rfl (Or.inr ⟨by kernel_rfl, rfl⟩) ?_
   try simp only [Act.put, si0, si1, si2]
   refine tk_ (i := 8) (oi := ⟨_, _, _, _, _, _⟩) (v := undef) rfl (Or.inr ⟨by kernel_rfl, rfl⟩) ?_
   try simp only [Act.put, si0, si1, si2]
   refine tk_ (i := 9) (oi := ⟨_, _, _, _, _, _⟩) (v := undef) rfl (Or.inr ⟨by kernel_rfl, rfl⟩) ?_
   try simp only [Act.put, si0, si1, si2]
   refine tk_ (i := 10) (oi := ⟨_, _, _, _, _, _⟩) (v := undef) rfl (Or.inr ⟨by kernel_rfl, rfl⟩) ?_
   try simp only [Act.put, si0, si1, si2]
   refine tk_ (i := 11) (oi := ⟨_, _, _, _, _, _⟩) (v := undef) rfl (Or.inr ⟨by kernel_rfl, rfl⟩) ?_
   try simp only [Act.put, si0, si1, si2]
   refine tk_ (i := 12) (oi := ⟨_, _, _, _, _, _⟩) (v := undef) rfl (Or.inr ⟨by kernel_rfl, rfl⟩) ?_
   try simp only [Act.put, si0, si1, si2]
   refine tk_ (i := 13) (oi := ⟨_, _, _, _, _, _⟩) (v := undef) rfl (Or.inr ⟨by kernel_rfl, rfl⟩) ?_
   try simp only [Act.put, si0, si1, si2]
   refine tk_ (i := 14) (oi := ⟨_, _, _, _, _, _⟩) (v := undef) rfl (Or.inr ⟨by kernel_rfl, rfl⟩) ?_
   try simp only [Act.put, si0, si1, si2]
   refine tk_ (i := 15) (oi := ⟨_, _, _, _, _, _⟩) (v := undef) rfl (Or.inr ⟨by kernel_rfl, rfl⟩) ?_
   try simp only [Act.put, si0, si1, si2]
   refine tk_ (i := 16) (oi := ⟨_, _, _, _, _, _⟩) (v := undef) rfl (Or.inr ⟨by kernel_rfl, rfl⟩) ?_
   try simp only [Act.put, si0, si1, si2]
   first | (refine tk_ (i := 17) (oi := ⟨_, _, _, _, _, _⟩) (v := ?_) rfl (Or.inl ⟨by rfl, ?_⟩) ?_; rotate_left 1; · (intro w hSw; (try dsimp only at hSw); go_simp; all_goals with_reducible rfl)) | refine tk_ (i := 17) (oi := ⟨_, _, _, _, _, _⟩) (v := undef) rfl (Or.inr ⟨by kernel_rfl, rfl⟩) ?_
   try simp only [Act.put, si0, si1, si2]
   (refine tk_ (i := 18) (oi := ⟨_, _, _, _, _, _⟩) (v := ?_) rfl (Or.inl ⟨by rfl, ?_⟩) ?_; rotate_left 1; · (intro w hSw; (try dsimp only at hSw); go_simp; all_goals with_reducible rfl))
   try simp only [Act.put, si0, si1, si2]
   refine wpAnyH_done (by kernel_rfl) ?_ _
   obtain ⟨h1, h2'⟩ := hHeld
   have HK := Lib.hid h1.out
   have X1 := Lib.hid (box_below HX.out h2'.out)
   clear h1 h2'
   obtain ⟨f0, f1⟩ := box_free X1.out
   obtain ⟨d0, d1⟩ := box_cells X1.out
   obtain ⟨c1, c2, c3⟩ := HD.out _ HK.out
   go_wp2_with fail
   refine bodyPost_ret (v := .agg #[.int .i64 t.1.1, .int .i64 t.1.2]) (by simp [results, Tryz.results148, go_sem]) rfl ?_
   exact ⟨rfl, ((Below.refl _ _).alloc (Nat.le_refl _) _).drew⟩
  | cons s l =>
   obtain ⟨ad, c, rfl, hc⟩ := h.head
   have HC := Lib.hid hc
   have i3 : (0 : Int) < (l.length : Int) + 1 := by omega
   have HF := Lib.hid (fst_both s t l m)
   have HL := Lib.hid fun W => less_anyCLK s.1.1 s.1.2 t.1.1 t.1.2 W
   have HS := Lib.hid fun w' (hb : Below w.heap.size w w') => And.intro (And.intro (HC.out w' hb).1 (HC.out w' hb).2.1) (And.intro (HD.out w' hb).1 (HD.out w' hb).2.1)
   clear hc hc' h h2 hn
   rw [HF.out]
   clear HF
   cases hv : lss s.1.1 s.1.2 t.1.1 t.1.2
   all_goals
    rw [hv] at HL
    clear hv
    go_enter Tryz.func148, Tryz.ntmps148
    go_wp2_with fail
    go_region_held3 (fun w' => (w'.cell? ad = some (.int .i64 s.1.1) ∧ w'.cell? ⟨ad.block, ad.off + 1, none⟩ = some (.int .i64 s.1.2)) ∧ (w'.cell? ae = some (.int .i64 t.1.1) ∧ w'.cell? ⟨ae.block, ae.off + 1, none⟩ = some (.int .i64 t.1.2)) ∧ Hid (Below w.heap.size w w') ∧ Hid (Below (w.alloc (.cells #[.int .i64 0, .int .i64 0] 29)).heap.size (w.alloc (.cells #[.int .i64 0, .int .i64 0] 29)) w'))
     (first | exact ⟨(HS.out _ HB.out.drew).1, (HS.out _ HB.out.drew).2, Lib.hid HB.out.drew, Lib.hid (Below.refl _ _).drew⟩ | exact ⟨(HS.out _ HK.out).1, (HS.out _ HK.out).2, HK, HJ⟩)
     (first | (go_at_call 97; (with_reducible refine (HL.out _).mono ?_); rintro e w' ⟨rfl, hb⟩; have HK := Lib.hid (below_after HB.out.drew hb (Nat.le_refl _)); have HJ := Lib.hid (below_after (Below.refl _ _).drew hb (Nat.le_refl _)); clear hb))
   ·have X1 := Lib.hid (box_below HX.out HJ.out)
    obtain ⟨f0, f1⟩ := box_free X1.out
    obtain ⟨d0, d1⟩ := box_cells X1.out
    obtain ⟨c1, c2, c3⟩ := HD.out _ HK.out
    go_wp2_with fail
    have HZ := Lib.hid (box_set X1.out t.1.1 t.1.2)
    obtain ⟨q0, q1⟩ := box_cells HZ.out
    refine bodyPost_ret (v := .agg #[.int .i64 t.1.1, .int .i64 t.1.2]) (by simp [results, Tryz.results148, go_sem, q0, q1]) rfl ?_
    exact ⟨rfl, below_set2 HK.out (Nat.le_refl _) _ _⟩
   ·have X1 := Lib.hid (box_below HX.out HJ.out)
    obtain ⟨f0, f1⟩ := box_free X1.out
    obtain ⟨d0, d1⟩ := box_cells X1.out
    obtain ⟨c1, c2, c3⟩ := HC.out _ HK.out
    go_wp2_with fail
    have HZ := Lib.hid (box_set X1.out s.1.1 s.1.2)
    obtain ⟨q0, q1⟩ := box_cells HZ.out
    refine bodyPost_ret (v := .agg #[.int .i64 s.1.1, .int .i64 s.1.2]) (by simp [results, Tryz.results148, go_sem, q0, q1]) rfl ?_
    exact ⟨rfl, below_set2 HK.out (Nat.le_refl _) _ _⟩
end Go.Proofs.YthkkipbmlafdiaaGreat
namespace Go.Proofs.YthkkipbmlafdiaaGreat
open Go.RowKit Sets Clocks
theorem LiesCLK.len {lo hi : Nat} {w : World} {v : Value} {l : List Tick} (h : LiesCLK lo hi w v l) : lenOf v = l.length := by
 obtain ⟨⟨A, c, rfl, _⟩, _⟩ := h
 rfl
structure Visits (K : Nat) (caps : Array Value) (b0 lo : Nat) (S : Nat → World → List Visit → Prop) : Prop where
 enters : ∀ args W, (callFunc K args).run Tryz.prog W = .ok (.enter K args) W
 kept : ∀ hi W W' V, S hi W V → Below W.heap.size W W' → S hi W' V
 step : ∀ hi W V x y p q, lo ≤ hi → hi ≤ W.heap.size → S hi W V → V.length ≤ 90000 →
  Calls Tryz.prog K (#[.agg #[.int .i64 x, .int .i64 y], .int .i64 p, .int .i64 q] ++ caps) W fun e w' => e = .returned (.tuple #[]) ∧ S hi w' (V ++ [((x, y), p, q)]) ∧ Below b0 W w' ∧ Mid lo hi W w'
set_option maxHeartbeats 4000000 in
theorem each_any (K : Nat) (caps : Array Value) (b0 : Nat) (S : Nat → World → List Visit → Prop) (v u : Value) (l m : List Tick) (w : World) (hV : Visits K caps b0 w.heap.size S) (hb0 : b0 ≤ w.heap.size)
  (hS : ∀ hi W, w.heap.size ≤ hi → Below w.heap.size w W → S hi W []) (h : Rcs encT 3 w v l) (h2 : Rcs encT 3 w u m) (hl : l.length ≤ 40000) (hm : m.length ≤ 40000) :
  Calls Tryz.prog 90 #[v, u, .func (.func K) #[] caps] w fun e w' => e = .returned (.tuple #[]) ∧ (∃ hi, S hi w' (both l m)) ∧ Below b0 w w' := by
 have HV := Lib.hid hV
 have HH := Lib.hid hS
 have HI := Lib.hid h
 have HJ := Lib.hid h2
 have hK := hV.enters
 have hl2 := nrm_len l
 have hm2 := nrm_len m
 clear hV hS h h2
 go_enter Tryz.func90, Tryz.ntmps90
 go_wp2_with fail
 (with_reducible refine (said_any v l _ HI.out (by omega)).mono ?_)
 rintro e w1 ⟨v1, rfl, hr, hf, hb⟩
 have HR1 := Lib.hid hr
 have HF1 := Lib.hid hf
 have HB1 := Lib.hid hb
 have HJ1 := Lib.hid (HJ.out.below hb)
 clear hr hf hb
 go_wp2_with fail
 (with_reducible refine (said_any u m _ HJ1.out (by omega)).mono ?_)
 rintro e w2 ⟨v2, rfl, hr, hf, hb⟩
 have HB2 := Lib.hid (below_after HB1.out hb (Nat.le_refl _))
 have L1 := Lib.hid (lies_of (hi := w2.heap.size) (HR1.out.below hb) HF1.out (Nat.le_refl _))
 have L2 := Lib.hid (lies_of (lo := w.heap.size) (hi := w2.heap.size) hr (fun ad n c e => Nat.le_trans HB1.out.size (hf ad n c e)) (Nat.le_refl _))
 have S2 := Lib.hid (HH.out w2.heap.size w2 HB2.out.size HB2.out)
 have HZ := Lib.hid HB2.out.size
 have HB := Lib.hid (HB2.out.mono hb0)
 clear hr hf hb HR1 HF1 HB1 HB2 HJ1 HJ HI HH
 obtain ⟨hi, hhi⟩ : ∃ hi, w2.heap.size = hi := ⟨_, rfl⟩
 rw [hhi] at L1 L2 S2 HZ
 have HI2 := Lib.hid (show hi ≤ w2.heap.size by omega)
 clear hhi
 go_wp2_with fail
 go_loopw [0, 1] (fun s0 s1 wr => ∃ a b V n, Hid (LiesCLK w.heap.size hi wr s0 a) ∧ Hid (LiesCLK w.heap.size hi wr s1 b) ∧ Hid (S hi wr V) ∧ Hid (V ++ mg n a b = both l m) ∧ a.length + b.length ≤ n ∧ V.length + n ≤ 80000 ∧ a.length ≤ 40000 ∧ b.length ≤ 40000 ∧ Hid (Below b0 w wr) ∧ Hid (hi ≤ wr.heap.size)) (fun s0 s1 _ => lenOf s0 + lenOf s1)
 case atStart => exact ⟨_, _, [], _, L1, L2, S2, Lib.hid rfl, Nat.le_refl _, by simp; omega, by omega, by omega, HB, HI2⟩
 case round =>
  obtain ⟨a, b, V, n, H0, H1, H2, HE, hn, hVn, ha4, hb4, HW, HS⟩ := hrel
  obtain ⟨A, c, rfl, hz⟩ := id H0.out.1
  obtain ⟨B, c', rfl, hz2⟩ := id H1.out.1
  clear hz hz2
  by_cases he : a = [] ∧ b = []
  ·obtain ⟨rfl, rfl⟩ := he
   have HD := Lib.hid (show V = both l m by
    rw [← HE.out]
    cases n with
    | zero => simp [mg]
    | succ n => simp [mg])
   go_wp2_with fail
   go_end0
   exact ⟨rfl, ⟨hi, by rw [← HD.out]; exact H2.out⟩, HW.out⟩
  ·obtain ⟨n, rfl⟩ : ∃ k, n = k + 1 := by
    refine ⟨n - 1, ?_⟩
    rcases Nat.eq_zero_or_pos a.length with e1 | e1
    ·rcases Nat.eq_zero_or_pos b.length with e2 | e2
     ·exact absurd ⟨List.eq_nil_of_length_eq_zero e1, List.eq_nil_of_length_eq_zero e2⟩ he
     ·omega
    ·omega
   have HNE := Lib.hid he
   have HE2 : Hid ((V ++ [(fstI a b, tkN (fstI a b) a, tkN (fstI a b) b)]) ++ mg n (tkL (fstI a b) a) (tkL (fstI a b) b) = both l m) := Lib.hid (by
    rw [← HE.out, mg, if_neg he, List.append_assoc]
    rfl)
   have HT := Lib.hid (tk_less he)
   have ht1 := tkL_len (fstI a b) a
   have ht2 := tkL_len (fstI a b) b
   have HFI := Lib.hid fun W h k => first_anyCLK (.slice A a.length c) (.slice B b.length c') a b W h k (by omega) (by omega) he
   have hdd : (decide (0 < a.length) = true) ∨ (a = [] ∧ decide (0 < b.length) = true) := by
    rcases Nat.eq_zero_or_pos a.length with e1 | e1
    ·rcases Nat.eq_zero_or_pos b.length with e2 | e2
     ·exact absurd ⟨List.eq_nil_of_length_eq_zero e1, List.eq_nil_of_length_eq_zero e2⟩ he
     ·exact .inr ⟨List.eq_nil_of_length_eq_zero e1, decide_eq_true (by omega)⟩
    ·exact .inl (decide_eq_true (by omega))
   have R0 := Lib.hid H0.out.1
   have R1 := Lib.hid H1.out.1
   clear he HE
   generalize hf : fstI a b = x at *
   obtain ⟨x, y⟩ := x
   clear hf
   rcases hdd with hd | ⟨rfl, hd2⟩
   all_goals
    try simp only [List.length_nil] at HFI R0 H0
    go_wp2_with fail
    (with_reducible refine (HFI.out _ R0.out R1.out).mono ?_)
    rintro e w3 ⟨rfl, hb⟩
    have X3 := Lib.hid (box_new w3 x y)
    have L3 := Lib.hid (H0.out.mid (mid_below (hb.alloc hb.size (.cells #[.int .i64 x, .int .i64 y] 29)) HS.out))
    have M3 := Lib.hid (H1.out.mid (mid_below (hb.alloc hb.size (.cells #[.int .i64 x, .int .i64 y] 29)) HS.out))
    have S3 := Lib.hid (HV.out.kept _ _ _ _ H2.out (hb.alloc hb.size (.cells #[.int .i64 x, .int .i64 y] 29)))
    have B3 := Lib.hid ((below_after HW.out hb hb0).alloc (Nat.le_trans hb0 (below_after HW.out hb hb0).size) (.cells #[.int .i64 x, .int .i64 y] 29))
    have Z3 := Lib.hid (Nat.le_trans HS.out (hb.alloc hb.size (.cells #[.int .i64 x, .int .i64 y] 29)).size)
    clear hb
    obtain ⟨c1, c2⟩ := box_cells X3.out
    go_wp2_with fail
    (with_reducible refine (take_anyCLK _ _ _ _ x y _ L3.out (by omega)).mono ?_)
    rintro e w4 ⟨V1, rfl, hL, hb⟩
    have L4 := Lib.hid (hL.mid (mid_below hb Z3.out))
    have M4 := Lib.hid (M3.out.mid (mid_below hb Z3.out))
    have S4 := Lib.hid (HV.out.kept _ _ _ _ S3.out hb)
    have B4 := Lib.hid (below_after B3.out hb hb0)
    have X4 := Lib.hid (box_below X3.out hb)
    have Z4 := Lib.hid (Nat.le_trans Z3.out hb.size)
    clear hL hb c1 c2
    obtain ⟨c1, c2⟩ := box_cells X4.out
    go_wp2_with fail
    (with_reducible refine (take_anyCLK _ _ _ _ x y _ M4.out (by omega)).mono ?_)
    rintro e w5 ⟨V2, rfl, hL, hb⟩
    have M5 := Lib.hid (hL.mid (mid_below hb Z4.out))
    have L5 := Lib.hid (L4.out.mid (mid_below hb Z4.out))
    have S5 := Lib.hid (HV.out.kept _ _ _ _ S4.out hb)
    have B5 := Lib.hid (below_after B4.out hb hb0)
    have X5 := Lib.hid (box_below X4.out hb)
    have Z5 := Lib.hid (Nat.le_trans Z4.out hb.size)
    clear hL hb c1 c2
    obtain ⟨c1, c2⟩ := box_cells X5.out
    have HC := Lib.hid fun p q => HV.out.step hi w5 V x y p q HZ.out Z5.out S5.out (by omega)
    go_wp2_with fail
    (with_reducible refine (HC.out _ _).mono ?_)
    rintro e w6 ⟨rfl, hS, hb, hmid⟩
    have S6 := Lib.hid hS
    have B6 := Lib.hid (B5.out.trans hb)
    have L6 := Lib.hid (L5.out.mid hmid)
    have M6 := Lib.hid (M5.out.mid hmid)
    have Z6 := Lib.hid (Nat.le_trans Z5.out hmid.1)
    clear hS hb hmid c1 c2
    go_wp2_with fail
    go_roundw
    case rel => exact ⟨_, _, _, n, L6, M6, S6, HE2, by have := HT.out; omega, by simp; omega, by omega, by omega, B6, Z6⟩
    case measure =>
     have e1 := L6.out.len
     have e2 := M6.out.len
     have := HT.out
     (try simp only [List.length_nil] at this ht1)
     simp [lenOf_slice, e1, e2]
     omega
end Go.Proofs.YthkkipbmlafdiaaGreat
