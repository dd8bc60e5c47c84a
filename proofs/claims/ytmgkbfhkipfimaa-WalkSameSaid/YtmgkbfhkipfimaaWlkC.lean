/-
  A walk's helpers: two peers exchanged, a row of peers. No statement is proved in this text; it holds for every input that its premises let by.
-/
import Derived.Test.YtmgkbfhkipfimaaWlkB
set_option maxRecDepth 20000
namespace Go.Proofs.Ytmgkbfhkipfimaa
open Go Go.RowKit Sets
set_option maxHeartbeats 1000000 in
theorem exchange_any (g c n m : Nat) (l : List Id2) (w : World) (h : RowJ w g l) (h0 : 0 < n) (hn : n ≤ l.length) (hl : l.length ≤ 100000) (hm : m < 4294967296) :
    Calls Try.prog 27 #[.slice (some ⟨g, 0, none⟩) n c, .int .u32 m] w fun e w' => e = .returned (.tuple #[]) ∧ RowJ w' g (swp l (n - 1) (m % n)) ∧ w.grownBy w' (some g) := by
  obtain ⟨p, rfl⟩ : ∃ p, n = p + 1 := ⟨n - 1, by omega⟩
  obtain ⟨q, hq⟩ : ∃ q, q = m % (p + 1) := ⟨_, rfl⟩
  have hq2 : q < p + 1 := by rw [hq]; exact Nat.mod_lt _ (by omega)
  have HR := Lib.hid h
  have HX := Lib.hid fun nq => rowJ_swp (rowJ_kept h (below_drewN (n := nq) (Below.refl _ _))) (p := p) (q := q) (by omega) (by omega)
  have HG := Lib.hid fun nq => (grown_swp (grown_below (World.grownBy.refl w (some g)) (below_drewN (n := nq) (Below.refl _ _))) p q (.int .i64 l[q]!.1) (.int .i64 l[q]!.2) (.int .i64 l[p]!.1) (.int .i64 l[p]!.2))
  have HE := Lib.hid (show swp l (p + 1 - 1) (m % (p + 1)) = swp l p q by rw [hq]; rfl)
  have i0 : IntKind.i64.wrap ((p : Int) + 1 - 1) = (p : Int) := by rw [IntWalk.i64_in _ ⟨by omega, by omega⟩]; omega
  have i1 : IntKind.i64.wrap (m : Int) = (m : Int) := IntWalk.i64_in _ ⟨by omega, by omega⟩
  have i2 : ((p : Int) + 1 == 0) = false := by simp; omega
  have i3 : Int.tmod (m : Int) ((p : Int) + 1) = (q : Int) := by rw [hq]; simp [Int.tmod_eq_emod_of_nonneg]
  have i4 : (0 : Int) ≤ (p : Int) := by omega
  have i5 : (p : Int) < (p : Int) + 1 := by omega
  have i6 : (0 : Int) ≤ (q : Int) := by omega
  have i7 : (q : Int) < (p : Int) + 1 := by omega
  have i8 : IntKind.i64.wrap (q : Int) = (q : Int) := IntWalk.i64_in _ ⟨by omega, by omega⟩
  rw [HE.out]
  by_cases hpq : p = q
  · subst hpq
    obtain ⟨⟨c1, c2⟩, f1, f2⟩ := rowJ_cells h (k := p) (by omega)
    clear hq h
    generalize l[p]!.1 = x1 at *
    generalize l[p]!.2 = x2 at *
    go_enter Try.func27, Try.ntmps27
    go_wp2_with fail
    go_quiet (fail)
    go_wp2_with fail
    go_region
    go_wp2_with fail
    go_end0
    exact ⟨rfl, HX.out _, HG.out _⟩
  · have n2 : ¬ q = p := fun e => hpq e.symm
    obtain ⟨⟨c1, c2⟩, f1, f2⟩ := rowJ_cells h (k := p) (by omega)
    obtain ⟨⟨d1, d2⟩, e1, e2⟩ := rowJ_cells h (k := q) (by omega)
    clear hq h
    generalize l[p]!.1 = x1 at *
    generalize l[p]!.2 = x2 at *
    generalize l[q]!.1 = y1 at *
    generalize l[q]!.2 = y2 at *
    go_enter Try.func27, Try.ntmps27
    go_wp2_with fail
    go_quiet (fail)
    go_wp2_with fail
    go_region
    go_wp2_with fail
    go_end0
    exact ⟨rfl, HX.out _, HG.out _⟩
/-- A slice in a block of its own, that may be written over. -/
def RowV (w : World) (b : Nat) (v : Value) (l : List Id2) : Prop := (v = .slice none 0 0 ∧ l = []) ∨ ∃ g c, v = .slice (some ⟨g, 0, none⟩) l.length c ∧ l.length ≤ c ∧ b ≤ g ∧ RowJ w g l
theorem RowV.ids {w : World} {b : Nat} {v : Value} {l : List Id2} (h : RowV w b v l) : Ids w v l := by
  rcases h with ⟨rfl, rfl⟩ | ⟨g, c, rfl, h1, _, h3⟩
  · exact Ids.nil w
  · exact rowJ_ids h3 h1
theorem RowV.below {w w' : World} {b : Nat} {v : Value} {l : List Id2} (h : RowV w b v l) (hb : Below w.heap.size w w') : RowV w' b v l := by
  rcases h with h | ⟨g, c, h0, h1, h2, h3⟩
  · exact .inl h
  · exact .inr ⟨g, c, h0, h1, h2, rowJ_kept h3 hb⟩
theorem RowV.own {w : World} {b : Nat} {v : Value} {l : List Id2} (h : RowV w b v l) {g : Nat} (hg : v.ownBlock = some g) : b ≤ g ∧ g < w.heap.size := by
  rcases h with ⟨rfl, rfl⟩ | ⟨g', c, rfl, h1, h2, h3⟩
  · cases hg
  · injection hg with hg
    subst hg
    exact ⟨h2, h3.1⟩
theorem RowV.mono {w : World} {b b' : Nat} {v : Value} {l : List Id2} (h : RowV w b v l) (hb : b' ≤ b) : RowV w b' v l := by
  rcases h with h | ⟨g, c, h0, h1, h2, h3⟩
  · exact .inl h
  · exact .inr ⟨g, c, h0, h1, Nat.le_trans hb h2, h3⟩
theorem rowV_owns {w : World} {b : Nat} {v : Value} {l : List Id2} (h : Owns w b v l) : RowV w b v l := by
  rcases id h.2 with ⟨h1, h2⟩ | ⟨g, cap, cur, rfl, hb, _, hc, _⟩
  · exact .inl ⟨h1, List.eq_nil_of_length_eq_zero h2⟩
  · exact .inr ⟨g, cap, rfl, hc, hb, rowJ_owns h⟩
/-- A list is answered, in new memory that may be written over; what was there stands. -/
def RowN (l : List Id2) (w : World) (e : Ending) (w' : World) : Prop := ∃ v', e = .returned v' ∧ RowV w' w.heap.size v' l ∧ Below w.heap.size w w'
theorem under27s : Try.prog.underlying 27 = some (.slice (Try.prog.elem 27)) := under29
/-- A row's beginning, cut with its capacity. -/
theorem run_cut (g n c m : Nat) (hm : 0 < m) (hc : m ≤ c) (W : World) : (Instr.slice 27 (.slice (some ⟨g, 0, none⟩) n c) none (some (.int .i64 (m : Int))) (some (.int .i64 (m : Int)))).run Try.prog W = .ok (.slice (some ⟨g, 0, none⟩) m m) W := by
  rw [run_slice_hm (w := W) (P := Try.prog) 27 (some ⟨g, 0, none⟩) n c under27s .i64 .i64 (m : Int) (m : Int) (by omega) (by omega) (by omega), elem29, size25]
  simp [sliced, Addr.add, show ¬ m = 0 by omega]
/-- What stands while a row is shuffled: its first i + 1 places are open. -/
structure Shf (Z : List Id2) (g n i d : Nat) (w wr : World) : Prop where
  row : ∃ L, RowJ wr g L ∧ L.length = n ∧ sh i d L = Z
  below : Below w.heap.size w wr
set_option maxHeartbeats 1000000 in
theorem row_any (v : Value) (l : List Id2) (d : Nat) (w : World) (h : Ids w v l) (hl : l.length ≤ 40000) (hd : d < 4294967296) :
    Calls Try.prog 15 #[v, .int .u32 d] w (RowN (rowP l d) w) := by
  have H := Lib.hid h
  have HL := Lib.hid hl
  have hsl := Nat.le_trans (setOf_len l) hl
  have HT := Lib.hid (show sh ((setOf l).length - 1) d (setOf l) = rowP l d from rfl)
  have HP := Lib.hid (rowP_len l d)
  clear h hl
  go_enter Try.func15, Try.ntmps15
  go_wp2_with fail
  refine (set_new v l _ H.out HL.out).mono ?_
  rintro e w1 ⟨r, rfl, ho, hb⟩
  have O1 := Lib.hid (rowV_owns ho)
  have B1 := Lib.hid hb
  clear ho hb H HL
  generalize setOf l = T at *
  generalize rowP l d = Z at *
  rcases O1.out with ⟨rfl, rfl⟩ | ⟨g, c, rfl, hc, hg, hR⟩
  · have hZ : Z = [] := List.eq_nil_of_length_eq_zero (by rw [HP.out]; rfl)
    subst hZ
    go_wp2_with fail
    go_loopw [13] (fun s13 wr => s13 = .int .i64 0 ∧ Hid (Below w.heap.size w wr)) (fun _ _ => 0)
    case atStart => exact ⟨rfl, B1⟩
    case round =>
      obtain ⟨rfl, HB⟩ := hrel
      go_wp2_with fail
      go_ret
      exact ⟨_, rfl, .inl ⟨rfl, rfl⟩, HB.out⟩
  · have i0 : IntKind.i64.wrap ((T.length : Int) - 1) = (T.length : Int) - 1 := IntWalk.i64_in _ ⟨by omega, by omega⟩
    have HG := Lib.hid hg
    have HC := Lib.hid hc
    have HS : Hid (Shf Z g T.length (T.length - 1) d w w1) := Lib.hid ⟨⟨T, hR, rfl, HT.out⟩, B1.out⟩
    clear hR hg hc HT O1 B1
    generalize T.length = n at *
    go_wp2_with fail
    go_loopw [1, 13] (fun s1 s13 wr => ∃ k d' : Nat, s1 = .int .u32 d' ∧ s13 = .int .i64 k ∧ d' < 4294967296 ∧ Hid (Shf Z g n (n - 1 - k) d' w wr)) (fun _ s13 _ => n - (intOf s13).toNat)
    case atStart => exact ⟨0, d, rfl, rfl, hd, HS⟩
    case round =>
      obtain ⟨k, d', rfl, rfl, hd', HW⟩ := hrel
      by_cases hlt : k + 1 < n
      · have hdd : decide ((k : Int) < (n : Int) - 1) = true := decide_eq_true (by omega)
        obtain ⟨m, hm⟩ : ∃ m : Nat, n - k = m := ⟨_, rfl⟩
        have i1 : IntKind.i64.wrap ((n : Int) - (k : Int)) = (m : Int) := by rw [IntWalk.i64_in _ ⟨by omega, by omega⟩]; omega
        have hx := lcg_lt d'
        have j1 : (1664525 * (d' : Int) + 1013904223) % 4294967296 = ((lcg d' : Nat) : Int) := by unfold lcg; omega
        have j2 : (1664525 * (d' : Int) % 4294967296 + 1013904223) % 4294967296 = ((lcg d' : Nat) : Int) := by unfold lcg; omega
        have HX := Lib.hid (show ((lcg d' : Nat) : Int) / 65536 = ((lcg d' / 65536 : Nat) : Int) from (Int.natCast_ediv _ _).symm)
        obtain ⟨L, hL1, hL2, hL3⟩ := HW.out.row
        have HB := Lib.hid HW.out.below
        have HR := Lib.hid hL1
        have HQ := Lib.hid hL3
        have HN := Lib.hid hL2
        clear hL1 hL2 hL3 HW
        have HV := run_cut g n c m (by omega) (by have := HC.out; omega)
        go_wp2_with fail
        rw [HX.out]
        refine (exchange_any g m m _ L wr HR.out (by omega) (by have := HN.out; omega) (by have := HN.out; omega) (by omega)).mono ?_
        rintro e w2 ⟨rfl, hr, hg2⟩
        have HS2 : Hid (Shf Z g n (n - 1 - (k + 1)) (lcg d') w w2) := Lib.hid (by
          refine ⟨⟨_, hr, by rw [swp_len]; exact HN.out, ?_⟩, HB.out.trans (below_grown hg2 HG.out HB.out.size)⟩
          have h3 := HQ.out
          obtain ⟨i, hi⟩ : ∃ i, n - 1 - k = i + 1 := ⟨n - 1 - k - 1, by omega⟩
          rw [hi] at h3
          rw [show n - 1 - (k + 1) = i by omega, show m - 1 = i + 1 by omega, show m = i + 2 by omega]
          exact h3)
        clear hr hg2 HR HQ HN HB
        have i3 : IntKind.i64.wrap ((k : Int) + 1) = (k : Int) + 1 := IntWalk.i64_in _ ⟨by omega, by omega⟩
        go_wp2_with fail
        go_roundw
        case rel => exact ⟨k + 1, lcg d', rfl, rfl, hx, HS2⟩
        case measure => simp [intOf]; omega
      · have hdd : decide ((k : Int) < (n : Int) - 1) = false := decide_eq_false (by omega)
        obtain ⟨L, h1, h2, h3⟩ := HW.out.row
        have HB := Lib.hid HW.out.below
        rw [show n - 1 - k = 0 by omega] at h3
        have HR := Lib.hid (show RowJ wr g Z from (show L = Z from h3) ▸ h1)
        clear h1 h2 h3 HW
        go_wp2_with fail
        go_ret
        exact ⟨.slice (some ⟨g, 0, none⟩) n c, rfl, .inr ⟨g, c, by rw [HP.out], by rw [HP.out]; exact HC.out, HG.out, HR.out⟩, HB.out⟩
end Go.Proofs.Ytmgkbfhkipfimaa
