/-
  Carried over and put together: contracts of this program's functions, and plain facts. No statement is proved in this text.
-/
import Derived.Test.YtkeiekljedhllaaGreatF06
set_option maxRecDepth 20000
namespace Go.Proofs.YtkeiekljedhllaaGreat
open Go Go.RowKit Ros
theorem mbox_set {w : World} {g : Nat} {a i s n : Int} (h : MBox w g a i s n) (a' i' s' n' : Int) : MBox ((((w.setCell ⟨g, 0, none⟩ (.int .i64 a')).setCell ⟨g, 1, none⟩ (.int .i64 i')).setCell ⟨g, 2, none⟩ (.int .u8 s')).setCell ⟨g, 3, none⟩ (.int .i64 n')) g a' i' s' n' := by
  unfold MBox at *
  simp [World.setCell, Array.getElem?_modify, h]
theorem below_box {b0 : Nat} {a w : World} (h : Below b0 a w) (o : Obj) (hb : b0 ≤ a.heap.size) : Below b0 a (w.alloc o) := h.alloc (Nat.le_trans hb h.size) o
end Go.Proofs.YtkeiekljedhllaaGreat
namespace Go.Proofs.YtkeiekljedhllaaGreat
namespace Ros
def floorZ (f : List Id2) (a : Int) : Int := f.foldl (fun c x => if x.1 = a then max c x.2 else c) 0
theorem floorZ_next {f : List Id2} {a : Int} {k : Nat} (hk : k < f.length) : floorZ (f.take (k + 1)) a = if f[k].1 = a then max (floorZ (f.take k) a) f[k].2 else floorZ (f.take k) a := by
  unfold floorZ
  rw [List.take_succ_eq_append_getElem hk, List.foldl_append]
  rfl
def goneB (f : List Id2) (x : Id2) : Bool := decide (x.2 ≤ floorZ f x.1)
def mayNum (s n : Int) : Bool := if s = 1 ∨ s = 2 then decide (n = 0) else if s = 3 ∨ s = 4 then decide (1 ≤ n ∧ n ≤ 1099511627776) else if s = 5 ∨ s = 6 then decide (0 ≤ n ∧ n ≤ 1099511627776) else false
/-- May the k-th floor be, behind the one ahead of it? -/
def okF (f : List Id2) (k : Nat) : Bool := vid f[k]!.1 f[k]!.2 && (decide (k = 0) || decide (f[k - 1]!.1 < f[k]!.1))
def mayF (f : List Id2) : Bool := (List.range f.length).all (okF f)
theorem mayF_no {f : List Id2} {k : Nat} (hk : k < f.length) (h : okF f k = false) : mayF f = false := by
  unfold mayF
  rw [List.all_eq_false]
  exact ⟨k, List.mem_range.2 hk, by rw [h]; simp⟩
theorem mayF_yes {f : List Id2} (h : ∀ k, k < f.length → okF f k = true) : mayF f = true := by
  unfold mayF
  rw [List.all_eq_true]
  exact fun k hk => h k (List.mem_range.1 hk)
theorem okF_is {f : List Id2} {k : Nat} (hk : k < f.length) : okF f k = (vid f[k].1 f[k].2 && (decide (k = 0) || decide (f[k - 1].1 < f[k].1))) := by
  unfold okF
  rw [getElem!_pos f k hk, getElem!_pos f (k - 1) (by omega)]
/-- May the k-th member be, behind the one ahead of it? -/
def okM (m : List Mm) (f : List Id2) (k : Nat) : Bool := vid m[k]!.1.1 m[k]!.1.2 && mayNum m[k]!.2.1 m[k]!.2.2 && !goneB f m[k]!.1 && (decide (k = 0) || decide (m[k - 1]!.1.1 < m[k]!.1.1))
def mayB (m : List Mm) (f : List Id2) : Bool := mayF f && (List.range m.length).all (okM m f)
theorem mayB_no {m : List Mm} {f : List Id2} {k : Nat} (hk : k < m.length) (h : okM m f k = false) : mayB m f = false := by
  unfold mayB
  have : (List.range m.length).all (okM m f) = false := by
    rw [List.all_eq_false]
    exact ⟨k, List.mem_range.2 hk, by rw [h]; simp⟩
  rw [this, Bool.and_false]
theorem mayB_yes {m : List Mm} {f : List Id2} (hf : mayF f = true) (h : ∀ k, k < m.length → okM m f k = true) : mayB m f = true := by
  unfold mayB
  rw [hf, Bool.true_and, List.all_eq_true]
  exact fun k hk => h k (List.mem_range.1 hk)
theorem okM_is {m : List Mm} {f : List Id2} {k : Nat} (hk : k < m.length) : okM m f k = (vid m[k].1.1 m[k].1.2 && mayNum m[k].2.1 m[k].2.2 && !goneB f m[k].1 && (decide (k = 0) || decide (m[k - 1].1.1 < m[k].1.1))) := by
  unfold okM
  rw [getElem!_pos m k hk, getElem!_pos m (k - 1) (by omega)]
end Ros
end Go.Proofs.YtkeiekljedhllaaGreat
namespace Go.Proofs.YtkeiekljedhllaaGreat
open Go Go.RowKit Ros
set_option maxHeartbeats 2000000 in
theorem floor_any (v : Value) (l : List Id2) (a : Int) (w : World) (h : Ids w v l) (hl : l.length ≤ 100000) :
    Calls Tryz.prog 81 #[v, .int .i64 a] w fun e w' => e = .returned (.int .i64 (floorZ l a)) ∧ Below w.heap.size w w' := by
  have HI := Lib.hid h
  obtain ⟨A, c, rfl, hz⟩ := h
  clear hz
  go_enter Tryz.func81, Tryz.ntmps81
  go_wp2_with fail
  go_loopw [5, 10] (fun s5 s10 wr => ∃ k : Nat, k ≤ l.length ∧ s10 = .int .i64 k ∧ s5 = .int .i64 (floorZ (l.take k) a) ∧ Hid (Below w.heap.size w wr)) (fun _ s10 _ => l.length - (intOf s10).toNat)
  case atStart => exact ⟨0, by omega, rfl, rfl, Lib.hid (Below.refl _ _)⟩
  case round =>
    obtain ⟨k, hkl, rfl, rfl, HW⟩ := hrel
    have i3 : (0 : Int) ≤ (k : Int) := by omega
    by_cases hlt : k < l.length
    · have hd : decide ((k : Int) < (l.length : Int)) = true := by simp; omega
      have i4 : (k : Int) < (l.length : Int) := by omega
      obtain ⟨ad, rfl, c1, c2⟩ := HI.out.at_ HW.out hlt
      have HT := Lib.hid (floorZ_next (a := a) hlt)
      have XB := Lib.hid (box_new wr l[k].1 l[k].2)
      have B1 := Lib.hid (below_box HW.out (.cells #[.int .i64 l[k].1, .int .i64 l[k].2] 24) (Nat.le_refl _))
      have hm := fun W => max_two (floorZ (l.take k) a) l[k].2 W
      by_cases he : l[k].1 = a
      · have HF := Lib.hid (show floorZ (l.take (k + 1)) a = max (floorZ (l.take k) a) l[k].2 by rw [HT.out, if_pos he])
        rw [he] at c1 XB B1
        clear he HT
        generalize floorZ (l.take k) a = z at *
        generalize l[k].2 = i at *
        obtain ⟨x1, x2⟩ := box_cells XB.out
        go_wp2_with fail
        go_roundw
        case rel => exact ⟨k + 1, by omega, by go_num, by rw [HF.out], B1⟩
        case measure => simp [intOf]; omega
      · have hb : (l[k].1 == a) = false := beq_eq_false_iff_ne.2 he
        have HF := Lib.hid (show floorZ (l.take (k + 1)) a = floorZ (l.take k) a by rw [HT.out, if_neg he])
        clear he HT
        generalize floorZ (l.take k) a = z at *
        generalize l[k].1 = b at *
        generalize l[k].2 = i at *
        obtain ⟨x1, x2⟩ := box_cells XB.out
        go_wp2_with fail
        go_roundw
        case rel => exact ⟨k + 1, by omega, by go_num, by rw [HF.out], B1⟩
        case measure => simp [intOf]; omega
    · have hd : decide ((k : Int) < (l.length : Int)) = false := by simp; omega
      have HF := Lib.hid (show floorZ (l.take k) a = floorZ l a by rw [List.take_of_length_le (by omega)])
      generalize floorZ (l.take k) a = z at *
      go_wp2_with fail
      go_ret
      exact ⟨ret_int HF.out, HW.out⟩
set_option maxHeartbeats 2000000 in
theorem gone_of (v : Value) (l : List Id2) (a i : Int) (w : World) (h : Ids w v l) (hl : l.length ≤ 100000) :
    Calls Tryz.prog 45 #[v, .agg #[.int .i64 a, .int .i64 i]] w fun e w' => e = .returned (.bool (goneB l (a, i))) ∧ Below w.heap.size w w' := by
  have BB := Lib.hid (below_one w (.cells #[.int .i64 a, .int .i64 i] 24))
  have HI := Lib.hid (h.below BB.out)
  have XB := Lib.hid (box_new w a i)
  have HE : Hid (goneB l (a, i) = decide (i ≤ floorZ l a)) := Lib.hid rfl
  have HL : Hid (l.length ≤ 100000) := Lib.hid hl
  clear h hl
  have HC := Lib.hid fun W (hb : Below (w.alloc (.cells #[.int .i64 a, .int .i64 i] 24)).heap.size (w.alloc (.cells #[.int .i64 a, .int .i64 i] 24)) W) => floor_any v l a W (HI.out.below hb) HL.out
  generalize floorZ l a = z at *
  obtain ⟨A, c, rfl, hz⟩ := HI.out
  clear hz
  have HS := Lib.hid fun W (hb : Below (w.alloc (.cells #[.int .i64 a, .int .i64 i] 24)).heap.size (w.alloc (.cells #[.int .i64 a, .int .i64 i] 24)) W) => And.intro (box_cells (box_below XB.out hb)) (Lib.hid hb)
  obtain ⟨x1, x2⟩ := box_cells XB.out
  go_enter Tryz.func45, Tryz.ntmps45
  go_wp2_with fail
  go_region_held3 (fun w' => (w'.cell? ⟨w.heap.size, 0, none⟩ = some (.int .i64 a) ∧ w'.cell? ⟨w.heap.size, 1, none⟩ = some (.int .i64 i)) ∧ Hid (Below (w.alloc (.cells #[.int .i64 a, .int .i64 i] 24)).heap.size (w.alloc (.cells #[.int .i64 a, .int .i64 i] 24)) w'))
    (first | exact HS.out _ (Below.refl _ _).drew | exact HS.out _ HK.out)
    (first | (go_at_call 81; (with_reducible refine (HC.out _ (Below.refl _ _).drew).mono ?_); rintro e w' ⟨rfl, hb⟩; have HK := Lib.hid ((Below.refl (w.alloc (.cells #[.int .i64 a, .int .i64 i] 24)).heap.size (w.alloc (.cells #[.int .i64 a, .int .i64 i] 24))).drew.trans hb); clear hb))
  go_wp2_with fail
  go_ret
  exact ⟨ret_bool HE.out.symm, below_after BB.out HK.out (Nat.le_refl _)⟩
set_option maxHeartbeats 2000000 in
/-- Has a member a number that one of its status may have? -/
theorem mayNumber_any (a i s n : Int) (w : World) :
    Calls Tryz.prog 44 #[.agg #[.int .i64 a, .int .i64 i, .int .u8 s, .int .i64 n]] w fun e w' => e = .returned (.bool (mayNum s n)) ∧ Below w.heap.size w w' := by
  have BB := Lib.hid (below_one w (.cells #[.int .i64 a, .int .i64 i, .int .u8 s, .int .i64 n] 35))
  obtain ⟨x1, x2, x3, x4⟩ := mbox_cells (mbox_new w a i s n)
  by_cases h1 : s = 1
  · subst h1
    by_cases hn : n = 0
    · subst hn
      have HR := Lib.hid (show mayNum 1 0 = true by decide)
      go_enter Tryz.func44, Tryz.ntmps44
      go_wp2_with fail
      go_ret
      exact ⟨ret_bool HR.out.symm, BB.out⟩
    · have hb : (n == 0) = false := beq_eq_false_iff_ne.2 hn
      have HR := Lib.hid (show mayNum 1 n = false by simp [mayNum, hn])
      go_enter Tryz.func44, Tryz.ntmps44
      go_wp2_with fail
      go_ret
      exact ⟨ret_bool HR.out.symm, BB.out⟩
  · have b1 : (s == 1) = false := beq_eq_false_iff_ne.2 h1
    by_cases h2 : s = 2
    · subst h2
      by_cases hn : n = 0
      · subst hn
        have HR := Lib.hid (show mayNum 2 0 = true by decide)
        go_enter Tryz.func44, Tryz.ntmps44
        go_wp2_with fail
        go_ret
        exact ⟨ret_bool HR.out.symm, BB.out⟩
      · have hb : (n == 0) = false := beq_eq_false_iff_ne.2 hn
        have HR := Lib.hid (show mayNum 2 n = false by simp [mayNum, hn])
        go_enter Tryz.func44, Tryz.ntmps44
        go_wp2_with fail
        go_ret
        exact ⟨ret_bool HR.out.symm, BB.out⟩
    · have b2 : (s == 2) = false := beq_eq_false_iff_ne.2 h2
      by_cases h3 : s = 3
      · subst h3
        by_cases hn : 1 ≤ n
        · by_cases hm : n ≤ 1099511627776
          · have HR := Lib.hid (show mayNum 3 n = true by simp [mayNum]; omega)
            go_enter Tryz.func44, Tryz.ntmps44
            go_wp2_with fail
            go_ret
            exact ⟨ret_bool HR.out.symm, BB.out⟩
          · have HR := Lib.hid (show mayNum 3 n = false by simp [mayNum]; omega)
            have hd : decide (n ≤ 1099511627776) = false := decide_eq_false hm
            go_enter Tryz.func44, Tryz.ntmps44
            go_wp2_with fail
            go_ret
            exact ⟨ret_bool HR.out.symm, BB.out⟩
        · have HR := Lib.hid (show mayNum 3 n = false by simp [mayNum]; omega)
          have hd : decide (1 ≤ n) = false := decide_eq_false hn
          go_enter Tryz.func44, Tryz.ntmps44
          go_wp2_with fail
          go_ret
          exact ⟨ret_bool HR.out.symm, BB.out⟩
      · have b3 : (s == 3) = false := beq_eq_false_iff_ne.2 h3
        by_cases h4 : s = 4
        · subst h4
          by_cases hn : 1 ≤ n
          · by_cases hm : n ≤ 1099511627776
            · have HR := Lib.hid (show mayNum 4 n = true by simp [mayNum]; omega)
              go_enter Tryz.func44, Tryz.ntmps44
              go_wp2_with fail
              go_ret
              exact ⟨ret_bool HR.out.symm, BB.out⟩
            · have HR := Lib.hid (show mayNum 4 n = false by simp [mayNum]; omega)
              have hd : decide (n ≤ 1099511627776) = false := decide_eq_false hm
              go_enter Tryz.func44, Tryz.ntmps44
              go_wp2_with fail
              go_ret
              exact ⟨ret_bool HR.out.symm, BB.out⟩
          · have HR := Lib.hid (show mayNum 4 n = false by simp [mayNum]; omega)
            have hd : decide (1 ≤ n) = false := decide_eq_false hn
            go_enter Tryz.func44, Tryz.ntmps44
            go_wp2_with fail
            go_ret
            exact ⟨ret_bool HR.out.symm, BB.out⟩
        · have b4 : (s == 4) = false := beq_eq_false_iff_ne.2 h4
          by_cases h5 : s = 5
          · subst h5
            by_cases hn : 0 ≤ n
            · by_cases hm : n ≤ 1099511627776
              · have HR := Lib.hid (show mayNum 5 n = true by simp [mayNum]; omega)
                go_enter Tryz.func44, Tryz.ntmps44
                go_wp2_with fail
                go_ret
                exact ⟨ret_bool HR.out.symm, BB.out⟩
              · have HR := Lib.hid (show mayNum 5 n = false by simp [mayNum]; omega)
                have hd : decide (n ≤ 1099511627776) = false := decide_eq_false hm
                go_enter Tryz.func44, Tryz.ntmps44
                go_wp2_with fail
                go_ret
                exact ⟨ret_bool HR.out.symm, BB.out⟩
            · have HR := Lib.hid (show mayNum 5 n = false by simp [mayNum]; omega)
              have hd : decide (0 ≤ n) = false := decide_eq_false hn
              go_enter Tryz.func44, Tryz.ntmps44
              go_wp2_with fail
              go_ret
              exact ⟨ret_bool HR.out.symm, BB.out⟩
          · have b5 : (s == 5) = false := beq_eq_false_iff_ne.2 h5
            by_cases h6 : s = 6
            · subst h6
              by_cases hn : 0 ≤ n
              · by_cases hm : n ≤ 1099511627776
                · have HR := Lib.hid (show mayNum 6 n = true by simp [mayNum]; omega)
                  go_enter Tryz.func44, Tryz.ntmps44
                  go_wp2_with fail
                  go_ret
                  exact ⟨ret_bool HR.out.symm, BB.out⟩
                · have HR := Lib.hid (show mayNum 6 n = false by simp [mayNum]; omega)
                  have hd : decide (n ≤ 1099511627776) = false := decide_eq_false hm
                  go_enter Tryz.func44, Tryz.ntmps44
                  go_wp2_with fail
                  go_ret
                  exact ⟨ret_bool HR.out.symm, BB.out⟩
              · have HR := Lib.hid (show mayNum 6 n = false by simp [mayNum]; omega)
                have hd : decide (0 ≤ n) = false := decide_eq_false hn
                go_enter Tryz.func44, Tryz.ntmps44
                go_wp2_with fail
                go_ret
                exact ⟨ret_bool HR.out.symm, BB.out⟩
            · have b6 : (s == 6) = false := beq_eq_false_iff_ne.2 h6
              have HR := Lib.hid (show mayNum s n = false by simp [mayNum, h1, h2, h3, h4, h5, h6])
              go_enter Tryz.func44, Tryz.ntmps44
              go_wp2_with fail
              go_ret
              exact ⟨ret_bool HR.out.symm, BB.out⟩
end Go.Proofs.YtkeiekljedhllaaGreat
