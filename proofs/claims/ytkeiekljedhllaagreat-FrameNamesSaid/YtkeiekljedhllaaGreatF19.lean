/-
  Carried over and put together: contracts of this program's functions, and plain facts. No statement is proved in this text.
-/
import Derived.Deep.RegionHeld3
import Derived.Test.YtkeiekljedhllaaGreatF18
set_option maxRecDepth 20000
namespace Go.Proofs.YtkeiekljedhllaaGreat
open Go Go.RowKit
theorem members_short {m : List Ros.Mm} {f : List Sets.Id2} (h : Ros.mayB m f = true) : m.length ≤ 12 ∧ ∀ x ∈ m, 0 ≤ x.2.1 ∧ x.2.1 ≤ 255 := by
  unfold Ros.mayB at h
  rw [Bool.and_eq_true, List.all_eq_true] at h
  have hk : ∀ k (hk : k < m.length), Ros.vid m[k].1.1 m[k].1.2 = true ∧ Ros.mayNum m[k].2.1 m[k].2.2 = true ∧ (k = 0 ∨ m[k - 1].1.1 < m[k].1.1) := by
    intro k hk
    have h2 := h.2 k (List.mem_range.2 hk)
    rw [Ros.okM_is hk] at h2
    simp only [Bool.and_eq_true, Bool.or_eq_true, decide_eq_true_eq] at h2
    exact ⟨h2.1.1.1, h2.1.1.2, h2.2⟩
  constructor
  · have hr : ∀ k (hk : k < m.length), (k : Int) + 1 ≤ m[k].1.1 := by
      intro k
      induction k with
      | zero =>
        intro h0
        have := (hk 0 h0).1
        simp [Ros.vid] at this
        omega
      | succ k ih =>
        intro h0
        have h1 := ih (by omega)
        have h2 := (hk (k + 1) h0).2.2
        simp at h2
        omega
    rcases Nat.lt_or_ge 12 m.length with hl | hl
    · exfalso
      have h1 := hr 12 hl
      have h2 := (hk 12 hl).1
      simp [Ros.vid] at h2
      omega
    · exact hl
  · intro x hx
    obtain ⟨k, hl, rfl⟩ := List.getElem_of_mem hx
    have := (hk k hl).2.1
    unfold Ros.mayNum at this
    revert this
    generalize m[k].2.1 = s
    generalize m[k].2.2 = n
    intro this
    by_cases g : 1 ≤ s ∧ s ≤ 6
    · omega
    · exfalso
      rw [if_neg (by omega), if_neg (by omega), if_neg (by omega)] at this
      cases this
theorem mayV_short {V : Vw} (h : mayV V = true) : Short V ∧ ∀ x ∈ V.m, 0 ≤ x.2.1 ∧ x.2.1 ≤ 255 := by
  unfold mayV at h
  simp only [Bool.and_eq_true] at h
  obtain ⟨h1, h2, h3, _⟩ := h
  have hm := members_short h1
  have hr : V.r.length ≤ 64 := by
    rcases Nat.lt_or_ge 64 V.r.length with hl | hl
    · rw [mayB_long hl] at h2; cases h2
    · exact hl
  have hc : V.c.length ≤ 64 := by
    rcases Nat.lt_or_ge 64 V.c.length with hl | hl
    · rw [mayB_longCLK hl] at h3; cases h3
    · exact hl
  exact ⟨⟨by omega, hr, hc, fun x hx => (hm.2 x hx).2⟩, hm.2⟩
theorem fit_no {f : Int} {x y : Bool} {h : Int} (e : (bits .and .u8 h f != 0) = false) : fitsB h f x y = y := by unfold fitsB; rw [e]; rfl
theorem fit_yes {f : Int} {x y : Bool} {h : Int} (e : (bits .and .u8 h f != 0) = true) : fitsB h f x y = x := by unfold fitsB; rw [e]; rfl
theorem fields_kind {k : Int} (h : fieldsN k ≠ 0) : 1 ≤ k ∧ k ≤ 13 := by
  rcases Int.lt_or_le k 1 with h1 | h1
  · exfalso
    apply h
    unfold fieldsN
    rw [if_neg (by omega), if_neg (by omega), if_neg (by omega), if_neg (by omega), if_neg (by omega), if_neg (by omega), if_neg (by omega), if_neg (by omega), if_neg (by omega), if_neg (by omega), if_neg (by omega), if_neg (by omega), if_neg (by omega)]
  · rcases Int.lt_or_le 13 k with h2 | h2
    · exfalso
      apply h
      unfold fieldsN
      rw [if_neg (by omega), if_neg (by omega), if_neg (by omega), if_neg (by omega), if_neg (by omega), if_neg (by omega), if_neg (by omega), if_neg (by omega), if_neg (by omega), if_neg (by omega), if_neg (by omega), if_neg (by omega), if_neg (by omega)]
    · exact ⟨h1, h2⟩
theorem fields_known {h : Int} {k : Int} (e : fieldsN k = h) (h0 : h ≠ 0) : h = 3 ∨ h = 99 ∨ h = 35 ∨ h = 7 ∨ h = 19 ∨ h = 5 ∨ h = 13 ∨ h = 9 ∨ h = 14 ∨ h = 6 := by
  obtain ⟨h1, h2⟩ := fields_kind (by rw [e]; exact h0)
  subst e
  have : k = 1 ∨ k = 2 ∨ k = 3 ∨ k = 4 ∨ k = 5 ∨ k = 6 ∨ k = 7 ∨ k = 8 ∨ k = 9 ∨ k = 10 ∨ k = 11 ∨ k = 12 ∨ k = 13 := by omega
  rcases this with rfl | rfl | rfl | rfl | rfl | rfl | rfl | rfl | rfl | rfl | rfl | rfl | rfl <;> decide
theorem zeroS_is {F : Fr} (h : zeroS F = true) : F.v.c = [] ∧ F.v.s = [] := by
  unfold zeroS at h
  have h2 := eq_of_beq h
  exact ⟨List.eq_nil_of_length_eq_zero (by omega), List.eq_nil_of_length_eq_zero (by omega)⟩
theorem zeroK_is {F : Fr} (h : zeroK F = true) : F.v.m = [] ∧ F.v.f = [] ∧ F.v.r = [] := by
  unfold zeroK at h
  have h2 := eq_of_beq h
  exact ⟨List.eq_nil_of_length_eq_zero (by omega), List.eq_nil_of_length_eq_zero (by omega), List.eq_nil_of_length_eq_zero (by omega)⟩
theorem may_short {F : Fr} (h : mayF F = true) : (1 ≤ F.k ∧ F.k ≤ 13) ∧ Short F.v ∧ ∀ x ∈ F.v.m, 0 ≤ x.2.1 ∧ x.2.1 ≤ 255 := by
  unfold mayF at h
  simp only [Bool.and_eq_true] at h
  obtain ⟨⟨⟨⟨⟨⟨⟨h0, _⟩, _⟩, _⟩, _⟩, _⟩, h6⟩, h7⟩ := h
  have hn : fieldsN F.k ≠ 0 := by simpa using h0
  refine ⟨fields_kind hn, ?_⟩
  unfold y6 at h6
  unfold y7 at h7
  have hk := fields_known rfl hn
  generalize fieldsN F.k = q at *
  have none : (zeroS F = true) → zeroK F = true → Short F.v ∧ ∀ x ∈ F.v.m, 0 ≤ x.2.1 ∧ x.2.1 ≤ 255 := fun a b => by
    obtain ⟨c1, c2⟩ := zeroS_is a
    obtain ⟨d1, d2, d3⟩ := zeroK_is b
    refine ⟨⟨by rw [d1]; simp, by rw [d3]; simp, by rw [c1]; simp, by rw [d1]; simp⟩, by rw [d1]; simp⟩
  rcases hk with rfl | rfl | rfl | rfl | rfl | rfl | rfl | rfl | rfl | rfl
  · rw [fit_no (by kernel_rfl)] at h6 h7; exact none h6 h7
  · rw [fit_yes (by kernel_rfl)] at h6; exact mayV_short h6
  · rw [fit_yes (by kernel_rfl)] at h6; exact mayV_short h6
  · rw [fit_no (by kernel_rfl)] at h6 h7; exact none h6 h7
  · rw [fit_no (by kernel_rfl)] at h6 h7; exact none h6 h7
  · rw [fit_no (by kernel_rfl)] at h6 h7; exact none h6 h7
  · rw [fit_no (by kernel_rfl)] at h6 h7; exact none h6 h7
  · rw [fit_no (by kernel_rfl)] at h6 h7; exact none h6 h7
  · rw [fit_no (by kernel_rfl)] at h6 h7; exact none h6 h7
  · rw [fit_no (by kernel_rfl)] at h6 h7; exact none h6 h7
/-- A frame's bytes, with their sum behind them. -/
def whole (F : Fr) : List UInt8 := (wFr F).1 ++ le4 (Crc.add 0 (wFr F).1)
/-- What is encoded of a frame, and what was wrong. -/
def encE (F : Fr) : Nat := if mayF F = true then (if (wFr F).2 = 0 then (if 8192 < (whole F).length then 40 else 0) else (wFr F).2) else 4
def encB (F : Fr) : List UInt8 := if encE F = 0 then whole F else []
theorem encE_ok {F : Fr} (h : encE F = 0) : mayF F = true ∧ (wFr F).2 = 0 ∧ (whole F).length ≤ 8192 := by
  unfold encE at h
  split at h
  · split at h
    · split at h
      · cases h
      · rename_i h1 h2 h3; exact ⟨h1, h2, by omega⟩
    · rename_i h2; exact absurd h h2
  · cases h
theorem encE_no {F : Fr} (h : mayF F = false) : encE F = 4 ∧ encB F = [] := by
  have e : encE F = 4 := by unfold encE; rw [h]; rfl
  exact ⟨e, by unfold encB; rw [e]; rfl⟩
theorem encE_fail {F : Fr} (h : mayF F = true) (h2 : (wFr F).2 ≠ 0) : encE F = (wFr F).2 ∧ encB F = [] := by
  have e : encE F = (wFr F).2 := by unfold encE; rw [if_pos h, if_neg h2]
  exact ⟨e, by unfold encB; rw [e, if_neg h2]⟩
theorem encE_long {F : Fr} (h : mayF F = true) (h2 : (wFr F).2 = 0) (h3 : 8192 < (whole F).length) : encE F = 40 ∧ encB F = [] := by
  have e : encE F = 40 := by unfold encE; rw [if_pos h, if_pos h2, if_pos h3]
  exact ⟨e, by unfold encB; rw [e]; rfl⟩
theorem encE_good {F : Fr} (h : mayF F = true) (h2 : (wFr F).2 = 0) (h3 : ¬ 8192 < (whole F).length) : encE F = 0 ∧ encB F = whole F := by
  have e : encE F = 0 := by unfold encE; rw [if_pos h, if_pos h2, if_neg h3]
  exact ⟨e, by unfold encB; rw [e]; rfl⟩
theorem bs_append (a b : List UInt8) : bs a ++ bs b = bs (a ++ b) := WideShapes.bytes_inj (by simp [bs])
theorem le4_len (x : Nat) : (le4 x).length = 4 := rfl
theorem wFr_len (F : Fr) (hF : FitVIE 5000 F.v) : (wFr F).1.length ≤ 60000000 := by
  unfold wFr
  refine wView_len _ _ hF ?_
  have h1 := wNum_len ([], 0) F.k
  have h2 := wId_len (wNum ([], 0) F.k) F.f
  have h3 := wId_len (wId (wNum ([], 0) F.k) F.f) F.t
  have h4 := wNum_len (wId (wId (wNum ([], 0) F.k) F.f) F.t) F.n
  have h5 := wNum_len (wNum (wId (wId (wNum ([], 0) F.k) F.f) F.t) F.n) F.q
  have h6 := wId_len (wNum (wNum (wId (wId (wNum ([], 0) F.k) F.f) F.t) F.n) F.q) F.b
  simp at h1
  omega
set_option maxHeartbeats 4000000 in
theorem encode_any (v : Value) (F : Fr) (w : World) (h : FAt w v F) (hF : FitVIE 5000 F.v) :
    Calls Tryz.prog 9 #[v] w fun e w' => e = .returned (.tuple #[.string (bs (encB F)), .int .i64 (encE F : Nat)]) ∧ Below w.heap.size w w' := by
  obtain ⟨a, b, c, d, e, rfl, hr⟩ := h
  have W0 := Lib.hid (below_one w (.cells #[.int .u8 F.k, .int .i64 F.f.1, .int .i64 F.f.2, .int .i64 F.t.1, .int .i64 F.t.2, .int .i64 F.n, .int .i64 F.q, .int .i64 F.b.1, .int .i64 F.b.2, .slice a.1 a.2.1 a.2.2, .slice b.1 b.2.1 b.2.2, .slice c.1 c.2.1 c.2.2, .slice d.1 d.2.1 d.2.2, .slice e.1 e.2.1 e.2.2] 39))
  have X0 := Lib.hid (fbox_new w F a b c d e)
  have R0 := Lib.hid (hr.below W0.out)
  have HF := Lib.hid hF
  have HM := Lib.hid fun W hb => mayF_any _ F W (RV.fat (R0.out.below hb)) hF
  have HW := Lib.hid fun W hb h1 h2 => written_any _ F W (RV.fat (R0.out.below hb)) hF h1 h2
  have HS := Lib.hid (may_short (F := F))
  obtain ⟨p0, p1, p2, p3, p4, p5, p6, p7, p8, p9, p10, p11, p12, p13⟩ := fbox_cells X0.out
  go_enter Tryz.func9, Tryz.ntmps9
  go_wp2_with fail
  (with_reducible refine (HM.out _ (Below.refl _ _)).mono ?_)
  rintro e1 w1 ⟨rfl, hb⟩
  have B1 := Lib.hid hb
  clear hb p0 p1 p2 p3 p4 p5 p6 p7 p8 p9 p10 p11 p12 p13
  obtain ⟨p0, p1, p2, p3, p4, p5, p6, p7, p8, p9, p10, p11, p12, p13⟩ := fbox_cells (fbox_below X0.out B1.out)
  rcases hm : mayF F with _ | _
  · have HE := Lib.hid (encE_no hm)
    clear hm
    go_wp2_with fail
    go_ret2
    exact ⟨ret_pair (by rw [HE.out.2]; rfl) (by rw [HE.out.1]; rfl), below_after W0.out B1.out (Nat.le_refl _)⟩
  · have HK := Lib.hid (HS.out hm)
    have HY := Lib.hid hm
    clear hm
    go_wp2_with fail
    (with_reducible refine (HW.out _ B1.out HK.out.2.2 ⟨by have := HK.out.1; omega, by have := HK.out.1; omega⟩).mono ?_)
    rintro e2 w2 ⟨rfl, hb⟩
    have B2 := Lib.hid (show Below w.heap.size w w2 from below_after (below_after W0.out B1.out (Nat.le_refl _)) hb (Nat.le_refl _))
    clear hb p0 p1 p2 p3 p4 p5 p6 p7 p8 p9 p10 p11 p12 p13 W0 X0 R0 B1
    by_cases hT : (wFr F).2 = 0
    · have dT : (((wFr F).2 : Int) == 0) = true := by simp; omega
      have HT := Lib.hid hT
      have HQ := Lib.hid (show body F = (wFr F).1 from if_pos hT)
      have HU := Lib.hid (wFr_len F HF.out)
      clear hT
      rw [HQ.out]
      generalize hg : (wFr F).2 = T2 at *
      have HG := Lib.hid hg
      clear hg
      go_wp2_with fail
      (with_reducible refine (checksum_any (bs (wFr F).1) _ (by rw [bs_size]; have := HU.out; omega)).mono ?_)
      rw [show (bs (wFr F).1).data.toList = (wFr F).1 by simp [bs]]
      rintro e3 w3 ⟨rfl, hb⟩
      have B3 := Lib.hid (show Below w.heap.size w w3 from below_after B2.out hb (Nat.le_refl _))
      clear hb B2
      have HZ := Lib.hid (show bs (wFr F).1 ++ bs (le4 (Crc.add 0 (wFr F).1)) = bs (whole F) from bs_append _ _)
      have HL := Lib.hid (show (bs (wFr F).1 ++ bs (le4 (Crc.add 0 (wFr F).1))).size = (whole F).length by rw [HZ.out]; exact bs_size _)
      have z1 : (bs (wFr F).1).size ≤ 60000000 := by rw [bs_size]; exact HU.out
      have z2 : (bs (le4 (Crc.add 0 (wFr F).1))).size ≤ 4 := by rw [bs_size]; exact Nat.le_refl _
      generalize bs (wFr F).1 = U1 at *
      generalize bs (le4 (Crc.add 0 (wFr F).1)) = U2 at *
      rw [ByteArray.size_append] at HL
      by_cases h8 : 8192 < (whole F).length
      · have HE := Lib.hid (encE_long HY.out (HG.out.trans HT.out) h8)
        have d8 : 8192 < U1.size + U2.size := by rw [HL.out]; exact h8
        have d9 : (8192 : Int) < (U1.size : Int) + (U2.size : Int) := by omega
        have d7 := decide_eq_true d9
        clear h8
        go_wp2_with fail
        go_ret2
        exact ⟨ret_pair (by rw [HE.out.2]; rfl) (by rw [HE.out.1]; rfl), B3.out⟩
      · have HE := Lib.hid (encE_good HY.out (HG.out.trans HT.out) h8)
        have d8 : ¬ 8192 < U1.size + U2.size := by rw [HL.out]; exact h8
        have d9 : ¬ (8192 : Int) < (U1.size : Int) + (U2.size : Int) := by omega
        have d7 := decide_eq_false d9
        clear h8
        go_wp2_with fail
        go_ret2
        exact ⟨ret_pair (by rw [HE.out.2]; exact HZ.out) (by rw [HE.out.1]; rfl), B3.out⟩
    · have dT : (((wFr F).2 : Int) == 0) = false := by simp; omega
      have HE := Lib.hid (encE_fail HY.out hT)
      generalize hg : (wFr F).2 = T2 at *
      clear hg hT
      go_wp2_with fail
      go_ret2
      exact ⟨ret_pair (by rw [HE.out.2]; rfl) (by rw [HE.out.1]), B2.out⟩
end Go.Proofs.YtkeiekljedhllaaGreat
namespace Go.Proofs.YtkeiekljedhllaaGreat
open Go Go.RowKit
/-- Block p is a frame's reader: it reads by block g, and failed, or not. -/
def PBox (w : World) (p g : Nat) (b : Bool) : Prop := w.heap[p]? = some (.cells #[.pointer (some ⟨g, 0, none⟩), .bool b] 84 (0, 0))
theorem pbox_cells {w : World} {p g : Nat} {b : Bool} (h : PBox w p g b) : w.cell? ⟨p, 0, none⟩ = some (.pointer (some ⟨g, 0, none⟩)) ∧ w.cell? ⟨p, 1, none⟩ = some (.bool b) := by
  unfold PBox at h
  exact ⟨by rw [cell_of_row _ _ 0 _ _ _ h]; rfl, by rw [cell_of_row _ _ 1 _ _ _ h]; rfl⟩
theorem pbox_free {w : World} {p g : Nat} {b : Bool} (h : PBox w p g b) : w.frozen? ⟨p, 1, none⟩ = false := by
  unfold PBox at h
  simp [World.frozen?, h]
theorem pbox_set {w : World} {p g : Nat} {b : Bool} (h : PBox w p g b) : PBox (w.setCell ⟨p, 1, none⟩ (.bool true)) p g true := by
  unfold PBox at *
  simp [World.setCell, Array.getElem?_modify, h]
/-- From one world to a later one: but for new blocks only the two readers' blocks were written. -/
structure Gr (p g : Nat) (w w' : World) : Prop where
  os : w'.os = w.os
  tape : w'.tape = w.tape
  output : w'.output = w.output
  size : w.heap.size ≤ w'.heap.size
  block : ∀ k, k < w.heap.size → k ≠ p → k ≠ g → w'.heap[k]? = w.heap[k]?
theorem Gr.refl (p g : Nat) (w : World) : Gr p g w w := ⟨rfl, rfl, rfl, Nat.le_refl _, fun _ _ _ _ => rfl⟩
theorem Gr.trans {p g : Nat} {a b c : World} (h : Gr p g a b) (k : Gr p g b c) : Gr p g a c :=
  ⟨k.os.trans h.os, k.tape.trans h.tape, k.output.trans h.output, Nat.le_trans h.size k.size, fun i hi hp hg => (k.block i (Nat.lt_of_lt_of_le hi h.size) hp hg).trans (h.block i hi hp hg)⟩
theorem Gr.below {p g B : Nat} {a b c : World} (h : Gr p g a b) (k : Below B b c) (hB : a.heap.size ≤ B) : Gr p g a c :=
  ⟨k.os.trans h.os, k.tape.trans h.tape, k.output.trans h.output, Nat.le_trans h.size k.size, fun i hi hp hg => (k.block i (by omega)).trans (h.block i hi hp hg)⟩
theorem Gr.grown {p g : Nat} {a b c : World} (h : Gr p g a b) (k : b.grownBy c (some g)) : Gr p g a c :=
  ⟨k.os.trans h.os, k.tape.trans h.tape, k.output.trans h.output, Nat.le_trans h.size k.size, fun i hi hp hg => (k.block i (Nat.lt_of_lt_of_le hi h.size) (fun e => hg (by injection e))).trans (h.block i hi hp hg)⟩
theorem Gr.set {p g : Nat} {a b : World} (h : Gr p g a b) (v : Value) : Gr p g a (b.setCell ⟨p, 1, none⟩ v) :=
  ⟨h.os, h.tape, h.output, by have := h.size; simpa [World.setCell] using this, fun i hi hp hg => (Below.heap_setCell _ _ _ _ hp).trans (h.block i hi hp hg)⟩
/-- What stands of the readers. -/
structure RSt (w : World) (p g : Nat) (s : RS) : Prop where
  x : PBox w p g s.2.2
  r : Rdr w g s.1 s.2.1
theorem RSt.ne {w : World} {p g : Nat} {s : RS} (h : RSt w p g s) : p ≠ g := by
  rintro rfl
  have h1 := h.x
  have h2 := h.r
  unfold PBox at h1
  unfold Rdr at h2
  rw [h1] at h2
  injection h2 with h2
  injection h2 with _ ht
  exact absurd ht (by decide)
theorem RSt.lt {w : World} {p g : Nat} {s : RS} (h : RSt w p g s) : p < w.heap.size ∧ g < w.heap.size := ⟨row_lt h.x, row_lt h.r⟩
theorem RSt.below {B : Nat} {w w' : World} {p g : Nat} {s : RS} (h : RSt w p g s) (hb : Below B w w') (hp : p < B) (hg : g < B) : RSt w' p g s := ⟨(hb.block p hp).trans h.x, (hb.block g hg).trans h.r⟩
theorem RSt.later {w w' : World} {p g : Nat} {s : RS} (h : RSt w p g s) (hb : Below w.heap.size w w') : RSt w' p g s := h.below hb h.lt.1 h.lt.2
/-- A block of another type stays. -/
theorem Gr.kept {w w' : World} {p g k : Nat} {s : RS} (h : Gr p g w w') (hs : RSt w p g s) {cs : Array Value} {T : TypeId} {fr : Nat × Nat} (hk : w.heap[k]? = some (.cells cs T fr)) (h1 : T ≠ 84) (h2 : T ≠ 113) : w'.heap[k]? = some (.cells cs T fr) := by
  refine (h.block k (row_lt hk) ?_ ?_).trans hk
  · rintro rfl
    have hx := hs.x
    unfold PBox at hx
    rw [hx] at hk
    injection hk with hk
    injection hk with _ ht
    exact h1 ht.symm
  · rintro rfl
    have hx := hs.r
    unfold Rdr at hx
    rw [hx] at hk
    injection hk with hk
    injection hk with _ ht
    exact h2 ht.symm
/-- A row of the call's own stays. -/
theorem Gr.row {w w' : World} {p g : Nat} {s : RS} (h : Gr p g w w') (hs : RSt w p g s) {base sz n : Nat} {e : TypeId} {v : Value} {xs : List Value} (ho : w.ownsRow base e sz v n xs) (h1 : e ≠ 84) (h2 : e ≠ 113) : w'.ownsRow base e sz v n xs := by
  refine ⟨ho.1, ?_⟩
  rcases id ho.2 with hn | ⟨k, cap, cur, rfl, hb, hh, rest⟩
  · exact .inl hn
  · exact .inr ⟨k, cap, cur, rfl, hb, h.kept hs hh h1 h2, rest⟩
/-- What is read: a value, and what is left. -/
def Gave (p g : Nat) (v : Value) (s : RS) (w : World) (e : Ending) (w' : World) : Prop := e = .returned v ∧ RSt w' p g s ∧ Gr p g w w'
set_option maxHeartbeats 2000000 in
theorem rUp_any (p g : Nat) (most : Int) (s : RS) (w : World) (h : RSt w p g s) : Calls Tryz.prog 71 #[.pointer (some ⟨p, 0, none⟩), .int .i64 most] w (Gave p g (.int .i64 (rUp most s).1) (rUp most s).2 w) := by
  have HS := Lib.hid h
  have HN := Lib.hid (rNum_any g s.2.1 s.1 w h.r)
  have HU : Hid (rUp most s = if (numS s.1 s.2.1).2.1 ≠ 0 ∨ most < ((numS s.1 s.2.1).1 : Int) then (0, (numS s.1 s.2.1).2.2, (numS s.1 s.2.1).2.1, true)
    else (((numS s.1 s.2.1).1 : Int), (numS s.1 s.2.1).2.2, (numS s.1 s.2.1).2.1, s.2.2)) := Lib.hid rfl
  obtain ⟨c0, c1⟩ := pbox_cells h.x
  clear h
  generalize numS s.1 s.2.1 = r at *
  obtain ⟨n, e, l⟩ := r
  go_enter Tryz.func71, Tryz.ntmps71
  go_wp2_with fail
  (with_reducible refine HN.out.mono ?_)
  rintro e1 w1 ⟨rfl, hg, hr⟩
  have HG := Lib.hid ((Gr.refl p g w).grown hg)
  have HX := Lib.hid (show PBox w1 p g s.2.2 from (hg.block p HS.out.lt.1 (fun e => HS.out.ne (by injection e))).trans HS.out.x)
  have HR := Lib.hid (show Rdr w1 g l e from hr)
  clear hg hr HN c0 c1
  obtain ⟨c0, c1⟩ := pbox_cells HX.out
  have f1 := pbox_free HX.out
  by_cases he : e = 0
  · subst he
    by_cases hm : most < (n : Int)
    · have HV := Lib.hid (show rUp most s = (0, l, 0, true) by rw [HU.out]; exact if_pos (.inr hm))
      have dm := decide_eq_true hm
      clear HU
      go_wp2_with fail
      go_ret
      rw [HV.out]
      exact ⟨rfl, ⟨pbox_set HX.out, (Below.heap_setCell _ _ _ _ (fun e => HS.out.ne e.symm)).trans HR.out⟩, HG.out.set _⟩
    · have HV := Lib.hid (show rUp most s = ((n : Int), l, 0, s.2.2) by rw [HU.out]; exact if_neg (by rintro (h | h); exact h rfl; exact hm h))
      have dm := decide_eq_false hm
      clear HU
      go_wp2_with fail
      go_ret
      rw [HV.out]
      exact ⟨rfl, ⟨HX.out, HR.out⟩, HG.out⟩
  · have de : ((e : Int) == 0) = false := by simp; omega
    have HV := Lib.hid (show rUp most s = (0, l, e, true) by rw [HU.out]; exact if_pos (.inl he))
    have hne : ¬ (e : Int) = 0 := by omega
    clear HU
    go_wp2_with fail
    go_ret
    rw [HV.out]
    exact ⟨rfl, ⟨pbox_set HX.out, (Below.heap_setCell _ _ _ _ (fun e => HS.out.ne e.symm)).trans HR.out⟩, HG.out.set _⟩
theorem rUp_bounds (most : Int) (s : RS) (h : 0 ≤ most) : 0 ≤ (rUp most s).1 ∧ (rUp most s).1 ≤ most := by
  unfold rUp
  split
  · exact ⟨Int.le_refl _, h⟩
  · rename_i hn
    constructor
    · exact Int.natCast_nonneg _
    · exact Int.not_lt.1 fun e => hn (.inr e)
set_option maxHeartbeats 2000000 in
theorem rNum_is_any (p g : Nat) (s : RS) (w : World) (h : RSt w p g s) : Calls Tryz.prog 40 #[.pointer (some ⟨p, 0, none⟩)] w (Gave p g (.int .i64 (rNum s).1) (rNum s).2 w) := by
  have HC := Lib.hid (rUp_any p g 1099511627776 s w h)
  go_enter Tryz.func40, Tryz.ntmps40
  go_wp2_with fail
  (with_reducible refine HC.out.mono ?_)
  rintro e1 w1 ⟨rfl, h1, h2⟩
  have H1 := Lib.hid h1
  have H2 := Lib.hid h2
  clear h1 h2 h
  go_wp2_with fail
  go_ret
  exact ⟨rfl, H1.out, H2.out⟩
set_option maxHeartbeats 2000000 in
theorem rSmall_any (p g : Nat) (s : RS) (w : World) (h : RSt w p g s) : Calls Tryz.prog 38 #[.pointer (some ⟨p, 0, none⟩)] w (Gave p g (.int .u8 (rSmall s).1) (rSmall s).2 w) := by
  have HC := Lib.hid (rUp_any p g 255 s w h)
  obtain ⟨b1, b2⟩ := rUp_bounds 255 s (by decide)
  have HV : Hid (rSmall s = rUp 255 s) := Lib.hid rfl
  generalize rUp 255 s = r at *
  obtain ⟨n, r⟩ := r
  dsimp only at b1 b2
  go_enter Tryz.func38, Tryz.ntmps38
  go_wp2_with fail
  (with_reducible refine HC.out.mono ?_)
  rintro e1 w1 ⟨rfl, h1, h2⟩
  have H1 := Lib.hid h1
  have H2 := Lib.hid h2
  clear h1 h2 h HC
  dsimp only
  have hm : n % 256 = n := by omega
  go_wp2_with fail
  go_ret
  rw [HV.out]
  refine ⟨?_, H1.out, H2.out⟩
  first | rfl | exact ret_int hm
theorem Gr.fresh {p g X : Nat} {a b : World} (h : Gr p g a b) (hX : a.heap.size ≤ X) (j : Nat) (v : Value) : Gr p g a (b.setCell ⟨X, j, none⟩ v) :=
  ⟨h.os, h.tape, h.output, by have := h.size; simpa [World.setCell] using this, fun i hi hp hg => (Below.heap_setCell _ _ _ _ (Nat.ne_of_lt (Nat.lt_of_lt_of_le hi hX))).trans (h.block i hi hp hg)⟩
theorem RSt.fresh {w : World} {p g X : Nat} {s : RS} (h : RSt w p g s) (hp : p ≠ X) (hg : g ≠ X) (j : Nat) (v : Value) : RSt (w.setCell ⟨X, j, none⟩ v) p g s :=
  ⟨(Below.heap_setCell _ _ _ _ hp).trans h.x, (Below.heap_setCell _ _ _ _ hg).trans h.r⟩
theorem Gr.boxed {p g : Nat} {w w' : World} {o : Obj} (h : Gr p g (w.alloc o) w') : Gr p g w w' :=
  ⟨h.os, h.tape, h.output, by have := h.size; simp at this; omega, fun k hk hp hg => (h.block k (by simp; omega) hp hg).trans (Below.heap_alloc w o k hk)⟩
theorem box_two {w : World} {X : Nat} {a i : Int} (h : Box w X a i) (b j : Int) : Box ((w.setCell ⟨X, 0, none⟩ (.int .i64 b)).setCell ⟨X, 1, none⟩ (.int .i64 j)) X b j := by
  unfold Box at *
  simp [World.setCell, Array.getElem?_modify, h]
theorem box_open {w : World} {X : Nat} {a i : Int} (h : Box w X a i) : w.frozen? ⟨X, 0, none⟩ = false ∧ w.frozen? ⟨X, 1, none⟩ = false := by
  unfold Box at h
  exact ⟨by simp [World.frozen?, h], by simp [World.frozen?, h]⟩
set_option maxHeartbeats 2000000 in
theorem rId_any (p g : Nat) (s : RS) (w : World) (h : RSt w p g s) : Calls Tryz.prog 39 #[.pointer (some ⟨p, 0, none⟩)] w (Gave p g (.agg #[.int .i64 (rId s).1.1, .int .i64 (rId s).1.2]) (rId s).2 w) := by
  have HP := Lib.hid h.lt
  have B0 := Lib.hid (below_one w (.cells #[.int .i64 0, .int .i64 0] 24))
  have R0 := Lib.hid (h.later B0.out)
  have X0 := Lib.hid (box_new w 0 0)
  have HV : Hid (rId s = (((rNum s).1, (rNum (rNum s).2).1), (rNum (rNum s).2).2)) := Lib.hid rfl
  clear h
  go_enter Tryz.func39, Tryz.ntmps39
  go_wp2_with fail
  (with_reducible refine (rNum_is_any p g s _ R0.out).mono ?_)
  rintro e1 w1 ⟨rfl, h1, h2⟩
  have X1 := Lib.hid (show Box w1 w.heap.size 0 0 from h2.kept R0.out X0.out (by decide) (by decide))
  have R1 := Lib.hid h1
  have G1 := Lib.hid h2.boxed
  clear h1 h2 B0 R0 X0
  go_wp2_with fail
  (with_reducible refine (rNum_is_any p g (rNum s).2 _ R1.out).mono ?_)
  rintro e2 w2 ⟨rfl, h1, h2⟩
  have X2 := Lib.hid (show Box w2 w.heap.size 0 0 from h2.kept R1.out X1.out (by decide) (by decide))
  have R2 := Lib.hid h1
  have G2 := Lib.hid (G1.out.trans h2)
  clear h1 h2 R1 G1 X1
  obtain ⟨c0, c1⟩ := box_cells X2.out
  obtain ⟨f0, f1⟩ := box_open X2.out
  generalize hq : (rNum s).2 = s2 at *
  have HQ := Lib.hid hq
  clear hq
  generalize hx : (rNum s).1 = x at *
  have HX := Lib.hid hx
  clear hx
  generalize hy : (rNum s2).1 = y at *
  have HY := Lib.hid hy
  clear hy
  have X3 := Lib.hid (box_two X2.out x y)
  obtain ⟨q0, q1⟩ := box_cells X3.out
  go_wp2_with fail
  refine bodyPost_ret (v := .agg #[.int .i64 x, .int .i64 y]) (by simp [results, Tryz.results39, go_sem, q0, q1]) rfl ?_
  clear HQ HX HY c0 c1 f0 f1
  rw [HV.out]
  exact ⟨rfl, (R2.out.fresh (by have := HP.out.1; omega) (by have := HP.out.2; omega) 0 _).fresh (by have := HP.out.1; omega) (by have := HP.out.2; omega) 1 _, (G2.out.fresh (Nat.le_refl _) 0 _).fresh (Nat.le_refl _) 1 _⟩
end Go.Proofs.YtkeiekljedhllaaGreat
namespace Go.Proofs.YtkeiekljedhllaaGreat
open Go Go.RowKit
theorem Gr.one {w w' : World} {p g X : Nat} {s : RS} {v : Value} (h : Gr p g w w') (hs : RSt w p g s) (k : One w X 80 v) : One w' X 80 v := h.kept hs k (by decide) (by decide)
theorem RSt.drew {w : World} {p g : Nat} {s : RS} (h : RSt w p g s) : RSt w.drew p g s := ⟨h.x, h.r⟩
theorem Gr.drew {w w' : World} {p g : Nat} (h : Gr p g w.drew w') : Gr p g w w' := ⟨h.os, h.tape, h.output, h.size, h.block⟩
theorem tbox_free {w : World} {g : Nat} {a i n : Int} (h : TBox w g a i n) : w.frozen? ⟨g, 0, none⟩ = false ∧ w.frozen? ⟨g, 1, none⟩ = false ∧ w.frozen? ⟨g, 2, none⟩ = false := by
  unfold TBox at h
  exact ⟨by simp [World.frozen?, h], by simp [World.frozen?, h], by simp [World.frozen?, h]⟩
theorem tbox_set {w : World} {g : Nat} {a i n : Int} (h : TBox w g a i n) (a' i' n' : Int) : TBox (((w.setCell ⟨g, 0, none⟩ (.int .i64 a')).setCell ⟨g, 1, none⟩ (.int .i64 i')).setCell ⟨g, 2, none⟩ (.int .i64 n')) g a' i' n' := by
  unfold TBox at *
  simp [World.setCell, Array.getElem?_modify, h]
theorem Gr.sets {p g : Nat} {a b c : World} (h : Gr p g a b) (k : ∀ i, i ≠ a.heap.size → c.heap[i]? = b.heap[i]?) (e : (c.os, c.tape, c.output, c.heap.size) = (b.os, b.tape, b.output, b.heap.size)) : Gr p g a c := by
  injection e with e1 e
  injection e with e2 e
  injection e with e3 e4
  exact ⟨e1.trans h.os, e2.trans h.tape, e3.trans h.output, by rw [e4]; exact h.size, fun i hi hp hg => (k i (by omega)).trans (h.block i hi hp hg)⟩
set_option maxHeartbeats 4000000 in
theorem rTick_any (p g X : Nat) (s : RS) (w : World) (h : RSt w p g s) (hX : One w X 80 (.pointer (some ⟨p, 0, none⟩))) : Calls Tryz.prog 78 #[.pointer (some ⟨X, 0, none⟩)] w (Gave p g (.agg #[.int .i64 (rTick s).1.1.1, .int .i64 (rTick s).1.1.2, .int .i64 (rTick s).1.2]) (rTick s).2 w) := by
  have HP := Lib.hid h.lt
  have B0 := Lib.hid (below_one w (.cells #[.int .i64 0, .int .i64 0, .int .i64 0] 27))
  have R0 := Lib.hid (h.later B0.out)
  have X0 := Lib.hid (one_below hX B0.out)
  have T0 := Lib.hid (tbox_new w 0 0 0)
  have HV : Hid (rTick s = (((rId s).1, (rNum (rId s).2).1), (rNum (rId s).2).2)) := Lib.hid rfl
  clear h hX
  have x0 := one_cell X0.out
  go_enter Tryz.func78, Tryz.ntmps78
  go_wp2_with fail
  (with_reducible refine (rId_any p g s _ R0.out).mono ?_)
  rintro e1 w1 ⟨rfl, h1, h2⟩
  generalize rId s = r1 at *
  obtain ⟨⟨a, i⟩, s1⟩ := r1
  dsimp only at h1
  dsimp only
  have T1 := Lib.hid (show TBox (w1.alloc (.cells #[.int .i64 a, .int .i64 i] 24)) w.heap.size 0 0 0 from tbox_below (h2.kept R0.out T0.out (by decide) (by decide)) (below_one _ _))
  have X1 := Lib.hid (one_below (h2.one R0.out X0.out) (below_one w1 (.cells #[.int .i64 a, .int .i64 i] 24)))
  have R1 := Lib.hid (h1.later (below_one w1 (.cells #[.int .i64 a, .int .i64 i] 24)))
  have I1 := Lib.hid (box_new w1 a i)
  have G1 := Lib.hid ((h2.boxed).below (below_one w1 (.cells #[.int .i64 a, .int .i64 i] 24)) h2.boxed.size)
  have Z1 := Lib.hid (show w.heap.size < w1.heap.size from Nat.lt_of_lt_of_le (by simp) h2.size)
  have HJ := Lib.hid (show (rNum s1) = rNum s1 from rfl)
  clear h1 h2 B0 R0 X0 T0 x0 HJ
  generalize hI : w1.heap.size = I at *
  have hI2 := hI
  clear hI
  have x0 := one_cell X1.out
  have RC := Lib.hid fun W (hW : RSt W p g s1) => rNum_is_any p g s1 W hW
  have HV2 : Hid (∃ r, r = rNum s1) := Lib.hid ⟨_, rfl⟩
  generalize rNum s1 = r3 at *
  obtain ⟨n, s3⟩ := r3
  clear HV2
  dsimp only at *
  go_wp2_with fail
  have hI3 := Z1.out
  have TNE := Lib.hid (show X ≠ w.heap.size by rintro rfl; have h1 := X1.out; have h2 := T1.out; unfold One at h1; unfold TBox at h2; rw [h1] at h2; injection h2 with h2; injection h2 with _ ht; exact absurd ht (by decide))
  refine wp_region_held_drew (S := fun w' => w'.cell? ⟨I, 0, none⟩ = some (.int .i64 a) ∧ w'.cell? ⟨I, 1, none⟩ = some (.int .i64 i) ∧ w'.cell? ⟨X, 0, none⟩ = some (.pointer (some ⟨p, 0, none⟩))) (by kernel_rfl) ?_ (fun hHeld => ?_)
  · exact ⟨(box_cells I1.out).1, (box_cells I1.out).2, one_cell X1.out⟩
  (refine wpAnyH_take (i := 0) (oi := ⟨_, _, _, _, _, _⟩) (v := ?_) rfl (by kernel_rfl) (by kernel_rfl) (by kernel_rfl) (fun _ _ _ h => h) (Or.inl ⟨by rfl, ?_⟩) (by assumption) ?_; rotate_left 1; · (intro w hSw; (try dsimp only at hSw); go_simp; all_goals with_reducible rfl))
  try simp only [Act.put, List.setIfInBounds_toArray, List.set_cons_zero, List.set_cons_succ]
  (refine wpAnyH_take (i := 1) (oi := ⟨_, _, _, _, _, _⟩) (v := ?_) rfl (by kernel_rfl) (by kernel_rfl) (by kernel_rfl) (fun _ _ _ h => h) (Or.inl ⟨by rfl, ?_⟩) (by assumption) ?_; rotate_left 1; · (intro w hSw; (try dsimp only at hSw); go_simp; all_goals with_reducible rfl))
  try simp only [Act.put, List.setIfInBounds_toArray, List.set_cons_zero, List.set_cons_succ]
  refine wpAnyH_ready (rs := [2]) (by kernel_rfl) (by simp) ?_
  refine AllReadyH.cons (o := ⟨_, _, _, _, _, _⟩) rfl (fun Kq hKq => ?_) AllReadyH.nil
  go_simp
  clear hHeld
  (go_at_call 40; (with_reducible refine (RC.out _ R1.out.drew).mono ?_); rintro e3 w3 ⟨rfl, h1, h2'⟩; have h2 := h2'.drew; clear h2'; have T3 := Lib.hid (show TBox w3 w.heap.size 0 0 0 from h2.kept R1.out T1.out (by decide) (by decide)); have X3 := Lib.hid (h2.one R1.out X1.out); have I3 := Lib.hid (show Box w3 I a i from h2.kept R1.out I1.out (by decide) (by decide)); have R3 := Lib.hid h1; have G3 := Lib.hid (G1.out.trans h2); clear h1 h2)
  refine hKq.out _ _ ?_ (fun hHeld => ?_)
  · (try dsimp only); exact ⟨(box_cells I3.out).1, (box_cells I3.out).2, one_cell X3.out⟩
  clear hKq Kq
  try simp only [Act.put, List.setIfInBounds_toArray, List.set_cons_zero, List.set_cons_succ]
  (refine wpAnyH_take (i := 3) (oi := ⟨_, _, _, _, _, _⟩) (v := ?_) rfl (by kernel_rfl) (by kernel_rfl) (by kernel_rfl) (fun _ _ _ h => h) (Or.inl ⟨by rfl, ?_⟩) (by assumption) ?_; rotate_left 1; · (intro w hSw; (try dsimp only at hSw); go_simp; all_goals with_reducible rfl))
  try simp only [Act.put, List.setIfInBounds_toArray, List.set_cons_zero, List.set_cons_succ]
  obtain ⟨c0, c1, c2⟩ := tbox_cells T3.out
  obtain ⟨f0, f1, f2⟩ := tbox_free T3.out
  have T4 := Lib.hid (tbox_set T3.out a i n)
  refine wpAnyH_ready (rs := [4]) (by kernel_rfl) (by simp) ?_
  refine AllReadyH.cons (o := ⟨_, _, _, _, _, _⟩) rfl (fun Kq hKq => ?_) AllReadyH.nil
  go_simp
  clear hHeld
  (have HB := Lib.hid (fun k (hk : k ≠ w.heap.size) => show (((w3.setCell ⟨w.heap.size, 0, none⟩ (.int .i64 a)).setCell ⟨w.heap.size, 1, none⟩ (.int .i64 i)).setCell ⟨w.heap.size, 2, none⟩ (.int .i64 n)).heap[k]? = w3.heap[k]? from (Below.heap_setCell _ _ _ _ hk).trans <| (Below.heap_setCell _ _ _ _ hk).trans <| Below.heap_setCell _ _ _ _ hk); have X4 := Lib.hid (show One (((w3.setCell ⟨w.heap.size, 0, none⟩ (.int .i64 a)).setCell ⟨w.heap.size, 1, none⟩ (.int .i64 i)).setCell ⟨w.heap.size, 2, none⟩ (.int .i64 n)) X 80 (.pointer (some ⟨p, 0, none⟩)) from (HB.out X (fun e => TNE.out e)).trans X3.out); have I4 := Lib.hid (show Box (((w3.setCell ⟨w.heap.size, 0, none⟩ (.int .i64 a)).setCell ⟨w.heap.size, 1, none⟩ (.int .i64 i)).setCell ⟨w.heap.size, 2, none⟩ (.int .i64 n)) I a i from (HB.out I (by omega)).trans I3.out))
  refine hKq.out _ _ ?_ (fun hHeld => ?_)
  · (try dsimp only); exact ⟨(box_cells I4.out).1, (box_cells I4.out).2, one_cell X4.out⟩
  clear hKq Kq
  try simp only [Act.put, List.setIfInBounds_toArray, List.set_cons_zero, List.set_cons_succ]
  refine wpAnyH_done (by kernel_rfl) ?_ _
  clear c0 c1 c2 f0 f1 f2
  obtain ⟨q0, q1, q2⟩ := tbox_cells T4.out
  go_wp2_with fail
  refine bodyPost_ret (v := .agg #[.int .i64 a, .int .i64 i, .int .i64 n]) (by simp [results, Tryz.results78, go_sem, q0, q1, q2]) rfl ?_
  rw [HV.out]
  have hp := HP.out
  refine ⟨rfl, ⟨(HB.out p (by omega)).trans R3.out.x, (HB.out g (by omega)).trans R3.out.r⟩, ?_⟩
  exact Gr.sets G3.out HB.out (by simp [World.setCell])
set_option maxHeartbeats 4000000 in
theorem rMem_any (p g X : Nat) (s : RS) (w : World) (h : RSt w p g s) (hX : One w X 80 (.pointer (some ⟨p, 0, none⟩))) : Calls Tryz.prog 73 #[.pointer (some ⟨X, 0, none⟩)] w (Gave p g (.agg #[.int .i64 (rMem s).1.1.1, .int .i64 (rMem s).1.1.2, .int .u8 (rMem s).1.2.1, .int .i64 (rMem s).1.2.2]) (rMem s).2 w) := by
  have HP := Lib.hid h.lt
  have B0 := Lib.hid (below_one w (.cells #[.int .i64 0, .int .i64 0, .int .u8 0, .int .i64 0] 35))
  have R0 := Lib.hid (h.later B0.out)
  have X0 := Lib.hid (one_below hX B0.out)
  have T0 := Lib.hid (mbox_new w 0 0 0 0)
  have HV : Hid (rMem s = (((rId s).1, (rSmall (rId s).2).1, (rNum (rSmall (rId s).2).2).1), (rNum (rSmall (rId s).2).2).2)) := Lib.hid rfl
  clear h hX
  have x0 := one_cell X0.out
  go_enter Tryz.func73, Tryz.ntmps73
  go_wp2_with fail
  (with_reducible refine (rId_any p g s _ R0.out).mono ?_)
  rintro e1 w1 ⟨rfl, h1, h2⟩
  generalize rId s = r1 at *
  obtain ⟨⟨a, i⟩, s1⟩ := r1
  dsimp only at h1
  dsimp only
  have T1 := Lib.hid (show MBox (w1.alloc (.cells #[.int .i64 a, .int .i64 i] 24)) w.heap.size 0 0 0 0 from mbox_below (h2.kept R0.out T0.out (by decide) (by decide)) (below_one _ _))
  have X1 := Lib.hid (one_below (h2.one R0.out X0.out) (below_one w1 (.cells #[.int .i64 a, .int .i64 i] 24)))
  have R1 := Lib.hid (h1.later (below_one w1 (.cells #[.int .i64 a, .int .i64 i] 24)))
  have I1 := Lib.hid (box_new w1 a i)
  have G1 := Lib.hid ((h2.boxed).below (below_one w1 (.cells #[.int .i64 a, .int .i64 i] 24)) h2.boxed.size)
  have Z1 := Lib.hid (show w.heap.size < w1.heap.size from Nat.lt_of_lt_of_le (by simp) h2.size)
  have HJ := Lib.hid (show (rNum s1) = rNum s1 from rfl)
  clear h1 h2 B0 R0 X0 T0 x0 HJ
  generalize hI : w1.heap.size = I at *
  have hI2 := hI
  clear hI
  have x0 := one_cell X1.out
  go_wp2_with fail
  (with_reducible refine (rSmall_any p g s1 _ R1.out).mono ?_)
  rintro e2 w2 ⟨rfl, h1, h2⟩
  generalize rSmall s1 = r2 at *
  obtain ⟨st, s2⟩ := r2
  dsimp only at h1
  dsimp only
  have T2 := Lib.hid (show MBox w2 w.heap.size 0 0 0 0 from h2.kept R1.out T1.out (by decide) (by decide))
  have X2 := Lib.hid (h2.one R1.out X1.out)
  have R2 := Lib.hid h1
  have I2 := Lib.hid (show Box w2 I a i from h2.kept R1.out I1.out (by decide) (by decide))
  have G2 := Lib.hid (G1.out.trans h2)
  clear h1 h2 R1 X1 T1 G1 I1 x0
  have x0 := one_cell X2.out
  have RC := Lib.hid fun W (hW : RSt W p g s2) => rNum_is_any p g s2 W hW
  have HV2 : Hid (∃ r, r = rNum s2) := Lib.hid ⟨_, rfl⟩
  generalize rNum s2 = r3 at *
  obtain ⟨n, s3⟩ := r3
  clear HV2
  dsimp only at *
  go_wp2_with fail
  have hI3 := Z1.out
  have TNE := Lib.hid (show X ≠ w.heap.size by rintro rfl; have h1 := X2.out; have h2 := T2.out; unfold One at h1; unfold MBox at h2; rw [h1] at h2; injection h2 with h2; injection h2 with _ ht; exact absurd ht (by decide))
  refine wp_region_held_drew (S := fun w' => w'.cell? ⟨I, 0, none⟩ = some (.int .i64 a) ∧ w'.cell? ⟨I, 1, none⟩ = some (.int .i64 i) ∧ w'.cell? ⟨X, 0, none⟩ = some (.pointer (some ⟨p, 0, none⟩))) (by kernel_rfl) ?_ (fun hHeld => ?_)
  · exact ⟨(box_cells I2.out).1, (box_cells I2.out).2, one_cell X2.out⟩
  (refine wpAnyH_take (i := 0) (oi := ⟨_, _, _, _, _, _⟩) (v := ?_) rfl (by kernel_rfl) (by kernel_rfl) (by kernel_rfl) (fun _ _ _ h => h) (Or.inl ⟨by rfl, ?_⟩) (by assumption) ?_; rotate_left 1; · (intro w hSw; (try dsimp only at hSw); go_simp; all_goals with_reducible rfl))
  try simp only [Act.put, List.setIfInBounds_toArray, List.set_cons_zero, List.set_cons_succ]
  (refine wpAnyH_take (i := 1) (oi := ⟨_, _, _, _, _, _⟩) (v := ?_) rfl (by kernel_rfl) (by kernel_rfl) (by kernel_rfl) (fun _ _ _ h => h) (Or.inl ⟨by rfl, ?_⟩) (by assumption) ?_; rotate_left 1; · (intro w hSw; (try dsimp only at hSw); go_simp; all_goals with_reducible rfl))
  try simp only [Act.put, List.setIfInBounds_toArray, List.set_cons_zero, List.set_cons_succ]
  (refine wpAnyH_take (i := 2) (oi := ⟨_, _, _, _, _, _⟩) (v := ?_) rfl (by kernel_rfl) (by kernel_rfl) (by kernel_rfl) (fun _ _ _ h => h) (Or.inl ⟨by rfl, ?_⟩) (by assumption) ?_; rotate_left 1; · (intro w hSw; (try dsimp only at hSw); go_simp; all_goals with_reducible rfl))
  try simp only [Act.put, List.setIfInBounds_toArray, List.set_cons_zero, List.set_cons_succ]
  refine wpAnyH_ready (rs := [3]) (by kernel_rfl) (by simp) ?_
  refine AllReadyH.cons (o := ⟨_, _, _, _, _, _⟩) rfl (fun Kq hKq => ?_) AllReadyH.nil
  go_simp
  clear hHeld
  (go_at_call 40; (with_reducible refine (RC.out _ R2.out.drew).mono ?_); rintro e3 w3 ⟨rfl, h1, h2'⟩; have h2 := h2'.drew; clear h2'; have T3 := Lib.hid (show MBox w3 w.heap.size 0 0 0 0 from h2.kept R2.out T2.out (by decide) (by decide)); have X3 := Lib.hid (h2.one R2.out X2.out); have I3 := Lib.hid (show Box w3 I a i from h2.kept R2.out I2.out (by decide) (by decide)); have R3 := Lib.hid h1; have G3 := Lib.hid (G2.out.trans h2); clear h1 h2)
  refine hKq.out _ _ ?_ (fun hHeld => ?_)
  · (try dsimp only); exact ⟨(box_cells I3.out).1, (box_cells I3.out).2, one_cell X3.out⟩
  clear hKq Kq
  try simp only [Act.put, List.setIfInBounds_toArray, List.set_cons_zero, List.set_cons_succ]
  (refine wpAnyH_take (i := 4) (oi := ⟨_, _, _, _, _, _⟩) (v := ?_) rfl (by kernel_rfl) (by kernel_rfl) (by kernel_rfl) (fun _ _ _ h => h) (Or.inl ⟨by rfl, ?_⟩) (by assumption) ?_; rotate_left 1; · (intro w hSw; (try dsimp only at hSw); go_simp; all_goals with_reducible rfl))
  try simp only [Act.put, List.setIfInBounds_toArray, List.set_cons_zero, List.set_cons_succ]
  obtain ⟨c0, c1, c2, c3⟩ := mbox_cells T3.out
  obtain ⟨f0, f1, f2, f3⟩ := mbox_free T3.out
  have T4 := Lib.hid (mbox_set T3.out a i st n)
  refine wpAnyH_ready (rs := [5]) (by kernel_rfl) (by simp) ?_
  refine AllReadyH.cons (o := ⟨_, _, _, _, _, _⟩) rfl (fun Kq hKq => ?_) AllReadyH.nil
  go_simp
  clear hHeld
  (have HB := Lib.hid (fun k (hk : k ≠ w.heap.size) => show ((((w3.setCell ⟨w.heap.size, 0, none⟩ (.int .i64 a)).setCell ⟨w.heap.size, 1, none⟩ (.int .i64 i)).setCell ⟨w.heap.size, 2, none⟩ (.int .u8 st)).setCell ⟨w.heap.size, 3, none⟩ (.int .i64 n)).heap[k]? = w3.heap[k]? from (Below.heap_setCell _ _ _ _ hk).trans <| (Below.heap_setCell _ _ _ _ hk).trans <| (Below.heap_setCell _ _ _ _ hk).trans <| Below.heap_setCell _ _ _ _ hk); have X4 := Lib.hid (show One ((((w3.setCell ⟨w.heap.size, 0, none⟩ (.int .i64 a)).setCell ⟨w.heap.size, 1, none⟩ (.int .i64 i)).setCell ⟨w.heap.size, 2, none⟩ (.int .u8 st)).setCell ⟨w.heap.size, 3, none⟩ (.int .i64 n)) X 80 (.pointer (some ⟨p, 0, none⟩)) from (HB.out X (fun e => TNE.out e)).trans X3.out); have I4 := Lib.hid (show Box ((((w3.setCell ⟨w.heap.size, 0, none⟩ (.int .i64 a)).setCell ⟨w.heap.size, 1, none⟩ (.int .i64 i)).setCell ⟨w.heap.size, 2, none⟩ (.int .u8 st)).setCell ⟨w.heap.size, 3, none⟩ (.int .i64 n)) I a i from (HB.out I (by omega)).trans I3.out))
  refine hKq.out _ _ ?_ (fun hHeld => ?_)
  · (try dsimp only); exact ⟨(box_cells I4.out).1, (box_cells I4.out).2, one_cell X4.out⟩
  clear hKq Kq
  try simp only [Act.put, List.setIfInBounds_toArray, List.set_cons_zero, List.set_cons_succ]
  refine wpAnyH_done (by kernel_rfl) ?_ _
  clear c0 c1 c2 c3 f0 f1 f2 f3
  obtain ⟨q0, q1, q2, q3⟩ := mbox_cells T4.out
  go_wp2_with fail
  refine bodyPost_ret (v := .agg #[.int .i64 a, .int .i64 i, .int .u8 st, .int .i64 n]) (by simp [results, Tryz.results73, go_sem, q0, q1, q2, q3]) rfl ?_
  rw [HV.out]
  have hp := HP.out
  refine ⟨rfl, ⟨(HB.out p (by omega)).trans R3.out.x, (HB.out g (by omega)).trans R3.out.r⟩, ?_⟩
  exact Gr.sets G3.out HB.out (by simp [World.setCell])
end Go.Proofs.YtkeiekljedhllaaGreat
