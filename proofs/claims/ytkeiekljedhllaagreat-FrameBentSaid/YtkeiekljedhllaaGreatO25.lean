/-
  Carried over and put together: contracts of this program's functions, and plain facts. No statement is proved in this text.
-/
import Derived.Below
import Derived.BigQuiet
import Derived.Carry
import Derived.Deep.QuietTactic
import Derived.ProofKit
import Derived.SizedLaws
import Derived.Test.YtkeiekljedhllaaGreatRows
import Derived.Test.YtkeiekljedhllaaGreatO00
import Derived.Test.YtkeiekljedhllaaGreatO02
import Derived.Test.YtkeiekljedhllaaGreatO04
import Derived.Test.YtkeiekljedhllaaGreatO24
set_option maxRecDepth 20000
namespace Go.Proofs.YtkeiekljedhllaaGreat
open Go Go.RowKit
/-- How many entries lists have, together. -/
def notsN (l : List RowSets.Row) : Nat := (l.map fun r => r.2.2.length).sum
theorem notsN_take {l : List RowSets.Row} {k : Nat} (h : k < l.length) : notsN (l.take (k + 1)) = notsN (l.take k) + l[k].2.2.length := by
  unfold notsN
  rw [List.take_succ_eq_append_getElem h, List.map_append, List.sum_append]
  simp only [List.map_cons, List.map_nil, List.sum_cons, List.sum_nil, Nat.add_zero]
theorem notsN_mem {l : List RowSets.Row} {r : RowSets.Row} (h : r ∈ l) : r.2.2.length ≤ notsN l := by
  induction l with
  | nil => cases h
  | cons x l ih =>
    have e : notsN (x :: l) = x.2.2.length + notsN l := by simp [notsN]
    rcases List.mem_cons.1 h with rfl | h
    · omega
    · have := ih h
      omega
theorem small_fit {V : Vw} {n : Nat} (hn : n < 5000) (h : V.m.length + V.f.length + V.c.length + V.s.length + V.r.length + notsN V.r ≤ n) : FitVIE 5000 V :=
  ⟨by omega, by omega, by omega, by omega, by omega, fun r hr => by have := notsN_mem hr; omega⟩
set_option maxHeartbeats 8000000 in
theorem large_any (v : Value) (F : Fr) (w : World) (h : FAt w v F) (hW : WideV F.v) :
    Calls Tryz.prog 11 #[v] w fun e w' => (∃ z : Bool, e = .returned (.bool z) ∧ (z = false → FitVIE 5000 F.v)) ∧ Below w.heap.size w w' := by
  obtain ⟨⟨a0, a1, a2⟩, ⟨b0, b1, b2⟩, ⟨c0, c1, c2⟩, ⟨d0, d1, d2⟩, ⟨e0, e1, e2⟩, rfl, hr⟩ := h
  obtain rfl : a1 = F.v.m.length := rcs_len hr.m
  obtain rfl : b1 = F.v.f.length := ids_len hr.f
  obtain rfl : c1 = F.v.r.length := rows_len hr.r
  obtain rfl : d1 = F.v.c.length := rcs_len hr.c
  obtain rfl : e1 = F.v.s.length := ids_len hr.s
  have HN := Lib.hid hW.n
  have k1 := hW.m
  have k2 := hW.f
  have k3 := hW.c
  have k4 := hW.s
  have k5 := hW.r
  have B1 := Lib.hid (below_one w (.cells #[.int .u8 F.k, .int .i64 F.f.1, .int .i64 F.f.2, .int .i64 F.t.1, .int .i64 F.t.2, .int .i64 F.n, .int .i64 F.q, .int .i64 F.b.1, .int .i64 F.b.2, .slice a0 F.v.m.length a2, .slice b0 F.v.f.length b2, .slice c0 F.v.r.length c2, .slice d0 F.v.c.length d2, .slice e0 F.v.s.length e2] 39))
  have B2 := Lib.hid (below_one (w.alloc (.cells #[.int .u8 F.k, .int .i64 F.f.1, .int .i64 F.f.2, .int .i64 F.t.1, .int .i64 F.t.2, .int .i64 F.n, .int .i64 F.q, .int .i64 F.b.1, .int .i64 F.b.2, .slice a0 F.v.m.length a2, .slice b0 F.v.f.length b2, .slice c0 F.v.r.length c2, .slice d0 F.v.c.length d2, .slice e0 F.v.s.length e2] 39)) (.cells #[.slice a0 F.v.m.length a2, .slice b0 F.v.f.length b2, .slice c0 F.v.r.length c2, .slice d0 F.v.c.length d2, .slice e0 F.v.s.length e2] 33))
  have HZ := Lib.hid (show (w.alloc (.cells #[.int .u8 F.k, .int .i64 F.f.1, .int .i64 F.f.2, .int .i64 F.t.1, .int .i64 F.t.2, .int .i64 F.n, .int .i64 F.q, .int .i64 F.b.1, .int .i64 F.b.2, .slice a0 F.v.m.length a2, .slice b0 F.v.f.length b2, .slice c0 F.v.r.length c2, .slice d0 F.v.c.length d2, .slice e0 F.v.s.length e2] 39)).heap.size = w.heap.size + 1 by simp)
  have X2 := Lib.hid (show VBox ((w.alloc (.cells #[.int .u8 F.k, .int .i64 F.f.1, .int .i64 F.f.2, .int .i64 F.t.1, .int .i64 F.t.2, .int .i64 F.n, .int .i64 F.q, .int .i64 F.b.1, .int .i64 F.b.2, .slice a0 F.v.m.length a2, .slice b0 F.v.f.length b2, .slice c0 F.v.r.length c2, .slice d0 F.v.c.length d2, .slice e0 F.v.s.length e2] 39)).alloc (.cells #[.slice a0 F.v.m.length a2, .slice b0 F.v.f.length b2, .slice c0 F.v.r.length c2, .slice d0 F.v.c.length d2, .slice e0 F.v.s.length e2] 33)) (w.heap.size + 1) (a0, F.v.m.length, a2) (b0, F.v.f.length, b2) (c0, F.v.r.length, c2) (d0, F.v.c.length, d2) (e0, F.v.s.length, e2) by have := vbox_new (w.alloc (.cells #[.int .u8 F.k, .int .i64 F.f.1, .int .i64 F.f.2, .int .i64 F.t.1, .int .i64 F.t.2, .int .i64 F.n, .int .i64 F.q, .int .i64 F.b.1, .int .i64 F.b.2, .slice a0 F.v.m.length a2, .slice b0 F.v.f.length b2, .slice c0 F.v.r.length c2, .slice d0 F.v.c.length d2, .slice e0 F.v.s.length e2] 39)) (a0, F.v.m.length, a2) (b0, F.v.f.length, b2) (c0, F.v.r.length, c2) (d0, F.v.c.length, d2) (e0, F.v.s.length, e2); rw [HZ.out] at this; exact this)
  have BB := Lib.hid (below_after B1.out B2.out (Nat.le_refl _))
  have RR := Lib.hid (hr.r.below BB.out)
  obtain ⟨p0, p1, p2, p3, p4, p5, p6, p7, p8, p9, p10, p11, p12, p13⟩ := fbox_cells (fbox_new w F (a0, F.v.m.length, a2) (b0, F.v.f.length, b2) (c0, F.v.r.length, c2) (d0, F.v.c.length, d2) (e0, F.v.s.length, e2))
  obtain ⟨q0, q1, q2, q3, q4⟩ := vbox_cells X2.out
  dsimp only at p0 p1 p2 p3 p4 p5 p6 p7 p8 p9 p10 p11 p12 p13 q0 q1 q2 q3 q4
  have HS : Hid (∀ n : Nat, n < 5000 → F.v.m.length + F.v.f.length + F.v.c.length + F.v.s.length + F.v.r.length + notsN F.v.r ≤ n → FitVIE 5000 F.v) := Lib.hid fun n h1 h2 => small_fit h1 h2
  clear hr hW B1 B2 HZ
  go_enter Tryz.func11, Tryz.ntmps11
  go_wp2_with fail
  generalize hw2 : (w.alloc (.cells #[.int .u8 F.k, .int .i64 F.f.1, .int .i64 F.f.2, .int .i64 F.t.1, .int .i64 F.t.2, .int .i64 F.n, .int .i64 F.q, .int .i64 F.b.1, .int .i64 F.b.2, .slice a0 F.v.m.length a2, .slice b0 F.v.f.length b2, .slice c0 F.v.r.length c2, .slice d0 F.v.c.length d2, .slice e0 F.v.s.length e2] 39)).alloc (.cells #[.slice a0 F.v.m.length a2, .slice b0 F.v.f.length b2, .slice c0 F.v.r.length c2, .slice d0 F.v.c.length d2, .slice e0 F.v.s.length e2] 33) = w2 at *
  clear hw2 p0 p1 p2 p3 p4 p5 p6 p7 p8 p9 p10 p11 p12 p13 q0 q1 q2 q3 q4
  go_loopw [4, 5] (fun s4 s5 wr => ∃ k n : Nat, k ≤ F.v.r.length ∧ s5 = .int .i64 k ∧ s4 = .int .i64 n ∧ n ≤ 100000000000000 ∧ Hid (n = F.v.m.length + F.v.f.length + F.v.c.length + F.v.s.length + F.v.r.length + notsN (F.v.r.take k)) ∧ Hid (Below w2.heap.size w2 wr)) (fun _ s5 _ => F.v.r.length - (intOf s5).toNat)
  case atStart => exact ⟨0, F.v.m.length + F.v.f.length + F.v.c.length + F.v.s.length + F.v.r.length, by omega, rfl, by go_num, by omega, Lib.hid (by simp [notsN]), Lib.hid (Below.refl _ _)⟩
  case round =>
    obtain ⟨k, n, hk, rfl, rfl, hn, HE, HW⟩ := hrel
    have i3 : (0 : Int) ≤ (k : Int) := by omega
    have X3 := Lib.hid (vbox_below X2.out HW.out)
    obtain ⟨q0, q1, q2, q3, q4⟩ := vbox_cells X3.out
    dsimp only at q0 q1 q2 q3 q4
    have BE := Lib.hid (below_after BB.out HW.out (Nat.le_refl _))
    by_cases hlt : k < F.v.r.length
    · have hd : decide ((k : Int) < (F.v.r.length : Int)) = true := by simp; omega
      have i4 : (k : Int) < (F.v.r.length : Int) := by omega
      by_cases h5 : n < 5000
      · have hd5 : decide ((n : Int) < 5000) = true := by simp; omega
        have hl := HN.out _ (List.getElem_mem hlt)
        have HT := Lib.hid (notsN_take hlt)
        obtain ⟨ad, y, rfl, g1, g2, g3, g4, g5⟩ := RowsAt.at_ RR.out HW.out hlt
        obtain ⟨y, rfl⟩ := sl_ids g5
        obtain ⟨Y, yn, yc⟩ := y
        have hy : yn = F.v.r[k].2.2.length := ids_len g5
        dsimp only at g4
        rw [← hy] at HT hl
        have HY := Lib.hid hy
        clear g5 hy
        generalize F.v.r[k].1.1 = x1 at *
        generalize F.v.r[k].1.2 = x2 at *
        generalize F.v.r[k].2.1 = x3 at *
        go_wp2_with fail
        go_roundw
        case rel => exact ⟨k + 1, n + yn, by omega, by go_num, by go_num, by omega, Lib.hid (by rw [HT.out]; have := HE.out; omega), HW⟩
        case measure => simp [intOf]; omega
      · have hd5 : decide ((n : Int) < 5000) = false := by simp; omega
        have hd6 : decide ((5000 : Int) ≤ (n : Int)) = true := by simp; omega
        go_wp2_with fail
        go_ret
        exact ⟨⟨true, rfl, fun h => by cases h⟩, BE.out⟩
    · obtain rfl : k = F.v.r.length := by omega
      have hd : decide ((F.v.r.length : Int) < (F.v.r.length : Int)) = false := by simp
      have HE2 := Lib.hid (show n = F.v.m.length + F.v.f.length + F.v.c.length + F.v.s.length + F.v.r.length + notsN F.v.r by have := HE.out; rwa [List.take_length] at this)
      by_cases h5 : n < 5000
      · have hd6 : decide ((5000 : Int) ≤ (n : Int)) = false := by simp; omega
        have HH := Lib.hid h5
        go_wp2_with fail
        go_ret
        exact ⟨⟨_, rfl, fun _ => HS.out n HH.out (Nat.le_of_eq HE2.out.symm)⟩, BE.out⟩
      · have hd6 : decide ((5000 : Int) ≤ (n : Int)) = true := by simp; omega
        go_wp2_with fail
        go_ret
        refine ⟨⟨true, ?_, fun h => by cases h⟩, BE.out⟩
        first | rfl | exact ret_bool hd6
end Go.Proofs.YtkeiekljedhllaaGreat
namespace Go.Proofs.YtkeiekljedhllaaGreat
open Go Go.RowKit
theorem bent_dec {F : Fr} (he : encE F = 0) (a : Int) (x : Nat) (h : ¬ bendS (bs (whole F)) a x = bs (whole F)) : decE (bendS (bs (whole F)) a x).data.toList = 9 := by
  have hl : (bs (whole F)).data.toList = whole F := by simp [bs]
  rw [bendS_data, hl]
  obtain ⟨h1, h2, h3⟩ := encE_ok he
  have h4 : (whole F).length = (wFr F).1.length + 4 := by unfold whole; rw [List.length_append]; rfl
  have hlen := Crc.bend_length (whole F) a x
  refine (decE_sum (by omega) (by omega) fun e => h ?_).1
  have := bent_no_sum (wFr F).1 ((Crc.bend (whole F) a x).take ((Crc.bend (whole F) a x).length - 4)) (whole F) rfl a x (by rw [e, List.take_append_drop])
  refine WideShapes.bytes_inj ?_
  rw [bendS_data, hl]
  exact this
theorem same_dec {F : Fr} (he : encE F = 0) {t : ByteArray} (h : t = bs (whole F)) : decE t.data.toList = 0 := by
  subst h
  rw [show (bs (whole F)).data.toList = whole F by simp [bs]]
  exact (dec_whole he).1
theorem place_at (a : Int) (n : Nat) (h : 1 ≤ n) (h' : n ≤ 10000) : ∃ k : Nat, wrap64 ((IntKind.u64.wrap a).tmod (n : Int)) = (k : Int) ∧ k < n := by
  have h0 : 0 ≤ IntKind.u64.wrap a := by rw [IntKind.wrap_u64]; omega
  rw [Int.tmod_eq_emod_of_nonneg h0]
  have h1 := Int.emod_nonneg (IntKind.u64.wrap a) (b := (n : Int)) (by omega)
  have h2 := Int.emod_lt_of_pos (IntKind.u64.wrap a) (b := (n : Int)) (by omega)
  refine ⟨(IntKind.u64.wrap a % (n : Int)).toNat, ?_, by omega⟩
  rw [IntWalk.wrap64_in _ ⟨by omega, by omega⟩]
  omega
set_option maxHeartbeats 16000000 in
theorem frameBent_any (v : Value) (F : Fr) (at' X : Int) (w : World) (h : FAt w v F) (hW : WideV F.v) (ha : -9223372036854775808 ≤ at' ∧ at' ≤ 9223372036854775807) (hx : 0 ≤ X ∧ X < 4294967296) :
    Calls Tryz.prog 4 #[v, .int .i64 at', .int .u32 X] w fun e w' => e = .returned (.bool true) ∧ Below w.heap.size w w' := by
  obtain ⟨x, rfl⟩ := Int.eq_ofNat_of_zero_le hx.1
  obtain ⟨ha0, ha1⟩ := ha
  obtain ⟨a, b, c, d, e, rfl, hr⟩ := h
  have B1 := Lib.hid (below_one w (.cells #[.int .u8 F.k, .int .i64 F.f.1, .int .i64 F.f.2, .int .i64 F.t.1, .int .i64 F.t.2, .int .i64 F.n, .int .i64 F.q, .int .i64 F.b.1, .int .i64 F.b.2, .slice a.1 a.2.1 a.2.2, .slice b.1 b.2.1 b.2.2, .slice c.1 c.2.1 c.2.2, .slice d.1 d.2.1 d.2.2, .slice e.1 e.2.1 e.2.2] 39))
  have X1 := Lib.hid (fbox_new w F a b c d e)
  have R1 := Lib.hid (hr.below B1.out)
  have HL := Lib.hid fun W hb => large_any _ F W (RV.fat (R1.out.below hb)) hW
  clear hr hW
  go_enter Tryz.func4, Tryz.ntmps4
  go_wp2_with fail
  (with_reducible refine (works_any _).mono ?_)
  rintro e1 w1 ⟨rfl, hb⟩
  have X2 := Lib.hid (fbox_below X1.out hb)
  have HL1 := Lib.hid (HL.out w1 hb)
  have R2 := Lib.hid (R1.out.below hb)
  have B2 := Lib.hid (below_after B1.out hb (Nat.le_refl _))
  clear hb HL X1 R1 B1
  obtain ⟨p0, p1, p2, p3, p4, p5, p6, p7, p8, p9, p10, p11, p12, p13⟩ := fbox_cells X2.out
  go_wp2_with fail
  (with_reducible refine HL1.out.mono ?_)
  rintro e2 w2 ⟨⟨z, rfl, hz⟩, hb⟩
  have X3 := Lib.hid (fbox_below X2.out hb)
  have R3 := Lib.hid (R2.out.below hb)
  have B3 := Lib.hid (below_after B2.out hb (Nat.le_refl _))
  have HZ := Lib.hid hz
  clear hb hz X2 R2 B2 HL1 p0 p1 p2 p3 p4 p5 p6 p7 p8 p9 p10 p11 p12 p13
  cases z
  rotate_left
  · go_wp2_with fail
    (with_reducible refine (works_any _).mono ?_)
    rintro e3 w3 ⟨rfl, hb⟩
    have B4 := Lib.hid (below_after B3.out hb (Nat.le_refl _))
    clear hb
    go_wp2_with fail
    go_ret
    exact ⟨rfl, B4.out⟩
  · have HF := Lib.hid (HZ.out rfl)
    obtain ⟨p0, p1, p2, p3, p4, p5, p6, p7, p8, p9, p10, p11, p12, p13⟩ := fbox_cells X3.out
    go_wp2_with fail
    (with_reducible refine (encode_any _ F _ (RV.fat R3.out) HF.out).mono ?_)
    rintro e3 w3 ⟨rfl, hb⟩
    have B4 := Lib.hid (below_after B3.out hb (Nat.le_refl _))
    clear hb p0 p1 p2 p3 p4 p5 p6 p7 p8 p9 p10 p11 p12 p13 X3 R3 HZ
    by_cases he : encE F = 0
    rotate_left
    · have de : ((encE F : Int) == 0) = false := by simp; omega
      have hne : ¬ (encE F : Int) = 0 := by omega
      generalize encE F = n at *
      generalize bs (encB F) = S at *
      clear he
      go_wp2_with fail
      go_ret
      exact ⟨rfl, B4.out⟩
    · have HEB := Lib.hid (show encB F = whole F by unfold encB; rw [if_pos he])
      have HSL := Lib.hid (show 4 ≤ (whole F).length ∧ (whole F).length ≤ 8192 by
        have h3 := (encE_ok he).2.2
        have h4 : (whole F).length = (wFr F).1.length + 4 := by unfold whole; rw [List.length_append]; rfl
        omega)
      have HBT := Lib.hid fun (q : Int) => bent_dec he q x
      have HBS := Lib.hid fun (q : Int) (h : bendS (bs (whole F)) q x = bs (whole F)) => same_dec he h
      have hs4 : 4 ≤ (bs (whole F)).size := by rw [bs_size]; exact HSL.out.1
      have hs5 : (bs (whole F)).size ≤ 8192 := by rw [bs_size]; exact HSL.out.2
      rw [he, HEB.out]
      clear he HEB HSL
      generalize bs (whole F) = S at *
      have HBD := Lib.hid fun (q : Int) (W : World) (h0 : -9223372036854775808 ≤ q) (h1 : q ≤ 9223372036854775807) => bendS_any S q x W (by omega) h0 h1 (by omega)
      obtain ⟨kk, hk, hk4⟩ := place_at at' S.size (by omega) (by omega)
      have HK := Lib.hid hk
      have hn0 : ¬ (S.size : Int) = 0 := by omega
      clear hk
      go_wp2_with fail
      have HKI := HK.out
      try rw [HKI]
      clear HKI
      have BG := Lib.hid (below_one w3 (.cells #[.int .i64 at', .int .i64 kk] 3))
      have g := heap_alloc_new w3 (.cells #[.int .i64 at', .int .i64 kk] 3)
      have g0 : (w3.alloc (.cells #[.int .i64 at', .int .i64 kk] 3)).cell? ⟨w3.heap.size, 0, none⟩ = some (.int .i64 at') := by rw [cell_of_row _ _ 0 _ _ _ g]; rfl
      have g1 : (w3.alloc (.cells #[.int .i64 at', .int .i64 kk] 3)).cell? ⟨w3.heap.size, 1, none⟩ = some (.int .i64 kk) := by rw [cell_of_row _ _ 1 _ _ _ g]; rfl
      have B5 := Lib.hid (below_after B4.out BG.out (Nat.le_refl _))
      clear g BG
      have G0 := Lib.hid g0
      have G1 := Lib.hid g1
      clear g0 g1
      generalize w3.alloc (.cells #[.int .i64 at', .int .i64 kk] 3) = w4 at *
      generalize w3.heap.size = gg at *
      go_loopw [38] (fun s38 wr => ∃ k : Nat, k ≤ 2 ∧ s38 = .int .i64 k ∧ Hid (Below w4.heap.size w4 wr)) (fun s38 _ => 2 - (intOf s38).toNat)
      case atStart => exact ⟨0, by omega, rfl, Lib.hid (Below.refl _ _)⟩
      case round =>
        obtain ⟨k, hk, rfl, HW⟩ := hrel
        have g0 := G0.out
        have g1 := G1.out
        rcases (show k = 0 ∨ k = 1 ∨ k = 2 by omega) with rfl | rfl | rfl
        · have HP0 := cell_below HW.out g0
          have HP1 := cell_below HW.out g1
          clear g0 g1
          go_wp2_with fail
          (with_reducible refine (HBD.out at' _ (by first | omega | exact ha0 | exact ha1) (by first | omega | exact ha0 | exact ha1)).mono ?_)
          rintro e5 w5 ⟨rfl, hb⟩
          have W5 := Lib.hid (below_after HW.out hb (Nat.le_refl _))
          clear hb
          have HT := Lib.hid (HBT.out at')
          have HT2 := Lib.hid (HBS.out at')
          have HSZ := Lib.hid (bendS_size S at' x)
          generalize bendS S at' x = t at *
          go_wp2_with fail
          (with_reducible refine (decode_any t _).mono ?_)
          rintro e6 w6 ⟨a', b', c', d', e', rfl, _, hb0⟩
          generalize decF t.data.toList = F2 at *
          have W6 := Lib.hid (below_after W5.out (below_after hb0 (below_one w6 (.cells #[.int .u8 F2.k, .int .i64 F2.f.1, .int .i64 F2.f.2, .int .i64 F2.t.1, .int .i64 F2.t.2, .int .i64 F2.n, .int .i64 F2.q, .int .i64 F2.b.1, .int .i64 F2.b.2, .slice a'.1 a'.2.1 a'.2.2, .slice b'.1 b'.2.1 b'.2.2, .slice c'.1 c'.2.1 c'.2.2, .slice d'.1 d'.2.1 d'.2.2, .slice e'.1 e'.2.1 e'.2.2] 39)) (Nat.le_refl _)) (Nat.le_refl _))
          clear hb0
          by_cases hts : t = S
          · have hd := HT2.out hts
            subst hts
            rw [hd]
            clear hd HT HT2
            go_wp2_with fail
            go_roundw
            case rel => exact ⟨1, by omega, by go_num, W6⟩
            case measure => simp [intOf]
          · have hd := HT.out hts
            have ht1 : (t.toList == S.toList) = false := by rw [ByteArray.toList_eq, ByteArray.toList_eq, beq_eq_false_iff_ne]; exact fun e => hts (WideShapes.bytes_inj e)
            have ht2 : ¬ t.toList = S.toList := ne_of_beq_false ht1
            rw [hd]
            clear hd HT HT2 hts
            go_wp2_with fail
            go_roundw
            case rel => exact ⟨1, by omega, by go_num, W6⟩
            case measure => simp [intOf]
        · have HP0 := cell_below HW.out g0
          have HP1 := cell_below HW.out g1
          clear g0 g1
          go_wp2_with fail
          (with_reducible refine (HBD.out kk _ (by first | omega | exact ha0 | exact ha1) (by first | omega | exact ha0 | exact ha1)).mono ?_)
          rintro e5 w5 ⟨rfl, hb⟩
          have W5 := Lib.hid (below_after HW.out hb (Nat.le_refl _))
          clear hb
          have HT := Lib.hid (HBT.out kk)
          have HT2 := Lib.hid (HBS.out kk)
          have HSZ := Lib.hid (bendS_size S kk x)
          generalize bendS S kk x = t at *
          go_wp2_with fail
          (with_reducible refine (decode_any t _).mono ?_)
          rintro e6 w6 ⟨a', b', c', d', e', rfl, _, hb0⟩
          generalize decF t.data.toList = F2 at *
          have W6 := Lib.hid (below_after W5.out (below_after hb0 (below_one w6 (.cells #[.int .u8 F2.k, .int .i64 F2.f.1, .int .i64 F2.f.2, .int .i64 F2.t.1, .int .i64 F2.t.2, .int .i64 F2.n, .int .i64 F2.q, .int .i64 F2.b.1, .int .i64 F2.b.2, .slice a'.1 a'.2.1 a'.2.2, .slice b'.1 b'.2.1 b'.2.2, .slice c'.1 c'.2.1 c'.2.2, .slice d'.1 d'.2.1 d'.2.2, .slice e'.1 e'.2.1 e'.2.2] 39)) (Nat.le_refl _)) (Nat.le_refl _))
          clear hb0
          by_cases hts : t = S
          · have hd := HT2.out hts
            subst hts
            rw [hd]
            clear hd HT HT2
            go_wp2_with fail
            go_roundw
            case rel => exact ⟨2, by omega, by go_num, W6⟩
            case measure => simp [intOf]
          · have hd := HT.out hts
            have ht1 : (t.toList == S.toList) = false := by rw [ByteArray.toList_eq, ByteArray.toList_eq, beq_eq_false_iff_ne]; exact fun e => hts (WideShapes.bytes_inj e)
            have ht2 : ¬ t.toList = S.toList := ne_of_beq_false ht1
            rw [hd]
            clear hd HT HT2 hts
            go_wp2_with fail
            go_roundw
            case rel => exact ⟨2, by omega, by go_num, W6⟩
            case measure => simp [intOf]
        · go_wp2_with fail
          go_ret
          exact ⟨rfl, below_after B5.out HW.out (Nat.le_refl _)⟩
end Go.Proofs.YtkeiekljedhllaaGreat
