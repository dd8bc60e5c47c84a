/-
  Carried over and put together: contracts of this program's functions, and plain facts. No statement is proved in this text.
-/
import Derived.Test.YtkeiekljedhllaaGreatF23
import Derived.Test.YtkeiekljedhllaaGreatF24
set_option maxRecDepth 20000
namespace Go.Proofs.YtkeiekljedhllaaGreat
open Go Go.RowKit
theorem ownsR_shape {α : Type} {enc : α → List Value} {sz : Nat} {e : TypeId} {w : World} {base : Nat} {v : Value} {l : List α} (h : OwnsR enc sz e w base v l) : ∃ A n c, v = .slice A n c := by
  rcases ownsR_split h with ⟨rfl, _⟩ | ⟨g, cap, rfl, _⟩
  · exact ⟨none, 0, 0, rfl⟩
  · exact ⟨_, _, cap, rfl⟩
theorem fbox_put_s {w : World} {g : Nat} {F G : Fr} {a b c d e : SL} (h : FBox w g F a b c d e) (s : SL) (hg : G.k = F.k ∧ G.f = F.f ∧ G.t = F.t ∧ G.n = F.n ∧ G.q = F.q ∧ G.b = F.b) : FBox (w.setCell ⟨g, 13, none⟩ (.slice s.1 s.2.1 s.2.2)) g G a b c d s := by
  unfold FBox at *
  obtain ⟨h1, h2, h3, h4, h5, h6⟩ := hg
  rw [h1, h2, h3, h4, h5, h6]
  simp [World.setCell, Array.getElem?_modify, h]
theorem fbox_put_r {w : World} {g : Nat} {F G : Fr} {a b c d e : SL} (h : FBox w g F a b c d e) (s : SL) (hg : G.k = F.k ∧ G.f = F.f ∧ G.t = F.t ∧ G.n = F.n ∧ G.q = F.q ∧ G.b = F.b) : FBox (w.setCell ⟨g, 11, none⟩ (.slice s.1 s.2.1 s.2.2)) g G a b s d e := by
  unfold FBox at *
  obtain ⟨h1, h2, h3, h4, h5, h6⟩ := hg
  rw [h1, h2, h3, h4, h5, h6]
  simp [World.setCell, Array.getElem?_modify, h]
theorem fbox_kept {w w' : World} {g : Nat} {F : Fr} {a b c d e : SL} (h : FBox w g F a b c d e) {row : Option Nat} (k : w.grownBy w' row) (hne : row ≠ some g) : FBox w' g F a b c d e := (k.block g (fbox_lt h) fun e => hne e.symm).trans h
theorem seenRV {w : World} {A : Option Addr} {n c : Nat} {s : List Sets.Id2} {base : Nat} (h : OwnsR encI 2 24 w base (.slice A n c) s) : RV w (none, 0, 0) (none, 0, 0) (none, 0, 0) (none, 0, 0) (A, n, c) (gF s []).v := ⟨(nilRV w).m, (nilRV w).f, (nilRV w).r, (nilRV w).c, ownsI_ids h⟩
theorem seenFit {s : List Sets.Id2} (h : s.length ≤ 5000) : FitVIE 5000 (gF s []).v := ⟨by simp [gF], by simp [gF], by simp [gF], by simp [gF], h, by intro r hr; cases hr⟩
/-- The agg of a frame of this kind. -/
abbrev gA (r s : SL) : Value := .agg #[.int .u8 4, .int .i64 1, .int .i64 1, .int .i64 2, .int .i64 1, .int .i64 0, .int .i64 0, .int .i64 0, .int .i64 0, .slice none 0 0, .slice none 0 0, .slice r.1 r.2.1 r.2.2, .slice none 0 0, .slice s.1 s.2.1 s.2.2]
theorem back_seen (W : World) (s : SL) (h : RV W (none, 0, 0) (none, 0, 0) (none, 0, 0) (none, 0, 0) s (gF (sk 64) []).v) : Calls Tryz.prog 8 #[gA (none, 0, 0) s] W fun e w' => e = .returned (.bool true) ∧ Below W.heap.size W w' :=
  back_any _ (gF (sk 64) []) W (RV.fat (F := gF (sk 64) []) h) (seenFit (by rw [sk_len]; decide)) seen_ok
theorem enc_seen (W : World) (s : SL) (h : RV W (none, 0, 0) (none, 0, 0) (none, 0, 0) (none, 0, 0) s (gF (sk 64 ++ [(4, 1)]) []).v) : Calls Tryz.prog 9 #[gA (none, 0, 0) s] W fun e w' => e = .returned (.tuple #[.string (bs (encB (gF (sk 64 ++ [(4, 1)]) []))), .int .i64 40]) ∧ Below W.heap.size W w' := by
  have k := encode_any _ (gF (sk 64 ++ [(4, 1)]) []) W (RV.fat (F := gF (sk 64 ++ [(4, 1)]) []) h) (seenFit (by simp [sk_len]))
  rw [seen_no] at k
  exact k
theorem may_seen (W : World) (s : SL) (h : RV W (none, 0, 0) (none, 0, 0) (none, 0, 0) (none, 0, 0) s (gF (sk 64 ++ [(4, 1)]) []).v) : Calls Tryz.prog 7 #[gA (none, 0, 0) s] W fun e w' => e = .returned (.bool true) ∧ Below W.heap.size W w' := by
  have k := mayF_any _ (gF (sk 64 ++ [(4, 1)]) []) W (RV.fat (F := gF (sk 64 ++ [(4, 1)]) []) h) (seenFit (by simp [sk_len]))
  rw [seen_may] at k
  exact k
theorem rowsFit : FitVIE 5000 (gF (sk 64) (rk (mk 64) 40)).v := ⟨by simp [gF], by simp [gF], by simp [gF, rk_len], by simp [gF], by simp [gF, sk_len], fun r hr => by simp [gF, rk] at hr; obtain ⟨a, _, rfl⟩ := hr; simp [mk_len]⟩
theorem enc_rows (W : World) (r s : SL) (h : RV W (none, 0, 0) (none, 0, 0) r (none, 0, 0) s (gF (sk 64) (rk (mk 64) 40)).v) : Calls Tryz.prog 9 #[gA r s] W fun e w' => e = .returned (.tuple #[.string (bs (encB (gF (sk 64) (rk (mk 64) 40)))), .int .i64 40]) ∧ Below W.heap.size W w' := by
  have k := encode_any _ (gF (sk 64) (rk (mk 64) 40)) W (RV.fat (F := gF (sk 64) (rk (mk 64) 40)) h) rowsFit
  rw [rows_no] at k
  exact k
theorem gossip_may (W : World) (r s : SL) (h : RV W (none, 0, 0) (none, 0, 0) r (none, 0, 0) s (gF (sk 64) (rk (mk 64) 40)).v) : Calls Tryz.prog 7 #[gA r s] W fun e w' => e = .returned (.bool true) ∧ Below W.heap.size W w' := by
  have k := mayF_any _ (gF (sk 64) (rk (mk 64) 40)) W (RV.fat (F := gF (sk 64) (rk (mk 64) 40)) h) rowsFit
  rw [rows_may] at k
  exact k
def zeros (n : Nat) : List UInt8 := List.replicate n 0
theorem zeros_len (n : Nat) : (zeros n).length = n := List.length_replicate ..
theorem zeros_made (n : Nat) : (madeCells #[.int .u8 0] n).toList = bts (zeros n) := by
  unfold madeCells bts zeros
  refine List.ext_getElem (by simp) fun i h1 h2 => ?_
  simp [Nat.mod_one]
theorem zeros_no {n : Nat} (h : 8192 < n) : decE (zeros n) = 40 := (decE_long (by rw [zeros_len]; exact h)).1
theorem dec_zeros {n : Nat} (hn : 8192 < n) (W : World) : Calls Tryz.prog 13 #[.string (bs (zeros n))] W (Decoded (decF (zeros n)) 40 W) := by
  have h := decode_any (bs (zeros n)) W
  rw [show (bs (zeros n)).data.toList = zeros n from by simp [bs], zeros_no hn] at h
  exact h
theorem infoU : (Tryz.prog.info? 5).map (fun i => (i.zero, i.size, i.bytes)) = some (some (.int .u8 0), 1, 1) := by kernel_rfl
theorem grown_mid {a b c : World} {x : Nat} (h : a.grownBy b (some x)) (k : Below a.heap.size b c) : a.grownBy c (some x) := ⟨k.os.trans h.os, k.tape.trans h.tape, k.output.trans h.output, Nat.le_trans h.size k.size, fun i hi hne => (k.block i hi).trans (h.block i hi hne)⟩
theorem rowsRV {w : World} {C A : Option Addr} {nc cc n c : Nat} {qs : List Raw} {r : List RowSets.Row} {s : List Sets.Id2} {base lo lo' : Nat} (h : OwnsR encW 4 37 w base (.slice C nc cc) qs) (he : EachOwn w lo qs r) (k : OwnsR encI 2 24 w lo' (.slice A n c) s) : RV w (none, 0, 0) (none, 0, 0) (C, nc, cc) (none, 0, 0) (A, n, c) (gF s r).v := ⟨(nilRV w).m, (nilRV w).f, ⟨qs, rcs_owns encW_len h, EachOwn.reads he⟩, (nilRV w).c, ownsI_ids k⟩
set_option maxHeartbeats 16000000 in
theorem tooLarge_any (w : World) : Calls Tryz.prog 10 #[] w fun e w' => e = .returned (.bool true) ∧ Below w.heap.size w w' := by
  go_enter Tryz.func10, Tryz.ntmps10
  go_wp2_with fail
  (with_reducible refine (of_any 1 _).mono ?_)
  rintro e1 w1 ⟨rfl, hb⟩
  have BA1 := Lib.hid hb
  clear hb
  go_wp2_with fail
  (with_reducible refine (of_any 2 _).mono ?_)
  rintro e2 w2 ⟨rfl, hb⟩
  have BA2 := Lib.hid (below_after BA1.out hb (Nat.le_refl _))
  clear hb BA1
  have B3 := Lib.hid (below_after BA2.out (below_one w2 (.cells #[.int .u8 4, .int .i64 1, .int .i64 1, .int .i64 2, .int .i64 1, .int .i64 0, .int .i64 0, .int .i64 0, .int .i64 0, .slice none 0 0, .slice none 0 0, .slice none 0 0, .slice none 0 0, .slice none 0 0] 39)) (Nat.le_refl _))
  have X3 := Lib.hid (show FBox (w2.alloc (.cells #[.int .u8 4, .int .i64 1, .int .i64 1, .int .i64 2, .int .i64 1, .int .i64 0, .int .i64 0, .int .i64 0, .int .i64 0, .slice none 0 0, .slice none 0 0, .slice none 0 0, .slice none 0 0, .slice none 0 0] 39)) w2.heap.size (gF (sk 0) []) (none, 0, 0) (none, 0, 0) (none, 0, 0) (none, 0, 0) (none, 0, 0) from heap_alloc_new w2 _)
  have HX := Lib.hid (show w.heap.size ≤ w2.heap.size from BA2.out.size)
  go_wp2_with fail
  generalize w2.alloc (.cells #[.int .u8 4, .int .i64 1, .int .i64 1, .int .i64 2, .int .i64 1, .int .i64 0, .int .i64 0, .int .i64 0, .int .i64 0, .slice none 0 0, .slice none 0 0, .slice none 0 0, .slice none 0 0, .slice none 0 0] 39) = w3 at *
  generalize w2.heap.size = X at *
  go_loopw [2] (fun s2 wr => ∃ (k : Nat) (A : Option Addr) (n c : Nat), k ≤ 64 ∧ s2 = .int .i64 ((k : Int) + 1) ∧ Hid (FBox wr X (gF (sk k) []) (none, 0, 0) (none, 0, 0) (none, 0, 0) (none, 0, 0) (A, n, c)) ∧ Hid (OwnsR encI 2 24 wr w.heap.size (.slice A n c) (sk k)) ∧ Hid (Below w.heap.size w wr)) (fun s2 _ => 65 - (intOf s2).toNat)
  case atStart => exact ⟨0, none, 0, 0, by omega, rfl, X3, Lib.hid (OwnsR.nil _ _ _), B3⟩
  case round =>
    clear X3 B3 BA2
    obtain ⟨k, A, n, c, hk, rfl, X4, O4, B4⟩ := hrel
    by_cases hlt : k < 64
    · have hd : decide ((k : Int) + 1 ≤ 64) = true := by simp; omega
      obtain ⟨p0, p1, p2, p3, p4, p5, p6, p7, p8, p9, p10, p11, p12, p13⟩ := fbox_cells X4.out
      clear p0 p1 p2 p3 p4 p5 p6 p7 p8 p9 p10 p11 p12
      have HL := Lib.hid (show (sk k).length ≤ 64 by rw [sk_len]; exact hk)
      have I4 := Lib.hid (rcs_lit encI_len wr [(3, (k : Int) + 1)] #[.int .i64 3, .int .i64 ((k : Int) + 1)] 24 rfl)
      have X5 := Lib.hid (fbox_below X4.out (below_one wr (.cells #[.int .i64 3, .int .i64 ((k : Int) + 1)] 24)))
      have O5 := Lib.hid (show OwnsR encI 2 24 (wr.alloc (.cells #[.int .i64 3, .int .i64 ((k : Int) + 1)] 24)) w.heap.size (.slice A n c) (sk k) from O4.out.below (below_one wr _))
      have B5 := Lib.hid (below_after B4.out (below_one wr (.cells #[.int .i64 3, .int .i64 ((k : Int) + 1)] 24)) (Nat.le_refl _))
      have Z5 := Lib.hid (Nat.le_trans B5.out.size (Nat.le_refl _))
      clear X4 O4 B4
      go_wp2_with (at_builtin; refine wpList_append_kept 29 24 Tryz.underlying29 infoI rfl encI_len (by omega) encI_one (by omega) rfl (.tmp 22) (.tmp 25) rfl _ w.heap.size _ _ (sk k) [(3, (k : Int) + 1)] rfl rfl O5.out I4.out (by have := HL.out; simp; omega) Z5.out ?_; intro v6 w6 h1 h2 h3; obtain ⟨A6, n6, c6, rfl⟩ := ownsR_shape h1; have O6 := Lib.hid h1; have X6 := Lib.hid (fbox_kept X5.out h3 (ownsR_not O5.out X5.out (by decide))); have B6 := Lib.hid (B5.out.trans h2); obtain ⟨f0, f1, f2, f3, f4, f5, f6, f7, f8, f9, f10, f11, f12, f13⟩ := fbox_free X6.out; obtain ⟨q0, q1, q2, q3, q4, q5, q6, q7, q8, q9, q10, q11, q12, q13⟩ := fbox_cells X6.out; clear f0 f1 f2 f3 f4 f5 f6 f7 f8 f9 f10 f11 f12 q0 q1 q2 q3 q4 q5 q6 q7 q8 q9 q10 q11 q12 p13 h1 h2 h3 X5 O5 B5)
      go_roundw
      case rel =>
        have HG := grownSet w6 X 13 (.slice A6 n6 c6)
        refine ⟨k + 1, A6, n6, c6, by omega, by go_num, Lib.hid (fbox_put_s (G := gF (sk (k + 1)) []) X6.out (A6, n6, c6) ⟨rfl, rfl, rfl, rfl, rfl, rfl⟩), ?_, Lib.hid (B6.out.trans (below_gone HG HX.out B6.out.size))⟩
        rw [sk_next]
        exact Lib.hid (World.ownsRow.kept O6.out HG (.inr (ownsR_not O6.out X6.out (by decide))))
      case measure => simp [intOf]; omega
    · obtain rfl : k = 64 := by omega
      obtain ⟨p0, p1, p2, p3, p4, p5, p6, p7, p8, p9, p10, p11, p12, p13⟩ := fbox_cells X4.out
      dsimp only [gF] at p0 p1 p2 p3 p4 p5 p6 p7 p8 p9 p10 p11 p12 p13
      go_wp2_with fail
      (with_reducible refine (back_seen wr (A, n, c) (seenRV O4.out)).mono ?_)
      rintro e7 w7 ⟨rfl, hb⟩
      have X7 := Lib.hid (fbox_below X4.out hb)
      have O7 := Lib.hid (show OwnsR encI 2 24 w7 w.heap.size (.slice A n c) (sk 64) from O4.out.below hb)
      have B7 := Lib.hid (below_after B4.out hb (Nat.le_refl _))
      clear hb X4 O4 B4 p0 p1 p2 p3 p4 p5 p6 p7 p8 p9 p10 p11 p12 p13
      have Y8 := Lib.hid (show FBox (w7.alloc (.cells #[.int .u8 4, .int .i64 1, .int .i64 1, .int .i64 2, .int .i64 1, .int .i64 0, .int .i64 0, .int .i64 0, .int .i64 0, .slice none 0 0, .slice none 0 0, .slice none 0 0, .slice none 0 0, .slice A n c] 39)) w7.heap.size (gF (sk 64) []) (none, 0, 0) (none, 0, 0) (none, 0, 0) (none, 0, 0) (A, n, c) from heap_alloc_new w7 _)
      have b8 := Lib.hid (below_one w7 (.cells #[.int .u8 4, .int .i64 1, .int .i64 1, .int .i64 2, .int .i64 1, .int .i64 0, .int .i64 0, .int .i64 0, .int .i64 0, .slice none 0 0, .slice none 0 0, .slice none 0 0, .slice none 0 0, .slice A n c] 39))
      have HS8 := Lib.hid (show (w7.alloc (.cells #[.int .u8 4, .int .i64 1, .int .i64 1, .int .i64 2, .int .i64 1, .int .i64 0, .int .i64 0, .int .i64 0, .int .i64 0, .slice none 0 0, .slice none 0 0, .slice none 0 0, .slice none 0 0, .slice A n c] 39)).heap.size = w7.heap.size + 1 by simp)
      obtain ⟨p0, p1, p2, p3, p4, p5, p6, p7, p8, p9, p10, p11, p12, p13⟩ := fbox_cells X7.out
      dsimp only [gF] at p0 p1 p2 p3 p4 p5 p6 p7 p8 p9 p10 p11 p12 p13
      go_upto_region 9 with fail
      have X8 := Lib.hid (fbox_below X7.out b8.out)
      have O8 := Lib.hid (show OwnsR encI 2 24 (w7.alloc (.cells #[.int .u8 4, .int .i64 1, .int .i64 1, .int .i64 2, .int .i64 1, .int .i64 0, .int .i64 0, .int .i64 0, .int .i64 0, .slice none 0 0, .slice none 0 0, .slice none 0 0, .slice none 0 0, .slice A n c] 39)) w.heap.size (.slice A n c) (sk 64) from O7.out.below b8.out)
      have B8 := Lib.hid (below_after B7.out b8.out (Nat.le_refl _))
      have HY := Lib.hid (show w.heap.size ≤ w7.heap.size from B7.out.size)
      have HXY := Lib.hid (show X < w7.heap.size from fbox_lt X7.out)
      clear b8 X7 O7 B7 p0 p1 p2 p3 p4 p5 p6 p7 p8 p9 p10 p11 p12 p13
      generalize w7.alloc (.cells #[.int .u8 4, .int .i64 1, .int .i64 1, .int .i64 2, .int .i64 1, .int .i64 0, .int .i64 0, .int .i64 0, .int .i64 0, .slice none 0 0, .slice none 0 0, .slice none 0 0, .slice none 0 0, .slice A n c] 39) = w8 at *
      generalize w7.heap.size = Y at *
      have b9 := Lib.hid (below_one w8 (.cells #[] 24))
      have X9 := Lib.hid (fbox_below X8.out b9.out)
      have L9 := Lib.hid (show OwnsR encI 2 24 (w8.alloc (.cells #[] 24)) w8.heap.size (.slice (some ⟨w8.heap.size, 0, none⟩) 0 0) [] from World.ownsRow_made w8 (base := w8.heap.size) (e := 24) (size := 2) #[] 0 (Nat.le_refl _) (by decide) (by simp))
      have Z9 := Lib.hid (show w8.heap.size ≤ (w8.alloc (.cells #[] 24)).heap.size by simp)
      have HL := Lib.hid (sk_len 64)
      have I9 := Lib.hid (rcs_owns encI_len (show OwnsR encI 2 24 (w8.alloc (.cells #[] 24)) w.heap.size (.slice A n c) (sk 64) from O8.out.below b9.out))
      obtain ⟨p0, p1, p2, p3, p4, p5, p6, p7, p8, p9, p10, p11, p12, p13⟩ := fbox_cells X9.out
      clear p0 p1 p2 p3 p4 p5 p6 p7 p8 p9 p10 p11 p12 X9
      go_wp2_with (at_builtin; refine wpList_append_recs 29 24 Tryz.underlying29 infoI rfl encI_len (by omega) encI_one (by omega) rfl (.tmp 33) (.tmp 36) rfl _ w8.heap.size _ _ [] (sk 64) rfl rfl L9.out I9.out (by have := HL.out; simp; omega) Z9.out ?_; intro v10 w10 h1 h2; obtain ⟨A10, n10, c10, rfl⟩ := ownsR_shape h1; have L10 := Lib.hid h1; have b10 := Lib.hid (b9.out.trans h2); clear h1 h2)
      (with_reducible refine (of_any 4 _).mono ?_)
      rintro e11 w11 ⟨rfl, hb⟩
      have L11 := Lib.hid (L10.out.below hb)
      have b11 := Lib.hid (below_after b10.out hb (Nat.le_refl _))
      clear hb L10 b10 L9 I9 Z9 b9 p13
      have b12 := Lib.hid (below_one w11 (.cells #[.int .i64 4, .int .i64 1] 24))
      have L12 := Lib.hid (L11.out.below b12.out)
      have I12 := Lib.hid (rcs_lit encI_len w11 [(4, 1)] #[.int .i64 4, .int .i64 1] 24 rfl)
      have d12 := Lib.hid (below_after b11.out b12.out (Nat.le_refl _))
      have Z12 := Lib.hid d12.out.size
      clear L11 b11 b12
      go_upto_region 10 with (at_builtin; refine wpList_append_recs 29 24 Tryz.underlying29 infoI rfl encI_len (by omega) encI_one (by omega) rfl (.tmp 37) (.tmp 39) rfl _ w8.heap.size _ _ ([] ++ sk 64) [(4, 1)] rfl rfl L12.out I12.out (by have := HL.out; simp; omega) Z12.out ?_; intro v13 w13 h1 h2; obtain ⟨A13, n13, c13, rfl⟩ := ownsR_shape h1; have L13 := Lib.hid (show OwnsR encI 2 24 w13 w8.heap.size (.slice A13 n13 c13) (sk 64 ++ [(4, 1)]) from h1); have b13 := Lib.hid (d12.out.trans h2); have Y13 := Lib.hid (fbox_below Y8.out b13.out); obtain ⟨f0, f1, f2, f3, f4, f5, f6, f7, f8, f9, f10, f11, f12, f13⟩ := fbox_free Y13.out; obtain ⟨q0, q1, q2, q3, q4, q5, q6, q7, q8, q9, q10, q11, q12, q13⟩ := fbox_cells Y13.out; clear f0 f1 f2 f3 f4 f5 f6 f7 f8 f9 f10 f11 f12 q0 q1 q2 q3 q4 q5 q6 q7 q8 q9 q10 q11 q12 h1 h2 Y8 L12 I12 d12 Z12)
      have X13 := Lib.hid (fbox_below X8.out b13.out)
      have O13 := Lib.hid (O8.out.below b13.out)
      have B13 := Lib.hid (below_after B8.out b13.out (Nat.le_refl _))
      have HG := Lib.hid (grownSet w13 Y 13 (.slice A13 n13 c13))
      have X14 := Lib.hid (fbox_kept X13.out HG.out (fun e => by have := HXY.out; injection e with e; omega))
      have Y14 := Lib.hid (fbox_put_s (G := gF (sk 64 ++ [(4, 1)]) []) Y13.out (A13, n13, c13) ⟨rfl, rfl, rfl, rfl, rfl, rfl⟩)
      have O14 := Lib.hid (show OwnsR encI 2 24 (w13.setCell ⟨Y, 13, none⟩ (.slice A13 n13 c13)) w.heap.size (.slice A n c) (sk 64) from World.ownsRow.kept O13.out HG.out (.inr (ownsR_not O13.out Y13.out (by decide))))
      have L14 := Lib.hid (show OwnsR encI 2 24 (w13.setCell ⟨Y, 13, none⟩ (.slice A13 n13 c13)) w8.heap.size (.slice A13 n13 c13) (sk 64 ++ [(4, 1)]) from World.ownsRow.kept L13.out HG.out (.inr (ownsR_not L13.out Y13.out (by decide))))
      have B14 := Lib.hid (B13.out.trans (below_gone HG.out HY.out B13.out.size))
      clear f13 q13 HG X13 Y13 O13 L13 B13 X8 O8 b13 B8
      dsimp only at Y14
      generalize w13.setCell ⟨Y, 13, none⟩ (.slice A13 n13 c13) = w14 at *
      obtain ⟨p0, p1, p2, p3, p4, p5, p6, p7, p8, p9, p10, p11, p12, p13⟩ := fbox_cells Y14.out
      dsimp only [gF] at p0 p1 p2 p3 p4 p5 p6 p7 p8 p9 p10 p11 p12 p13
      go_wp2_with fail
      (with_reducible refine (enc_seen w14 (A13, n13, c13) (seenRV L14.out)).mono ?_)
      rintro e15 w15 ⟨rfl, hb⟩
      generalize bs (encB (gF (sk 64 ++ [(4, 1)]) [])) = S1
      have X15 := Lib.hid (fbox_below X14.out hb)
      have Y15 := Lib.hid (fbox_below Y14.out hb)
      have O15 := Lib.hid (O14.out.below hb)
      have L15 := Lib.hid (L14.out.below hb)
      have B15 := Lib.hid (below_after B14.out hb (Nat.le_refl _))
      clear hb X14 Y14 O14 L14 B14 p0 p1 p2 p3 p4 p5 p6 p7 p8 p9 p10 p11 p12 p13
      go_wp2_with fail
      go_loopw [6, 7] (fun s6 s7 wr => ∃ k : Nat, k ≤ 64 ∧ s7 = .int .i64 ((k : Int) + 1) ∧ Hid (OwnsR encI 2 24 wr w15.heap.size s6 (mk k)) ∧ Hid (Below w15.heap.size w15 wr)) (fun _ s7 _ => 65 - (intOf s7).toNat)
      case atStart => exact ⟨0, by omega, rfl, Lib.hid (OwnsR.nil _ _ _), Lib.hid (Below.refl _ _)⟩
      case round =>
        obtain ⟨k, hk, rfl, O16, b16⟩ := hrel
        by_cases hlt : k < 64
        · have hd : decide ((k : Int) + 1 ≤ 64) = true := by simp; omega
          have HL2 := Lib.hid (mk_len k)
          have I16 := Lib.hid (rcs_lit encI_len wr [(5, 1048512 + ((k : Int) + 1))] #[.int .i64 5, .int .i64 (1048512 + ((k : Int) + 1))] 24 rfl)
          have b17 := Lib.hid (below_one wr (.cells #[.int .i64 5, .int .i64 (1048512 + ((k : Int) + 1))] 24))
          have O17 := Lib.hid (O16.out.below b17.out)
          have d17 := Lib.hid (below_after b16.out b17.out (Nat.le_refl _))
          have Z17 := Lib.hid d17.out.size
          clear O16 b16 b17
          go_wp2_with (at_builtin; refine wpList_append_recs 29 24 Tryz.underlying29 infoI rfl encI_len (by omega) encI_one (by omega) rfl (.tmp 52) (.tmp 56) rfl _ w15.heap.size _ _ (mk k) [(5, 1048512 + ((k : Int) + 1))] rfl rfl O17.out I16.out (by have := HL2.out; simp; omega) Z17.out ?_; intro v18 w18 h1 h2; have O18 := Lib.hid h1; have b18 := Lib.hid (d17.out.trans h2); clear h1 h2)
          go_roundw
          case rel => exact ⟨k + 1, by omega, by go_num, by rw [mk_next]; exact O18, b18⟩
          case measure => simp [intOf]; omega
        · obtain rfl : k = 64 := by omega
          have hd : decide (((64 : Nat) : Int) + 1 ≤ 64) = false := by decide
          obtain ⟨D, nd, cd, rfl⟩ := ownsR_shape O16.out
          have X16 := Lib.hid (fbox_below X15.out b16.out)
          have Y16 := Lib.hid (fbox_below Y15.out b16.out)
          have Q16 := Lib.hid (O15.out.below b16.out)
          have L16 := Lib.hid (L15.out.below b16.out)
          have B16 := Lib.hid (below_after B15.out b16.out (Nat.le_refl _))
          clear X15 Y15 O15 L15 B15 b16
          go_wp2_with fail
          generalize wr = w16 at *
          go_loopw [8] (fun s8 wq => ∃ (k : Nat) (C : Option Addr) (nc cc : Nat) (qs : List Raw), k ≤ 40 ∧ s8 = .int .i64 ((k : Int) + 1) ∧ Hid (FBox wq X (gF (sk 64) (rk (mk 64) k)) (none, 0, 0) (none, 0, 0) (C, nc, cc) (none, 0, 0) (A, n, c)) ∧ Hid (OwnsR encW 4 37 wq w16.heap.size (.slice C nc cc) qs) ∧ Hid (EachOwn wq 0 qs (rk (mk 64) k)) ∧ Hid (w16.grownBy wq (some X))) (fun s8 _ => 41 - (intOf s8).toNat)
          case atStart => exact ⟨0, none, 0, 0, [], by omega, rfl, X16, Lib.hid (OwnsR.nil _ _ _), Lib.hid trivial, Lib.hid ⟨rfl, rfl, rfl, Nat.le_refl _, fun _ _ _ => rfl⟩⟩
          case round =>
            obtain ⟨k, C, nc, cc, qs, hk, rfl, X17, O17, E17, G17⟩ := hrel
            by_cases hlt : k < 40
            · have hd : decide ((k : Int) + 1 ≤ 40) = true := by simp; omega
              obtain ⟨p0, p1, p2, p3, p4, p5, p6, p7, p8, p9, p10, p11, p12, p13⟩ := fbox_cells X17.out
              clear p0 p1 p2 p3 p4 p5 p6 p7 p8 p9 p10 p12 p13
              have HQ := Lib.hid (show qs.length ≤ 40 by have := EachOwn.len E17.out; rw [rk_len] at this; omega)
              have I17 := Lib.hid (rcs_lit encW_len wr [((6, (k : Int) + 1), 1, D, nd, cd)] #[.int .i64 6, .int .i64 ((k : Int) + 1), .int .i64 1, .slice D nd cd] 37 rfl)
              have b18 := Lib.hid (below_one wr (.cells #[.int .i64 6, .int .i64 ((k : Int) + 1), .int .i64 1, .slice D nd cd] 37))
              have X18 := Lib.hid (fbox_below X17.out b18.out)
              have O18 := Lib.hid (show OwnsR encW 4 37 (wr.alloc (.cells #[.int .i64 6, .int .i64 ((k : Int) + 1), .int .i64 1, .slice D nd cd] 37)) w16.heap.size (.slice C nc cc) qs from O17.out.below b18.out)
              have E18 := Lib.hid (E17.out.below b18.out)
              have G18 := Lib.hid (grown_mid G17.out (b18.out.mono G17.out.size))
              have Z18 := Lib.hid G18.out.size
              clear b18 X17 O17 E17 G17
              go_wp2_with (at_builtin; refine wpList_append_kept 31 37 Tryz.underlying31 infoW rfl encW_len (by omega) encW_one (by omega) rfl (.tmp 64) (.tmp 69) rfl _ w16.heap.size _ _ qs [((6, (k : Int) + 1), 1, D, nd, cd)] rfl rfl O18.out I17.out (by have := HQ.out; simp; omega) Z18.out ?_; intro v19 w19 h1 h2 h3; obtain ⟨C19, n19, c19, rfl⟩ := ownsR_shape h1; have O19 := Lib.hid h1; have X19 := Lib.hid (fbox_kept X18.out h3 (ownsR_not O18.out X18.out (by decide))); have E19 := Lib.hid (EachOwn.rowed E18.out O18.out h3); have G19 := Lib.hid (grown_mid G18.out h2); obtain ⟨f0, f1, f2, f3, f4, f5, f6, f7, f8, f9, f10, f11, f12, f13⟩ := fbox_free X19.out; obtain ⟨q0, q1, q2, q3, q4, q5, q6, q7, q8, q9, q10, q11, q12, q13⟩ := fbox_cells X19.out; clear f0 f1 f2 f3 f4 f5 f6 f7 f8 f9 f10 f12 f13 q0 q1 q2 q3 q4 q5 q6 q7 q8 q9 q10 q12 q13 p11 h1 h2 h3 X18 O18 E18 G18)
              go_roundw
              case rel =>
                have HG := grownSet w19 X 11 (.slice C19 n19 c19)
                have G20 := grownThen G19.out HG
                have M20 := World.ownsRow.kept O16.out G20 (.inr (ownsR_not O16.out X16.out (by decide)))
                refine ⟨k + 1, by omega, by omega, C19, n19, c19, Lib.hid (fbox_put_r (G := gF (sk 64) (rk (mk 64) (k + 1))) X19.out (C19, n19, c19) ⟨rfl, rfl, rfl, rfl, rfl, rfl⟩), qs ++ [((6, (k : Int) + 1), 1, D, nd, cd)], Lib.hid (World.ownsRow.kept O19.out HG (.inr (ownsR_not O19.out X19.out (by decide)))), ?_, Lib.hid G20⟩
                rw [rk_next]
                exact Lib.hid ((E19.out.imp fun _ _ o => ⟨o.1, o.2.1, World.ownsRow.kept o.2.2 HG (.inr (ownsR_not o.2.2 X19.out (by decide)))⟩).append (show EachOwn (w19.setCell ⟨X, 11, none⟩ (.slice C19 n19 c19)) 0 [((6, (k : Int) + 1), 1, D, nd, cd)] [((6, (k : Int) + 1), 1, mk 64)] from ⟨⟨rfl, rfl, OwnsR.mono M20 (Nat.zero_le _)⟩, trivial⟩))
              case measure => simp [intOf]; omega
            · obtain rfl : k = 40 := by omega
              have hd : decide (((40 : Nat) : Int) + 1 ≤ 40) = false := by decide
              have Q17 := Lib.hid (World.ownsRow.kept Q16.out G17.out (.inr (ownsR_not Q16.out X16.out (by decide))))
              have L17 := Lib.hid (show OwnsR encI 2 24 wr w8.heap.size (.slice A13 n13 c13) (sk 64 ++ [(4, 1)]) from World.ownsRow.kept L16.out G17.out (.inr (ownsR_not L16.out X16.out (by decide))))
              have Y17 := Lib.hid (fbox_kept Y16.out G17.out (fun e => by have := HXY.out; injection e with e; omega))
              have B17 := Lib.hid (B16.out.trans (below_gone G17.out HX.out B16.out.size))
              have R17 := Lib.hid (rowsRV O17.out E17.out (show OwnsR encI 2 24 wr w.heap.size (.slice A n c) (sk 64) from Q17.out))
              clear O16 X16 Y16 Q16 L16 B16 O17 E17 G17 Q17
              obtain ⟨p0, p1, p2, p3, p4, p5, p6, p7, p8, p9, p10, p11, p12, p13⟩ := fbox_cells X17.out
              dsimp only [gF] at p0 p1 p2 p3 p4 p5 p6 p7 p8 p9 p10 p11 p12 p13
              go_wp2_with fail
              (with_reducible refine (enc_rows wr (C, nc, cc) (A, n, c) R17.out).mono ?_)
              rintro e18 w18 ⟨rfl, hb⟩
              generalize bs (encB (gF (sk 64) (rk (mk 64) 40))) = S2
              have X18 := Lib.hid (fbox_below X17.out hb)
              have Y18 := Lib.hid (fbox_below Y17.out hb)
              have R18 := Lib.hid (R17.out.below hb)
              have L18 := Lib.hid (L17.out.below hb)
              have B18 := Lib.hid (below_after B17.out hb (Nat.le_refl _))
              clear hb X17 Y17 R17 L17 B17 p0 p1 p2 p3 p4 p5 p6 p7 p8 p9 p10 p11 p12 p13
              go_upto_region 21 with fail
              obtain ⟨i0, hi, hz0, hz1, hz2⟩ := info_parts infoU
              have hz3 : i0.bytes * 8193 ≤ 281474976710656 := by rw [hz2]; decide
              have hz4 : 8193 ≤ maxLen := by unfold maxLen; omega
              go_wp2_with (at_make; refine wpList_make_full w18 rfl (.const (.int .i64 8193)) (.const (.int .i64 8193)) 63 rfl w18.heap.size 5 i0 (.int .u8 0) 1 Tryz.underlying63 hi hz0 hz1 .i64 .i64 8193 8193 8193 rfl rfl rfl rfl hz3 hz4 (Nat.le_refl _) ?_; intro w19 h1 h2; have hc := owns_text (show OwnsC w19 w18.heap.size (.slice (some ⟨w18.heap.size, 0, none⟩) 8193 8193) (zeros 8193) by unfold OwnsC; rw [zeros_len, ← zeros_made]; exact h1) (by rw [zeros_len]; decide); have d19 := Lib.hid ((Below.refl w18.heap.size w18).grown h2 (Nat.le_refl _) (fun k hk => by cases hk)); clear h1 h2 hz0 hz1 hz2 hz3 hz4 hi)
              (with_reducible refine (dec_zeros (n := 8193) (by omega) _).mono ?_)
              rintro e20 w20 ⟨aa, bb, cc2, dd, ee, rfl, _, hb0⟩
              generalize decF (zeros 8193) = F1 at *
              clear hc
              have hb := below_after (below_after d19.out hb0 (Nat.le_refl _)) (below_one w20 (.cells #[.int .u8 F1.k, .int .i64 F1.f.1, .int .i64 F1.f.2, .int .i64 F1.t.1, .int .i64 F1.t.2, .int .i64 F1.n, .int .i64 F1.q, .int .i64 F1.b.1, .int .i64 F1.b.2, .slice aa.1 aa.2.1 aa.2.2, .slice bb.1 bb.2.1 bb.2.2, .slice cc2.1 cc2.2.1 cc2.2.2, .slice dd.1 dd.2.1 dd.2.2, .slice ee.1 ee.2.1 ee.2.2] 39)) (Nat.le_refl _)
              clear hb0 d19
              have X21 := Lib.hid (fbox_below X18.out hb)
              have Y21 := Lib.hid (fbox_below Y18.out hb)
              have R21 := Lib.hid (R18.out.below hb)
              have L21 := Lib.hid (L18.out.below hb)
              have B21 := Lib.hid (below_after B18.out hb (Nat.le_refl _))
              clear hb X18 Y18 R18 L18 B18
              go_upto_region 22 with fail
              generalize w20.alloc (.cells #[.int .u8 F1.k, .int .i64 F1.f.1, .int .i64 F1.f.2, .int .i64 F1.t.1, .int .i64 F1.t.2, .int .i64 F1.n, .int .i64 F1.q, .int .i64 F1.b.1, .int .i64 F1.b.2, .slice aa.1 aa.2.1 aa.2.2, .slice bb.1 bb.2.1 bb.2.2, .slice cc2.1 cc2.2.1 cc2.2.2, .slice dd.1 dd.2.1 dd.2.2, .slice ee.1 ee.2.1 ee.2.2] 39) = w21 at *
              obtain ⟨p0, p1, p2, p3, p4, p5, p6, p7, p8, p9, p10, p11, p12, p13⟩ := fbox_cells Y21.out
              dsimp only [gF] at p0 p1 p2 p3 p4 p5 p6 p7 p8 p9 p10 p11 p12 p13
              go_wp2_with fail
              (with_reducible refine (may_seen w21 (A13, n13, c13) (seenRV L21.out)).mono ?_)
              rintro e22 w22 ⟨rfl, hb⟩
              have X22 := Lib.hid (fbox_below X21.out hb)
              have R22 := Lib.hid (R21.out.below hb)
              have B22 := Lib.hid (below_after B21.out hb (Nat.le_refl _))
              clear hb X21 Y21 R21 L21 B21 p0 p1 p2 p3 p4 p5 p6 p7 p8 p9 p10 p11 p12 p13
              obtain ⟨p0, p1, p2, p3, p4, p5, p6, p7, p8, p9, p10, p11, p12, p13⟩ := fbox_cells X22.out
              dsimp only [gF] at p0 p1 p2 p3 p4 p5 p6 p7 p8 p9 p10 p11 p12 p13
              go_wp2_with fail
              (with_reducible refine (gossip_may w22 (C, nc, cc) (A, n, c) R22.out).mono ?_)
              rintro e23 w23 ⟨rfl, hb⟩
              have B23 := Lib.hid (below_after B22.out hb (Nat.le_refl _))
              clear hb X22 R22 B22 p0 p1 p2 p3 p4 p5 p6 p7 p8 p9 p10 p11 p12 p13
              go_wp2_with fail
              go_ret
              exact ⟨rfl, B23.out⟩
end Go.Proofs.YtkeiekljedhllaaGreat
namespace Go.Proofs.YtkeiekljedhllaaGreat
open Go Go.RowKit
/-- A kind, and what it names. -/
structure Kd where
  k : Int
  f : Bool
  t : Bool
  n : Bool
  q : Bool
  b : Bool
  v : Int
def kds : List Kd := [⟨1, true, true, false, false, false, 0⟩, ⟨2, true, true, false, false, false, 2⟩, ⟨3, true, true, false, false, false, 1⟩, ⟨4, true, true, false, false, false, 2⟩, ⟨5, true, true, true, false, false, 0⟩, ⟨6, true, true, true, false, false, 0⟩, ⟨7, true, true, false, false, true, 0⟩, ⟨8, true, true, false, false, true, 0⟩, ⟨9, true, false, true, false, false, 0⟩, ⟨10, true, false, true, true, false, 0⟩, ⟨11, true, false, false, true, false, 0⟩, ⟨12, false, true, true, true, false, 0⟩, ⟨13, false, true, true, false, false, 0⟩]
def noV : Vw := ⟨[], [], [], [], []⟩
def vV : Vw := ⟨[], [], [], [((1, 1), 1099511627776)], [(3, 1)]⟩
def vA : Vw := ⟨[((1, 1), 6, 7), ((2, 5), 1, 0)], [(2, 4), (9, 1048576)], [((1, 1), 3, [(2, 5)]), ((2, 5), 1, [])], [((1, 1), 1099511627776)], [(3, 1)]⟩
def vS : Vw := ⟨[], [], [], [], [(2, 1), (1, 1)]⟩
def kF (x : Kd) : Fr := ⟨x.k, if x.f = true then (4, 1) else (0, 0), if x.t = true then (5, 0) else (0, 0), 0, 0, if x.b = true then (4, 1) else (0, 0), noV⟩
/-- What is put into each of them, and whether it may be. -/
def kW (x : Kd) : List (Fr × Bool) := [(kF x, true), ({kF x with n := 1099511627776}, x.n), ({kF x with q := 9}, x.q), ({kF x with f := (12, 1)}, x.f), ({kF x with t := (12, 1)}, x.t), ({kF x with b := (12, 1)}, x.b), ({kF x with v := vV}, decide (0 < x.v)), ({kF x with v := vA}, decide (1 < x.v)), ({kF x with n := 1099511627777}, false), ({kF x with q := -1}, false), ({kF x with v := vS}, false)]
/-- Frames that may not be. -/
def kN : List Fr := [⟨0, (0, 0), (0, 0), 0, 0, (0, 0), noV⟩, ⟨14, (4, 1), (5, 0), 0, 0, (0, 0), noV⟩, ⟨1, (0, 0), (5, 0), 0, 0, (0, 0), noV⟩, ⟨1, (4, 1), (0, 0), 0, 0, (0, 0), noV⟩, ⟨1, (4, 1), (13, 0), 0, 0, (0, 0), noV⟩, ⟨1, (4, 1), (1, -1), 0, 0, (0, 0), noV⟩, ⟨7, (4, 1), (5, 0), 0, 0, (0, 0), noV⟩]
def okW (p : Fr × Bool) : Bool := (mayF p.1 == p.2) && ((encE p.1 == 0) == p.2)
def okK (x : Kd) : Bool := mayF (kF x) && (encE (kF x) == 0) && (kW x).all okW
theorem kds_ok : kds.all okK = true := by kernel_rfl
theorem kN_no : kN.all (fun F => !mayF F) = true := by kernel_rfl
theorem kd_ok {i : Nat} (h : i < kds.length) : mayF (kF kds[i]) = true ∧ encE (kF kds[i]) = 0 ∧ ∀ p ∈ kW kds[i], mayF p.1 = p.2 ∧ (decide (encE p.1 = 0)) = p.2 := by
  have h1 := List.all_eq_true.1 kds_ok _ (List.getElem_mem h)
  unfold okK at h1
  rw [Bool.and_eq_true, Bool.and_eq_true] at h1
  refine ⟨h1.1.1, beq_iff_eq.1 h1.1.2, fun p hp => ?_⟩
  have h2 := List.all_eq_true.1 h1.2 p hp
  unfold okW at h2
  rw [Bool.and_eq_true] at h2
  refine ⟨beq_iff_eq.1 h2.1, ?_⟩
  have h3 := beq_iff_eq.1 h2.2
  rw [← h3]
  by_cases e : encE p.1 = 0
  · rw [e]; rfl
  · rw [decide_eq_false e]
    cases hb : (encE p.1 == 0)
    · rfl
    · exact absurd (beq_iff_eq.1 hb) e
theorem kN_may {i : Nat} (h : i < kN.length) : mayF kN[i] = false := by
  have h1 := List.all_eq_true.1 kN_no _ (List.getElem_mem h)
  simpa using h1
/-- A cell of one element, written. -/
theorem flatR_set {α : Type} {enc : α → List Value} {sz : Nat} (hs : ∀ a, (enc a).length = sz) (v : Value) : ∀ (l : List α) (j i : Nat) (x : α) (hj : j < l.length) (_ : i < sz) (_ : enc x = (enc l[j]).set i v), (flatR enc l).set (j * sz + i) v = flatR enc (l.set j x)
  | [], j, i, x, hj, _, _ => absurd hj (by simp)
  | y :: l, 0, i, x, hj, hi, hx => by
    unfold flatR
    rw [List.set_cons_zero, List.flatMap_cons, List.flatMap_cons, Nat.zero_mul, Nat.zero_add, List.set_append_left _ _ (by rw [hs]; exact hi)]
    rw [hx]
    rfl
  | y :: l, j + 1, i, x, hj, hi, hx => by
    have ih := flatR_set hs v l j i x (by simpa using hj) hi hx
    unfold flatR at ih ⊢
    rw [List.set_cons_succ, List.flatMap_cons, List.flatMap_cons, Nat.add_mul, Nat.one_mul, List.set_append_right _ _ (by rw [hs]; omega), hs]
    rw [show j * sz + sz + i - sz = j * sz + i by omega, ih]
end Go.Proofs.YtkeiekljedhllaaGreat
namespace Go.Proofs.YtkeiekljedhllaaGreat
open Go Go.RowKit
theorem OwnV.put0 {w : World} {g lo : Nat} {a b c d e : SL} {V : Vw} (h : OwnV w lo a b c d e V) (hx : VBox w g a b c d e) (s : SL) (l : List Ros.Mm) (hl : OwnsR encM 4 35 w lo (.slice s.1 s.2.1 s.2.2) l) : OwnV (w.setCell ⟨g, 0, none⟩ (.slice s.1 s.2.1 s.2.2)) lo s b c d e {V with m := l} := by
  have k := OwnV.write (OwnV.mk (a := s) (V := {V with m := l}) hl h.f h.r h.c h.s) hx (by decide) (by decide) (by decide) (by decide) (grownSet w g 0 (.slice s.1 s.2.1 s.2.2))
  exact k
theorem OwnV.put1 {w : World} {g lo : Nat} {a b c d e : SL} {V : Vw} (h : OwnV w lo a b c d e V) (hx : VBox w g a b c d e) (s : SL) (l : List Sets.Id2) (hl : OwnsI w lo (.slice s.1 s.2.1 s.2.2) l) : OwnV (w.setCell ⟨g, 1, none⟩ (.slice s.1 s.2.1 s.2.2)) lo a s c d e {V with f := l} := by
  have k := OwnV.write (OwnV.mk (b := s) (V := {V with f := l}) h.m hl h.r h.c h.s) hx (by decide) (by decide) (by decide) (by decide) (grownSet w g 1 (.slice s.1 s.2.1 s.2.2))
  exact k
theorem OwnV.put2 {w : World} {g lo : Nat} {a b c d e : SL} {V : Vw} (h : OwnV w lo a b c d e V) (hx : VBox w g a b c d e) (s : SL) (qs : List Raw) (l : List RowSets.Row) (hl : OwnsR encW 4 37 w lo (.slice s.1 s.2.1 s.2.2) qs) (he : EachOwn w lo qs l) : OwnV (w.setCell ⟨g, 2, none⟩ (.slice s.1 s.2.1 s.2.2)) lo a b s d e {V with r := l} := by
  have k := OwnV.write (OwnV.mk (c := s) (V := {V with r := l}) h.m h.f ⟨qs, hl, he⟩ h.c h.s) hx (by decide) (by decide) (by decide) (by decide) (grownSet w g 2 (.slice s.1 s.2.1 s.2.2))
  exact k
theorem owns_lit {α : Type} {enc : α → List Value} {sz : Nat} (hs : ∀ a, (enc a).length = sz) (w : World) (lo : Nat) (hlo : lo ≤ w.heap.size) (l : List α) (cs : Array Value) (T : TypeId) (h : cs.toList = flatR enc l) (hm : l.length ≤ 100000) : OwnsR enc sz T (w.alloc (.cells cs T)) lo (.slice (some ⟨w.heap.size, 0, none⟩) l.length l.length) l := by
  unfold OwnsR
  rw [← h]
  have hz : cs.size = l.length * sz := by rw [← Array.length_toList, h, flatR_len hs]
  exact ⟨by simp [hz], .inr ⟨w.heap.size, l.length, cs, rfl, hlo, heap_alloc_new w _, Nat.le_refl _, by unfold maxLen; omega, hz, List.take_of_length_le (by rw [Array.length_toList, hz]; exact Nat.le_refl _)⟩⟩
def encKd (x : Kd) : List Value := [.int .u8 x.k, .int .i64 0, .int .i64 0, .int .i64 0, .int .i64 0, .int .i64 0, .int .i64 0, .int .i64 0, .int .i64 0, .slice none 0 0, .slice none 0 0, .slice none 0 0, .slice none 0 0, .slice none 0 0, .bool x.f, .bool x.t, .bool x.n, .bool x.q, .bool x.b, .int .i64 x.v]
theorem encKd_len (x : Kd) : (encKd x).length = 20 := rfl
/-- Block g holds a kind, and what it names. -/
def XBox (w : World) (g : Nat) (x : Kd) : Prop := w.heap[g]? = some (.cells #[.int .u8 x.k, .int .i64 0, .int .i64 0, .int .i64 0, .int .i64 0, .int .i64 0, .int .i64 0, .int .i64 0, .int .i64 0, .slice none 0 0, .slice none 0 0, .slice none 0 0, .slice none 0 0, .slice none 0 0, .bool x.f, .bool x.t, .bool x.n, .bool x.q, .bool x.b, .int .i64 x.v] 40 (0, 0))
theorem xbox_below {w w' : World} {g : Nat} {x : Kd} (h : XBox w g x) (hb : Below w.heap.size w w') : XBox w' g x := (hb.block _ (row_lt h)).trans h
theorem xbox_kept {w w' : World} {g X : Nat} {x : Kd} (h : XBox w g x) (k : w.grownBy w' (some X)) (hx : g ≠ X) : XBox w' g x := (k.block g (row_lt h) (fun e => hx (by injection e))).trans h
theorem xbox_cells {w : World} {g : Nat} {x : Kd} (h : XBox w g x) : w.cell? ⟨g, 0, none⟩ = some (.int .u8 x.k) ∧ w.cell? ⟨g, 1, none⟩ = some (.int .i64 0) ∧ w.cell? ⟨g, 2, none⟩ = some (.int .i64 0) ∧ w.cell? ⟨g, 3, none⟩ = some (.int .i64 0) ∧ w.cell? ⟨g, 4, none⟩ = some (.int .i64 0) ∧ w.cell? ⟨g, 5, none⟩ = some (.int .i64 0) ∧ w.cell? ⟨g, 6, none⟩ = some (.int .i64 0) ∧ w.cell? ⟨g, 7, none⟩ = some (.int .i64 0) ∧ w.cell? ⟨g, 8, none⟩ = some (.int .i64 0) ∧ w.cell? ⟨g, 9, none⟩ = some (.slice none 0 0) ∧ w.cell? ⟨g, 10, none⟩ = some (.slice none 0 0) ∧ w.cell? ⟨g, 11, none⟩ = some (.slice none 0 0) ∧ w.cell? ⟨g, 12, none⟩ = some (.slice none 0 0) ∧ w.cell? ⟨g, 13, none⟩ = some (.slice none 0 0) ∧ w.cell? ⟨g, 14, none⟩ = some (.bool x.f) ∧ w.cell? ⟨g, 15, none⟩ = some (.bool x.t) ∧ w.cell? ⟨g, 16, none⟩ = some (.bool x.n) ∧ w.cell? ⟨g, 17, none⟩ = some (.bool x.q) ∧ w.cell? ⟨g, 18, none⟩ = some (.bool x.b) ∧ w.cell? ⟨g, 19, none⟩ = some (.int .i64 x.v) := by
  unfold XBox at h
  refine ⟨?_, ?_, ?_, ?_, ?_, ?_, ?_, ?_, ?_, ?_, ?_, ?_, ?_, ?_, ?_, ?_, ?_, ?_, ?_, ?_⟩ <;> (rw [cell_of_row _ _ _ _ _ _ h]; rfl)
end Go.Proofs.YtkeiekljedhllaaGreat
