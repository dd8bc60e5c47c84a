/-
  Walks over how much steps have. No statement is proved in this text.
-/
import Derived.Test.YtmgiglefabbmcaaOutQ
set_option maxRecDepth 20000
namespace Go.Proofs.Ytmgiglefabbmcaa
open Go Go.RowKit
/-- How many entries lists have, together. -/
def notsN (l : List Row) : Nat := (l.map fun r => r.2.2.length).sum
theorem notsN_take {l : List Row} {k : Nat} (h : k < l.length) : notsN (l.take (k + 1)) = notsN (l.take k) + l[k].2.2.length := by
  unfold notsN
  rw [List.take_succ_eq_append_getElem h, List.map_append, List.sum_append]
  simp only [List.map_cons, List.map_nil, List.sum_cons, List.sum_nil, Nat.add_zero]
theorem notsN_mem {l : List Row} {r : Row} (h : r ∈ l) : r.2.2.length ≤ notsN l := by
  induction l with
  | nil => cases h
  | cons x l ih =>
    have e : notsN (x :: l) = x.2.2.length + notsN l := by simp [notsN]
    rcases List.mem_cons.1 h with rfl | h
    · omega
    · have := ih h
      omega
theorem small_fit {V : Vw} {n : Nat} (hn : n < 20000) (h : 5 + V.m.length + V.f.length + V.c.length + V.s.length + V.r.length + notsN V.r ≤ n) : Fit 20000 V :=
  ⟨by omega, by omega, by omega, by omega, by omega, fun r hr => by have := notsN_mem hr; omega⟩
set_option maxHeartbeats 8000000 in
theorem size_any (q : Fq) (w : World) (h : FR w q) (hW : WideV q.F.v) :
    Calls Try.prog 33 #[.agg (fc q)] w fun e w' => (∃ n : Nat, e = .returned (.int .i64 n) ∧ n ≤ 100000000000000 ∧ (n < 20000 → Fit 20000 q.F.v)) ∧ Below w.heap.size w w' := by
  have z1 := rcs_len h.m
  have z2 := rcs_len h.f
  have z3 := rows_len h.r
  have z4 := rcs_len h.c
  have z5 := rcs_len h.s
  obtain ⟨F, ⟨a0, a1, a2⟩, ⟨b0, b1, b2⟩, ⟨c0, c1, c2⟩, ⟨d0, d1, d2⟩, ⟨e0, e1, e2⟩⟩ := q
  dsimp only at *
  subst z1 z2 z3 z4 z5
  have B1 := Lib.hid (below_one w (.cells (fc ⟨F, (a0, F.v.m.length, a2), (b0, F.v.f.length, b2), (c0, F.v.r.length, c2), (d0, F.v.c.length, d2), (e0, F.v.s.length, e2)⟩) 32))
  have X1 := Lib.hid (fb_new w ⟨F, (a0, F.v.m.length, a2), (b0, F.v.f.length, b2), (c0, F.v.r.length, c2), (d0, F.v.c.length, d2), (e0, F.v.s.length, e2)⟩)
  have HN := Lib.hid hW.n
  have k1 := hW.m
  have k2 := hW.f
  have k3 := hW.c
  have k4 := hW.s
  have k5 := hW.r
  have HS : Hid (∀ n : Nat, n < 20000 → 5 + F.v.m.length + F.v.f.length + F.v.c.length + F.v.s.length + F.v.r.length + notsN F.v.r ≤ n → Fit 20000 F.v) := Lib.hid fun n h1 h2 => small_fit h1 h2
  have B2 := Lib.hid (below_one (w.alloc (.cells (fc ⟨F, (a0, F.v.m.length, a2), (b0, F.v.f.length, b2), (c0, F.v.r.length, c2), (d0, F.v.c.length, d2), (e0, F.v.s.length, e2)⟩) 32)) (.cells #[.slice a0 F.v.m.length a2, .slice b0 F.v.f.length b2, .slice c0 F.v.r.length c2, .slice d0 F.v.c.length d2, .slice e0 F.v.s.length e2] 30))
  have X2 := Lib.hid (show VB ((w.alloc (.cells (fc ⟨F, (a0, F.v.m.length, a2), (b0, F.v.f.length, b2), (c0, F.v.r.length, c2), (d0, F.v.c.length, d2), (e0, F.v.s.length, e2)⟩) 32)).alloc (.cells #[.slice a0 F.v.m.length a2, .slice b0 F.v.f.length b2, .slice c0 F.v.r.length c2, .slice d0 F.v.c.length d2, .slice e0 F.v.s.length e2] 30)) (w.heap.size + 1) (a0, F.v.m.length, a2) (b0, F.v.f.length, b2) (c0, F.v.r.length, c2) (d0, F.v.c.length, d2) (e0, F.v.s.length, e2) from by have := vb_new (w.alloc (.cells (fc ⟨F, (a0, F.v.m.length, a2), (b0, F.v.f.length, b2), (c0, F.v.r.length, c2), (d0, F.v.c.length, d2), (e0, F.v.s.length, e2)⟩) 32)) (a0, F.v.m.length, a2) (b0, F.v.f.length, b2) (c0, F.v.r.length, c2) (d0, F.v.c.length, d2) (e0, F.v.s.length, e2); simpa using this)
  have BB := Lib.hid (below_after B1.out B2.out (Nat.le_refl _))
  have RR := Lib.hid (show RowsAt ((w.alloc (.cells (fc ⟨F, (a0, F.v.m.length, a2), (b0, F.v.f.length, b2), (c0, F.v.r.length, c2), (d0, F.v.c.length, d2), (e0, F.v.s.length, e2)⟩) 32)).alloc (.cells #[.slice a0 F.v.m.length a2, .slice b0 F.v.f.length b2, .slice c0 F.v.r.length c2, .slice d0 F.v.c.length d2, .slice e0 F.v.s.length e2] 30)) (.slice c0 F.v.r.length c2) F.v.r from h.r.below BB.out)
  obtain ⟨p0, p1, p2, p3, p4, p5, p6, p7, p8, p9, p10, p11, p12, p13⟩ := fb_cells X1.out
  obtain ⟨q0, q1, q2, q3, q4⟩ := vb_cells X2.out
  dsimp only at p0 p1 p2 p3 p4 p5 p6 p7 p8 p9 p10 p11 p12 p13 q0 q1 q2 q3 q4
  clear h hW
  go_enter Try.func33, Try.ntmps33
  go_wp2_with fail
  generalize (w.alloc (.cells (fc ⟨F, (a0, F.v.m.length, a2), (b0, F.v.f.length, b2), (c0, F.v.r.length, c2), (d0, F.v.c.length, d2), (e0, F.v.s.length, e2)⟩) 32)).alloc (.cells #[.slice a0 F.v.m.length a2, .slice b0 F.v.f.length b2, .slice c0 F.v.r.length c2, .slice d0 F.v.c.length d2, .slice e0 F.v.s.length e2] 30) = w2 at *
  clear p0 p1 p2 p3 p4 p5 p6 p7 p8 p9 p10 p11 p12 p13 q0 q1 q2 q3 q4
  go_loopw [4, 5] (fun s4 s5 wr => ∃ k n : Nat, k ≤ F.v.r.length ∧ s5 = .int .i64 k ∧ s4 = .int .i64 n ∧ n ≤ 100000000000000 ∧ Hid (n = 5 + F.v.m.length + F.v.f.length + F.v.c.length + F.v.s.length + F.v.r.length + notsN (F.v.r.take k)) ∧ Hid (Below w2.heap.size w2 wr)) (fun _ s5 _ => F.v.r.length - (intOf s5).toNat)
  case atStart => exact ⟨0, 5 + F.v.m.length + F.v.f.length + F.v.c.length + F.v.s.length + F.v.r.length, by omega, rfl, by go_num, by omega, Lib.hid (by simp [notsN]), Lib.hid (Below.refl _ _)⟩
  case round =>
    obtain ⟨k, n, hk, rfl, rfl, hn, HE, HW⟩ := hrel
    have i3 : (0 : Int) ≤ (k : Int) := by omega
    have X3 := Lib.hid (vb_below X2.out HW.out)
    obtain ⟨q0, q1, q2, q3, q4⟩ := vb_cells X3.out
    dsimp only at q0 q1 q2 q3 q4
    have BE := Lib.hid (below_after BB.out HW.out (Nat.le_refl _))
    by_cases hlt : k < F.v.r.length
    · have hd : decide ((k : Int) < (F.v.r.length : Int)) = true := by simp; omega
      have i4 : (k : Int) < (F.v.r.length : Int) := by omega
      by_cases h5 : n < 100000
      · have hd5 : decide ((n : Int) < 100000) = true := by simp; omega
        have hl := HN.out _ (List.getElem_mem hlt)
        have HT := Lib.hid (notsN_take hlt)
        obtain ⟨ad, y, hA, g1, g2, g3, g4, g5⟩ := RowsAt.at_ RR.out HW.out hlt
        subst hA
        obtain ⟨Y, yn, yc⟩ := y
        have hy : yn = F.v.r[k].2.2.length := rcs_len g5
        dsimp only at g4
        rw [← hy] at HT hl
        have HY := Lib.hid hy
        clear g5 hy
        generalize F.v.r[k].1.1 = x1 at *
        generalize F.v.r[k].1.2 = x2 at *
        generalize F.v.r[k].2.1 = x3 at *
        go_wp2_with fail
        go_roundw
        case rel => exact ⟨k + 1, n + yn, by omega, by go_num, by go_num, by omega, Lib.hid (by rw [HT.out]; have := HE.out; omega), HW⟩
        case measure => simp [intOf]; omega
      · have hd5 : decide ((n : Int) < 100000) = false := by simp; omega
        go_wp2_with fail
        go_ret
        exact ⟨⟨n, rfl, hn, fun h => by omega⟩, BE.out⟩
    · obtain rfl : k = F.v.r.length := by omega
      have hd : decide ((F.v.r.length : Int) < (F.v.r.length : Int)) = false := by simp
      have HE2 := Lib.hid (show n = 5 + F.v.m.length + F.v.f.length + F.v.c.length + F.v.s.length + F.v.r.length + notsN F.v.r by have := HE.out; rwa [List.take_length] at this)
      go_wp2_with fail
      go_ret
      exact ⟨⟨n, rfl, hn, fun h => HS.out n h (Nat.le_of_eq HE2.out.symm)⟩, BE.out⟩
/-- A step's frame, as the walk meets it. -/
theorem rcs_step {w w' : World} {ad : Addr} {n c : Nat} {l : List Sq} (h : Rcs encS 15 w (.slice (some ad) n c) l) (hb : Below w.heap.size w w') {k : Nat} (hk : k < l.length) : ∀ j v, (fc l[k].2)[j]? = some v → w'.cell? ((⟨(ad.add (k * 15)).block, (ad.add (k * 15)).off + 1, none⟩ : Addr).add j) = some v := by
  intro j v hj
  rw [Addr.add_mid]
  have h2 : (encS l[k])[1 + j]? = some v := by
    unfold encS
    rw [Nat.add_comm, List.getElem?_cons_succ]
    unfold fc at hj
    simpa using hj
  have := h.cell hb hk (1 + j) (by omega) h2
  rw [show (ad.add (k * 15)).off + 1 + j = (ad.add (k * 15)).off + (1 + j) by omega]
  exact this
set_option maxHeartbeats 8000000 in
theorem large_any (v : Value) (l : List Sq) (w : World) (h : Rcs encS 15 w v l) (hs : ∀ s ∈ l, FR w s.2 ∧ WideV s.2.F.v) (hll : l.length ≤ 8796093022208) :
    Calls Try.prog 19 #[v] w fun e w' => (∃ z : Bool, e = .returned (.bool z) ∧ (z = false → l.length ≤ 300 ∧ ∀ s ∈ l, Fit 20000 s.2.F.v)) ∧ Below w.heap.size w w' := by
  have HI := Lib.hid h
  have HS := Lib.hid hs
  obtain ⟨A, c, rfl, -, -, -⟩ := h
  clear hs
  go_enter Try.func19, Try.ntmps19
  go_wp2_with fail
  go_loopw [3, 4] (fun s3 s4 wr => ∃ k n : Nat, k ≤ l.length ∧ s4 = .int .i64 k ∧ s3 = .int .i64 n ∧ n ≤ 100000000020000 ∧ Hid (n < 20000 → ∀ (j : Nat) (hj : j < l.length), j < k → Fit 20000 l[j].2.F.v) ∧ Hid (Below w.heap.size w wr)) (fun _ s4 _ => l.length - (intOf s4).toNat)
  case atStart => exact ⟨0, 0, by omega, rfl, rfl, by omega, Lib.hid (fun _ j _ h => absurd h (by omega)), Lib.hid (Below.refl _ _)⟩
  case round =>
    obtain ⟨k, n, hk, rfl, rfl, hn, HE, HW⟩ := hrel
    have i3 : (0 : Int) ≤ (k : Int) := by omega
    by_cases hlt : k < l.length
    · have hd : decide ((k : Int) < (l.length : Int)) = true := by simp; omega
      have i4 : (k : Int) < (l.length : Int) := by omega
      by_cases h5 : n < 20000
      · have hd5 : decide ((n : Int) < 20000) = true := by simp; omega
        obtain ⟨ad, rfl⟩ := HI.out.addr (Nat.lt_of_le_of_lt (Nat.zero_le _) hlt)
        have HC := Lib.hid (rcs_step HI.out HW.out hlt)
        obtain ⟨r1, r2⟩ := HS.out _ (List.getElem_mem hlt)
        have R1 := Lib.hid (r1.below HW.out)
        have R2 := Lib.hid r2
        have SQ := Lib.hid (size32 l[k].2)
        clear r1 r2
        go_wp2_with (refine wpList_load_recs rfl 32 (.tmp 19) rfl _ rfl (fc l[k].2) _ HC.out Try.underlying32 rfl SQ.out ?_)
        (with_reducible refine (size_any l[k].2 _ R1.out R2.out).mono ?_)
        rintro e1 w1 ⟨⟨m, rfl, hm, hf⟩, hb⟩
        have HF := Lib.hid hf
        have HW1 := Lib.hid (below_after HW.out hb (Nat.le_refl _))
        clear hf hb HC
        go_wp2_with fail
        go_roundw
        case rel => exact ⟨k + 1, n + m, by omega, by go_num, by go_num, by omega, Lib.hid (fun h6 j hj h7 => by
          rcases Nat.lt_or_ge j k with h8 | h8
          · exact HE.out (by omega) j hj h8
          · obtain rfl : j = k := by omega
            exact HF.out (by omega)), HW1⟩
        case measure => simp [intOf]; omega
      · have hd5 : decide ((n : Int) < 20000) = false := by simp; omega
        have hd6 : decide ((20000 : Int) ≤ (n : Int)) = true := by simp; omega
        go_wp2_with fail
        go_ret
        exact ⟨⟨true, rfl, fun h => by cases h⟩, HW.out⟩
    · obtain rfl : k = l.length := by omega
      have hd : decide ((l.length : Int) < (l.length : Int)) = false := by simp
      by_cases h5 : n < 20000
      · have hd6 : decide ((20000 : Int) ≤ (n : Int)) = false := by simp; omega
        by_cases h3 : l.length ≤ 300
        · have hd7 : decide ((300 : Int) < (l.length : Int)) = false := by simp; omega
          have H5 := Lib.hid h5
          have H3 := Lib.hid h3
          go_wp2_with fail
          go_ret
          exact ⟨⟨false, rfl, fun _ => ⟨H3.out, fun s hs => by
            obtain ⟨j, hj, rfl⟩ := List.getElem_of_mem hs
            exact HE.out H5.out j hj hj⟩⟩, HW.out⟩
        · have hd7 : decide ((300 : Int) < (l.length : Int)) = true := by simp; omega
          go_wp2_with fail
          go_ret
          exact ⟨⟨true, rfl, fun h => by cases h⟩, HW.out⟩
      · have hd6 : decide ((20000 : Int) ≤ (n : Int)) = true := by simp; omega
        go_wp2_with fail
        go_ret
        exact ⟨⟨true, rfl, fun h => by cases h⟩, HW.out⟩
end Go.Proofs.Ytmgiglefabbmcaa
