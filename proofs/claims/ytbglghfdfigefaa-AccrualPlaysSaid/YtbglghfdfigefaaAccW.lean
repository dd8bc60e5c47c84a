/-
  A walk over a statement: the program's detector beside the document's. No statement is proved in this text; it holds for every input that its premises let by.
-/
import Derived.Test.YtbglghfdfigefaaAccV
set_option maxRecDepth 20000
namespace Go.Proofs.Ytbglghfdfigefaa
open Go Go.RowKit
/-- The document's detector, behind n steps at most. -/
structure Ref (w0 W : World) (l n : Nat) (x : Dt) : Prop where
  det : ∃ v, Det 54 W w0.heap.size l x v
  ok : ROk n x
  below : Below w0.heap.size w0 W
theorem det_ne {w : World} {b b' l l' : Nat} {d d' : Dt} {v v' : Value} (h : Det 49 w b l d v) (k : Det 54 w b' l' d' v') : l ≠ l' := fun e => by
  have h1 := h.box
  have h2 := k.box
  unfold DBox at h1 h2
  rw [e, h2] at h1
  injection h1 with h1
  injection h1 with _ h3
  exact absurd h3 (by decide)
/-- Both. -/
structure Pair (w0 W : World) (p q n : Nat) (x : Dt) : Prop where
  one : One w0 W p x.cut
  ref : Ref w0 W q n x
theorem Ref.keep {w0 W W' : World} {l n : Nat} {x : Dt} (h : Ref w0 W l n x) (hb : Below W.heap.size W W') : Ref w0 W' l n x := by
  obtain ⟨⟨v, h1⟩, h2, h3⟩ := h
  exact ⟨⟨v, h1.below hb⟩, h2, below_after h3 hb (Nat.le_refl _)⟩
theorem Pair.keep {w0 W W' : World} {p q n : Nat} {x : Dt} (h : Pair w0 W p q n x) (hb : Below W.heap.size W W') : Pair w0 W' p q n x := ⟨h.one.keep hb, h.ref.keep hb⟩
theorem Ref.other {w0 W W' : World} {p q n : Nat} {d d2 x : Dt} {e : Ending} (h : Ref w0 W q n x) (k : One w0 W p d) (hd : Done 49 w0.heap.size p d2 W e W') : Ref w0 W' q n x := by
  obtain ⟨⟨v, h1⟩, h2, h3⟩ := h
  obtain ⟨⟨u, k1⟩, _, _⟩ := k
  obtain ⟨_, v', _, k2⟩ := hd
  exact ⟨⟨v, h1.kept k1 k2 (det_ne k1 h1).symm⟩, h2, below_grown h3 k2 (Nat.le_refl _) k1.lo⟩
theorem Ref.done {w0 W W' : World} {p q n m : Nat} {d x x2 : Dt} {e : Ending} (h : Ref w0 W q n x) (k : One w0 W p d) (hx : ROk m x2) (hd : Done 54 w0.heap.size q x2 W e W') : e = .returned (.tuple #[]) ∧ Ref w0 W' q m x2 ∧ One w0 W' p d := by
  obtain ⟨⟨v, h1⟩, h2, h3⟩ := h
  obtain ⟨⟨u, k1⟩, k3, k4⟩ := k
  obtain ⟨rfl, v', k5, k2⟩ := hd
  exact ⟨rfl, ⟨⟨v', k5⟩, hx, below_grown h3 k2 (Nat.le_refl _) h1.lo⟩, ⟨u, k1.kept h1 k2 (det_ne k1 h1)⟩, k3, below_grown k4 k2 (Nat.le_refl _) h1.lo⟩
theorem Ref.late {w0 W : World} {l n : Nat} {x : Dt} (h : Ref w0 W l n x) (y : Int) : Calls Try.prog 22 #[.pointer (some ⟨l, 0, none⟩), .int .i64 y] W fun e w' => e = .returned (.bool (x.cut.late y)) ∧ Below W.heap.size W w' := by
  obtain ⟨v, h1⟩ := h.det
  exact rlate_any _ l n x v y W h1 h.ok
theorem Ref.limit {w0 W : World} {l n : Nat} {x : Dt} (h : Ref w0 W l n x) : Calls Try.prog 21 #[.pointer (some ⟨l, 0, none⟩)] W fun e w' => e = .returned (.int .i64 x.cut.limit) ∧ Below W.heap.size W w' := by
  obtain ⟨v, h1⟩ := h.det
  exact rlimit_any _ l n x v W h1 h.ok
theorem Ref.start {w0 W : World} {l n : Nat} {x : Dt} (h : Ref w0 W l n x) (y : Int) : Calls Try.prog 19 #[.pointer (some ⟨l, 0, none⟩), .int .i64 y] W (Done 54 w0.heap.size l (x.start y) W) := by
  obtain ⟨v, h1⟩ := h.det
  exact rbegin_any _ l n x v y W h1 h.ok
theorem Ref.heard {w0 W : World} {l n : Nat} {x : Dt} (h : Ref w0 W l n x) (y : Int) : Calls Try.prog 20 #[.pointer (some ⟨l, 0, none⟩), .int .i64 y] W (Done 54 w0.heap.size l (x.rheard y) W) := by
  obtain ⟨v, h1⟩ := h.det
  exact rheard_any _ l n x v y W h1 h.ok h.below.size
theorem One.copied {w0 W : World} {l : Nat} {d : Dt} (h : One w0 W l d) : Calls Try.prog 15 #[.pointer (some ⟨l, 0, none⟩)] W fun e w' => ∃ l', e = .returned (.pointer (some ⟨l', 0, none⟩)) ∧ One w0 w' l' d ∧ Below W.heap.size W w' := by
  obtain ⟨v, h1⟩ := h.det
  refine (copy_any _ l d v W h1 h.ok).mono ?_
  rintro e w' ⟨l', v', rfl, h2, h3⟩
  exact ⟨l', rfl, ⟨⟨v', h2.mono h.below.size⟩, h.ok, below_after h.below h3 (Nat.le_refl _)⟩, h3⟩
theorem new_ref (w0 w : World) (hb : Below w0.heap.size w0 w) (mn mx wi : Int) (h : newOk mn mx wi = true) : Calls Try.prog 17 #[.int .i64 mn, .int .i64 mx, .int .i64 wi] w fun e w' => ∃ l, e = .returned (.tuple #[.pointer (some ⟨l, 0, none⟩), .int .i64 0]) ∧ Ref w0 w' l 0 (Dt.new mn mx wi) ∧ Below w.heap.size w w' := by
  refine (rnew_yes mn mx wi h w).mono ?_
  rintro e w' ⟨l, v, rfl, h2, h3⟩
  exact ⟨l, rfl, ⟨⟨v, h2.mono hb.size⟩, ROk.new h, below_after hb h3 (Nat.le_refl _)⟩, h3⟩
theorem bne_same (b : Bool) : (b != b) = false := by cases b <;> rfl
theorem beq_same (b : Bool) : (b == b) = true := by cases b <;> rfl
set_option maxHeartbeats 4000000 in
theorem plays_any (mn mx wi : Int) (v : Value) (l : List St) (u : Value) (ts : List Int) (w : World) (_r0 : -9223372036854775808 ≤ mn ∧ mn ≤ 9223372036854775807) (_r1 : -9223372036854775808 ≤ mx ∧ mx ≤ 9223372036854775807) (_r2 : -9223372036854775808 ≤ wi ∧ wi ≤ 9223372036854775807) (I3 : Rcs encS 2 w v l) (_R3 : ∀ s ∈ l, -9223372036854775808 ≤ s.2 ∧ s.2 ≤ 9223372036854775807) (I4 : Rcs encN 1 w u ts) (_R4 : ∀ s ∈ ts, -9223372036854775808 ≤ s ∧ s ≤ 9223372036854775807) :
    Calls Try.prog 4 #[.int .i64 mn, .int .i64 mx, .int .i64 wi, v, u] w fun e w' => e = .returned (.bool true) ∧ Below w.heap.size w w' := by
  have HI := Lib.hid I3
  have HJ := Lib.hid I4
  obtain ⟨A, c, rfl, hz⟩ := I3
  obtain ⟨A2, c2, rfl, hz2⟩ := I4
  clear hz hz2 _r0 _r1 _r2 _R3 _R4
  by_cases hl : 300 < l.length
  · have hl2 : (300 : Int) < (l.length : Int) := by omega
    go_enter Try.func4, Try.ntmps4
    go_wp2_with fail
    go_ret
    exact ⟨rfl, Below.refl _ _⟩
  · have hl2 : (l.length : Int) ≤ 300 := by omega
    by_cases hm : 30 < ts.length
    · have hm2 : (30 : Int) < (ts.length : Int) := by omega
      go_enter Try.func4, Try.ntmps4
      go_wp2_with fail
      go_ret
      exact ⟨rfl, Below.refl _ _⟩
    · have hm2 : (ts.length : Int) ≤ 30 := by omega
      have HL := Lib.hid hl
      have HM := Lib.hid hm
      clear hl hm
      cases hok : newOk mn mx wi
      · have HOK := Lib.hid hok
        clear hok
        go_enter Try.func4, Try.ntmps4
        go_wp2_with fail
        (with_reducible refine (new_no mn mx wi HOK.out _).mono ?_)
        rintro e w1 ⟨rfl, hb⟩
        have B := Lib.hid hb
        clear hb
        go_wp2_with fail
        (with_reducible refine (rnew_no mn mx wi HOK.out _).mono ?_)
        rintro e w2 ⟨rfl, hb⟩
        have B2 := Lib.hid (below_after B.out hb (Nat.le_refl _))
        clear hb
        go_wp2_with fail
        go_ret
        exact ⟨rfl, B2.out⟩
      · have HOK := Lib.hid hok
        clear hok
        go_enter Try.func4, Try.ntmps4
        go_wp2_with fail
        (with_reducible refine (new_one w _ (Below.refl _ _) mn mx wi HOK.out).mono ?_)
        rintro e w1 ⟨p, rfl, ho, -, -⟩
        have O := Lib.hid ho
        clear ho
        go_wp2_with fail
        (with_reducible refine (new_ref w _ O.out.below mn mx wi HOK.out).mono ?_)
        rintro e w2 ⟨q, rfl, ho, hb⟩
        have R : Hid (Pair w w2 p q 0 (Dt.new mn mx wi)) := Lib.hid ⟨by rw [cut_new]; exact O.out.keep hb, ho⟩
        clear ho hb O
        go_wp2_with fail
        go_loopw [15, 16] (fun s15 _ wr => ∃ (k : Nat) (x : Dt), k ≤ l.length ∧ s15 = .int .i64 k ∧ Hid (Pair w wr p q k x)) (fun s15 _ _ => l.length - (intOf s15).toNat)
        case atStart => exact ⟨0, _, by omega, rfl, R⟩
        case round =>
          obtain ⟨k, x, hk, rfl, HO⟩ := hrel
          clear R
          have i3 : (0 : Int) ≤ (k : Int) := by omega
          by_cases hlt : k < l.length
          · have hd : decide ((k : Int) < (l.length : Int)) = true := by simp; omega
            have i4 : (k : Int) < (l.length : Int) := by omega
            have HK3 := Lib.hid (show k < 300 by omega)
            obtain ⟨ad, rfl⟩ := HI.out.addr (Nat.lt_of_le_of_lt (Nat.zero_le _) hlt)
            have DD := Lib.hid (fun (W : World) (hb : Below w.heap.size w W) => And.intro (HI.out.first hb hlt (u := .int .u8 l[k].1) rfl) (HI.out.cell hb hlt 1 (by decide) (u := .int .i64 l[k].2) rfl))
            generalize hLk : l[k] = s at *
            clear hLk
            obtain ⟨d0, d1⟩ := DD.out _ HO.out.one.below
            go_wp2_with fail
            (with_reducible refine (HO.out.one.step s).mono ?_)
            rintro e w3 hd3
            obtain ⟨rfl, h3⟩ := HO.out.one.done (stepD_ok HO.out.one.ok s) hd3
            have O1 := Lib.hid h3
            have R1 := Lib.hid (HO.out.ref.other HO.out.one hd3)
            clear h3 hd3 HO d0 d1
            obtain ⟨d0, d1⟩ := DD.out _ O1.out.below
            by_cases hs : s.1 = 0
            · have hs2 : (s.1 == 0) = true := by simpa using hs
              have ES := Lib.hid (show stepD x.cut s = (x.start s.2).cut by unfold stepD; rw [if_pos hs, cut_start])
              rw [ES.out] at O1
              clear hs
              go_wp2_with fail
              (with_reducible refine (R1.out.start s.2).mono ?_)
              rintro e w4 hd4
              obtain ⟨rfl, h4, h5⟩ := R1.out.done O1.out (R1.out.ok.start HK3.out s.2) hd4
              have Q : Hid (Pair w w4 p q (k + 1) (x.start s.2)) := Lib.hid ⟨h5, h4⟩
              clear h4 h5 hd4 O1 R1 ES d0 d1
              generalize x.start s.2 = x2 at *
              go_wp2_with fail
              (with_reducible refine (Q.out.one.limit).mono ?_)
              rintro e w11 ⟨rfl, hb⟩
              have Q := Lib.hid (Q.out.keep hb)
              clear hb
              go_wp2_with fail
              (with_reducible refine (Q.out.ref.limit).mono ?_)
              rintro e w12 ⟨rfl, hb⟩
              have Q := Lib.hid (Q.out.keep hb)
              clear hb
              go_wp2_with fail
              go_loopw [16] (fun s16 wr => ∃ j : Nat, j ≤ ts.length ∧ s16 = .int .i64 j ∧ Hid (Pair w wr p q (k + 1) x2)) (fun s16 _ => ts.length - (intOf s16).toNat)
              case atStart => exact ⟨0, by omega, rfl, Q⟩
              case round =>
                obtain ⟨j, hj, rfl, HQ⟩ := hrel
                clear Q
                have i5 : (0 : Int) ≤ (j : Int) := by omega
                by_cases hlt2 : j < ts.length
                · have hd2 : decide ((j : Int) < (ts.length : Int)) = true := by simp; omega
                  have i6 : (j : Int) < (ts.length : Int) := by omega
                  obtain ⟨ad2, rfl⟩ := HJ.out.addr (Nat.lt_of_le_of_lt (Nat.zero_le _) hlt2)
                  have HSt := Lib.hid (fun (W : World) (hb : Below w.heap.size w W) => HJ.out.first hb hlt2 (u := .int .i64 ts[j]) rfl)
                  rw [Nat.mul_one] at HSt
                  generalize ts[j] = y at *
                  have hsame := bne_same (x2.cut.late y)
                  generalize hlt3 : x2.cut.late y = z at *
                  have HZ := Lib.hid hlt3
                  clear hlt3
                  go_wp2_with fail
                  have Q2 := Lib.hid (HQ.out.keep (Below.refl _ _).drew)
                  refine wp_region_held_drew (S := fun W => W.cell? (ad2.add j) = some (.int .i64 y)) (by kernel_rfl) ?_ (fun hHeld => ?_)
                  · exact HSt.out _ (Q2.out.one.below)
                  (refine wpAnyH_take (i := 0) (oi := ⟨_, _, _, _, _, _⟩) (v := ?_) rfl (by kernel_rfl) (by kernel_rfl) (by kernel_rfl) (fun _ _ _ h => h) (Or.inl ⟨by rfl, ?_⟩) (by assumption) ?_; rotate_left 1; · (intro w hSw; (try dsimp only at hSw); go_simp; all_goals with_reducible rfl))
                  try simp only [Act.put, List.setIfInBounds_toArray, List.set_cons_zero, List.set_cons_succ]
                  (refine wpAnyH_take (i := 1) (oi := ⟨_, _, _, _, _, _⟩) (v := ?_) rfl (by kernel_rfl) (by kernel_rfl) (by kernel_rfl) (fun _ _ _ h => h) (Or.inl ⟨by rfl, ?_⟩) (by assumption) ?_; rotate_left 1; · (intro w hSw; (try dsimp only at hSw); go_simp; all_goals with_reducible rfl))
                  try simp only [Act.put, List.setIfInBounds_toArray, List.set_cons_zero, List.set_cons_succ]
                  (refine wpAnyH_take (i := 2) (oi := ⟨_, _, _, _, _, _⟩) (v := ?_) rfl (by kernel_rfl) (by kernel_rfl) (by kernel_rfl) (fun _ _ _ h => h) (Or.inl ⟨by rfl, ?_⟩) (by assumption) ?_; rotate_left 1; · (intro w hSw; (try dsimp only at hSw); go_simp; all_goals with_reducible rfl))
                  try simp only [Act.put, List.setIfInBounds_toArray, List.set_cons_zero, List.set_cons_succ]
                  (refine wpAnyH_take (i := 3) (oi := ⟨_, _, _, _, _, _⟩) (v := ?_) rfl (by kernel_rfl) (by kernel_rfl) (by kernel_rfl) (fun _ _ _ h => h) (Or.inl ⟨by rfl, ?_⟩) (by assumption) ?_; rotate_left 1; · (intro w hSw; (try dsimp only at hSw); go_simp; all_goals with_reducible rfl))
                  try simp only [Act.put, List.setIfInBounds_toArray, List.set_cons_zero, List.set_cons_succ]
                  (refine wpAnyH_take (i := 4) (oi := ⟨_, _, _, _, _, _⟩) (v := ?_) rfl (by kernel_rfl) (by kernel_rfl) (by kernel_rfl) (fun _ _ _ h => h) (Or.inl ⟨by rfl, ?_⟩) (by assumption) ?_; rotate_left 1; · (intro w hSw; (try dsimp only at hSw); go_simp; all_goals with_reducible rfl))
                  try simp only [Act.put, List.setIfInBounds_toArray, List.set_cons_zero, List.set_cons_succ]
                  (refine wpAnyH_take (i := 6) (oi := ⟨_, _, _, _, _, _⟩) (v := ?_) rfl (by kernel_rfl) (by kernel_rfl) (by kernel_rfl) (fun _ _ _ h => h) (Or.inl ⟨by rfl, ?_⟩) (by assumption) ?_; rotate_left 1; · (intro w hSw; (try dsimp only at hSw); go_simp; all_goals with_reducible rfl))
                  try simp only [Act.put, List.setIfInBounds_toArray, List.set_cons_zero, List.set_cons_succ]
                  (refine wpAnyH_take (i := 7) (oi := ⟨_, _, _, _, _, _⟩) (v := ?_) rfl (by kernel_rfl) (by kernel_rfl) (by kernel_rfl) (fun _ _ _ h => h) (Or.inl ⟨by rfl, ?_⟩) (by assumption) ?_; rotate_left 1; · (intro w hSw; (try dsimp only at hSw); go_simp; all_goals with_reducible rfl))
                  try simp only [Act.put, List.setIfInBounds_toArray, List.set_cons_zero, List.set_cons_succ]
                  (refine wpAnyH_take (i := 8) (oi := ⟨_, _, _, _, _, _⟩) (v := ?_) rfl (by kernel_rfl) (by kernel_rfl) (by kernel_rfl) (fun _ _ _ h => h) (Or.inl ⟨by rfl, ?_⟩) (by assumption) ?_; rotate_left 1; · (intro w hSw; (try dsimp only at hSw); go_simp; all_goals with_reducible rfl))
                  try simp only [Act.put, List.setIfInBounds_toArray, List.set_cons_zero, List.set_cons_succ]
                  (refine wpAnyH_take (i := 9) (oi := ⟨_, _, _, _, _, _⟩) (v := ?_) rfl (by kernel_rfl) (by kernel_rfl) (by kernel_rfl) (fun _ _ _ h => h) (Or.inl ⟨by rfl, ?_⟩) (by assumption) ?_; rotate_left 1; · (intro w hSw; (try dsimp only at hSw); go_simp; all_goals with_reducible rfl))
                  try simp only [Act.put, List.setIfInBounds_toArray, List.set_cons_zero, List.set_cons_succ]
                  (refine wpAnyH_take (i := 10) (oi := ⟨_, _, _, _, _, _⟩) (v := ?_) rfl (by kernel_rfl) (by kernel_rfl) (by kernel_rfl) (fun _ _ _ h => h) (Or.inl ⟨by rfl, ?_⟩) (by assumption) ?_; rotate_left 1; · (intro w hSw; (try dsimp only at hSw); go_simp; all_goals with_reducible rfl))
                  try simp only [Act.put, List.setIfInBounds_toArray, List.set_cons_zero, List.set_cons_succ]
                  refine wpAnyH_ready (rs := [5]) (by kernel_rfl) (by simp) ?_
                  refine AllReadyH.cons (o := ⟨_, _, _, _, _, _⟩) rfl (fun Kq hKq => ?_) AllReadyH.nil
                  go_simp
                  clear hHeld
                  (go_at_call 14; (with_reducible refine (Q2.out.one.late y).mono ?_); rintro e wz ⟨rfl, hb⟩; rw [HZ.out]; have Q2 := Lib.hid (Q2.out.keep hb); clear hb)
                  refine hKq.out _ _ ?_ (fun hHeld => ?_)
                  · (try dsimp only); exact HSt.out _ Q2.out.one.below
                  clear hKq Kq
                  try simp only [Act.put, List.setIfInBounds_toArray, List.set_cons_zero, List.set_cons_succ]
                  refine wpAnyH_ready (rs := [11]) (by kernel_rfl) (by simp) ?_
                  refine AllReadyH.cons (o := ⟨_, _, _, _, _, _⟩) rfl (fun Kq hKq => ?_) AllReadyH.nil
                  go_simp
                  clear hHeld
                  (go_at_call 22; (with_reducible refine (Q2.out.ref.late y).mono ?_); rintro e wz ⟨rfl, hb⟩; rw [HZ.out]; have Q2 := Lib.hid (Q2.out.keep hb); clear hb)
                  refine hKq.out _ _ ?_ (fun hHeld => ?_)
                  · (try dsimp only); exact HSt.out _ Q2.out.one.below
                  clear hKq Kq
                  try simp only [Act.put, List.setIfInBounds_toArray, List.set_cons_zero, List.set_cons_succ]
                  (refine wpAnyH_take (i := 12) (oi := ⟨_, _, _, _, _, _⟩) (v := ?_) rfl (by kernel_rfl) (by kernel_rfl) (by kernel_rfl) (fun _ _ _ h => h) (Or.inl ⟨by rfl, ?_⟩) (by assumption) ?_; rotate_left 1; · (intro w hSw; (try dsimp only at hSw); go_simp; all_goals with_reducible rfl))
                  try simp only [Act.put, List.setIfInBounds_toArray, List.set_cons_zero, List.set_cons_succ]
                  refine wpAnyH_done (by kernel_rfl) ?_ _
                  clear hHeld HSt
                  go_wp2_with fail
                  go_roundw
                  case rel => exact ⟨j + 1, by omega, by go_num, Q2⟩
                  case measure => simp [intOf]; omega
                · obtain rfl : j = ts.length := by omega
                  have hd2 : decide ((ts.length : Int) < (ts.length : Int)) = false := by simp
                  go_wp2_with fail
                  go_roundw
                  case rel => exact ⟨k + 1, x2, by omega, by go_num, HQ⟩
                  case measure => simp [intOf]; omega
            · have hs2 : (s.1 == 0) = false := by simpa using hs
              have ES := Lib.hid (show stepD x.cut s = (x.rheard s.2).cut by unfold stepD; rw [if_neg hs, cut_heard (x := x) R1.out.ok.ok.wi])
              rw [ES.out] at O1
              clear hs
              go_wp2_with fail
              (with_reducible refine (R1.out.heard s.2).mono ?_)
              rintro e w4 hd4
              obtain ⟨rfl, h4, h5⟩ := R1.out.done O1.out (R1.out.ok.heard HK3.out s.2) hd4
              have Q : Hid (Pair w w4 p q (k + 1) (x.rheard s.2)) := Lib.hid ⟨h5, h4⟩
              clear h4 h5 hd4 O1 R1 ES d0 d1
              generalize x.rheard s.2 = x2 at *
              go_wp2_with fail
              (with_reducible refine (Q.out.one.limit).mono ?_)
              rintro e w13 ⟨rfl, hb⟩
              have Q := Lib.hid (Q.out.keep hb)
              clear hb
              go_wp2_with fail
              (with_reducible refine (Q.out.ref.limit).mono ?_)
              rintro e w14 ⟨rfl, hb⟩
              have Q := Lib.hid (Q.out.keep hb)
              clear hb
              go_wp2_with fail
              go_loopw [16] (fun s16 wr => ∃ j : Nat, j ≤ ts.length ∧ s16 = .int .i64 j ∧ Hid (Pair w wr p q (k + 1) x2)) (fun s16 _ => ts.length - (intOf s16).toNat)
              case atStart => exact ⟨0, by omega, rfl, Q⟩
              case round =>
                obtain ⟨j, hj, rfl, HQ⟩ := hrel
                clear Q
                have i5 : (0 : Int) ≤ (j : Int) := by omega
                by_cases hlt2 : j < ts.length
                · have hd2 : decide ((j : Int) < (ts.length : Int)) = true := by simp; omega
                  have i6 : (j : Int) < (ts.length : Int) := by omega
                  obtain ⟨ad2, rfl⟩ := HJ.out.addr (Nat.lt_of_le_of_lt (Nat.zero_le _) hlt2)
                  have HSt := Lib.hid (fun (W : World) (hb : Below w.heap.size w W) => HJ.out.first hb hlt2 (u := .int .i64 ts[j]) rfl)
                  rw [Nat.mul_one] at HSt
                  generalize ts[j] = y at *
                  have hsame := bne_same (x2.cut.late y)
                  generalize hlt3 : x2.cut.late y = z at *
                  have HZ := Lib.hid hlt3
                  clear hlt3
                  go_wp2_with fail
                  have Q2 := Lib.hid (HQ.out.keep (Below.refl _ _).drew)
                  refine wp_region_held_drew (S := fun W => W.cell? (ad2.add j) = some (.int .i64 y)) (by kernel_rfl) ?_ (fun hHeld => ?_)
                  · exact HSt.out _ (Q2.out.one.below)
                  (refine wpAnyH_take (i := 0) (oi := ⟨_, _, _, _, _, _⟩) (v := ?_) rfl (by kernel_rfl) (by kernel_rfl) (by kernel_rfl) (fun _ _ _ h => h) (Or.inl ⟨by rfl, ?_⟩) (by assumption) ?_; rotate_left 1; · (intro w hSw; (try dsimp only at hSw); go_simp; all_goals with_reducible rfl))
                  try simp only [Act.put, List.setIfInBounds_toArray, List.set_cons_zero, List.set_cons_succ]
                  (refine wpAnyH_take (i := 1) (oi := ⟨_, _, _, _, _, _⟩) (v := ?_) rfl (by kernel_rfl) (by kernel_rfl) (by kernel_rfl) (fun _ _ _ h => h) (Or.inl ⟨by rfl, ?_⟩) (by assumption) ?_; rotate_left 1; · (intro w hSw; (try dsimp only at hSw); go_simp; all_goals with_reducible rfl))
                  try simp only [Act.put, List.setIfInBounds_toArray, List.set_cons_zero, List.set_cons_succ]
                  (refine wpAnyH_take (i := 2) (oi := ⟨_, _, _, _, _, _⟩) (v := ?_) rfl (by kernel_rfl) (by kernel_rfl) (by kernel_rfl) (fun _ _ _ h => h) (Or.inl ⟨by rfl, ?_⟩) (by assumption) ?_; rotate_left 1; · (intro w hSw; (try dsimp only at hSw); go_simp; all_goals with_reducible rfl))
                  try simp only [Act.put, List.setIfInBounds_toArray, List.set_cons_zero, List.set_cons_succ]
                  (refine wpAnyH_take (i := 3) (oi := ⟨_, _, _, _, _, _⟩) (v := ?_) rfl (by kernel_rfl) (by kernel_rfl) (by kernel_rfl) (fun _ _ _ h => h) (Or.inl ⟨by rfl, ?_⟩) (by assumption) ?_; rotate_left 1; · (intro w hSw; (try dsimp only at hSw); go_simp; all_goals with_reducible rfl))
                  try simp only [Act.put, List.setIfInBounds_toArray, List.set_cons_zero, List.set_cons_succ]
                  (refine wpAnyH_take (i := 4) (oi := ⟨_, _, _, _, _, _⟩) (v := ?_) rfl (by kernel_rfl) (by kernel_rfl) (by kernel_rfl) (fun _ _ _ h => h) (Or.inl ⟨by rfl, ?_⟩) (by assumption) ?_; rotate_left 1; · (intro w hSw; (try dsimp only at hSw); go_simp; all_goals with_reducible rfl))
                  try simp only [Act.put, List.setIfInBounds_toArray, List.set_cons_zero, List.set_cons_succ]
                  (refine wpAnyH_take (i := 6) (oi := ⟨_, _, _, _, _, _⟩) (v := ?_) rfl (by kernel_rfl) (by kernel_rfl) (by kernel_rfl) (fun _ _ _ h => h) (Or.inl ⟨by rfl, ?_⟩) (by assumption) ?_; rotate_left 1; · (intro w hSw; (try dsimp only at hSw); go_simp; all_goals with_reducible rfl))
                  try simp only [Act.put, List.setIfInBounds_toArray, List.set_cons_zero, List.set_cons_succ]
                  (refine wpAnyH_take (i := 7) (oi := ⟨_, _, _, _, _, _⟩) (v := ?_) rfl (by kernel_rfl) (by kernel_rfl) (by kernel_rfl) (fun _ _ _ h => h) (Or.inl ⟨by rfl, ?_⟩) (by assumption) ?_; rotate_left 1; · (intro w hSw; (try dsimp only at hSw); go_simp; all_goals with_reducible rfl))
                  try simp only [Act.put, List.setIfInBounds_toArray, List.set_cons_zero, List.set_cons_succ]
                  (refine wpAnyH_take (i := 8) (oi := ⟨_, _, _, _, _, _⟩) (v := ?_) rfl (by kernel_rfl) (by kernel_rfl) (by kernel_rfl) (fun _ _ _ h => h) (Or.inl ⟨by rfl, ?_⟩) (by assumption) ?_; rotate_left 1; · (intro w hSw; (try dsimp only at hSw); go_simp; all_goals with_reducible rfl))
                  try simp only [Act.put, List.setIfInBounds_toArray, List.set_cons_zero, List.set_cons_succ]
                  (refine wpAnyH_take (i := 9) (oi := ⟨_, _, _, _, _, _⟩) (v := ?_) rfl (by kernel_rfl) (by kernel_rfl) (by kernel_rfl) (fun _ _ _ h => h) (Or.inl ⟨by rfl, ?_⟩) (by assumption) ?_; rotate_left 1; · (intro w hSw; (try dsimp only at hSw); go_simp; all_goals with_reducible rfl))
                  try simp only [Act.put, List.setIfInBounds_toArray, List.set_cons_zero, List.set_cons_succ]
                  (refine wpAnyH_take (i := 10) (oi := ⟨_, _, _, _, _, _⟩) (v := ?_) rfl (by kernel_rfl) (by kernel_rfl) (by kernel_rfl) (fun _ _ _ h => h) (Or.inl ⟨by rfl, ?_⟩) (by assumption) ?_; rotate_left 1; · (intro w hSw; (try dsimp only at hSw); go_simp; all_goals with_reducible rfl))
                  try simp only [Act.put, List.setIfInBounds_toArray, List.set_cons_zero, List.set_cons_succ]
                  refine wpAnyH_ready (rs := [5]) (by kernel_rfl) (by simp) ?_
                  refine AllReadyH.cons (o := ⟨_, _, _, _, _, _⟩) rfl (fun Kq hKq => ?_) AllReadyH.nil
                  go_simp
                  clear hHeld
                  (go_at_call 14; (with_reducible refine (Q2.out.one.late y).mono ?_); rintro e wz ⟨rfl, hb⟩; rw [HZ.out]; have Q2 := Lib.hid (Q2.out.keep hb); clear hb)
                  refine hKq.out _ _ ?_ (fun hHeld => ?_)
                  · (try dsimp only); exact HSt.out _ Q2.out.one.below
                  clear hKq Kq
                  try simp only [Act.put, List.setIfInBounds_toArray, List.set_cons_zero, List.set_cons_succ]
                  refine wpAnyH_ready (rs := [11]) (by kernel_rfl) (by simp) ?_
                  refine AllReadyH.cons (o := ⟨_, _, _, _, _, _⟩) rfl (fun Kq hKq => ?_) AllReadyH.nil
                  go_simp
                  clear hHeld
                  (go_at_call 22; (with_reducible refine (Q2.out.ref.late y).mono ?_); rintro e wz ⟨rfl, hb⟩; rw [HZ.out]; have Q2 := Lib.hid (Q2.out.keep hb); clear hb)
                  refine hKq.out _ _ ?_ (fun hHeld => ?_)
                  · (try dsimp only); exact HSt.out _ Q2.out.one.below
                  clear hKq Kq
                  try simp only [Act.put, List.setIfInBounds_toArray, List.set_cons_zero, List.set_cons_succ]
                  (refine wpAnyH_take (i := 12) (oi := ⟨_, _, _, _, _, _⟩) (v := ?_) rfl (by kernel_rfl) (by kernel_rfl) (by kernel_rfl) (fun _ _ _ h => h) (Or.inl ⟨by rfl, ?_⟩) (by assumption) ?_; rotate_left 1; · (intro w hSw; (try dsimp only at hSw); go_simp; all_goals with_reducible rfl))
                  try simp only [Act.put, List.setIfInBounds_toArray, List.set_cons_zero, List.set_cons_succ]
                  refine wpAnyH_done (by kernel_rfl) ?_ _
                  clear hHeld HSt
                  go_wp2_with fail
                  go_roundw
                  case rel => exact ⟨j + 1, by omega, by go_num, Q2⟩
                  case measure => simp [intOf]; omega
                · obtain rfl : j = ts.length := by omega
                  have hd2 : decide ((ts.length : Int) < (ts.length : Int)) = false := by simp
                  go_wp2_with fail
                  go_roundw
                  case rel => exact ⟨k + 1, x2, by omega, by go_num, HQ⟩
                  case measure => simp [intOf]; omega
          · obtain rfl : k = l.length := by omega
            have hd : decide ((l.length : Int) < (l.length : Int)) = false := by simp
            go_wp2_with fail
            (with_reducible refine (HO.out.one.copied).mono ?_)
            rintro e w5 ⟨r, rfl, h1, hb⟩
            have C := Lib.hid h1
            have Q := Lib.hid (HO.out.keep hb)
            clear h1 hb HO
            go_wp2_with fail
            (with_reducible refine (C.out.limit).mono ?_)
            rintro e w15 ⟨rfl, hb⟩
            have C := Lib.hid (C.out.keep hb)
            have Q := Lib.hid (Q.out.keep hb)
            clear hb
            go_wp2_with fail
            (with_reducible refine (Q.out.ref.limit).mono ?_)
            rintro e w16 ⟨rfl, hb⟩
            have C := Lib.hid (C.out.keep hb)
            have Q := Lib.hid (Q.out.keep hb)
            clear hb
            go_wp2_with fail
            (with_reducible refine (Q.out.one.late _).mono ?_)
            rintro e w17 ⟨rfl, hb⟩
            have C := Lib.hid (C.out.keep hb)
            have Q := Lib.hid (Q.out.keep hb)
            clear hb
            go_wp2_with fail
            (with_reducible refine (Q.out.ref.late _).mono ?_)
            rintro e w18 ⟨rfl, hb⟩
            have C := Lib.hid (C.out.keep hb)
            have Q := Lib.hid (Q.out.keep hb)
            clear hb
            go_wp2_with fail
            go_ret
            exact ⟨ret_bool (by simp), Q.out.one.below⟩
end Go.Proofs.Ytbglghfdfigefaa
