/-
  Walks over the program's watch: who of a list is late. No statement is proved in this text; it holds for every input that its premises let by.
-/
import Derived.Test.YtkoeplgkiogjlaaWchB
set_option maxRecDepth 20000
namespace Go.Proofs.Ytkoeplgkiogjlaa
open Go Go.RowKit Sets Go.Maps Go.ChangeMaps Go.MapKept
variable {S S2 : Nat → Prop} {W W' : World} {p f n : Nat} {mb : Option Nat} {e : Dt} {K : List Id2} {D : Id2 → Dt} {L : Id2 → Nat}
/-- Who of a list is late. -/
def lateL (D : Id2 → Dt) (x : Int) (l : List Id2) : List Id2 := l.filter fun q => (D q).late x
theorem lateL_take {D : Id2 → Dt} {x : Int} {l : List Id2} {k : Nat} (h : k < l.length) : lateL D x (l.take (k + 1)) = lateL D x (l.take k) ++ if (D l[k]).late x = true then [(l[k].1, l[k].2)] else [] := by
  unfold lateL
  rw [List.take_succ_eq_append_getElem h, List.filter_append]
  congr 1
  rcases hb : (D l[k]).late x <;> simp [hb]
theorem lateL_len (D : Id2 → Dt) (x : Int) (l : List Id2) (k : Nat) : (lateL D x (l.take k)).length ≤ l.length := by
  unfold lateL
  have h1 := List.length_filter_le (fun q => (D q).late x) (l.take k)
  have h2 : (l.take k).length ≤ l.length := by simp; omega
  omega
set_option maxHeartbeats 1000000 in
theorem wlate_any (h : Inn S W p f mb n e K D L) (v : Value) (l : List Id2) (x : Int) (hv : Ids W v l) (hl : l.length ≤ 40000) (hin : ∀ q ∈ l, q ∈ K) :
    Calls Try.prog 36 #[.pointer (some ⟨p, 0, none⟩), v, .int .i64 x] W (News (lateL D x l) W) := by
  have H := Lib.hid h
  have HI := Lib.hid hv
  have HN := Lib.hid hin
  obtain ⟨A, c, rfl, hz⟩ := id hv
  clear hz hv h hin
  go_enter Try.func36, Try.ntmps36
  go_wp2_with fail
  go_loopw [7, 12] (fun s7 s12 wr => ∃ k : Nat, k ≤ l.length ∧ s12 = .int .i64 k ∧ Hid (Owns wr W.heap.size s7 (lateL D x (l.take k))) ∧ Hid (Below W.heap.size W wr)) (fun _ s12 _ => l.length - (intOf s12).toNat)
  case atStart => exact ⟨0, by omega, rfl, Lib.hid (owns_nil _ _), Lib.hid (Below.refl _ _)⟩
  case round =>
    obtain ⟨k, hkl, rfl, HT, HW⟩ := hrel
    have i3 : (0 : Int) ≤ (k : Int) := by omega
    by_cases hlt : k < l.length
    · have hd : decide ((k : Int) < (l.length : Int)) = true := by simp; omega
      have i4 : (k : Int) < (l.length : Int) := by omega
      obtain ⟨ad, rfl, c1, c2⟩ := HI.out.at_ HW.out hlt
      have HZ := Lib.hid (lateL_len D x l k)
      have ES := Lib.hid (lateL_take (D := D) (x := x) hlt)
      have HK := Lib.hid (HN.out _ (List.getElem_mem hlt))
      generalize l[k] = q at *
      obtain ⟨a, i⟩ := q
      have HQ := Lib.hid (H.out.in2 _ HK.out)
      obtain ⟨dv, hdv, hS1, hS2, hok⟩ := H.out.dets _ HK.out
      have HV := Lib.hid hdv
      have HO := Lib.hid hok
      clear hdv hS1 hS2 hok
      have B1 := Lib.hid (HW.out.trans ((below_one wr (.cells #[.int .i64 a, .int .i64 i] 35)).mono HW.out.size))
      have X1 := Lib.hid (box_new wr a i)
      have T1 := Lib.hid (HT.out.below (below_one wr (.cells #[.int .i64 a, .int .i64 i] 35)))
      go_upto_region 5 with fail
      clear c1 c2
      generalize wr.alloc (.cells #[.int .i64 a, .int .i64 i] 35) = w1 at *
      generalize wr.heap.size = gb at *
      have HS : Hid (∀ w', Below w1.heap.size w1 w' → (w'.cell? ⟨gb, 0, none⟩ = some (.int .i64 a) ∧ w'.cell? ⟨gb, 1, none⟩ = some (.int .i64 i) ∧ w'.cell? ⟨p, 1, none⟩ = some (.map mb) ∧ (Instr.lookup 55 (.map mb) (.agg #[.int .i64 a, .int .i64 i]) false).run Try.prog w' = .ok (.pointer (some ⟨L (a, i), 0, none⟩)) w' ∧ Hid (Below w1.heap.size w1 w'))) := Lib.hid fun w' hb => by
        have h1 := H.out.keep (below_after B1.out hb (Nat.le_refl _))
        obtain ⟨c0, c1⟩ := box_cells (box_below X1.out hb)
        have h2 := h1.at HQ.out
        rw [if_pos HK.out] at h2
        exact ⟨c0, c1, h1.cells.2, h2, Lib.hid hb⟩
      refine wp_region_held_drew (S := fun w' => w'.cell? ⟨gb, 0, none⟩ = some (.int .i64 a) ∧ w'.cell? ⟨gb, 1, none⟩ = some (.int .i64 i) ∧ w'.cell? ⟨p, 1, none⟩ = some (.map mb) ∧ (Instr.lookup 55 (.map mb) (.agg #[.int .i64 a, .int .i64 i]) false).run Try.prog w' = .ok (.pointer (some ⟨L (a, i), 0, none⟩)) w' ∧ Hid (Below w1.heap.size w1 w')) (by kernel_rfl) ?_ (fun hHeld => ?_)
      · exact HS.out _ (below_drewN (n := 1) (Below.refl _ _))
      (refine wpAnyH_take (i := 0) (oi := ⟨_, _, _, _, _, _⟩) (v := ?_) rfl (by kernel_rfl) (by kernel_rfl) (by kernel_rfl) (fun _ _ _ h => h) (Or.inl ⟨by rfl, ?_⟩) (by assumption) ?_; rotate_left 1; · (intro w hSw; (try dsimp only at hSw); go_simp; all_goals with_reducible rfl))
      try simp only [Act.put, List.setIfInBounds_toArray, List.set_cons_zero, List.set_cons_succ]
      (refine wpAnyH_take (i := 1) (oi := ⟨_, _, _, _, _, _⟩) (v := ?_) rfl (by kernel_rfl) (by kernel_rfl) (by kernel_rfl) (fun _ _ _ h => h) (Or.inl ⟨by rfl, ?_⟩) (by assumption) ?_; rotate_left 1; · (intro w hSw; (try dsimp only at hSw); go_simp; all_goals with_reducible rfl))
      try simp only [Act.put, List.setIfInBounds_toArray, List.set_cons_zero, List.set_cons_succ]
      (refine wpAnyH_take (i := 2) (oi := ⟨_, _, _, _, _, _⟩) (v := ?_) rfl (by kernel_rfl) (by kernel_rfl) (by kernel_rfl) (fun _ _ _ h => h) (Or.inl ⟨by rfl, ?_⟩) (by assumption) ?_; rotate_left 1; · (intro w hSw; (try dsimp only at hSw); go_simp; all_goals with_reducible rfl))
      try simp only [Act.put, List.setIfInBounds_toArray, List.set_cons_zero, List.set_cons_succ]
      (refine wpAnyH_take (i := 3) (oi := ⟨_, _, _, _, _, _⟩) (v := ?_) rfl (by kernel_rfl) (by kernel_rfl) (by kernel_rfl) (fun _ _ _ h => h) (Or.inl ⟨by rfl, ?_⟩) (by assumption) ?_; rotate_left 1; · (intro w hSw; (try dsimp only at hSw); go_simp; all_goals with_reducible rfl))
      try simp only [Act.put, List.setIfInBounds_toArray, List.set_cons_zero, List.set_cons_succ]
      (refine wpAnyH_take (i := 4) (oi := ⟨_, _, _, _, _, _⟩) (v := ?_) rfl (by kernel_rfl) (by kernel_rfl) (by kernel_rfl) (fun _ _ _ h => h) (Or.inl ⟨by rfl, ?_⟩) (by assumption) ?_; rotate_left 1; · (intro w hSw; (try dsimp only at hSw); go_simp; all_goals with_reducible rfl))
      try simp only [Act.put, List.setIfInBounds_toArray, List.set_cons_zero, List.set_cons_succ]
      (refine wpAnyH_take (i := 5) (oi := ⟨_, _, _, _, _, _⟩) (v := ?_) rfl (by kernel_rfl) (by kernel_rfl) (by kernel_rfl) (fun _ _ _ h => h) (Or.inl ⟨by rfl, ?_⟩) (by assumption) ?_; rotate_left 1; · (intro w hSw; (try dsimp only at hSw); go_simp; all_goals with_reducible rfl))
      try simp only [Act.put, List.setIfInBounds_toArray, List.set_cons_zero, List.set_cons_succ]
      (refine wpAnyH_take (i := 6) (oi := ⟨_, _, _, _, _, _⟩) (v := ?_) rfl (by kernel_rfl) (by kernel_rfl) (by kernel_rfl) (fun _ _ _ h => h) (Or.inl ⟨by rfl, ?_⟩) (by assumption) ?_; rotate_left 1; · (intro w hSw; (try dsimp only at hSw); go_simp; all_goals with_reducible rfl))
      try simp only [Act.put, List.setIfInBounds_toArray, List.set_cons_zero, List.set_cons_succ]
      refine wpAnyH_ready (rs := [7]) (by kernel_rfl) (by simp) ?_
      refine AllReadyH.cons (o := ⟨_, _, _, _, _, _⟩) rfl (fun Kq hKq => ?_) AllReadyH.nil
      go_simp
      clear hHeld
      (go_at_call 54; (with_reducible refine (late_any 0 (L (a, i)) (D (a, i)) dv x _ (HV.out.below (below_after B1.out (Below.refl w1.heap.size w1).drew (Nat.le_refl _))) HO.out).mono ?_); rintro en w7 ⟨rfl, hb⟩; have HKB := Lib.hid ((Below.refl w1.heap.size w1).drew.trans hb); clear hb)
      refine hKq.out _ _ ?_ (fun hHeld => ?_)
      · (try dsimp only); exact HS.out _ HKB.out
      clear hKq Kq
      try simp only [Act.put, List.setIfInBounds_toArray, List.set_cons_zero, List.set_cons_succ]
      refine wpAnyH_done (by kernel_rfl) ?_ _
      obtain ⟨c0, c1, c2, c3, HB⟩ := hHeld
      have T2 := Lib.hid (T1.out.below HB.out)
      have B2 := Lib.hid (below_after B1.out HB.out (Nat.le_refl _))
      clear c2 c3 HS X1 T1 HT B1 HW
      generalize hq : (D (a, i)).late x = z at *
      have HZ2 := Lib.hid hq
      clear hq
      cases z with
      | true =>
        go_wp2_with (first | (at_builtin; refine wpList_append_one rfl (.tmp 24) (.tmp 26) rfl _ W.heap.size u7 _ a i rfl rfl T2.out (by have := HZ.out; omega) B2.out.size ?_; intro v8 w8 h8 h9; have O8 := Lib.hid h8; have B8 := Lib.hid (B2.out.trans (h9.mono (Nat.le_refl _))); clear h8 h9) | fail)
        go_roundw
        case rel => exact ⟨k + 1, by omega, by go_num, Lib.hid (by rw [ES.out, if_pos rfl]; exact O8.out), B8⟩
        case measure => simp [intOf]; omega
      | false =>
        go_wp2_with fail
        go_roundw
        case rel => exact ⟨k + 1, by omega, by go_num, Lib.hid (by rw [ES.out, if_neg (by simp), List.append_nil]; exact T2.out), B2⟩
        case measure => simp [intOf]; omega
    · obtain rfl : k = l.length := by omega
      have hd : decide ((l.length : Int) < (l.length : Int)) = false := by simp
      have HE : Hid (Owns wr W.heap.size u7 (lateL D x l)) := Lib.hid (by have := HT.out; rwa [List.take_length] at this)
      go_wp2_with fail
      go_ret
      exact ⟨_, rfl, HE.out, HW.out⟩
end Go.Proofs.Ytkoeplgkiogjlaa
