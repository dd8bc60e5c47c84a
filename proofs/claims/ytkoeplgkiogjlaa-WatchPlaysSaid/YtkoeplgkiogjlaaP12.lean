/-
  Carried over and put together: contracts of this program's functions, and plain facts. No statement is proved in this text.
-/
import Derived.Test.YtkoeplgkiogjlaaP11
set_option maxRecDepth 20000
namespace Go.Proofs.Ytkoeplgkiogjlaa
open Go Go.RowKit Sets Go.Maps Go.ChangeMaps Go.MapKept
theorem fw {p n : Nat} {e : Dt} {K : List Id2} {D : Id2 → Dt} : Fd (WatP p n e K D) := fdWat p n e K D
theorem fr {p n : Nat} {mn mx wi : Int} {K : List Id2} {X : Id2 → Dt} : Fd (RwP p n mn mx wi K X) := fdRw p n mn mx wi K X
set_option maxHeartbeats 4000000 in
theorem plays_any (mn mx wi : Int) (v : Value) (ss : List Sp) (w : World) (_r0 : -9223372036854775808 ≤ mn ∧ mn ≤ 9223372036854775807) (_r1 : -9223372036854775808 ≤ mx ∧ mx ≤ 9223372036854775807) (_r2 : -9223372036854775808 ≤ wi ∧ wi ≤ 9223372036854775807) (I3 : Rcs encT 5 w v ss) (R3 : ∀ s ∈ ss, SpOk w s) :
    Calls Try.prog 3 #[.int .i64 mn, .int .i64 mx, .int .i64 wi, v] w fun en w' => en = .returned (.bool true) ∧ Below w.heap.size w w' := by
  have HI := Lib.hid I3
  have HS := Lib.hid R3
  obtain ⟨A, c, rfl, hz⟩ := I3
  clear hz _r0 _r1 _r2 R3
  cases hlg : longS ss
  case true =>
    have HG := Lib.hid hlg
    clear hlg
    go_enter Try.func3, Try.ntmps3
    go_wp2_with fail
    (with_reducible refine (long_any _ ss _ HI.out HS.out).mono ?_)
    rintro en w1 ⟨rfl, hb⟩
    have B := Lib.hid hb
    clear hb
    rw [HG.out]
    go_wp2_with fail
    (with_reducible refine (awake_any _).mono ?_)
    rintro en w2 ⟨rfl, hb⟩
    have B := Lib.hid (below_after B.out hb (Nat.le_refl _))
    clear hb
    go_wp2_with fail
    go_ret
    exact ⟨rfl, B.out⟩
  case false =>
    have HL := Lib.hid (longS_no hlg)
    have HG := Lib.hid hlg
    clear hlg
    go_enter Try.func3, Try.ntmps3
    go_wp2_with fail
    (with_reducible refine (long_any _ ss _ HI.out HS.out).mono ?_)
    rintro en w1 ⟨rfl, hb⟩
    have B := Lib.hid hb
    clear hb
    rw [HG.out]
    clear HG
    go_wp2_with fail
    cases hok : newOk mn mx wi
    case false =>
      (with_reducible refine (wnew_no mn mx wi hok _).mono ?_)
      rintro en w2 ⟨rfl, hb⟩
      have B := Lib.hid (below_after B.out hb (Nat.le_refl _))
      clear hb
      go_wp2_with fail
      (with_reducible refine (rwnew_no mn mx wi hok _).mono ?_)
      rintro en w3 ⟨rfl, hb⟩
      have B := Lib.hid (below_after B.out hb (Nat.le_refl _))
      clear hb
      go_wp2_with fail
      (with_reducible refine (awake_any _).mono ?_)
      rintro en w4 ⟨rfl, hb⟩
      have B := Lib.hid (below_after B.out hb (Nat.le_refl _))
      clear hb
      go_wp2_with fail
      go_ret
      exact ⟨rfl, B.out⟩
    case true =>
      have HOK := Lib.hid hok
      clear hok
      (with_reducible refine (wnew_yes mn mx wi HOK.out _).mono ?_)
      rintro en w2 ⟨pa, Sa, rfl, h1, h2, hb⟩
      have F : Hid (Four w w2 (WatP pa 0 (Dt.new mn mx wi) [] (fun _ => Dt.new mn mx wi)) NoP NoP NoP Sa (fun _ => False) (fun _ => False) (fun _ => False)) := Lib.hid ⟨h1, fun _ e => e, fun _ e => e, fun _ e => e, fun _ _ e => e, fun _ _ e => e, fun _ _ e => e, fun _ e => e.elim, fun _ e => e.elim, fun _ e => e.elim, fun k hk => Nat.le_trans B.out.size (h2 k hk), fun _ e => e.elim, fun _ e => e.elim, fun _ e => e.elim, below_after B.out hb (Nat.le_refl _)⟩
      clear h1 h2 hb B
      go_wp2_with fail
      (with_reducible refine (rwnew_yes mn mx wi HOK.out _ (fun _ => Dt.new mn mx wi)).mono ?_)
      rintro en w3 ⟨pb, Sb, rfl, h1, h2, hb⟩
      have F := Lib.hid (F.out.opB fw fdNo fdNo (P2' := RwP pb 0 mn mx wi [] (fun _ => Dt.new mn mx wi)) h1 (upd_new hb h2))
      clear h1 h2 hb
      go_wp2_with fail
      go_loopw [13] (fun s13 wr => ∃ (k : Nat) (Sa Sb : Nat → Prop) (na : Nat) (K : List Id2) (D X : Id2 → Dt), k ≤ ss.length ∧ s13 = .int .i64 k ∧ Hid (Four w wr (WatP pa na (Dt.new mn mx wi) K D) (RwP pb k mn mx wi K X) NoP NoP Sa Sb (fun _ => False) (fun _ => False)) ∧ Hid (Tied K D X) ∧ Hid (na ≤ 30 * k) ∧ Hid (Rises K ∧ K.length ≤ 30)) (fun s13 _ => ss.length - (intOf s13).toNat)
      case atStart => exact ⟨0, Sa, Sb, 0, [], _, _, by omega, rfl, F, Lib.hid (fun q hq => by cases hq), Lib.hid (by omega), Lib.hid ⟨rises_nil, by simp⟩⟩
      case round =>
        clear F
        obtain ⟨k, Sa, Sb, na, K, D, X, hkl, rfl, F, TT, HM, HR⟩ := hrel
        have hLen := HL.out.1
        have i3 : (0 : Int) ≤ (k : Int) := by omega
        by_cases hlt : k < ss.length
        · have hd1 : decide ((k : Int) < (ss.length : Int)) = true := by simp; omega
          have i4 : (k : Int) < (ss.length : Int) := by omega
          obtain ⟨ad, rfl⟩ := HI.out.addr (Nat.lt_of_le_of_lt (Nat.zero_le _) hlt)
          have HSt := Lib.hid (show ∀ W, Below w.heap.size w W → W.cell? (ad.add (k * 5)) = some (.bool ss[k].h) ∧ W.cell? ⟨(ad.add (k * 5)).block, (ad.add (k * 5)).off + 1, none⟩ = some (.int .i64 ss[k].q.1) ∧ W.cell? ⟨(ad.add (k * 5)).block, (ad.add (k * 5)).off + 2, none⟩ = some (.int .i64 ss[k].q.2) ∧ W.cell? ⟨(ad.add (k * 5)).block, (ad.add (k * 5)).off + 3, none⟩ = some (.slice ss[k].A ss[k].l.length ss[k].c) ∧ W.cell? ⟨(ad.add (k * 5)).block, (ad.add (k * 5)).off + 4, none⟩ = some (.int .i64 ss[k].x) from fun W hb => ⟨HI.out.first hb hlt rfl, HI.out.cell hb hlt 1 (by decide) rfl, HI.out.cell hb hlt 2 (by decide) rfl, HI.out.cell hb hlt 3 (by decide) rfl, HI.out.cell hb hlt 4 (by decide) rfl⟩)
          have HK := Lib.hid (HS.out _ (List.getElem_mem hlt))
          have HK2 := Lib.hid (HL.out.2 _ (List.getElem_mem hlt))
          generalize ss[k] = s at *
          obtain ⟨sh, ⟨sa, si⟩, sA, sc, sl, sx⟩ := s
          dsimp only at HSt HK2
          have HIA : Hid (∀ W, Below w.heap.size w W → Ids W (.slice sA sl.length sc) sl) := Lib.hid fun W hb => HK.out.ids.below hb
          have HQ : Hid (In2 (sa, si)) := Lib.hid HK.out.q2
          have HL2 : Hid (∀ q ∈ sl, In2 q) := Lib.hid HK.out.l2
          clear HK
          have HMM : Hid (na ≤ 3000) := Lib.hid (by have := HM.out; omega)
          go_wp2_with fail
          (with_reducible refine (wcopy_any F.out.a (by have := HMM.out; omega)).mono ?_)
          rintro en w4 ⟨pc, Sc, rfl, h1, h2, hb⟩
          have F := Lib.hid (F.out.opC fw fr fdNo (P3' := WatP pc na (Dt.new mn mx wi) K D) h1 (upd_new hb h2))
          clear h1 h2 hb
          go_wp2_with fail
          (with_reducible refine (rcopy_any F.out.b HR.out.1 (by have := HR.out.2; omega)).mono ?_)
          rintro en w5 ⟨pd, Sd, rfl, h1, h2, hb⟩
          have F := Lib.hid (F.out.opD fw fr fw (P4' := RwP pd k mn mx wi K X) h1 (upd_new hb h2))
          clear h1 h2 hb
          obtain ⟨c0, c1, c2, c3, c4⟩ := HSt.out _ F.out.below
          go_upto_if 66 with fail
          go_cut [17] (fun _ wx => ∃ (Sa' Sb' : Nat → Prop) (na' : Nat) (K' : List Id2) (D' X' : Id2 → Dt), Hid (Four w wx (WatP pa na' (Dt.new mn mx wi) K' D') (RwP pb (k + 1) mn mx wi K' X') (WatP pc na (Dt.new mn mx wi) K D) (RwP pd k mn mx wi K X) Sa' Sb' Sc Sd) ∧ Hid (Tied K' D' X') ∧ Hid (na' ≤ 30 * (k + 1)) ∧ Hid (Rises K' ∧ K'.length ≤ 30))
          case first =>
            cases sh with
            | true =>
              have HW := Lib.hid F.out.b.wi
              have HNE := Lib.hid (show (hasB (sa, si) K != hasB (sa, si) K) = false by cases hasB (sa, si) K <;> rfl)
              go_upto_region 14 with fail
              have F := Lib.hid (F.out.keep fw fr fw fr (Below.refl _ _).drew)
              clear c0 c1 c2 c3 c4
              refine wp_region_held_drew (S := fun W => W.cell? (ad.add (k * 5)) = some (.bool true) ∧ W.cell? ⟨(ad.add (k * 5)).block, (ad.add (k * 5)).off + 1, none⟩ = some (.int .i64 sa) ∧ W.cell? ⟨(ad.add (k * 5)).block, (ad.add (k * 5)).off + 2, none⟩ = some (.int .i64 si) ∧ W.cell? ⟨(ad.add (k * 5)).block, (ad.add (k * 5)).off + 3, none⟩ = some (.slice sA sl.length sc) ∧ W.cell? ⟨(ad.add (k * 5)).block, (ad.add (k * 5)).off + 4, none⟩ = some (.int .i64 sx)) (by kernel_rfl) ?_ (fun hHeld => ?_)
              · exact HSt.out _ F.out.below
              (refine wpAnyH_take (i := 0) (oi := ⟨_, _, _, _, _, _⟩) (v := ?_) rfl (by kernel_rfl) (by kernel_rfl) (by kernel_rfl) (fun _ _ _ h => h) (Or.inl ⟨by rfl, ?_⟩) (by assumption) ?_; rotate_left 1; · (intro w hSw; (try dsimp only at hSw); go_simp; all_goals with_reducible rfl))
              try simp only [Act.put, List.setIfInBounds_toArray, List.set_cons_zero, List.set_cons_succ]
              (refine wpAnyH_take (i := 1) (oi := ⟨_, _, _, _, _, _⟩) (v := ?_) rfl (by kernel_rfl) (by kernel_rfl) (by kernel_rfl) (fun _ _ _ h => h) (Or.inl ⟨by rfl, ?_⟩) (by assumption) ?_; rotate_left 1; · (intro w hSw; (try dsimp only at hSw); go_simp; all_goals with_reducible rfl))
              try simp only [Act.put, List.setIfInBounds_toArray, List.set_cons_zero, List.set_cons_succ]
              (refine wpAnyH_take (i := 2) (oi := ⟨_, _, _, _, _, _⟩) (v := ?_) rfl (by kernel_rfl) (by kernel_rfl) (by kernel_rfl) (fun _ _ _ h => h) (Or.inl ⟨by rfl, ?_⟩) (by assumption) ?_; rotate_left 1; · (intro w hSw; (try dsimp only at hSw); go_simp; all_goals with_reducible rfl))
              try simp only [Act.put, List.setIfInBounds_toArray, List.set_cons_zero, List.set_cons_succ]
              (refine wpAnyH_take (i := 3) (oi := ⟨_, _, _, _, _, _⟩) (v := ?_) rfl (by kernel_rfl) (by kernel_rfl) (by kernel_rfl) (fun _ _ _ h => h) (Or.inl ⟨by rfl, ?_⟩) (by assumption) ?_; rotate_left 1; · (intro w hSw; (try dsimp only at hSw); go_simp; all_goals with_reducible rfl))
              try simp only [Act.put, List.setIfInBounds_toArray, List.set_cons_zero, List.set_cons_succ]
              (refine wpAnyH_take (i := 4) (oi := ⟨_, _, _, _, _, _⟩) (v := ?_) rfl (by kernel_rfl) (by kernel_rfl) (by kernel_rfl) (fun _ _ _ h => h) (Or.inl ⟨by rfl, ?_⟩) (by assumption) ?_; rotate_left 1; · (intro w hSw; (try dsimp only at hSw); go_simp; all_goals with_reducible rfl))
              try simp only [Act.put, List.setIfInBounds_toArray, List.set_cons_zero, List.set_cons_succ]
              (refine wpAnyH_take (i := 5) (oi := ⟨_, _, _, _, _, _⟩) (v := ?_) rfl (by kernel_rfl) (by kernel_rfl) (by kernel_rfl) (fun _ _ _ h => h) (Or.inl ⟨by rfl, ?_⟩) (by assumption) ?_; rotate_left 1; · (intro w hSw; (try dsimp only at hSw); go_simp; all_goals with_reducible rfl))
              try simp only [Act.put, List.setIfInBounds_toArray, List.set_cons_zero, List.set_cons_succ]
              (refine wpAnyH_take (i := 6) (oi := ⟨_, _, _, _, _, _⟩) (v := ?_) rfl (by kernel_rfl) (by kernel_rfl) (by kernel_rfl) (fun _ _ _ h => h) (Or.inl ⟨by rfl, ?_⟩) (by assumption) ?_; rotate_left 1; · (intro w hSw; (try dsimp only at hSw); go_simp; all_goals with_reducible rfl))
              try simp only [Act.put, List.setIfInBounds_toArray, List.set_cons_zero, List.set_cons_succ]
              (refine wpAnyH_take (i := 7) (oi := ⟨_, _, _, _, _, _⟩) (v := ?_) rfl (by kernel_rfl) (by kernel_rfl) (by kernel_rfl) (fun _ _ _ h => h) (Or.inl ⟨by rfl, ?_⟩) (by assumption) ?_; rotate_left 1; · (intro w hSw; (try dsimp only at hSw); go_simp; all_goals with_reducible rfl))
              try simp only [Act.put, List.setIfInBounds_toArray, List.set_cons_zero, List.set_cons_succ]
              (refine wpAnyH_take (i := 8) (oi := ⟨_, _, _, _, _, _⟩) (v := ?_) rfl (by kernel_rfl) (by kernel_rfl) (by kernel_rfl) (fun _ _ _ h => h) (Or.inl ⟨by rfl, ?_⟩) (by assumption) ?_; rotate_left 1; · (intro w hSw; (try dsimp only at hSw); go_simp; all_goals with_reducible rfl))
              try simp only [Act.put, List.setIfInBounds_toArray, List.set_cons_zero, List.set_cons_succ]
              (refine wpAnyH_take (i := 9) (oi := ⟨_, _, _, _, _, _⟩) (v := ?_) rfl (by kernel_rfl) (by kernel_rfl) (by kernel_rfl) (fun _ _ _ h => h) (Or.inl ⟨by rfl, ?_⟩) (by assumption) ?_; rotate_left 1; · (intro w hSw; (try dsimp only at hSw); go_simp; all_goals with_reducible rfl))
              try simp only [Act.put, List.setIfInBounds_toArray, List.set_cons_zero, List.set_cons_succ]
              (refine wpAnyH_take (i := 10) (oi := ⟨_, _, _, _, _, _⟩) (v := ?_) rfl (by kernel_rfl) (by kernel_rfl) (by kernel_rfl) (fun _ _ _ h => h) (Or.inl ⟨by rfl, ?_⟩) (by assumption) ?_; rotate_left 1; · (intro w hSw; (try dsimp only at hSw); go_simp; all_goals with_reducible rfl))
              try simp only [Act.put, List.setIfInBounds_toArray, List.set_cons_zero, List.set_cons_succ]
              (refine wpAnyH_take (i := 12) (oi := ⟨_, _, _, _, _, _⟩) (v := ?_) rfl (by kernel_rfl) (by kernel_rfl) (by kernel_rfl) (fun _ _ _ h => h) (Or.inl ⟨by rfl, ?_⟩) (by assumption) ?_; rotate_left 1; · (intro w hSw; (try dsimp only at hSw); go_simp; all_goals with_reducible rfl))
              try simp only [Act.put, List.setIfInBounds_toArray, List.set_cons_zero, List.set_cons_succ]
              (refine wpAnyH_take (i := 13) (oi := ⟨_, _, _, _, _, _⟩) (v := ?_) rfl (by kernel_rfl) (by kernel_rfl) (by kernel_rfl) (fun _ _ _ h => h) (Or.inl ⟨by rfl, ?_⟩) (by assumption) ?_; rotate_left 1; · (intro w hSw; (try dsimp only at hSw); go_simp; all_goals with_reducible rfl))
              try simp only [Act.put, List.setIfInBounds_toArray, List.set_cons_zero, List.set_cons_succ]
              (refine wpAnyH_take (i := 14) (oi := ⟨_, _, _, _, _, _⟩) (v := ?_) rfl (by kernel_rfl) (by kernel_rfl) (by kernel_rfl) (fun _ _ _ h => h) (Or.inl ⟨by rfl, ?_⟩) (by assumption) ?_; rotate_left 1; · (intro w hSw; (try dsimp only at hSw); go_simp; all_goals with_reducible rfl))
              try simp only [Act.put, List.setIfInBounds_toArray, List.set_cons_zero, List.set_cons_succ]
              (refine wpAnyH_take (i := 15) (oi := ⟨_, _, _, _, _, _⟩) (v := ?_) rfl (by kernel_rfl) (by kernel_rfl) (by kernel_rfl) (fun _ _ _ h => h) (Or.inl ⟨by rfl, ?_⟩) (by assumption) ?_; rotate_left 1; · (intro w hSw; (try dsimp only at hSw); go_simp; all_goals with_reducible rfl))
              try simp only [Act.put, List.setIfInBounds_toArray, List.set_cons_zero, List.set_cons_succ]
              (refine wpAnyH_take (i := 16) (oi := ⟨_, _, _, _, _, _⟩) (v := ?_) rfl (by kernel_rfl) (by kernel_rfl) (by kernel_rfl) (fun _ _ _ h => h) (Or.inl ⟨by rfl, ?_⟩) (by assumption) ?_; rotate_left 1; · (intro w hSw; (try dsimp only at hSw); go_simp; all_goals with_reducible rfl))
              try simp only [Act.put, List.setIfInBounds_toArray, List.set_cons_zero, List.set_cons_succ]
              (refine wpAnyH_take (i := 17) (oi := ⟨_, _, _, _, _, _⟩) (v := ?_) rfl (by kernel_rfl) (by kernel_rfl) (by kernel_rfl) (fun _ _ _ h => h) (Or.inl ⟨by rfl, ?_⟩) (by assumption) ?_; rotate_left 1; · (intro w hSw; (try dsimp only at hSw); go_simp; all_goals with_reducible rfl))
              try simp only [Act.put, List.setIfInBounds_toArray, List.set_cons_zero, List.set_cons_succ]
              (refine wpAnyH_take (i := 18) (oi := ⟨_, _, _, _, _, _⟩) (v := ?_) rfl (by kernel_rfl) (by kernel_rfl) (by kernel_rfl) (fun _ _ _ h => h) (Or.inl ⟨by rfl, ?_⟩) (by assumption) ?_; rotate_left 1; · (intro w hSw; (try dsimp only at hSw); go_simp; all_goals with_reducible rfl))
              try simp only [Act.put, List.setIfInBounds_toArray, List.set_cons_zero, List.set_cons_succ]
              (refine wpAnyH_take (i := 19) (oi := ⟨_, _, _, _, _, _⟩) (v := ?_) rfl (by kernel_rfl) (by kernel_rfl) (by kernel_rfl) (fun _ _ _ h => h) (Or.inl ⟨by rfl, ?_⟩) (by assumption) ?_; rotate_left 1; · (intro w hSw; (try dsimp only at hSw); go_simp; all_goals with_reducible rfl))
              try simp only [Act.put, List.setIfInBounds_toArray, List.set_cons_zero, List.set_cons_succ]
              (refine wpAnyH_take (i := 20) (oi := ⟨_, _, _, _, _, _⟩) (v := ?_) rfl (by kernel_rfl) (by kernel_rfl) (by kernel_rfl) (fun _ _ _ h => h) (Or.inl ⟨by rfl, ?_⟩) (by assumption) ?_; rotate_left 1; · (intro w hSw; (try dsimp only at hSw); go_simp; all_goals with_reducible rfl))
              try simp only [Act.put, List.setIfInBounds_toArray, List.set_cons_zero, List.set_cons_succ]
              (refine wpAnyH_take (i := 21) (oi := ⟨_, _, _, _, _, _⟩) (v := ?_) rfl (by kernel_rfl) (by kernel_rfl) (by kernel_rfl) (fun _ _ _ h => h) (Or.inl ⟨by rfl, ?_⟩) (by assumption) ?_; rotate_left 1; · (intro w hSw; (try dsimp only at hSw); go_simp; all_goals with_reducible rfl))
              try simp only [Act.put, List.setIfInBounds_toArray, List.set_cons_zero, List.set_cons_succ]
              (refine wpAnyH_take (i := 22) (oi := ⟨_, _, _, _, _, _⟩) (v := ?_) rfl (by kernel_rfl) (by kernel_rfl) (by kernel_rfl) (fun _ _ _ h => h) (Or.inl ⟨by rfl, ?_⟩) (by assumption) ?_; rotate_left 1; · (intro w hSw; (try dsimp only at hSw); go_simp; all_goals with_reducible rfl))
              try simp only [Act.put, List.setIfInBounds_toArray, List.set_cons_zero, List.set_cons_succ]
              refine wpAnyH_ready (rs := [11]) (by kernel_rfl) (by simp) ?_
              refine AllReadyH.cons (o := ⟨_, _, _, _, _, _⟩) rfl (fun Kq hKq => ?_) AllReadyH.nil
              go_simp
              clear hHeld
              (go_at_call 14; (with_reducible refine (wheard_any F.out.a sa si sx HQ.out).mono ?_); rintro en w7 ⟨rfl, S7, h1, h2⟩; have F := Lib.hid (F.out.op fr fw fr (P1' := WatP pa na (Dt.new mn mx wi) K (heardD D (sa, si) sx)) h1 h2); clear h1 h2)
              refine hKq.out _ _ ?_ (fun hHeld => ?_)
              · (try dsimp only); exact HSt.out _ F.out.below
              clear hKq Kq
              try simp only [Act.put, List.setIfInBounds_toArray, List.set_cons_zero, List.set_cons_succ]
              refine wpAnyH_ready (rs := [23]) (by kernel_rfl) (by simp) ?_
              refine AllReadyH.cons (o := ⟨_, _, _, _, _, _⟩) rfl (fun Kq hKq => ?_) AllReadyH.nil
              go_simp
              clear hHeld
              (go_at_call 15; (with_reducible refine (rwheard_any F.out.b sa si sx (by have := HR.out.2; omega) (by omega)).mono ?_); rintro en w8 ⟨rfl, S8, h1, h2⟩; have F := Lib.hid (F.out.opB fw fw fr (P2' := RwP pb (k + 1) mn mx wi K (rheardX X (sa, si) sx)) h1 h2); clear h1 h2)
              refine hKq.out _ _ ?_ (fun hHeld => ?_)
              · (try dsimp only); exact HSt.out _ F.out.below
              clear hKq Kq
              try simp only [Act.put, List.setIfInBounds_toArray, List.set_cons_zero, List.set_cons_succ]
              (refine wpAnyH_take (i := 24) (oi := ⟨_, _, _, _, _, _⟩) (v := ?_) rfl (by kernel_rfl) (by kernel_rfl) (by kernel_rfl) (fun _ _ _ h => h) (Or.inl ⟨by rfl, ?_⟩) (by assumption) ?_; rotate_left 1; · (intro w hSw; (try dsimp only at hSw); go_simp; all_goals with_reducible rfl))
              try simp only [Act.put, List.setIfInBounds_toArray, List.set_cons_zero, List.set_cons_succ]
              refine wpAnyH_done (by kernel_rfl) ?_ _
              clear hHeld
              generalize hasB (sa, si) K = z at *
              have hne := HNE.out
              go_wp2_with fail
              go_meet
              exact ⟨S7, S8, na, K, _, _, F, Lib.hid (TT.out.heard HW.out (sa, si) sx), Lib.hid (by have := HM.out; omega), HR⟩
            | false =>
              go_upto_region 16 with fail
              have F := Lib.hid (F.out.keep fw fr fw fr (Below.refl _ _).drew)
              clear c0 c1 c2 c3 c4
              have T2 := Lib.hid (TT.out.look (mn := mn) (mx := mx) (wi := wi) sl sx)
              have ELA := Lib.hid (show lateL (withD (Dt.new mn mx wi) K D sx) sx (setOf sl) = lateL (cutX (withD (Dt.new mn mx wi) K X sx)) sx sl by rw [setOf_self HK2.out.2]; exact T2.out.late (fun q hq => hq) sx)
              have HLL := Lib.hid (show (lateL (cutX (withD (Dt.new mn mx wi) K X sx)) sx sl).length ≤ 30 from Nat.le_trans (lateL_le _ _ _) HK2.out.1)
              refine wp_region_held_drew (S := fun W => W.cell? (ad.add (k * 5)) = some (.bool false) ∧ W.cell? ⟨(ad.add (k * 5)).block, (ad.add (k * 5)).off + 1, none⟩ = some (.int .i64 sa) ∧ W.cell? ⟨(ad.add (k * 5)).block, (ad.add (k * 5)).off + 2, none⟩ = some (.int .i64 si) ∧ W.cell? ⟨(ad.add (k * 5)).block, (ad.add (k * 5)).off + 3, none⟩ = some (.slice sA sl.length sc) ∧ W.cell? ⟨(ad.add (k * 5)).block, (ad.add (k * 5)).off + 4, none⟩ = some (.int .i64 sx)) (by kernel_rfl) ?_ (fun hHeld => ?_)
              · exact HSt.out _ F.out.below
              (refine wpAnyH_take (i := 0) (oi := ⟨_, _, _, _, _, _⟩) (v := ?_) rfl (by kernel_rfl) (by kernel_rfl) (by kernel_rfl) (fun _ _ _ h => h) (Or.inl ⟨by rfl, ?_⟩) (by assumption) ?_; rotate_left 1; · (intro w hSw; (try dsimp only at hSw); go_simp; all_goals with_reducible rfl))
              try simp only [Act.put, List.setIfInBounds_toArray, List.set_cons_zero, List.set_cons_succ]
              (refine wpAnyH_take (i := 1) (oi := ⟨_, _, _, _, _, _⟩) (v := ?_) rfl (by kernel_rfl) (by kernel_rfl) (by kernel_rfl) (fun _ _ _ h => h) (Or.inl ⟨by rfl, ?_⟩) (by assumption) ?_; rotate_left 1; · (intro w hSw; (try dsimp only at hSw); go_simp; all_goals with_reducible rfl))
              try simp only [Act.put, List.setIfInBounds_toArray, List.set_cons_zero, List.set_cons_succ]
              (refine wpAnyH_take (i := 2) (oi := ⟨_, _, _, _, _, _⟩) (v := ?_) rfl (by kernel_rfl) (by kernel_rfl) (by kernel_rfl) (fun _ _ _ h => h) (Or.inl ⟨by rfl, ?_⟩) (by assumption) ?_; rotate_left 1; · (intro w hSw; (try dsimp only at hSw); go_simp; all_goals with_reducible rfl))
              try simp only [Act.put, List.setIfInBounds_toArray, List.set_cons_zero, List.set_cons_succ]
              (refine wpAnyH_take (i := 3) (oi := ⟨_, _, _, _, _, _⟩) (v := ?_) rfl (by kernel_rfl) (by kernel_rfl) (by kernel_rfl) (fun _ _ _ h => h) (Or.inl ⟨by rfl, ?_⟩) (by assumption) ?_; rotate_left 1; · (intro w hSw; (try dsimp only at hSw); go_simp; all_goals with_reducible rfl))
              try simp only [Act.put, List.setIfInBounds_toArray, List.set_cons_zero, List.set_cons_succ]
              (refine wpAnyH_take (i := 4) (oi := ⟨_, _, _, _, _, _⟩) (v := ?_) rfl (by kernel_rfl) (by kernel_rfl) (by kernel_rfl) (fun _ _ _ h => h) (Or.inl ⟨by rfl, ?_⟩) (by assumption) ?_; rotate_left 1; · (intro w hSw; (try dsimp only at hSw); go_simp; all_goals with_reducible rfl))
              try simp only [Act.put, List.setIfInBounds_toArray, List.set_cons_zero, List.set_cons_succ]
              (refine wpAnyH_take (i := 5) (oi := ⟨_, _, _, _, _, _⟩) (v := ?_) rfl (by kernel_rfl) (by kernel_rfl) (by kernel_rfl) (fun _ _ _ h => h) (Or.inl ⟨by rfl, ?_⟩) (by assumption) ?_; rotate_left 1; · (intro w hSw; (try dsimp only at hSw); go_simp; all_goals with_reducible rfl))
              try simp only [Act.put, List.setIfInBounds_toArray, List.set_cons_zero, List.set_cons_succ]
              (refine wpAnyH_take (i := 6) (oi := ⟨_, _, _, _, _, _⟩) (v := ?_) rfl (by kernel_rfl) (by kernel_rfl) (by kernel_rfl) (fun _ _ _ h => h) (Or.inl ⟨by rfl, ?_⟩) (by assumption) ?_; rotate_left 1; · (intro w hSw; (try dsimp only at hSw); go_simp; all_goals with_reducible rfl))
              try simp only [Act.put, List.setIfInBounds_toArray, List.set_cons_zero, List.set_cons_succ]
              (refine wpAnyH_take (i := 7) (oi := ⟨_, _, _, _, _, _⟩) (v := ?_) rfl (by kernel_rfl) (by kernel_rfl) (by kernel_rfl) (fun _ _ _ h => h) (Or.inl ⟨by rfl, ?_⟩) (by assumption) ?_; rotate_left 1; · (intro w hSw; (try dsimp only at hSw); go_simp; all_goals with_reducible rfl))
              try simp only [Act.put, List.setIfInBounds_toArray, List.set_cons_zero, List.set_cons_succ]
              (refine wpAnyH_take (i := 8) (oi := ⟨_, _, _, _, _, _⟩) (v := ?_) rfl (by kernel_rfl) (by kernel_rfl) (by kernel_rfl) (fun _ _ _ h => h) (Or.inl ⟨by rfl, ?_⟩) (by assumption) ?_; rotate_left 1; · (intro w hSw; (try dsimp only at hSw); go_simp; all_goals with_reducible rfl))
              try simp only [Act.put, List.setIfInBounds_toArray, List.set_cons_zero, List.set_cons_succ]
              (refine wpAnyH_take (i := 9) (oi := ⟨_, _, _, _, _, _⟩) (v := ?_) rfl (by kernel_rfl) (by kernel_rfl) (by kernel_rfl) (fun _ _ _ h => h) (Or.inl ⟨by rfl, ?_⟩) (by assumption) ?_; rotate_left 1; · (intro w hSw; (try dsimp only at hSw); go_simp; all_goals with_reducible rfl))
              try simp only [Act.put, List.setIfInBounds_toArray, List.set_cons_zero, List.set_cons_succ]
              (refine wpAnyH_take (i := 10) (oi := ⟨_, _, _, _, _, _⟩) (v := ?_) rfl (by kernel_rfl) (by kernel_rfl) (by kernel_rfl) (fun _ _ _ h => h) (Or.inl ⟨by rfl, ?_⟩) (by assumption) ?_; rotate_left 1; · (intro w hSw; (try dsimp only at hSw); go_simp; all_goals with_reducible rfl))
              try simp only [Act.put, List.setIfInBounds_toArray, List.set_cons_zero, List.set_cons_succ]
              refine wpAnyH_ready (rs := [11]) (by kernel_rfl) (by simp) ?_
              refine AllReadyH.cons (o := ⟨_, _, _, _, _, _⟩) rfl (fun Kq hKq => ?_) AllReadyH.nil
              go_simp
              clear hHeld
              (go_at_call 16; (with_reducible refine (look_any F.out.a _ sl sx (HIA.out _ F.out.below) (by have := HK2.out.1; omega) HL2.out (by have := HMM.out; omega)).mono ?_); rw [ELA.out, setOf_self HK2.out.2]; rintro en w7 ⟨S7, vx, rfl, h1, h2, h3⟩; have XN : Hid (∀ j, vx.ownBlock = some j → w.heap.size ≤ j ∧ ¬ S7 j ∧ ¬ Sb j ∧ ¬ Sc j ∧ ¬ Sd j) := Lib.hid (fun j hj => by have h := F.out.new fw fr fw fr (World.ownsRow.lt h3.1 j hj).1; exact ⟨h.1, h3.2 j hj, h.2.2.1, h.2.2.2.1, h.2.2.2.2⟩); have XO := Lib.hid h3.1; have F := Lib.hid (F.out.op fr fw fr (P1' := WatP pa (na + sl.length) (Dt.new mn mx wi) sl (withD (Dt.new mn mx wi) K D sx)) h1 h2); obtain ⟨Ax, cx, rfl⟩ := slice_of h3.1; clear h1 h2 h3)
              refine hKq.out _ _ ?_ (fun hHeld => ?_)
              · (try dsimp only); exact HSt.out _ F.out.below
              clear hKq Kq
              try simp only [Act.put, List.setIfInBounds_toArray, List.set_cons_zero, List.set_cons_succ]
              (refine wpAnyH_take (i := 12) (oi := ⟨_, _, _, _, _, _⟩) (v := ?_) rfl (by kernel_rfl) (by kernel_rfl) (by kernel_rfl) (fun _ _ _ h => h) (Or.inl ⟨by rfl, ?_⟩) (by assumption) ?_; rotate_left 1; · (intro w hSw; (try dsimp only at hSw); go_simp; all_goals with_reducible rfl))
              try simp only [Act.put, List.setIfInBounds_toArray, List.set_cons_zero, List.set_cons_succ]
              refine wpAnyH_done (by kernel_rfl) ?_ _
              clear hHeld
              go_upto_region 17 with fail
              have F := Lib.hid (F.out.keep fw fr fw fr (Below.refl _ _).drew)
              have XO := Lib.hid (XO.out.below (Below.refl _ _).drew)
              have XNo := XN
              refine wp_region_held_drew (S := fun W => W.cell? (ad.add (k * 5)) = some (.bool false) ∧ W.cell? ⟨(ad.add (k * 5)).block, (ad.add (k * 5)).off + 1, none⟩ = some (.int .i64 sa) ∧ W.cell? ⟨(ad.add (k * 5)).block, (ad.add (k * 5)).off + 2, none⟩ = some (.int .i64 si) ∧ W.cell? ⟨(ad.add (k * 5)).block, (ad.add (k * 5)).off + 3, none⟩ = some (.slice sA sl.length sc) ∧ W.cell? ⟨(ad.add (k * 5)).block, (ad.add (k * 5)).off + 4, none⟩ = some (.int .i64 sx)) (by kernel_rfl) ?_ (fun hHeld => ?_)
              · exact HSt.out _ F.out.below
              (refine wpAnyH_take (i := 0) (oi := ⟨_, _, _, _, _, _⟩) (v := ?_) rfl (by kernel_rfl) (by kernel_rfl) (by kernel_rfl) (fun _ _ _ h => h) (Or.inl ⟨by rfl, ?_⟩) (by assumption) ?_; rotate_left 1; · (intro w hSw; (try dsimp only at hSw); go_simp; all_goals with_reducible rfl))
              try simp only [Act.put, List.setIfInBounds_toArray, List.set_cons_zero, List.set_cons_succ]
              (refine wpAnyH_take (i := 1) (oi := ⟨_, _, _, _, _, _⟩) (v := ?_) rfl (by kernel_rfl) (by kernel_rfl) (by kernel_rfl) (fun _ _ _ h => h) (Or.inl ⟨by rfl, ?_⟩) (by assumption) ?_; rotate_left 1; · (intro w hSw; (try dsimp only at hSw); go_simp; all_goals with_reducible rfl))
              try simp only [Act.put, List.setIfInBounds_toArray, List.set_cons_zero, List.set_cons_succ]
              (refine wpAnyH_take (i := 2) (oi := ⟨_, _, _, _, _, _⟩) (v := ?_) rfl (by kernel_rfl) (by kernel_rfl) (by kernel_rfl) (fun _ _ _ h => h) (Or.inl ⟨by rfl, ?_⟩) (by assumption) ?_; rotate_left 1; · (intro w hSw; (try dsimp only at hSw); go_simp; all_goals with_reducible rfl))
              try simp only [Act.put, List.setIfInBounds_toArray, List.set_cons_zero, List.set_cons_succ]
              (refine wpAnyH_take (i := 3) (oi := ⟨_, _, _, _, _, _⟩) (v := ?_) rfl (by kernel_rfl) (by kernel_rfl) (by kernel_rfl) (fun _ _ _ h => h) (Or.inl ⟨by rfl, ?_⟩) (by assumption) ?_; rotate_left 1; · (intro w hSw; (try dsimp only at hSw); go_simp; all_goals with_reducible rfl))
              try simp only [Act.put, List.setIfInBounds_toArray, List.set_cons_zero, List.set_cons_succ]
              (refine wpAnyH_take (i := 4) (oi := ⟨_, _, _, _, _, _⟩) (v := ?_) rfl (by kernel_rfl) (by kernel_rfl) (by kernel_rfl) (fun _ _ _ h => h) (Or.inl ⟨by rfl, ?_⟩) (by assumption) ?_; rotate_left 1; · (intro w hSw; (try dsimp only at hSw); go_simp; all_goals with_reducible rfl))
              try simp only [Act.put, List.setIfInBounds_toArray, List.set_cons_zero, List.set_cons_succ]
              (refine wpAnyH_take (i := 5) (oi := ⟨_, _, _, _, _, _⟩) (v := ?_) rfl (by kernel_rfl) (by kernel_rfl) (by kernel_rfl) (fun _ _ _ h => h) (Or.inl ⟨by rfl, ?_⟩) (by assumption) ?_; rotate_left 1; · (intro w hSw; (try dsimp only at hSw); go_simp; all_goals with_reducible rfl))
              try simp only [Act.put, List.setIfInBounds_toArray, List.set_cons_zero, List.set_cons_succ]
              (refine wpAnyH_take (i := 6) (oi := ⟨_, _, _, _, _, _⟩) (v := ?_) rfl (by kernel_rfl) (by kernel_rfl) (by kernel_rfl) (fun _ _ _ h => h) (Or.inl ⟨by rfl, ?_⟩) (by assumption) ?_; rotate_left 1; · (intro w hSw; (try dsimp only at hSw); go_simp; all_goals with_reducible rfl))
              try simp only [Act.put, List.setIfInBounds_toArray, List.set_cons_zero, List.set_cons_succ]
              (refine wpAnyH_take (i := 7) (oi := ⟨_, _, _, _, _, _⟩) (v := ?_) rfl (by kernel_rfl) (by kernel_rfl) (by kernel_rfl) (fun _ _ _ h => h) (Or.inl ⟨by rfl, ?_⟩) (by assumption) ?_; rotate_left 1; · (intro w hSw; (try dsimp only at hSw); go_simp; all_goals with_reducible rfl))
              try simp only [Act.put, List.setIfInBounds_toArray, List.set_cons_zero, List.set_cons_succ]
              (refine wpAnyH_take (i := 8) (oi := ⟨_, _, _, _, _, _⟩) (v := ?_) rfl (by kernel_rfl) (by kernel_rfl) (by kernel_rfl) (fun _ _ _ h => h) (Or.inl ⟨by rfl, ?_⟩) (by assumption) ?_; rotate_left 1; · (intro w hSw; (try dsimp only at hSw); go_simp; all_goals with_reducible rfl))
              try simp only [Act.put, List.setIfInBounds_toArray, List.set_cons_zero, List.set_cons_succ]
              (refine wpAnyH_take (i := 9) (oi := ⟨_, _, _, _, _, _⟩) (v := ?_) rfl (by kernel_rfl) (by kernel_rfl) (by kernel_rfl) (fun _ _ _ h => h) (Or.inl ⟨by rfl, ?_⟩) (by assumption) ?_; rotate_left 1; · (intro w hSw; (try dsimp only at hSw); go_simp; all_goals with_reducible rfl))
              try simp only [Act.put, List.setIfInBounds_toArray, List.set_cons_zero, List.set_cons_succ]
              (refine wpAnyH_take (i := 10) (oi := ⟨_, _, _, _, _, _⟩) (v := ?_) rfl (by kernel_rfl) (by kernel_rfl) (by kernel_rfl) (fun _ _ _ h => h) (Or.inl ⟨by rfl, ?_⟩) (by assumption) ?_; rotate_left 1; · (intro w hSw; (try dsimp only at hSw); go_simp; all_goals with_reducible rfl))
              try simp only [Act.put, List.setIfInBounds_toArray, List.set_cons_zero, List.set_cons_succ]
              (refine wpAnyH_take (i := 11) (oi := ⟨_, _, _, _, _, _⟩) (v := ?_) rfl (by kernel_rfl) (by kernel_rfl) (by kernel_rfl) (fun _ _ _ h => h) (Or.inl ⟨by rfl, ?_⟩) (by assumption) ?_; rotate_left 1; · (intro w hSw; (try dsimp only at hSw); go_simp; all_goals with_reducible rfl))
              try simp only [Act.put, List.setIfInBounds_toArray, List.set_cons_zero, List.set_cons_succ]
              refine wpAnyH_ready (rs := [12]) (by kernel_rfl) (by simp) ?_
              refine AllReadyH.cons (o := ⟨_, _, _, _, _, _⟩) rfl (fun Kq hKq => ?_) AllReadyH.nil
              go_simp
              clear hHeld
              (go_at_call 18; (with_reducible refine (rlook_any F.out.b _ sl sx (HIA.out _ F.out.below) (by have := HK2.out.1; omega) HK2.out.2 (by have := HR.out.2; omega) (by omega) HOK.out).mono ?_); rintro en w8 ⟨S8, Ar, cr, rfl, h1, h2, h3⟩; have XR := Lib.hid h3.ids; have XN : Hid (∀ j, (Value.slice Ax (lateL (cutX (withD (Dt.new mn mx wi) K X sx)) sx sl).length cx).ownBlock = some j → w.heap.size ≤ j ∧ ¬ S7 j ∧ ¬ S8 j ∧ ¬ Sc j ∧ ¬ Sd j) := Lib.hid (fun j hj => ⟨(XN.out j hj).1, (XN.out j hj).2.1, no_upd XO.out (fun b hb => (XN.out b hb).2.2.1) h2 j hj, (XN.out j hj).2.2.2⟩); have XO := Lib.hid (owns_fr XO.out h2.fr (fun b hb => (XNo.out b hb).2.2.1)); have F := Lib.hid (F.out.opB fw fw fr (P2' := RwP pb (k + 1) mn mx wi sl (withD (Dt.new mn mx wi) K X sx)) h1 h2); clear h1 h2 h3)
              refine hKq.out _ _ ?_ (fun hHeld => ?_)
              · (try dsimp only); exact HSt.out _ F.out.below
              clear hKq Kq
              try simp only [Act.put, List.setIfInBounds_toArray, List.set_cons_zero, List.set_cons_succ]
              refine wpAnyH_ready (rs := [13]) (by kernel_rfl) (by simp) ?_
              refine AllReadyH.cons (o := ⟨_, _, _, _, _, _⟩) rfl (fun Kq hKq => ?_) AllReadyH.nil
              go_simp
              clear hHeld
              (go_at_call 17; (with_reducible refine (refSame_any _ _ _ _ _ (ids_of_owns XO.out) XR.out (by have := HLL.out; omega) (by have := HLL.out; omega)).mono ?_); rw [sameB_self]; rintro en w9 ⟨rfl, hb⟩; have XO := Lib.hid (XO.out.below hb); have F := Lib.hid (F.out.keep fw fr fw fr hb); clear hb)
              refine hKq.out _ _ ?_ (fun hHeld => ?_)
              · (try dsimp only); exact HSt.out _ F.out.below
              clear hKq Kq
              try simp only [Act.put, List.setIfInBounds_toArray, List.set_cons_zero, List.set_cons_succ]
              (refine wpAnyH_take (i := 14) (oi := ⟨_, _, _, _, _, _⟩) (v := ?_) rfl (by kernel_rfl) (by kernel_rfl) (by kernel_rfl) (fun _ _ _ h => h) (Or.inl ⟨by rfl, ?_⟩) (by assumption) ?_; rotate_left 1; · (intro w hSw; (try dsimp only at hSw); go_simp; all_goals with_reducible rfl))
              try simp only [Act.put, List.setIfInBounds_toArray, List.set_cons_zero, List.set_cons_succ]
              refine wpAnyH_done (by kernel_rfl) ?_ _
              clear hHeld XNo XR
              have HN : Hid ((lateL (cutX (withD (Dt.new mn mx wi) K X sx)) sx sl).length ≤ 30) := HLL
              generalize lateL (cutX (withD (Dt.new mn mx wi) K X sx)) sx sl = la at *
              rename World => wq
              have SR := Lib.hid (SpoilR.of XO.out)
              have hN := HN.out
              go_wp2_with fail
              go_loopw [17] (fun s17 wr => ∃ j : Nat, j ≤ la.length ∧ s17 = .int .i64 j ∧ Hid (Fr (fun b => (Value.slice Ax la.length cx).ownBlock = some b) wq wr) ∧ Hid (SpoilR wr (.slice Ax la.length cx) la.length)) (fun s17 _ => la.length - (intOf s17).toNat)
              case atStart => exact ⟨0, by omega, rfl, Lib.hid (Fr.refl _ _), SR⟩
              case round =>
                obtain ⟨j, hj, rfl, HF, HSp⟩ := hrel
                have j3 : (0 : Int) ≤ (j : Int) := by omega
                by_cases hjl : j < la.length
                · have hd2 : decide ((j : Int) < (la.length : Int)) = true := by simp; omega
                  have j4 : (j : Int) < (la.length : Int) := by omega
                  obtain ⟨gx, cx2, cur, hxe, h1, h2⟩ := HSp.out (by omega)
                  injection hxe with e1 e2 e3
                  subst e1 e3
                  obtain ⟨⟨ux, hu⟩, hf⟩ := spoil_cell h1 h2 hjl
                  clear h1 h2
                  go_wp2_with fail
                  go_roundw
                  case rel => exact ⟨j + 1, by omega, by go_num, Lib.hid (HF.out.step (.of_set _ _ rfl)), Lib.hid (SpoilR.put HSp.out)⟩
                  case measure => simp [intOf]; omega
                · obtain rfl : j = la.length := by omega
                  have hd2 : decide ((la.length : Int) < (la.length : Int)) = false := by simp
                  have F := Lib.hid (F.out.spoil fw fr fw fr HF.out XN.out)
                  go_wp2_with fail
                  go_meet
                  exact ⟨S7, S8, na + sl.length, sl, _, _, F, T2, Lib.hid (by have := HM.out; have := HK2.out.1; omega), Lib.hid ⟨HK2.out.2, HK2.out.1⟩⟩
          case rest =>
            obtain ⟨Sa', Sb', na', K', D', X', F, T2, HM2, HR2⟩ := hcut
            clear c0 c1 c2 c3 c4
            have hn2 : na' ≤ 3100 := by have := HM2.out; omega
            have HK30 := HR2.out.2
            have HK31 := HR.out.2
            go_wp2_with fail
            obtain ⟨f1, m1, L1, hI⟩ := F.out.a
            (with_reducible refine (watched_any hI (by omega) HR2.out.1).mono ?_)
            rintro en w10 ⟨vw, rfl, h1, hb⟩
            have XN := Lib.hid (fun j (hj : vw.ownBlock = some j) => F.out.new fw fr fw fr (World.ownsRow.lt h1 j hj).1)
            have XO := Lib.hid h1
            have F := Lib.hid (F.out.keep fw fr fw fr hb)
            obtain ⟨Aw, cw, rfl⟩ := slice_of h1
            clear h1 hb hI
            go_wp2_with fail
            (with_reducible refine (rwatched_any F.out.b (by omega)).mono ?_)
            rintro en w11 ⟨r1, rfl, h1, hb⟩
            have R1 := Lib.hid h1
            have F := Lib.hid (F.out.keep fw fr fw fr hb)
            have XO := Lib.hid (XO.out.below hb)
            have LS2 := Lib.hid (setOf_len K')
            have LS1 := Lib.hid (setOf_len K)
            clear h1 hb
            go_wp2_with fail
            (with_reducible refine (refSame_any _ _ K' (setOf K') _ (ids_of_owns XO.out) R1.out (by omega) (by have := LS2.out; omega)).mono ?_)
            rw [setOf_setOf, sameB_self]
            rintro en w12 ⟨rfl, hb⟩
            have F := Lib.hid (F.out.keep fw fr fw fr hb)
            have XO := Lib.hid (XO.out.below hb)
            clear hb R1
            go_wp2_with fail
            obtain ⟨f3, m3, L3, hI⟩ := F.out.c
            (with_reducible refine (watched_any hI (by have := HMM.out; omega) HR.out.1).mono ?_)
            rintro en w13 ⟨vc, rfl, h1, hb⟩
            have YC := Lib.hid (ids_of_owns h1)
            have F := Lib.hid (F.out.keep fw fr fw fr hb)
            have XO := Lib.hid (XO.out.below hb)
            clear h1 hb hI
            go_wp2_with fail
            (with_reducible refine (rwatched_any F.out.d (by omega)).mono ?_)
            rintro en w14 ⟨r2, rfl, h1, hb⟩
            have R2 := Lib.hid h1
            have YC := Lib.hid (YC.out.below hb)
            have F := Lib.hid (F.out.keep fw fr fw fr hb)
            have XO := Lib.hid (XO.out.below hb)
            clear h1 hb
            go_wp2_with fail
            (with_reducible refine (refSame_any _ _ K (setOf K) _ YC.out R2.out (by omega) (by have := LS1.out; omega)).mono ?_)
            rw [setOf_setOf, sameB_self]
            rintro en w15 ⟨rfl, hb⟩
            have F := Lib.hid (F.out.keep fw fr fw fr hb)
            have XO := Lib.hid (XO.out.below hb)
            clear hb R2 YC
            have HN : Hid (K'.length ≤ 30) := Lib.hid HK30
            rename World => wq
            have SR := Lib.hid (SpoilR.of XO.out)
            have hN := HN.out
            go_wp2_with fail
            go_loopw [20] (fun s20 wr => ∃ j : Nat, j ≤ K'.length ∧ s20 = .int .i64 j ∧ Hid (Fr (fun b => (Value.slice Aw K'.length cw).ownBlock = some b) wq wr) ∧ Hid (SpoilR wr (.slice Aw K'.length cw) K'.length)) (fun s20 _ => K'.length - (intOf s20).toNat)
            case atStart => exact ⟨0, by omega, rfl, Lib.hid (Fr.refl _ _), SR⟩
            case round =>
              obtain ⟨j, hj, rfl, HF, HSp⟩ := hrel
              have j3 : (0 : Int) ≤ (j : Int) := by omega
              by_cases hjl : j < K'.length
              · have hd2 : decide ((j : Int) < (K'.length : Int)) = true := by simp; omega
                have j4 : (j : Int) < (K'.length : Int) := by omega
                obtain ⟨gx, cx2, cur, hxe, h1, h2⟩ := HSp.out (by omega)
                injection hxe with e1 e2 e3
                subst e1 e3
                obtain ⟨⟨ux, hu⟩, hf⟩ := spoil_cell h1 h2 hjl
                clear h1 h2
                go_wp2_with fail
                go_roundw
                case rel => exact ⟨j + 1, by omega, by go_num, Lib.hid (HF.out.step (.of_set _ _ rfl)), Lib.hid (SpoilR.put HSp.out)⟩
                case measure => simp [intOf]; omega
              · obtain rfl : j = K'.length := by omega
                have hd2 : decide ((K'.length : Int) < (K'.length : Int)) = false := by simp
                have F := Lib.hid (F.out.spoil fw fr fw fr HF.out XN.out)
                go_wp2_with fail
                obtain ⟨f3, m3, L3, hI⟩ := F.out.c
                (with_reducible refine (watched_any hI (by have := HMM.out; omega) HR.out.1).mono ?_)
                rintro en w16 ⟨vy, rfl, h1, hb⟩
                have YN := Lib.hid (fun j (hj : vy.ownBlock = some j) => F.out.new fw fr fw fr (World.ownsRow.lt h1 j hj).1)
                have YO := Lib.hid h1
                have F := Lib.hid (F.out.keep fw fr fw fr hb)
                obtain ⟨Ay, cy, rfl⟩ := slice_of h1
                have EL1 := Lib.hid (late_same (e := Dt.new mn mx wi) (D := D) (x := sx) HR.out.1)
                have EL2 := Lib.hid (show lateL (cutX (withD (Dt.new mn mx wi) K X sx)) sx K = lateL D sx K by
                  rw [TT.out.late (fun q hq => hq) sx]
                  unfold lateL cutX
                  exact List.filter_congr fun q hq => by rw [withD_in hq])
                have HLD := Lib.hid (show (lateL D sx K).length ≤ 30 from Nat.le_trans (lateL_le _ _ _) HR.out.2)
                clear h1 hb hI XO XN SR HF HSp
                go_upto_region 30 with fail
                have F := Lib.hid (F.out.keep fw fr fw fr (Below.refl _ _).drew)
                have YO := Lib.hid (YO.out.below (Below.refl _ _).drew)
                have hk3 : k < 300 := by omega
                have F17 := F
                refine wp_region_held_drew (S := fun W => W.cell? (ad.add (k * 5)) = some (.bool sh) ∧ W.cell? ⟨(ad.add (k * 5)).block, (ad.add (k * 5)).off + 1, none⟩ = some (.int .i64 sa) ∧ W.cell? ⟨(ad.add (k * 5)).block, (ad.add (k * 5)).off + 2, none⟩ = some (.int .i64 si) ∧ W.cell? ⟨(ad.add (k * 5)).block, (ad.add (k * 5)).off + 3, none⟩ = some (.slice sA sl.length sc) ∧ W.cell? ⟨(ad.add (k * 5)).block, (ad.add (k * 5)).off + 4, none⟩ = some (.int .i64 sx)) (by kernel_rfl) ?_ (fun hHeld => ?_)
                · exact HSt.out _ F.out.below
                (refine wpAnyH_take (i := 0) (oi := ⟨_, _, _, _, _, _⟩) (v := ?_) rfl (by kernel_rfl) (by kernel_rfl) (by kernel_rfl) (fun _ _ _ h => h) (Or.inl ⟨by rfl, ?_⟩) (by assumption) ?_; rotate_left 1; · (intro w hSw; (try dsimp only at hSw); go_simp; all_goals with_reducible rfl))
                try simp only [Act.put, List.setIfInBounds_toArray, List.set_cons_zero, List.set_cons_succ]
                (refine wpAnyH_take (i := 1) (oi := ⟨_, _, _, _, _, _⟩) (v := ?_) rfl (by kernel_rfl) (by kernel_rfl) (by kernel_rfl) (fun _ _ _ h => h) (Or.inl ⟨by rfl, ?_⟩) (by assumption) ?_; rotate_left 1; · (intro w hSw; (try dsimp only at hSw); go_simp; all_goals with_reducible rfl))
                try simp only [Act.put, List.setIfInBounds_toArray, List.set_cons_zero, List.set_cons_succ]
                (refine wpAnyH_take (i := 2) (oi := ⟨_, _, _, _, _, _⟩) (v := ?_) rfl (by kernel_rfl) (by kernel_rfl) (by kernel_rfl) (fun _ _ _ h => h) (Or.inl ⟨by rfl, ?_⟩) (by assumption) ?_; rotate_left 1; · (intro w hSw; (try dsimp only at hSw); go_simp; all_goals with_reducible rfl))
                try simp only [Act.put, List.setIfInBounds_toArray, List.set_cons_zero, List.set_cons_succ]
                first | (refine wpAnyH_take (i := 3) (oi := ⟨_, _, _, _, _, _⟩) (v := ?_) rfl (by kernel_rfl) (by kernel_rfl) (by kernel_rfl) (fun _ _ _ h => h) (Or.inl ⟨by rfl, ?_⟩) (by assumption) ?_; rotate_left 1; · (intro w hSw; (try dsimp only at hSw); go_simp; all_goals with_reducible rfl)) | refine wpAnyH_take (i := 3) (oi := ⟨_, _, _, _, _, _⟩) (v := undef) rfl (by kernel_rfl) (by kernel_rfl) (by kernel_rfl) (fun _ _ _ h => h) (Or.inr ⟨by kernel_rfl, rfl⟩) (by assumption) ?_
                try simp only [Act.put, List.setIfInBounds_toArray, List.set_cons_zero, List.set_cons_succ]
                first | (refine wpAnyH_take (i := 4) (oi := ⟨_, _, _, _, _, _⟩) (v := ?_) rfl (by kernel_rfl) (by kernel_rfl) (by kernel_rfl) (fun _ _ _ h => h) (Or.inl ⟨by rfl, ?_⟩) (by assumption) ?_; rotate_left 1; · (intro w hSw; (try dsimp only at hSw); go_simp; all_goals with_reducible rfl)) | refine wpAnyH_take (i := 4) (oi := ⟨_, _, _, _, _, _⟩) (v := undef) rfl (by kernel_rfl) (by kernel_rfl) (by kernel_rfl) (fun _ _ _ h => h) (Or.inr ⟨by kernel_rfl, rfl⟩) (by assumption) ?_
                try simp only [Act.put, List.setIfInBounds_toArray, List.set_cons_zero, List.set_cons_succ]
                first | (refine wpAnyH_take (i := 5) (oi := ⟨_, _, _, _, _, _⟩) (v := ?_) rfl (by kernel_rfl) (by kernel_rfl) (by kernel_rfl) (fun _ _ _ h => h) (Or.inl ⟨by rfl, ?_⟩) (by assumption) ?_; rotate_left 1; · (intro w hSw; (try dsimp only at hSw); go_simp; all_goals with_reducible rfl)) | refine wpAnyH_take (i := 5) (oi := ⟨_, _, _, _, _, _⟩) (v := undef) rfl (by kernel_rfl) (by kernel_rfl) (by kernel_rfl) (fun _ _ _ h => h) (Or.inr ⟨by kernel_rfl, rfl⟩) (by assumption) ?_
                try simp only [Act.put, List.setIfInBounds_toArray, List.set_cons_zero, List.set_cons_succ]
                first | (refine wpAnyH_take (i := 6) (oi := ⟨_, _, _, _, _, _⟩) (v := ?_) rfl (by kernel_rfl) (by kernel_rfl) (by kernel_rfl) (fun _ _ _ h => h) (Or.inl ⟨by rfl, ?_⟩) (by assumption) ?_; rotate_left 1; · (intro w hSw; (try dsimp only at hSw); go_simp; all_goals with_reducible rfl)) | refine wpAnyH_take (i := 6) (oi := ⟨_, _, _, _, _, _⟩) (v := undef) rfl (by kernel_rfl) (by kernel_rfl) (by kernel_rfl) (fun _ _ _ h => h) (Or.inr ⟨by kernel_rfl, rfl⟩) (by assumption) ?_
                try simp only [Act.put, List.setIfInBounds_toArray, List.set_cons_zero, List.set_cons_succ]
                first | (refine wpAnyH_take (i := 7) (oi := ⟨_, _, _, _, _, _⟩) (v := ?_) rfl (by kernel_rfl) (by kernel_rfl) (by kernel_rfl) (fun _ _ _ h => h) (Or.inl ⟨by rfl, ?_⟩) (by assumption) ?_; rotate_left 1; · (intro w hSw; (try dsimp only at hSw); go_simp; all_goals with_reducible rfl)) | refine wpAnyH_take (i := 7) (oi := ⟨_, _, _, _, _, _⟩) (v := undef) rfl (by kernel_rfl) (by kernel_rfl) (by kernel_rfl) (fun _ _ _ h => h) (Or.inr ⟨by kernel_rfl, rfl⟩) (by assumption) ?_
                try simp only [Act.put, List.setIfInBounds_toArray, List.set_cons_zero, List.set_cons_succ]
                first | (refine wpAnyH_take (i := 8) (oi := ⟨_, _, _, _, _, _⟩) (v := ?_) rfl (by kernel_rfl) (by kernel_rfl) (by kernel_rfl) (fun _ _ _ h => h) (Or.inl ⟨by rfl, ?_⟩) (by assumption) ?_; rotate_left 1; · (intro w hSw; (try dsimp only at hSw); go_simp; all_goals with_reducible rfl)) | refine wpAnyH_take (i := 8) (oi := ⟨_, _, _, _, _, _⟩) (v := undef) rfl (by kernel_rfl) (by kernel_rfl) (by kernel_rfl) (fun _ _ _ h => h) (Or.inr ⟨by kernel_rfl, rfl⟩) (by assumption) ?_
                try simp only [Act.put, List.setIfInBounds_toArray, List.set_cons_zero, List.set_cons_succ]
                first | (refine wpAnyH_take (i := 9) (oi := ⟨_, _, _, _, _, _⟩) (v := ?_) rfl (by kernel_rfl) (by kernel_rfl) (by kernel_rfl) (fun _ _ _ h => h) (Or.inl ⟨by rfl, ?_⟩) (by assumption) ?_; rotate_left 1; · (intro w hSw; (try dsimp only at hSw); go_simp; all_goals with_reducible rfl)) | refine wpAnyH_take (i := 9) (oi := ⟨_, _, _, _, _, _⟩) (v := undef) rfl (by kernel_rfl) (by kernel_rfl) (by kernel_rfl) (fun _ _ _ h => h) (Or.inr ⟨by kernel_rfl, rfl⟩) (by assumption) ?_
                try simp only [Act.put, List.setIfInBounds_toArray, List.set_cons_zero, List.set_cons_succ]
                first | (refine wpAnyH_take (i := 11) (oi := ⟨_, _, _, _, _, _⟩) (v := ?_) rfl (by kernel_rfl) (by kernel_rfl) (by kernel_rfl) (fun _ _ _ h => h) (Or.inl ⟨by rfl, ?_⟩) (by assumption) ?_; rotate_left 1; · (intro w hSw; (try dsimp only at hSw); go_simp; all_goals with_reducible rfl)) | refine wpAnyH_take (i := 11) (oi := ⟨_, _, _, _, _, _⟩) (v := undef) rfl (by kernel_rfl) (by kernel_rfl) (by kernel_rfl) (fun _ _ _ h => h) (Or.inr ⟨by kernel_rfl, rfl⟩) (by assumption) ?_
                try simp only [Act.put, List.setIfInBounds_toArray, List.set_cons_zero, List.set_cons_succ]
                first | (refine wpAnyH_take (i := 12) (oi := ⟨_, _, _, _, _, _⟩) (v := ?_) rfl (by kernel_rfl) (by kernel_rfl) (by kernel_rfl) (fun _ _ _ h => h) (Or.inl ⟨by rfl, ?_⟩) (by assumption) ?_; rotate_left 1; · (intro w hSw; (try dsimp only at hSw); go_simp; all_goals with_reducible rfl)) | refine wpAnyH_take (i := 12) (oi := ⟨_, _, _, _, _, _⟩) (v := undef) rfl (by kernel_rfl) (by kernel_rfl) (by kernel_rfl) (fun _ _ _ h => h) (Or.inr ⟨by kernel_rfl, rfl⟩) (by assumption) ?_
                try simp only [Act.put, List.setIfInBounds_toArray, List.set_cons_zero, List.set_cons_succ]
                first | (refine wpAnyH_take (i := 13) (oi := ⟨_, _, _, _, _, _⟩) (v := ?_) rfl (by kernel_rfl) (by kernel_rfl) (by kernel_rfl) (fun _ _ _ h => h) (Or.inl ⟨by rfl, ?_⟩) (by assumption) ?_; rotate_left 1; · (intro w hSw; (try dsimp only at hSw); go_simp; all_goals with_reducible rfl)) | refine wpAnyH_take (i := 13) (oi := ⟨_, _, _, _, _, _⟩) (v := undef) rfl (by kernel_rfl) (by kernel_rfl) (by kernel_rfl) (fun _ _ _ h => h) (Or.inr ⟨by kernel_rfl, rfl⟩) (by assumption) ?_
                try simp only [Act.put, List.setIfInBounds_toArray, List.set_cons_zero, List.set_cons_succ]
                first | (refine wpAnyH_take (i := 14) (oi := ⟨_, _, _, _, _, _⟩) (v := ?_) rfl (by kernel_rfl) (by kernel_rfl) (by kernel_rfl) (fun _ _ _ h => h) (Or.inl ⟨by rfl, ?_⟩) (by assumption) ?_; rotate_left 1; · (intro w hSw; (try dsimp only at hSw); go_simp; all_goals with_reducible rfl)) | refine wpAnyH_take (i := 14) (oi := ⟨_, _, _, _, _, _⟩) (v := undef) rfl (by kernel_rfl) (by kernel_rfl) (by kernel_rfl) (fun _ _ _ h => h) (Or.inr ⟨by kernel_rfl, rfl⟩) (by assumption) ?_
                try simp only [Act.put, List.setIfInBounds_toArray, List.set_cons_zero, List.set_cons_succ]
                first | (refine wpAnyH_take (i := 15) (oi := ⟨_, _, _, _, _, _⟩) (v := ?_) rfl (by kernel_rfl) (by kernel_rfl) (by kernel_rfl) (fun _ _ _ h => h) (Or.inl ⟨by rfl, ?_⟩) (by assumption) ?_; rotate_left 1; · (intro w hSw; (try dsimp only at hSw); go_simp; all_goals with_reducible rfl)) | refine wpAnyH_take (i := 15) (oi := ⟨_, _, _, _, _, _⟩) (v := undef) rfl (by kernel_rfl) (by kernel_rfl) (by kernel_rfl) (fun _ _ _ h => h) (Or.inr ⟨by kernel_rfl, rfl⟩) (by assumption) ?_
                try simp only [Act.put, List.setIfInBounds_toArray, List.set_cons_zero, List.set_cons_succ]
                first | (refine wpAnyH_take (i := 16) (oi := ⟨_, _, _, _, _, _⟩) (v := ?_) rfl (by kernel_rfl) (by kernel_rfl) (by kernel_rfl) (fun _ _ _ h => h) (Or.inl ⟨by rfl, ?_⟩) (by assumption) ?_; rotate_left 1; · (intro w hSw; (try dsimp only at hSw); go_simp; all_goals with_reducible rfl)) | refine wpAnyH_take (i := 16) (oi := ⟨_, _, _, _, _, _⟩) (v := undef) rfl (by kernel_rfl) (by kernel_rfl) (by kernel_rfl) (fun _ _ _ h => h) (Or.inr ⟨by kernel_rfl, rfl⟩) (by assumption) ?_
                try simp only [Act.put, List.setIfInBounds_toArray, List.set_cons_zero, List.set_cons_succ]
                first | (refine wpAnyH_take (i := 17) (oi := ⟨_, _, _, _, _, _⟩) (v := ?_) rfl (by kernel_rfl) (by kernel_rfl) (by kernel_rfl) (fun _ _ _ h => h) (Or.inl ⟨by rfl, ?_⟩) (by assumption) ?_; rotate_left 1; · (intro w hSw; (try dsimp only at hSw); go_simp; all_goals with_reducible rfl)) | refine wpAnyH_take (i := 17) (oi := ⟨_, _, _, _, _, _⟩) (v := undef) rfl (by kernel_rfl) (by kernel_rfl) (by kernel_rfl) (fun _ _ _ h => h) (Or.inr ⟨by kernel_rfl, rfl⟩) (by assumption) ?_
                try simp only [Act.put, List.setIfInBounds_toArray, List.set_cons_zero, List.set_cons_succ]
                refine wpAnyH_ready (rs := [10]) (by kernel_rfl) (by simp) ?_
                refine AllReadyH.cons (o := ⟨_, _, _, _, _, _⟩) rfl (fun Kq hKq => ?_) AllReadyH.nil
                go_simp
                clear hHeld
                (go_at_call 16; (with_reducible refine (look_any F.out.c _ K sx (ids_of_owns YO.out) (by omega) F.out.c.in2 (by have := HMM.out; omega)).mono ?_); rw [EL1.out]; rintro en w17 ⟨S17, v7, rfl, h1, h2, h3⟩; have RC := Lib.hid (ids_of_owns h3.1); have YO := Lib.hid (owns_fr YO.out h2.fr (fun b hb => (YN.out b hb).2.2.2.1)); have F := Lib.hid (F.out.opC fw fr fr (P3' := WatP pc (na + K.length) (Dt.new mn mx wi) (setOf K) (withD (Dt.new mn mx wi) K D sx)) h1 h2); obtain ⟨A17, c17, rfl⟩ := slice_of h3.1; have RO17 := Lib.hid h3.1; have RN17 := Lib.hid (fun b hb => fr.lt (F17.out.d) b hb); clear h1 h2 h3)
                refine hKq.out _ _ ?_ (fun hHeld => ?_)
                · (try dsimp only); exact HSt.out _ F.out.below
                clear hKq Kq
                try simp only [Act.put, List.setIfInBounds_toArray, List.set_cons_zero, List.set_cons_succ]
                refine wpAnyH_ready (rs := [18]) (by kernel_rfl) (by simp) ?_
                refine AllReadyH.cons (o := ⟨_, _, _, _, _, _⟩) rfl (fun Kq hKq => ?_) AllReadyH.nil
                go_simp
                clear hHeld
                (go_at_call 18; (with_reducible refine (rlook_any F.out.d _ K sx (ids_of_owns YO.out) (by omega) HR.out.1 (by omega) hk3 HOK.out).mono ?_); rw [EL2.out]; rintro en w18 ⟨S18, A18, c18, rfl, h1, h2, h3⟩; have RD := Lib.hid h3.ids; have RC := Lib.hid (ids_of_owns (owns_fr RO17.out h2.fr (fun b hb hS => by have := RN17.out b hS; have := (World.ownsRow.lt RO17.out b hb).1; omega))); have F := Lib.hid (F.out.opD fw fr fw (P4' := RwP pd (k + 1) mn mx wi K (withD (Dt.new mn mx wi) K X sx)) h1 h2); clear h1 h2 h3)
                refine hKq.out _ _ ?_ (fun hHeld => ?_)
                · (try dsimp only); exact HSt.out _ F.out.below
                clear hKq Kq
                try simp only [Act.put, List.setIfInBounds_toArray, List.set_cons_zero, List.set_cons_succ]
                refine wpAnyH_ready (rs := [19]) (by kernel_rfl) (by simp) ?_
                refine AllReadyH.cons (o := ⟨_, _, _, _, _, _⟩) rfl (fun Kq hKq => ?_) AllReadyH.nil
                go_simp
                clear hHeld
                (go_at_call 17; (with_reducible refine (refSame_any _ _ _ _ _ RC.out RD.out (by have := HLD.out; omega) (by have := HLD.out; omega)).mono ?_); rw [sameB_self]; rintro en w19 ⟨rfl, hb⟩; have F := Lib.hid (F.out.keep fw fr fw fr hb); clear hb)
                refine hKq.out _ _ ?_ (fun hHeld => ?_)
                · (try dsimp only); exact HSt.out _ F.out.below
                clear hKq Kq
                try simp only [Act.put, List.setIfInBounds_toArray, List.set_cons_zero, List.set_cons_succ]
                first | (refine wpAnyH_take (i := 20) (oi := ⟨_, _, _, _, _, _⟩) (v := ?_) rfl (by kernel_rfl) (by kernel_rfl) (by kernel_rfl) (fun _ _ _ h => h) (Or.inl ⟨by rfl, ?_⟩) (by assumption) ?_; rotate_left 1; · (intro w hSw; (try dsimp only at hSw); go_simp; all_goals with_reducible rfl)) | refine wpAnyH_take (i := 20) (oi := ⟨_, _, _, _, _, _⟩) (v := undef) rfl (by kernel_rfl) (by kernel_rfl) (by kernel_rfl) (fun _ _ _ h => h) (Or.inr ⟨by kernel_rfl, rfl⟩) (by assumption) ?_
                try simp only [Act.put, List.setIfInBounds_toArray, List.set_cons_zero, List.set_cons_succ]
                (refine wpAnyH_take (i := 21) (oi := ⟨_, _, _, _, _, _⟩) (v := ?_) rfl (by kernel_rfl) (by kernel_rfl) (by kernel_rfl) (fun _ _ _ h => h) (Or.inl ⟨by rfl, ?_⟩) (by assumption) ?_; rotate_left 1; · (intro w hSw; (try dsimp only at hSw); go_simp; all_goals with_reducible rfl))
                try simp only [Act.put, List.setIfInBounds_toArray, List.set_cons_zero, List.set_cons_succ]
                refine wpAnyH_done (by kernel_rfl) ?_ _
                clear hHeld
                go_wp2_with fail
                go_roundw
                case rel => exact ⟨k + 1, Sa', Sb', na', K', D', X', by omega, by go_num, Lib.hid F.out.drop, T2, HM2, HR2⟩
                case measure => simp [intOf]; omega
        · obtain rfl : k = ss.length := by omega
          have hd1 : decide ((ss.length : Int) < (ss.length : Int)) = false := by simp
          go_wp2_with fail
          (with_reducible refine (awake_any _).mono ?_)
          rintro en w4 ⟨rfl, hb⟩
          have B := Lib.hid (below_after F.out.below hb (Nat.le_refl _))
          clear hb
          go_wp2_with fail
          go_ret
          exact ⟨rfl, B.out⟩
end Go.Proofs.Ytkoeplgkiogjlaa
