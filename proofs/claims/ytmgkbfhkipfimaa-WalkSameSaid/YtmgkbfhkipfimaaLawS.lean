/-
  A walk over a statement: the same walk goes the same way, and its copies go their own. No statement is proved in this text; it holds for every input that its premises let by.
-/
import Derived.Test.YtmgkbfhkipfimaaWlkK
import Derived.Test.YtmgkbfhkipfimaaXSetOps
set_option maxRecDepth 20000
namespace Go.Proofs.Ytmgkbfhkipfimaa
open Go Go.RowKit Sets
theorem nx_same (l ps : List Id2) (d f : Nat) : (nxR l ps d).length = (nxR l ps f).length ∧ ((nxR l ps d).length + 1 ≠ (setOf ps).length → nxX l ps d = nxX l ps f) := by
  by_cases h : ps = []
  · subst h
    exact ⟨rfl, fun _ => rfl⟩
  · obtain ⟨x, r, k1⟩ := nx_cons h l d
    obtain ⟨y, s, k2⟩ := nx_cons h l f
    obtain ⟨a1, _, a3⟩ := nx_some h k1
    obtain ⟨b1, _, b3⟩ := nx_some h k2
    rw [a1, a3, b1, b3]
    exact nx_draw k1 k2
theorem Four.gone {P1 P2 P3 P4 : (Nat → Prop) → World → Prop} {S1 S2 S3 S4 : Nat → Prop} {w W : World} (h : Four w W P1 P2 P3 P4 S1 S2 S3 S4) : Four w W P1 P2 P3 NoP S1 S2 S3 (fun _ => False) :=
  ⟨h.a, h.b, h.c, fun _ e => e, h.ab, h.ac, fun _ _ e => e, h.bc, fun _ _ e => e, fun _ _ e => e, h.lo1, h.lo2, h.lo3, fun _ e => e.elim, h.below⟩
set_option maxHeartbeats 8000000 in
theorem lawSame_any (v : Value) (ss : List St) (vb : Value) (sb : List St) (x : Int) (W : World) (h : Rcs encS 2 W v ss) (hR : (∀ s ∈ ss, StOk W s ∧ s.l.length ≤ 8796093022208) ∧ ss.length ≤ 8796093022208)
    (h2 : Rcs encS 2 W vb sb) (hR2 : (∀ s ∈ sb, StOk W s ∧ s.l.length ≤ 8796093022208) ∧ sb.length ≤ 8796093022208) (hx : 0 ≤ x ∧ x < 4294967296) :
    Calls Try.prog 9 #[v, vb, .int .u32 x] W fun e w' => e = .returned (.bool true) ∧ Below W.heap.size W w' := by
  obtain ⟨hx0, hx1⟩ := hx
  obtain ⟨d9, rfl⟩ := Int.eq_ofNat_of_zero_le hx0
  have hd9 : d9 < 4294967296 := by omega
  obtain ⟨hs, hll⟩ := hR
  obtain ⟨hs2, hll2⟩ := hR2
  have H := Lib.hid h
  have HS := Lib.hid hs
  have HL := Lib.hid hll
  have H2 := Lib.hid h2
  have HS2 := Lib.hid hs2
  have HL2 := Lib.hid hll2
  obtain ⟨A, c, rfl, hz⟩ := h
  clear hz hs hll hx0 hx1
  obtain ⟨Ab, cb, rfl, hz⟩ := h2
  clear hz hs2 hll2
  go_enter Try.func9, Try.ntmps9
  go_wp2_with fail
  refine (works_any _).mono ?_
  rintro e w1 ⟨rfl, hb⟩
  have B1 := Lib.hid hb
  clear hb
  go_wp2_with fail
  refine (large_any _ ss _ (H.out.below B1.out) (fun s hs => (HS.out s hs).2) HL.out).mono ?_
  rintro e w2 ⟨⟨z, rfl, hz⟩, hb⟩
  have B2 := Lib.hid (below_after B1.out hb (Nat.le_refl _))
  clear hb B1
  cases z
  case true =>
    clear hz
    go_wp2_with fail
    refine (works_any _).mono ?_
    rintro e w3 ⟨rfl, hb⟩
    have B3 := Lib.hid (below_after B2.out hb (Nat.le_refl _))
    clear hb
    go_wp2_with fail
    go_ret
    exact ⟨rfl, B3.out⟩
  case false =>
    obtain ⟨hl3, hp3⟩ := hz rfl
    have HP := Lib.hid hp3
    clear hz hp3
    go_wp2_with fail
    refine (large_any _ sb _ (H2.out.below B2.out) (fun s hs => (HS2.out s hs).2) HL2.out).mono ?_
    rintro e w2b ⟨⟨z, rfl, hz⟩, hb⟩
    have B2 := Lib.hid (below_after B2.out hb (Nat.le_refl _))
    clear hb
    cases z
    case true =>
      clear hz
      go_wp2_with fail
      refine (works_any _).mono ?_
      rintro e w3 ⟨rfl, hb⟩
      have B3 := Lib.hid (below_after B2.out hb (Nat.le_refl _))
      clear hb
      go_wp2_with fail
      go_ret
      exact ⟨rfl, B3.out⟩
    case false =>
    obtain ⟨hl32, hp3⟩ := hz rfl
    have HP2 := Lib.hid hp3
    clear hz hp3
    go_wp2_with fail
    refine (new_any _).mono ?_
    rintro e w3 ⟨p, S0, rfl, hw, hlo, hb⟩
    have F0 : Hid (Four W w3 (WlP 51 p []) NoP NoP NoP S0 (fun _ => False) (fun _ => False) (fun _ => False)) := Lib.hid (Four.one hw (below_after B2.out hb (Nat.le_refl _)) fun k hk => Nat.le_trans B2.out.size (hlo k hk))
    clear hw hlo hb B2
    go_wp2_with fail
    go_loopw [8] (fun s8 wr => ∃ (k : Nat) (l : List Id2) (S : Nat → Prop), s8 = .int .i64 k ∧ k ≤ ss.length ∧ Hid (l.length ≤ 10000) ∧ Hid (Four W wr (WlP 51 p l) NoP NoP NoP S (fun _ => False) (fun _ => False) (fun _ => False))) (fun s8 _ => ss.length - (intOf s8).toNat)
    case atStart => exact ⟨0, [], S0, rfl, by omega, Lib.hid (by simp), F0⟩
    case round =>
      obtain ⟨k, l, S, rfl, hk, HN, F⟩ := hrel
      have i3 : (0 : Int) ≤ (k : Int) := by omega
      by_cases hlt : k < ss.length
      · have hd : decide ((k : Int) < (ss.length : Int)) = true := decide_eq_true (by omega)
        have i4 : (k : Int) < (ss.length : Int) := by omega
        have i7 : IntKind.i64.wrap ((k : Int) + 1) = (k : Int) + 1 := IntWalk.i64_in _ ⟨by omega, by omega⟩
        obtain ⟨ad, rfl⟩ := H.out.addr (Nat.lt_of_le_of_lt (Nat.zero_le _) hlt)
        have HQ := Lib.hid fun w' (hb : Below W.heap.size W w') => step_cells H.out hlt hb
        have HI := Lib.hid fun w' (hb : Below W.heap.size W w') => ((HS.out _ (List.getElem_mem hlt)).1.below hb).ids
        have hd1 := (HS.out _ (List.getElem_mem hlt)).1.d32
        have hn1 := HP.out _ (List.getElem_mem hlt)
        unfold St.val at HI
        generalize ss[k] = s at *
        obtain ⟨A1, c1, ps1, d1⟩ := s
        dsimp only at HQ HI hd1 hn1
        have CN : Hid (∀ (S : Nat → Prop) (w : World), Wl 51 p l S w → (∀ W', Fr S w W' → Ids W' (.slice A1 ps1.length c1) ps1) → Calls Try.prog 10 #[.pointer (some ⟨p, 0, none⟩), .slice A1 ps1.length c1, .int .u32 d1] w fun e w' => e = Idb (nxX l ps1 d1) (nxB ps1) ∧ ∃ S', Wl 51 p (nxR l ps1 d1) S' w' ∧ Upd S w w' S') :=
          Lib.hid fun S w h1 h2 => next_all h1 h2 (by omega) (by have := HN.out; omega) hd1
        have HN2 := Lib.hid (nxR_len (d := d1) HN.out hn1)
        generalize nxX l ps1 d1 = xq at *
        generalize nxR l ps1 d1 = rq at *
        generalize nxB ps1 = bq at *
        obtain ⟨xa, xi⟩ := xq
        generalize hn : ps1.length = n1 at *
        go_wp2_with fail
        have FD := Lib.hid (F.out.keep (fdWl _ _ _) fdNo fdNo fdNo (Below.refl _ _).drew)
        refine wp_region_held_drew (S := fun w' => w'.cell? (ad.add (k * 2)) = some (.slice A1 n1 c1) ∧ w'.cell? ⟨(ad.add (k * 2)).block, (ad.add (k * 2)).off + 1, none⟩ = some (.int .u32 d1)) (by kernel_rfl) ?_ (fun hHeld => ?_)
        · exact HQ.out _ FD.out.below
        (refine wpAnyH_take (i := 0) (oi := ⟨_, _, _, _, _, _⟩) (v := ?_) rfl (by kernel_rfl) (by kernel_rfl) (by kernel_rfl) (fun _ _ _ h => h) (Or.inl ⟨by rfl, ?_⟩) (by assumption) ?_; rotate_left 1; · (intro w hSw; (try dsimp only at hSw); go_simp; all_goals with_reducible rfl))
        try simp only [Act.put, List.setIfInBounds_toArray, List.set_cons_zero, List.set_cons_succ]
        (refine wpAnyH_take (i := 1) (oi := ⟨_, _, _, _, _, _⟩) (v := ?_) rfl (by kernel_rfl) (by kernel_rfl) (by kernel_rfl) (fun _ _ _ h => h) (Or.inl ⟨by rfl, ?_⟩) (by assumption) ?_; rotate_left 1; · (intro w hSw; (try dsimp only at hSw); go_simp; all_goals with_reducible rfl))
        try simp only [Act.put, List.setIfInBounds_toArray, List.set_cons_zero, List.set_cons_succ]
        (refine wpAnyH_take (i := 2) (oi := ⟨_, _, _, _, _, _⟩) (v := ?_) rfl (by kernel_rfl) (by kernel_rfl) (by kernel_rfl) (fun _ _ _ h => h) (Or.inl ⟨by rfl, ?_⟩) (by assumption) ?_; rotate_left 1; · (intro w hSw; (try dsimp only at hSw); go_simp; all_goals with_reducible rfl))
        try simp only [Act.put, List.setIfInBounds_toArray, List.set_cons_zero, List.set_cons_succ]
        (refine wpAnyH_take (i := 3) (oi := ⟨_, _, _, _, _, _⟩) (v := ?_) rfl (by kernel_rfl) (by kernel_rfl) (by kernel_rfl) (fun _ _ _ h => h) (Or.inl ⟨by rfl, ?_⟩) (by assumption) ?_; rotate_left 1; · (intro w hSw; (try dsimp only at hSw); go_simp; all_goals with_reducible rfl))
        try simp only [Act.put, List.setIfInBounds_toArray, List.set_cons_zero, List.set_cons_succ]
        (refine wpAnyH_take (i := 4) (oi := ⟨_, _, _, _, _, _⟩) (v := ?_) rfl (by kernel_rfl) (by kernel_rfl) (by kernel_rfl) (fun _ _ _ h => h) (Or.inl ⟨by rfl, ?_⟩) (by assumption) ?_; rotate_left 1; · (intro w hSw; (try dsimp only at hSw); go_simp; all_goals with_reducible rfl))
        try simp only [Act.put, List.setIfInBounds_toArray, List.set_cons_zero, List.set_cons_succ]
        (refine wpAnyH_take (i := 5) (oi := ⟨_, _, _, _, _, _⟩) (v := ?_) rfl (by kernel_rfl) (by kernel_rfl) (by kernel_rfl) (fun _ _ _ h => h) (Or.inl ⟨by rfl, ?_⟩) (by assumption) ?_; rotate_left 1; · (intro w hSw; (try dsimp only at hSw); go_simp; all_goals with_reducible rfl))
        try simp only [Act.put, List.setIfInBounds_toArray, List.set_cons_zero, List.set_cons_succ]
        (refine wpAnyH_take (i := 6) (oi := ⟨_, _, _, _, _, _⟩) (v := ?_) rfl (by kernel_rfl) (by kernel_rfl) (by kernel_rfl) (fun _ _ _ h => h) (Or.inl ⟨by rfl, ?_⟩) (by assumption) ?_; rotate_left 1; · (intro w hSw; (try dsimp only at hSw); go_simp; all_goals with_reducible rfl))
        try simp only [Act.put, List.setIfInBounds_toArray, List.set_cons_zero, List.set_cons_succ]
        (refine wpAnyH_take (i := 7) (oi := ⟨_, _, _, _, _, _⟩) (v := ?_) rfl (by kernel_rfl) (by kernel_rfl) (by kernel_rfl) (fun _ _ _ h => h) (Or.inl ⟨by rfl, ?_⟩) (by assumption) ?_; rotate_left 1; · (intro w hSw; (try dsimp only at hSw); go_simp; all_goals with_reducible rfl))
        try simp only [Act.put, List.setIfInBounds_toArray, List.set_cons_zero, List.set_cons_succ]
        (refine wpAnyH_take (i := 8) (oi := ⟨_, _, _, _, _, _⟩) (v := ?_) rfl (by kernel_rfl) (by kernel_rfl) (by kernel_rfl) (fun _ _ _ h => h) (Or.inl ⟨by rfl, ?_⟩) (by assumption) ?_; rotate_left 1; · (intro w hSw; (try dsimp only at hSw); go_simp; all_goals with_reducible rfl))
        try simp only [Act.put, List.setIfInBounds_toArray, List.set_cons_zero, List.set_cons_succ]
        (refine wpAnyH_take (i := 9) (oi := ⟨_, _, _, _, _, _⟩) (v := ?_) rfl (by kernel_rfl) (by kernel_rfl) (by kernel_rfl) (fun _ _ _ h => h) (Or.inl ⟨by rfl, ?_⟩) (by assumption) ?_; rotate_left 1; · (intro w hSw; (try dsimp only at hSw); go_simp; all_goals with_reducible rfl))
        try simp only [Act.put, List.setIfInBounds_toArray, List.set_cons_zero, List.set_cons_succ]
        (refine wpAnyH_take (i := 10) (oi := ⟨_, _, _, _, _, _⟩) (v := ?_) rfl (by kernel_rfl) (by kernel_rfl) (by kernel_rfl) (fun _ _ _ h => h) (Or.inl ⟨by rfl, ?_⟩) (by assumption) ?_; rotate_left 1; · (intro w hSw; (try dsimp only at hSw); go_simp; all_goals with_reducible rfl))
        try simp only [Act.put, List.setIfInBounds_toArray, List.set_cons_zero, List.set_cons_succ]
        refine wpAnyH_ready (rs := [11]) (by kernel_rfl) (by simp) ?_
        refine AllReadyH.cons (o := ⟨_, _, _, _, _, _⟩) rfl (fun Kq hKq => ?_) AllReadyH.nil
        go_simp
        clear hHeld
        (go_at_call 10; (with_reducible refine (CN.out _ _ FD.out.a (FD.out.arg HI.out)).mono ?_); rintro e w7 ⟨rfl, S7, hw, hu⟩; have F7 := Lib.hid (FD.out.op fdNo fdNo fdNo hw hu); clear hw hu)
        refine hKq.out _ _ ?_ (fun hHeld => ?_)
        · (try dsimp only); exact HQ.out _ F7.out.below
        clear hKq Kq
        refine wpAnyH_done (by kernel_rfl) ?_ _
        go_wp2_with fail
        go_roundw
        case rel => exact ⟨k + 1, rq, S7, rfl, by omega, HN2, F7⟩
        case measure => simp [intOf]; omega
      · have hd : decide ((k : Int) < (ss.length : Int)) = false := decide_eq_false (by omega)
        clear H HS HP HL
        go_wp2_with fail
        refine (copy_any F.out.a (by have := HN.out; omega)).mono ?_
        rintro e w4 ⟨pa, Sa, rfl, hw, hlo, hb⟩
        have F4 : Hid (Four W w4 (WlP 51 p l) (WlP 51 pa l) NoP NoP S Sa (fun _ => False) (fun _ => False)) := Lib.hid (F.out.opB (fdWl _ _ _) fdNo fdNo hw (upd_new hb hlo))
        clear hw hlo hb F
        go_wp2_with fail
        refine (copy_any F4.out.a (by have := HN.out; omega)).mono ?_
        rintro e w5 ⟨pb, Sb, rfl, hw, hlo, hb⟩
        have F5 : Hid (Four W w5 (WlP 51 p l) (WlP 51 pa l) (WlP 51 pb l) NoP S Sa Sb (fun _ => False)) := Lib.hid (F4.out.opC (fdWl _ _ _) (fdWl _ _ _) fdNo hw (upd_new hb hlo))
        clear hw hlo hb F4
        go_wp2_with fail
        refine (left_any F5.out.a).mono ?_
        rintro e w6 ⟨rfl, hb⟩
        have F6 := Lib.hid (F5.out.keep (fdWl _ _ _) (fdWl _ _ _) (fdWl _ _ _) fdNo hb)
        clear hb F5 hd hlt hk i3
        generalize hl0 : l.length = n0 at *
        have HL0 := Lib.hid hl0
        clear hl0
        go_wp2_with fail
        go_loopw [12] (fun s12 wr => ∃ (k : Nat) (m : List Id2) (S2 S3 : Nat → Prop), s12 = .int .i64 k ∧ k ≤ sb.length ∧ Hid (m.length ≤ 10000) ∧ Hid (Four W wr (WlP 51 p l) (WlP 51 pa m) (WlP 51 pb m) NoP S S2 S3 (fun _ => False))) (fun s12 _ => sb.length - (intOf s12).toNat)
        case atStart => exact ⟨0, l, Sa, Sb, rfl, by omega, Lib.hid (by have := HN.out; have := HL0.out; omega), F6⟩
        case round =>
          clear F6
          obtain ⟨k, m, T2, T3, rfl, hk, HM, F⟩ := hrel
          have i3 : (0 : Int) ≤ (k : Int) := by omega
          by_cases hlt : k < sb.length
          · have hd : decide ((k : Int) < (sb.length : Int)) = true := decide_eq_true (by omega)
            have i4 : (k : Int) < (sb.length : Int) := by omega
            have i7 : IntKind.i64.wrap ((k : Int) + 1) = (k : Int) + 1 := IntWalk.i64_in _ ⟨by omega, by omega⟩
            obtain ⟨ad, rfl⟩ := H2.out.addr (Nat.lt_of_le_of_lt (Nat.zero_le _) hlt)
            have HQ := Lib.hid fun w' (hb : Below W.heap.size W w') => step_cells H2.out hlt hb
            have HI := Lib.hid fun w' (hb : Below W.heap.size W w') => ((HS2.out _ (List.getElem_mem hlt)).1.below hb).ids
            have hd1 := (HS2.out _ (List.getElem_mem hlt)).1.d32
            have hn1 := HP2.out _ (List.getElem_mem hlt)
            unfold St.val at HI
            generalize sb[k] = s at *
            obtain ⟨A1, c1, ps, d1⟩ := s
            dsimp only at HQ HI hd1 hn1
            have CN : Hid (∀ (q : Nat) (S : Nat → Prop) (w : World), Wl 51 q m S w → (∀ W', Fr S w W' → Ids W' (.slice A1 ps.length c1) ps) → Calls Try.prog 10 #[.pointer (some ⟨q, 0, none⟩), .slice A1 ps.length c1, .int .u32 d1] w fun e w' => e = Idb (nxX m ps d1) (nxB ps) ∧ ∃ S', Wl 51 q (nxR m ps d1) S' w' ∧ Upd S w w' S') :=
              Lib.hid fun q S w h1 h2 => next_all h1 h2 (by omega) (by have := HM.out; omega) hd1
            have CR : Hid (∀ (q : Nat) (S : Nat → Prop) (w : World), Wl 51 q m S w → (∀ W', Fr S w W' → Ids W' (.slice A1 ps.length c1) ps) → Calls Try.prog 10 #[.pointer (some ⟨q, 0, none⟩), .slice A1 ps.length c1, .int .u32 d9] w fun e w' => e = Idb (nxX m ps d9) (nxB ps) ∧ ∃ S', Wl 51 q (nxR m ps d9) S' w' ∧ Upd S w w' S') :=
              Lib.hid fun q S w h1 h2 => next_all h1 h2 (by omega) (by have := HM.out; omega) hd9
            have HN2 := Lib.hid (nxR_len (d := d1) HM.out hn1)
            obtain ⟨he1, he2⟩ := nx_same m ps d1 d9
            have HV1 := Lib.hid he1
            have HV2 := Lib.hid he2
            have HSL := Lib.hid (setOf_len ps)
            clear he1 he2
            generalize nxX m ps d1 = xq at *
            generalize nxR m ps d1 = rq at *
            generalize nxX m ps d9 = xz at *
            generalize nxR m ps d9 = rz at *
            generalize nxB ps = bq at *
            obtain ⟨xa, xi⟩ := xq
            obtain ⟨za, zi⟩ := xz
            generalize hn : ps.length = n1 at *
            have CA := Lib.hid (CN.out pa)
            have CB := Lib.hid (CN.out pb)
            have CZ := Lib.hid (CR.out)
            clear CN CR
            go_wp2_with fail
            refine (copy_any F.out.b (by have := HM.out; omega)).mono ?_
            rintro e w5 ⟨pr, Sr, rfl, hw, hlo, hb⟩
            have F5 : Hid (Four W w5 (WlP 51 p l) (WlP 51 pa m) (WlP 51 pb m) (WlP 51 pr m) S T2 T3 Sr) := Lib.hid (F.out.opD (fdWl _ _ _) (fdWl _ _ _) (fdWl _ _ _) hw (upd_new hb hlo))
            clear hw hlo hb F
            go_upto_region 15 with fail
            go_cut [14, 15] (fun s14 s15 wx => ∃ (gx : Nat) (S' : Nat → Prop), s14 = .pointer (some ⟨gx, 0, none⟩) ∧ s15 = .bool bq ∧ Hid (Four W wx (WlP 51 p l) (WlP 51 pa rq) (WlP 51 pb m) (WlP 51 pr m) S S' T3 Sr) ∧ Hid (Bq W wx S S' T3 Sr gx xa xi))
            case first =>
              have Fx0 := Lib.hid (F5.out.keep (fdWl _ _ _) (fdWl _ _ _) (fdWl _ _ _) (fdWl _ _ _) (Below.refl _ _).drew)
              refine wp_region_held_drew (S := fun w' => w'.cell? (ad.add (k * 2)) = some (.slice A1 n1 c1) ∧ w'.cell? ⟨(ad.add (k * 2)).block, (ad.add (k * 2)).off + 1, none⟩ = some (.int .u32 d1)) (by kernel_rfl) ?_ (fun hHeld => ?_)
              · exact HQ.out _ Fx0.out.below
              generalize World.drew w5 = x0 at *
              (refine wpAnyH_take (i := 0) (oi := ⟨_, _, _, _, _, _⟩) (v := ?_) rfl (by kernel_rfl) (by kernel_rfl) (by kernel_rfl) (fun _ _ _ h => h) (Or.inl ⟨by rfl, ?_⟩) (by assumption) ?_; rotate_left 1; · (intro w hSw; (try dsimp only at hSw); go_simp; all_goals with_reducible rfl))
              try simp only [Act.put, List.setIfInBounds_toArray, List.set_cons_zero, List.set_cons_succ]
              (refine wpAnyH_take (i := 1) (oi := ⟨_, _, _, _, _, _⟩) (v := ?_) rfl (by kernel_rfl) (by kernel_rfl) (by kernel_rfl) (fun _ _ _ h => h) (Or.inl ⟨by rfl, ?_⟩) (by assumption) ?_; rotate_left 1; · (intro w hSw; (try dsimp only at hSw); go_simp; all_goals with_reducible rfl))
              try simp only [Act.put, List.setIfInBounds_toArray, List.set_cons_zero, List.set_cons_succ]
              (refine wpAnyH_take (i := 2) (oi := ⟨_, _, _, _, _, _⟩) (v := ?_) rfl (by kernel_rfl) (by kernel_rfl) (by kernel_rfl) (fun _ _ _ h => h) (Or.inl ⟨by rfl, ?_⟩) (by assumption) ?_; rotate_left 1; · (intro w hSw; (try dsimp only at hSw); go_simp; all_goals with_reducible rfl))
              try simp only [Act.put, List.setIfInBounds_toArray, List.set_cons_zero, List.set_cons_succ]
              (refine wpAnyH_take (i := 3) (oi := ⟨_, _, _, _, _, _⟩) (v := ?_) rfl (by kernel_rfl) (by kernel_rfl) (by kernel_rfl) (fun _ _ _ h => h) (Or.inl ⟨by rfl, ?_⟩) (by assumption) ?_; rotate_left 1; · (intro w hSw; (try dsimp only at hSw); go_simp; all_goals with_reducible rfl))
              try simp only [Act.put, List.setIfInBounds_toArray, List.set_cons_zero, List.set_cons_succ]
              (refine wpAnyH_take (i := 4) (oi := ⟨_, _, _, _, _, _⟩) (v := ?_) rfl (by kernel_rfl) (by kernel_rfl) (by kernel_rfl) (fun _ _ _ h => h) (Or.inl ⟨by rfl, ?_⟩) (by assumption) ?_; rotate_left 1; · (intro w hSw; (try dsimp only at hSw); go_simp; all_goals with_reducible rfl))
              try simp only [Act.put, List.setIfInBounds_toArray, List.set_cons_zero, List.set_cons_succ]
              (refine wpAnyH_take (i := 5) (oi := ⟨_, _, _, _, _, _⟩) (v := ?_) rfl (by kernel_rfl) (by kernel_rfl) (by kernel_rfl) (fun _ _ _ h => h) (Or.inl ⟨by rfl, ?_⟩) (by assumption) ?_; rotate_left 1; · (intro w hSw; (try dsimp only at hSw); go_simp; all_goals with_reducible rfl))
              try simp only [Act.put, List.setIfInBounds_toArray, List.set_cons_zero, List.set_cons_succ]
              (refine wpAnyH_take (i := 6) (oi := ⟨_, _, _, _, _, _⟩) (v := ?_) rfl (by kernel_rfl) (by kernel_rfl) (by kernel_rfl) (fun _ _ _ h => h) (Or.inl ⟨by rfl, ?_⟩) (by assumption) ?_; rotate_left 1; · (intro w hSw; (try dsimp only at hSw); go_simp; all_goals with_reducible rfl))
              try simp only [Act.put, List.setIfInBounds_toArray, List.set_cons_zero, List.set_cons_succ]
              (refine wpAnyH_take (i := 7) (oi := ⟨_, _, _, _, _, _⟩) (v := ?_) rfl (by kernel_rfl) (by kernel_rfl) (by kernel_rfl) (fun _ _ _ h => h) (Or.inl ⟨by rfl, ?_⟩) (by assumption) ?_; rotate_left 1; · (intro w hSw; (try dsimp only at hSw); go_simp; all_goals with_reducible rfl))
              try simp only [Act.put, List.setIfInBounds_toArray, List.set_cons_zero, List.set_cons_succ]
              (refine wpAnyH_take (i := 8) (oi := ⟨_, _, _, _, _, _⟩) (v := ?_) rfl (by kernel_rfl) (by kernel_rfl) (by kernel_rfl) (fun _ _ _ h => h) (Or.inl ⟨by rfl, ?_⟩) (by assumption) ?_; rotate_left 1; · (intro w hSw; (try dsimp only at hSw); go_simp; all_goals with_reducible rfl))
              try simp only [Act.put, List.setIfInBounds_toArray, List.set_cons_zero, List.set_cons_succ]
              (refine wpAnyH_take (i := 9) (oi := ⟨_, _, _, _, _, _⟩) (v := ?_) rfl (by kernel_rfl) (by kernel_rfl) (by kernel_rfl) (fun _ _ _ h => h) (Or.inl ⟨by rfl, ?_⟩) (by assumption) ?_; rotate_left 1; · (intro w hSw; (try dsimp only at hSw); go_simp; all_goals with_reducible rfl))
              try simp only [Act.put, List.setIfInBounds_toArray, List.set_cons_zero, List.set_cons_succ]
              (refine wpAnyH_take (i := 10) (oi := ⟨_, _, _, _, _, _⟩) (v := ?_) rfl (by kernel_rfl) (by kernel_rfl) (by kernel_rfl) (fun _ _ _ h => h) (Or.inl ⟨by rfl, ?_⟩) (by assumption) ?_; rotate_left 1; · (intro w hSw; (try dsimp only at hSw); go_simp; all_goals with_reducible rfl))
              try simp only [Act.put, List.setIfInBounds_toArray, List.set_cons_zero, List.set_cons_succ]
              refine wpAnyH_ready (rs := [11, 15]) (by kernel_rfl) (by simp) ?_
              refine AllReadyH.cons (o := ⟨_, _, _, _, _, _⟩) rfl (fun Kq hKq => ?_) (AllReadyH.cons (o := ⟨_, _, _, _, _, _⟩) rfl (fun Kq hKq => ?_) (AllReadyH.nil))
              · go_simp
                clear hHeld
                go_at_call 10; (with_reducible refine (CA.out _ _ Fx0.out.b (Fx0.out.argB HI.out)).mono ?_); rintro e x1 ⟨rfl, Sx1, hw, hu⟩
                have Fx1 := Lib.hid (Fx0.out.opB (fdWl _ _ _) (fdWl _ _ _) (fdWl _ _ _) hw hu)
                clear hw hu
                refine hKq.out _ _ ?_ (fun hHeld => ?_)
                · (try dsimp only); exact HQ.out _ Fx1.out.below
                clear hKq Kq
                (refine wpAnyH_take (i := 12) (oi := ⟨_, _, _, _, _, _⟩) (v := ?_) rfl (by kernel_rfl) (by kernel_rfl) (by kernel_rfl) (fun _ _ _ h => h) (Or.inl ⟨by rfl, ?_⟩) (by assumption) ?_; rotate_left 1; · (intro w hSw; (try dsimp only at hSw); go_simp; all_goals with_reducible rfl))
                try simp only [Act.put, List.setIfInBounds_toArray, List.set_cons_zero, List.set_cons_succ]
                (refine wpAnyH_take (i := 13) (oi := ⟨_, _, _, _, _, _⟩) (v := ?_) rfl (by kernel_rfl) (by kernel_rfl) (by kernel_rfl) (fun _ _ _ h => h) (Or.inl ⟨by rfl, ?_⟩) (by assumption) ?_; rotate_left 1; · (intro w hSw; (try dsimp only at hSw); go_simp; all_goals with_reducible rfl))
                try simp only [Act.put, List.setIfInBounds_toArray, List.set_cons_zero, List.set_cons_succ]
                (refine wpAnyH_take (i := 14) (oi := ⟨_, _, _, _, _, _⟩) (v := ?_) rfl (by kernel_rfl) (by kernel_rfl) (by kernel_rfl) (fun _ _ _ h => h) (Or.inl ⟨by rfl, ?_⟩) (by assumption) ?_; rotate_left 1; · (intro w hSw; (try dsimp only at hSw); go_simp; all_goals with_reducible rfl))
                try simp only [Act.put, List.setIfInBounds_toArray, List.set_cons_zero, List.set_cons_succ]
                refine wpAnyH_ready (rs := [15]) (by kernel_rfl) (by simp) ?_
                refine AllReadyH.cons (o := ⟨_, _, _, _, _, _⟩) rfl (fun Kq hKq => ?_) (AllReadyH.nil)
                go_simp
                clear hHeld
                have Bx2 := Lib.hid (Fx1.out.box (fdWl _ _ _) (fdWl _ _ _) (fdWl _ _ _) (fdWl _ _ _) 0 0)
                have BB := Lib.hid (below_one x1 (.cells #[.int .i64 0, .int .i64 0] 24))
                have Fx2 := Lib.hid (Fx1.out.keep (fdWl _ _ _) (fdWl _ _ _) (fdWl _ _ _) (fdWl _ _ _) BB.out)
                clear BB
                generalize World.alloc x1 (.cells #[.int .i64 0, .int .i64 0] 24) = x2 at *
                generalize hgx : x1.heap.size = gx at *
                clear hgx
                refine hKq.out _ _ ?_ (fun hHeld => ?_)
                · (try dsimp only); exact HQ.out _ Fx2.out.below
                clear hKq Kq
                try simp only [Act.put, List.setIfInBounds_toArray, List.set_cons_zero, List.set_cons_succ]
                refine wpAnyH_ready (rs := [16]) (by kernel_rfl) (by simp) ?_
                refine AllReadyH.cons (o := ⟨_, _, _, _, _, _⟩) rfl (fun Kq hKq => ?_) (AllReadyH.nil)
                obtain ⟨p0, p1⟩ := box_cells Bx2.out.box
                obtain ⟨f0, f1⟩ := box_free Bx2.out.box
                go_simp
                clear hHeld
                have Bx3 := Lib.hid (Bx2.out.put xa xi)
                have FF := Lib.hid (fr_put x2 gx xa xi)
                have Fx3 := Lib.hid (Fx2.out.put (fdWl _ _ _) (fdWl _ _ _) (fdWl _ _ _) (fdWl _ _ _) Bx2.out FF.out)
                clear FF p0 p1 f0 f1
                generalize World.setCell (World.setCell x2 ⟨gx, 0, none⟩ (.int .i64 xa)) ⟨gx, 1, none⟩ (.int .i64 xi) = x3 at *
                refine hKq.out _ _ ?_ (fun hHeld => ?_)
                · (try dsimp only); exact HQ.out _ Fx3.out.below
                clear hKq Kq
                try simp only [Act.put, List.setIfInBounds_toArray, List.set_cons_zero, List.set_cons_succ]
                (refine wpAnyH_take (i := 17) (oi := ⟨_, _, _, _, _, _⟩) (v := ?_) rfl (by kernel_rfl) (by kernel_rfl) (by kernel_rfl) (fun _ _ _ h => h) (Or.inl ⟨by rfl, ?_⟩) (by assumption) ?_; rotate_left 1; · (intro w hSw; (try dsimp only at hSw); go_simp; all_goals with_reducible rfl))
                try simp only [Act.put, List.setIfInBounds_toArray, List.set_cons_zero, List.set_cons_succ]
                refine wpAnyH_done (by kernel_rfl) ?_ _
                go_wp2_with fail
                go_meet
                exact ⟨gx, Sx1, rfl, rfl, Fx3, Bx3⟩
              · go_simp
                clear hHeld
                have Bx1 := Lib.hid (Fx0.out.box (fdWl _ _ _) (fdWl _ _ _) (fdWl _ _ _) (fdWl _ _ _) 0 0)
                have BB := Lib.hid (below_one x0 (.cells #[.int .i64 0, .int .i64 0] 24))
                have Fx1 := Lib.hid (Fx0.out.keep (fdWl _ _ _) (fdWl _ _ _) (fdWl _ _ _) (fdWl _ _ _) BB.out)
                clear BB
                generalize World.alloc x0 (.cells #[.int .i64 0, .int .i64 0] 24) = x1 at *
                generalize hgx : x0.heap.size = gx at *
                clear hgx
                refine hKq.out _ _ ?_ (fun hHeld => ?_)
                · (try dsimp only); exact HQ.out _ Fx1.out.below
                clear hKq Kq
                try simp only [Act.put, List.setIfInBounds_toArray, List.set_cons_zero, List.set_cons_succ]
                refine wpAnyH_ready (rs := [11]) (by kernel_rfl) (by simp) ?_
                refine AllReadyH.cons (o := ⟨_, _, _, _, _, _⟩) rfl (fun Kq hKq => ?_) (AllReadyH.nil)
                go_simp
                clear hHeld
                go_at_call 10; (with_reducible refine (CA.out _ _ Fx1.out.b (Fx1.out.argB HI.out)).mono ?_); rintro e x2 ⟨rfl, Sx2, hw, hu⟩
                have Fx2 := Lib.hid (Fx1.out.opB (fdWl _ _ _) (fdWl _ _ _) (fdWl _ _ _) hw hu)
                have Bx2 := Lib.hid (Bx1.out.opB hu)
                clear hw hu
                refine hKq.out _ _ ?_ (fun hHeld => ?_)
                · (try dsimp only); exact HQ.out _ Fx2.out.below
                clear hKq Kq
                (refine wpAnyH_take (i := 12) (oi := ⟨_, _, _, _, _, _⟩) (v := ?_) rfl (by kernel_rfl) (by kernel_rfl) (by kernel_rfl) (fun _ _ _ h => h) (Or.inl ⟨by rfl, ?_⟩) (by assumption) ?_; rotate_left 1; · (intro w hSw; (try dsimp only at hSw); go_simp; all_goals with_reducible rfl))
                try simp only [Act.put, List.setIfInBounds_toArray, List.set_cons_zero, List.set_cons_succ]
                (refine wpAnyH_take (i := 13) (oi := ⟨_, _, _, _, _, _⟩) (v := ?_) rfl (by kernel_rfl) (by kernel_rfl) (by kernel_rfl) (fun _ _ _ h => h) (Or.inl ⟨by rfl, ?_⟩) (by assumption) ?_; rotate_left 1; · (intro w hSw; (try dsimp only at hSw); go_simp; all_goals with_reducible rfl))
                try simp only [Act.put, List.setIfInBounds_toArray, List.set_cons_zero, List.set_cons_succ]
                (refine wpAnyH_take (i := 14) (oi := ⟨_, _, _, _, _, _⟩) (v := ?_) rfl (by kernel_rfl) (by kernel_rfl) (by kernel_rfl) (fun _ _ _ h => h) (Or.inl ⟨by rfl, ?_⟩) (by assumption) ?_; rotate_left 1; · (intro w hSw; (try dsimp only at hSw); go_simp; all_goals with_reducible rfl))
                try simp only [Act.put, List.setIfInBounds_toArray, List.set_cons_zero, List.set_cons_succ]
                refine wpAnyH_ready (rs := [16]) (by kernel_rfl) (by simp) ?_
                refine AllReadyH.cons (o := ⟨_, _, _, _, _, _⟩) rfl (fun Kq hKq => ?_) (AllReadyH.nil)
                obtain ⟨p0, p1⟩ := box_cells Bx2.out.box
                obtain ⟨f0, f1⟩ := box_free Bx2.out.box
                go_simp
                clear hHeld
                have Bx3 := Lib.hid (Bx2.out.put xa xi)
                have FF := Lib.hid (fr_put x2 gx xa xi)
                have Fx3 := Lib.hid (Fx2.out.put (fdWl _ _ _) (fdWl _ _ _) (fdWl _ _ _) (fdWl _ _ _) Bx2.out FF.out)
                clear FF p0 p1 f0 f1
                generalize World.setCell (World.setCell x2 ⟨gx, 0, none⟩ (.int .i64 xa)) ⟨gx, 1, none⟩ (.int .i64 xi) = x3 at *
                refine hKq.out _ _ ?_ (fun hHeld => ?_)
                · (try dsimp only); exact HQ.out _ Fx3.out.below
                clear hKq Kq
                try simp only [Act.put, List.setIfInBounds_toArray, List.set_cons_zero, List.set_cons_succ]
                (refine wpAnyH_take (i := 17) (oi := ⟨_, _, _, _, _, _⟩) (v := ?_) rfl (by kernel_rfl) (by kernel_rfl) (by kernel_rfl) (fun _ _ _ h => h) (Or.inl ⟨by rfl, ?_⟩) (by assumption) ?_; rotate_left 1; · (intro w hSw; (try dsimp only at hSw); go_simp; all_goals with_reducible rfl))
                try simp only [Act.put, List.setIfInBounds_toArray, List.set_cons_zero, List.set_cons_succ]
                refine wpAnyH_done (by kernel_rfl) ?_ _
                go_wp2_with fail
                go_meet
                exact ⟨gx, Sx2, rfl, rfl, Fx3, Bx3⟩
            case rest =>
              obtain ⟨gx, S2, rfl, rfl, F6, B6⟩ := hcut
              rename World => w6
              go_upto_region 16 with fail
              go_cut [16, 17] (fun s16 s17 wx => ∃ (gy : Nat) (S' : Nat → Prop), s16 = .pointer (some ⟨gy, 0, none⟩) ∧ s17 = .bool bq ∧ Hid (Four W wx (WlP 51 p l) (WlP 51 pa rq) (WlP 51 pb rq) (WlP 51 pr m) S S2 S' Sr) ∧ Hid (Bq W wx S S2 S' Sr gy xa xi) ∧ Hid (Bq W wx S S2 S' Sr gx xa xi))
              case first =>
                have Fy0 := Lib.hid (F6.out.keep (fdWl _ _ _) (fdWl _ _ _) (fdWl _ _ _) (fdWl _ _ _) (Below.refl _ _).drew)
                have B6y0 := Lib.hid (B6.out.keep (Below.refl _ _).drew)
                refine wp_region_held_drew (S := fun w' => w'.cell? (ad.add (k * 2)) = some (.slice A1 n1 c1) ∧ w'.cell? ⟨(ad.add (k * 2)).block, (ad.add (k * 2)).off + 1, none⟩ = some (.int .u32 d1)) (by kernel_rfl) ?_ (fun hHeld => ?_)
                · exact HQ.out _ Fy0.out.below
                generalize World.drew w6 = y0 at *
                (refine wpAnyH_take (i := 0) (oi := ⟨_, _, _, _, _, _⟩) (v := ?_) rfl (by kernel_rfl) (by kernel_rfl) (by kernel_rfl) (fun _ _ _ h => h) (Or.inl ⟨by rfl, ?_⟩) (by assumption) ?_; rotate_left 1; · (intro w hSw; (try dsimp only at hSw); go_simp; all_goals with_reducible rfl))
                try simp only [Act.put, List.setIfInBounds_toArray, List.set_cons_zero, List.set_cons_succ]
                (refine wpAnyH_take (i := 1) (oi := ⟨_, _, _, _, _, _⟩) (v := ?_) rfl (by kernel_rfl) (by kernel_rfl) (by kernel_rfl) (fun _ _ _ h => h) (Or.inl ⟨by rfl, ?_⟩) (by assumption) ?_; rotate_left 1; · (intro w hSw; (try dsimp only at hSw); go_simp; all_goals with_reducible rfl))
                try simp only [Act.put, List.setIfInBounds_toArray, List.set_cons_zero, List.set_cons_succ]
                (refine wpAnyH_take (i := 2) (oi := ⟨_, _, _, _, _, _⟩) (v := ?_) rfl (by kernel_rfl) (by kernel_rfl) (by kernel_rfl) (fun _ _ _ h => h) (Or.inl ⟨by rfl, ?_⟩) (by assumption) ?_; rotate_left 1; · (intro w hSw; (try dsimp only at hSw); go_simp; all_goals with_reducible rfl))
                try simp only [Act.put, List.setIfInBounds_toArray, List.set_cons_zero, List.set_cons_succ]
                (refine wpAnyH_take (i := 3) (oi := ⟨_, _, _, _, _, _⟩) (v := ?_) rfl (by kernel_rfl) (by kernel_rfl) (by kernel_rfl) (fun _ _ _ h => h) (Or.inl ⟨by rfl, ?_⟩) (by assumption) ?_; rotate_left 1; · (intro w hSw; (try dsimp only at hSw); go_simp; all_goals with_reducible rfl))
                try simp only [Act.put, List.setIfInBounds_toArray, List.set_cons_zero, List.set_cons_succ]
                (refine wpAnyH_take (i := 4) (oi := ⟨_, _, _, _, _, _⟩) (v := ?_) rfl (by kernel_rfl) (by kernel_rfl) (by kernel_rfl) (fun _ _ _ h => h) (Or.inl ⟨by rfl, ?_⟩) (by assumption) ?_; rotate_left 1; · (intro w hSw; (try dsimp only at hSw); go_simp; all_goals with_reducible rfl))
                try simp only [Act.put, List.setIfInBounds_toArray, List.set_cons_zero, List.set_cons_succ]
                (refine wpAnyH_take (i := 5) (oi := ⟨_, _, _, _, _, _⟩) (v := ?_) rfl (by kernel_rfl) (by kernel_rfl) (by kernel_rfl) (fun _ _ _ h => h) (Or.inl ⟨by rfl, ?_⟩) (by assumption) ?_; rotate_left 1; · (intro w hSw; (try dsimp only at hSw); go_simp; all_goals with_reducible rfl))
                try simp only [Act.put, List.setIfInBounds_toArray, List.set_cons_zero, List.set_cons_succ]
                (refine wpAnyH_take (i := 6) (oi := ⟨_, _, _, _, _, _⟩) (v := ?_) rfl (by kernel_rfl) (by kernel_rfl) (by kernel_rfl) (fun _ _ _ h => h) (Or.inl ⟨by rfl, ?_⟩) (by assumption) ?_; rotate_left 1; · (intro w hSw; (try dsimp only at hSw); go_simp; all_goals with_reducible rfl))
                try simp only [Act.put, List.setIfInBounds_toArray, List.set_cons_zero, List.set_cons_succ]
                (refine wpAnyH_take (i := 7) (oi := ⟨_, _, _, _, _, _⟩) (v := ?_) rfl (by kernel_rfl) (by kernel_rfl) (by kernel_rfl) (fun _ _ _ h => h) (Or.inl ⟨by rfl, ?_⟩) (by assumption) ?_; rotate_left 1; · (intro w hSw; (try dsimp only at hSw); go_simp; all_goals with_reducible rfl))
                try simp only [Act.put, List.setIfInBounds_toArray, List.set_cons_zero, List.set_cons_succ]
                (refine wpAnyH_take (i := 8) (oi := ⟨_, _, _, _, _, _⟩) (v := ?_) rfl (by kernel_rfl) (by kernel_rfl) (by kernel_rfl) (fun _ _ _ h => h) (Or.inl ⟨by rfl, ?_⟩) (by assumption) ?_; rotate_left 1; · (intro w hSw; (try dsimp only at hSw); go_simp; all_goals with_reducible rfl))
                try simp only [Act.put, List.setIfInBounds_toArray, List.set_cons_zero, List.set_cons_succ]
                (refine wpAnyH_take (i := 9) (oi := ⟨_, _, _, _, _, _⟩) (v := ?_) rfl (by kernel_rfl) (by kernel_rfl) (by kernel_rfl) (fun _ _ _ h => h) (Or.inl ⟨by rfl, ?_⟩) (by assumption) ?_; rotate_left 1; · (intro w hSw; (try dsimp only at hSw); go_simp; all_goals with_reducible rfl))
                try simp only [Act.put, List.setIfInBounds_toArray, List.set_cons_zero, List.set_cons_succ]
                (refine wpAnyH_take (i := 10) (oi := ⟨_, _, _, _, _, _⟩) (v := ?_) rfl (by kernel_rfl) (by kernel_rfl) (by kernel_rfl) (fun _ _ _ h => h) (Or.inl ⟨by rfl, ?_⟩) (by assumption) ?_; rotate_left 1; · (intro w hSw; (try dsimp only at hSw); go_simp; all_goals with_reducible rfl))
                try simp only [Act.put, List.setIfInBounds_toArray, List.set_cons_zero, List.set_cons_succ]
                refine wpAnyH_ready (rs := [11, 15]) (by kernel_rfl) (by simp) ?_
                refine AllReadyH.cons (o := ⟨_, _, _, _, _, _⟩) rfl (fun Kq hKq => ?_) (AllReadyH.cons (o := ⟨_, _, _, _, _, _⟩) rfl (fun Kq hKq => ?_) (AllReadyH.nil))
                · go_simp
                  clear hHeld
                  go_at_call 10; (with_reducible refine (CB.out _ _ Fy0.out.c (Fy0.out.argC HI.out)).mono ?_); rintro e y1 ⟨rfl, Sy1, hw, hu⟩
                  have Fy1 := Lib.hid (Fy0.out.opC (fdWl _ _ _) (fdWl _ _ _) (fdWl _ _ _) hw hu)
                  have B6y1 := Lib.hid (B6y0.out.opC hu)
                  clear hw hu
                  refine hKq.out _ _ ?_ (fun hHeld => ?_)
                  · (try dsimp only); exact HQ.out _ Fy1.out.below
                  clear hKq Kq
                  (refine wpAnyH_take (i := 12) (oi := ⟨_, _, _, _, _, _⟩) (v := ?_) rfl (by kernel_rfl) (by kernel_rfl) (by kernel_rfl) (fun _ _ _ h => h) (Or.inl ⟨by rfl, ?_⟩) (by assumption) ?_; rotate_left 1; · (intro w hSw; (try dsimp only at hSw); go_simp; all_goals with_reducible rfl))
                  try simp only [Act.put, List.setIfInBounds_toArray, List.set_cons_zero, List.set_cons_succ]
                  (refine wpAnyH_take (i := 13) (oi := ⟨_, _, _, _, _, _⟩) (v := ?_) rfl (by kernel_rfl) (by kernel_rfl) (by kernel_rfl) (fun _ _ _ h => h) (Or.inl ⟨by rfl, ?_⟩) (by assumption) ?_; rotate_left 1; · (intro w hSw; (try dsimp only at hSw); go_simp; all_goals with_reducible rfl))
                  try simp only [Act.put, List.setIfInBounds_toArray, List.set_cons_zero, List.set_cons_succ]
                  (refine wpAnyH_take (i := 14) (oi := ⟨_, _, _, _, _, _⟩) (v := ?_) rfl (by kernel_rfl) (by kernel_rfl) (by kernel_rfl) (fun _ _ _ h => h) (Or.inl ⟨by rfl, ?_⟩) (by assumption) ?_; rotate_left 1; · (intro w hSw; (try dsimp only at hSw); go_simp; all_goals with_reducible rfl))
                  try simp only [Act.put, List.setIfInBounds_toArray, List.set_cons_zero, List.set_cons_succ]
                  refine wpAnyH_ready (rs := [15]) (by kernel_rfl) (by simp) ?_
                  refine AllReadyH.cons (o := ⟨_, _, _, _, _, _⟩) rfl (fun Kq hKq => ?_) (AllReadyH.nil)
                  go_simp
                  clear hHeld
                  have By2 := Lib.hid (Fy1.out.box (fdWl _ _ _) (fdWl _ _ _) (fdWl _ _ _) (fdWl _ _ _) 0 0)
                  have BB := Lib.hid (below_one y1 (.cells #[.int .i64 0, .int .i64 0] 24))
                  have Fy2 := Lib.hid (Fy1.out.keep (fdWl _ _ _) (fdWl _ _ _) (fdWl _ _ _) (fdWl _ _ _) BB.out)
                  have B6y2 := Lib.hid (B6y1.out.keep BB.out)
                  have NB6y := Lib.hid (Nat.ne_of_lt (box_lt B6y1.out.box))
                  clear BB
                  generalize World.alloc y1 (.cells #[.int .i64 0, .int .i64 0] 24) = y2 at *
                  generalize hgy : y1.heap.size = gy at *
                  clear hgy
                  refine hKq.out _ _ ?_ (fun hHeld => ?_)
                  · (try dsimp only); exact HQ.out _ Fy2.out.below
                  clear hKq Kq
                  try simp only [Act.put, List.setIfInBounds_toArray, List.set_cons_zero, List.set_cons_succ]
                  refine wpAnyH_ready (rs := [16]) (by kernel_rfl) (by simp) ?_
                  refine AllReadyH.cons (o := ⟨_, _, _, _, _, _⟩) rfl (fun Kq hKq => ?_) (AllReadyH.nil)
                  obtain ⟨p0, p1⟩ := box_cells By2.out.box
                  obtain ⟨f0, f1⟩ := box_free By2.out.box
                  go_simp
                  clear hHeld
                  have By3 := Lib.hid (By2.out.put xa xi)
                  have FF := Lib.hid (fr_put y2 gy xa xi)
                  have Fy3 := Lib.hid (Fy2.out.put (fdWl _ _ _) (fdWl _ _ _) (fdWl _ _ _) (fdWl _ _ _) By2.out FF.out)
                  have B6y3 := Lib.hid (B6y2.out.other FF.out NB6y.out)
                  clear FF p0 p1 f0 f1
                  generalize World.setCell (World.setCell y2 ⟨gy, 0, none⟩ (.int .i64 xa)) ⟨gy, 1, none⟩ (.int .i64 xi) = y3 at *
                  refine hKq.out _ _ ?_ (fun hHeld => ?_)
                  · (try dsimp only); exact HQ.out _ Fy3.out.below
                  clear hKq Kq
                  try simp only [Act.put, List.setIfInBounds_toArray, List.set_cons_zero, List.set_cons_succ]
                  (refine wpAnyH_take (i := 17) (oi := ⟨_, _, _, _, _, _⟩) (v := ?_) rfl (by kernel_rfl) (by kernel_rfl) (by kernel_rfl) (fun _ _ _ h => h) (Or.inl ⟨by rfl, ?_⟩) (by assumption) ?_; rotate_left 1; · (intro w hSw; (try dsimp only at hSw); go_simp; all_goals with_reducible rfl))
                  try simp only [Act.put, List.setIfInBounds_toArray, List.set_cons_zero, List.set_cons_succ]
                  refine wpAnyH_done (by kernel_rfl) ?_ _
                  go_wp2_with fail
                  go_meet
                  exact ⟨gy, Sy1, rfl, rfl, Fy3, By3, B6y3⟩
                · go_simp
                  clear hHeld
                  have By1 := Lib.hid (Fy0.out.box (fdWl _ _ _) (fdWl _ _ _) (fdWl _ _ _) (fdWl _ _ _) 0 0)
                  have BB := Lib.hid (below_one y0 (.cells #[.int .i64 0, .int .i64 0] 24))
                  have Fy1 := Lib.hid (Fy0.out.keep (fdWl _ _ _) (fdWl _ _ _) (fdWl _ _ _) (fdWl _ _ _) BB.out)
                  have B6y1 := Lib.hid (B6y0.out.keep BB.out)
                  have NB6y := Lib.hid (Nat.ne_of_lt (box_lt B6y0.out.box))
                  clear BB
                  generalize World.alloc y0 (.cells #[.int .i64 0, .int .i64 0] 24) = y1 at *
                  generalize hgy : y0.heap.size = gy at *
                  clear hgy
                  refine hKq.out _ _ ?_ (fun hHeld => ?_)
                  · (try dsimp only); exact HQ.out _ Fy1.out.below
                  clear hKq Kq
                  try simp only [Act.put, List.setIfInBounds_toArray, List.set_cons_zero, List.set_cons_succ]
                  refine wpAnyH_ready (rs := [11]) (by kernel_rfl) (by simp) ?_
                  refine AllReadyH.cons (o := ⟨_, _, _, _, _, _⟩) rfl (fun Kq hKq => ?_) (AllReadyH.nil)
                  go_simp
                  clear hHeld
                  go_at_call 10; (with_reducible refine (CB.out _ _ Fy1.out.c (Fy1.out.argC HI.out)).mono ?_); rintro e y2 ⟨rfl, Sy2, hw, hu⟩
                  have Fy2 := Lib.hid (Fy1.out.opC (fdWl _ _ _) (fdWl _ _ _) (fdWl _ _ _) hw hu)
                  have B6y2 := Lib.hid (B6y1.out.opC hu)
                  have By2 := Lib.hid (By1.out.opC hu)
                  clear hw hu
                  refine hKq.out _ _ ?_ (fun hHeld => ?_)
                  · (try dsimp only); exact HQ.out _ Fy2.out.below
                  clear hKq Kq
                  (refine wpAnyH_take (i := 12) (oi := ⟨_, _, _, _, _, _⟩) (v := ?_) rfl (by kernel_rfl) (by kernel_rfl) (by kernel_rfl) (fun _ _ _ h => h) (Or.inl ⟨by rfl, ?_⟩) (by assumption) ?_; rotate_left 1; · (intro w hSw; (try dsimp only at hSw); go_simp; all_goals with_reducible rfl))
                  try simp only [Act.put, List.setIfInBounds_toArray, List.set_cons_zero, List.set_cons_succ]
                  (refine wpAnyH_take (i := 13) (oi := ⟨_, _, _, _, _, _⟩) (v := ?_) rfl (by kernel_rfl) (by kernel_rfl) (by kernel_rfl) (fun _ _ _ h => h) (Or.inl ⟨by rfl, ?_⟩) (by assumption) ?_; rotate_left 1; · (intro w hSw; (try dsimp only at hSw); go_simp; all_goals with_reducible rfl))
                  try simp only [Act.put, List.setIfInBounds_toArray, List.set_cons_zero, List.set_cons_succ]
                  (refine wpAnyH_take (i := 14) (oi := ⟨_, _, _, _, _, _⟩) (v := ?_) rfl (by kernel_rfl) (by kernel_rfl) (by kernel_rfl) (fun _ _ _ h => h) (Or.inl ⟨by rfl, ?_⟩) (by assumption) ?_; rotate_left 1; · (intro w hSw; (try dsimp only at hSw); go_simp; all_goals with_reducible rfl))
                  try simp only [Act.put, List.setIfInBounds_toArray, List.set_cons_zero, List.set_cons_succ]
                  refine wpAnyH_ready (rs := [16]) (by kernel_rfl) (by simp) ?_
                  refine AllReadyH.cons (o := ⟨_, _, _, _, _, _⟩) rfl (fun Kq hKq => ?_) (AllReadyH.nil)
                  obtain ⟨p0, p1⟩ := box_cells By2.out.box
                  obtain ⟨f0, f1⟩ := box_free By2.out.box
                  go_simp
                  clear hHeld
                  have By3 := Lib.hid (By2.out.put xa xi)
                  have FF := Lib.hid (fr_put y2 gy xa xi)
                  have Fy3 := Lib.hid (Fy2.out.put (fdWl _ _ _) (fdWl _ _ _) (fdWl _ _ _) (fdWl _ _ _) By2.out FF.out)
                  have B6y3 := Lib.hid (B6y2.out.other FF.out NB6y.out)
                  clear FF p0 p1 f0 f1
                  generalize World.setCell (World.setCell y2 ⟨gy, 0, none⟩ (.int .i64 xa)) ⟨gy, 1, none⟩ (.int .i64 xi) = y3 at *
                  refine hKq.out _ _ ?_ (fun hHeld => ?_)
                  · (try dsimp only); exact HQ.out _ Fy3.out.below
                  clear hKq Kq
                  try simp only [Act.put, List.setIfInBounds_toArray, List.set_cons_zero, List.set_cons_succ]
                  (refine wpAnyH_take (i := 17) (oi := ⟨_, _, _, _, _, _⟩) (v := ?_) rfl (by kernel_rfl) (by kernel_rfl) (by kernel_rfl) (fun _ _ _ h => h) (Or.inl ⟨by rfl, ?_⟩) (by assumption) ?_; rotate_left 1; · (intro w hSw; (try dsimp only at hSw); go_simp; all_goals with_reducible rfl))
                  try simp only [Act.put, List.setIfInBounds_toArray, List.set_cons_zero, List.set_cons_succ]
                  refine wpAnyH_done (by kernel_rfl) ?_ _
                  go_wp2_with fail
                  go_meet
                  exact ⟨gy, Sy2, rfl, rfl, Fy3, By3, B6y3⟩
              case rest =>
                obtain ⟨gy, S3, rfl, rfl, F7, C7, B7⟩ := hcut
                rename World => w7
                have HQ7 := Lib.hid (HQ.out w7 F7.out.below)
                obtain ⟨p0, p1⟩ := box_cells B7.out.box
                obtain ⟨p2, p3⟩ := box_cells C7.out.box
                go_wp2_with fail
                refine (left_any F7.out.b).mono ?_
                rintro e w8 ⟨rfl, hb⟩
                have F8 := Lib.hid (F7.out.keep (fdWl _ _ _) (fdWl _ _ _) (fdWl _ _ _) (fdWl _ _ _) hb)
                have B8 := Lib.hid (B7.out.keep hb)
                clear hb F7 B7 C7 p0 p1 p2 p3
                go_wp2_with fail
                refine (left_any F8.out.c).mono ?_
                rintro e w9 ⟨rfl, hb⟩
                have F9 := Lib.hid (F8.out.keep (fdWl _ _ _) (fdWl _ _ _) (fdWl _ _ _) (fdWl _ _ _) hb)
                have B9 := Lib.hid (B8.out.keep hb)
                clear hb F8 B8
                obtain ⟨c0, -⟩ := HQ.out w9 F9.out.below
                go_wp2_with fail
                refine (CZ.out pr _ _ F9.out.d (F9.out.argD HI.out)).mono ?_
                rintro e v1 ⟨rfl, S4, hw, hu⟩
                have G1 := Lib.hid (F9.out.opD (fdWl _ _ _) (fdWl _ _ _) (fdWl _ _ _) hw hu)
                have D1 := Lib.hid (B9.out.opD hu)
                clear hw hu F9 B9 c0
                go_upto_region 20 with fail
                have Z2 := Lib.hid (G1.out.box (fdWl _ _ _) (fdWl _ _ _) (fdWl _ _ _) (fdWl _ _ _) za zi)
                have BB := Lib.hid (below_one v1 (.cells #[.int .i64 za, .int .i64 zi] 24))
                have G2 := Lib.hid (G1.out.keep (fdWl _ _ _) (fdWl _ _ _) (fdWl _ _ _) (fdWl _ _ _) BB.out)
                have D2 := Lib.hid (D1.out.keep BB.out)
                generalize World.alloc v1 (.cells #[.int .i64 za, .int .i64 zi] 24) = v2 at *
                generalize v1.heap.size = gz at *
                clear BB G1 D1
                go_cut [137] (fun s137 wx => s137 = .bool false ∧ Hid (Four W wx (WlP 51 p l) (WlP 51 pa rq) (WlP 51 pb rq) (WlP 51 pr rz) S S2 S3 S4) ∧ Hid (Bq W wx S S2 S3 S4 gx xa xi) ∧ Hid (Bq W wx S S2 S3 S4 gz za zi))
                case first =>
                  cases bq
                  case false =>
                    go_wp2_with fail
                    go_meet
                    exact ⟨rfl, G2, D2, Z2⟩
                  case true =>
                    go_wp2_with fail
                    refine (left_any G2.out.b).mono ?_
                    rintro e v3 ⟨rfl, hb⟩
                    have G3 := Lib.hid (G2.out.keep (fdWl _ _ _) (fdWl _ _ _) (fdWl _ _ _) (fdWl _ _ _) hb)
                    have D3 := Lib.hid (D2.out.keep hb)
                    have Z3 := Lib.hid (Z2.out.keep hb)
                    clear hb
                    go_wp2_with fail
                    refine (left_any G3.out.d).mono ?_
                    rw [← HV1.out]
                    rintro e v4 ⟨rfl, hb⟩
                    have G4 := Lib.hid (G3.out.keep (fdWl _ _ _) (fdWl _ _ _) (fdWl _ _ _) (fdWl _ _ _) hb)
                    have D4 := Lib.hid (D3.out.keep hb)
                    have Z4 := Lib.hid (Z3.out.keep hb)
                    clear hb
                    go_wp2_with fail
                    refine (left_any G4.out.d).mono ?_
                    rw [← HV1.out]
                    rintro e v5 ⟨rfl, hb⟩
                    have G5 := Lib.hid (G4.out.keep (fdWl _ _ _) (fdWl _ _ _) (fdWl _ _ _) (fdWl _ _ _) hb)
                    have D5 := Lib.hid (D4.out.keep hb)
                    have Z5 := Lib.hid (Z4.out.keep hb)
                    clear hb
                    go_wp2_with fail
                    refine (left_any G5.out.b).mono ?_
                    rintro e v6 ⟨rfl, hb⟩
                    have G6 := Lib.hid (G5.out.keep (fdWl _ _ _) (fdWl _ _ _) (fdWl _ _ _) (fdWl _ _ _) hb)
                    have D6 := Lib.hid (D5.out.keep hb)
                    have Z6 := Lib.hid (Z5.out.keep hb)
                    clear hb
                    go_wp2_with fail
                    go_meet
                    exact ⟨rfl, G6, D6, Z6⟩
                case rest =>
                  obtain ⟨rfl, G2, D2, Z2⟩ := hcut
                  rename World => v7
                  have HN3 : Hid (rq.length + 1 ≤ 10001) := Lib.hid (by have := HN2.out; omega)
                  have HQ22 := Lib.hid fun w' (hb : Below v7.heap.size v7 w') => (show w'.cell? (ad.add (k * 2)) = some (.slice A1 n1 c1) ∧ (w'.cell? ⟨gx, 0, none⟩ = some (.int .i64 xa) ∧ w'.cell? ⟨gx, 1, none⟩ = some (.int .i64 xi)) ∧ w'.cell? ⟨gz, 0, none⟩ = some (.int .i64 za) ∧ w'.cell? ⟨gz, 1, none⟩ = some (.int .i64 zi) from ⟨(HQ.out _ (G2.out.below.trans (hb.mono G2.out.below.size))).1, box_cells (box_below D2.out.box hb), box_cells (box_below Z2.out.box hb)⟩)
                  have GD := Lib.hid (G2.out.keep (fdWl _ _ _) (fdWl _ _ _) (fdWl _ _ _) (fdWl _ _ _) (Below.refl _ _).drew)
                  have BD := Lib.hid (show Below v7.heap.size v7 v7.drew from (Below.refl _ _).drew)
                  obtain ⟨nr, hnr⟩ : ∃ nr, nr = rq.length := ⟨_, rfl⟩
                  obtain ⟨ns, hns⟩ : ∃ ns, ns = (setOf ps).length := ⟨_, rfl⟩
                  have HNR := Lib.hid hnr
                  have HNS := Lib.hid hns
                  have hnr2 : nr ≤ 10000 := by have := HN3.out; omega
                  have j1 : IntKind.i64.wrap ((nr : Int) + 1) = (nr : Int) + 1 := IntWalk.i64_in _ ⟨by omega, by omega⟩
                  rw [← hnr, ← hns] at HV2
                  clear hnr hns HN3
                  clear G2 D2 Z2
                  go_wp2_with fail
                  by_cases hc : nr + 1 = ns
                  · have k1 : ((nr : Int) + 1 == (ns : Int)) = true := by simp; omega
                    have k2 : ((nr : Int) + 1 != (ns : Int)) = false := by simp; omega
                    refine wp_region_held_drew (S := fun w' => w'.cell? (ad.add (k * 2)) = some (.slice A1 n1 c1) ∧ (w'.cell? ⟨gx, 0, none⟩ = some (.int .i64 xa) ∧ w'.cell? ⟨gx, 1, none⟩ = some (.int .i64 xi)) ∧ w'.cell? ⟨gz, 0, none⟩ = some (.int .i64 za) ∧ w'.cell? ⟨gz, 1, none⟩ = some (.int .i64 zi)) (by kernel_rfl) ?_ (fun hHeld => ?_)
                    · exact HQ22.out _ BD.out
                    (refine wpAnyH_take (i := 0) (oi := ⟨_, _, _, _, _, _⟩) (v := ?_) rfl (by kernel_rfl) (by kernel_rfl) (by kernel_rfl) (fun _ _ _ h => h) (Or.inl ⟨by rfl, ?_⟩) (by assumption) ?_; rotate_left 1; · (intro w hSw; (try dsimp only at hSw); go_simp; all_goals with_reducible rfl))
                    try simp only [Act.put, List.setIfInBounds_toArray, List.set_cons_zero, List.set_cons_succ]
                    (refine wpAnyH_take (i := 3) (oi := ⟨_, _, _, _, _, _⟩) (v := ?_) rfl (by kernel_rfl) (by kernel_rfl) (by kernel_rfl) (fun _ _ _ h => h) (Or.inl ⟨by rfl, ?_⟩) (by assumption) ?_; rotate_left 1; · (intro w hSw; (try dsimp only at hSw); go_simp; all_goals with_reducible rfl))
                    try simp only [Act.put, List.setIfInBounds_toArray, List.set_cons_zero, List.set_cons_succ]
                    (refine wpAnyH_take (i := 4) (oi := ⟨_, _, _, _, _, _⟩) (v := ?_) rfl (by kernel_rfl) (by kernel_rfl) (by kernel_rfl) (fun _ _ _ h => h) (Or.inl ⟨by rfl, ?_⟩) (by assumption) ?_; rotate_left 1; · (intro w hSw; (try dsimp only at hSw); go_simp; all_goals with_reducible rfl))
                    try simp only [Act.put, List.setIfInBounds_toArray, List.set_cons_zero, List.set_cons_succ]
                    (refine wpAnyH_take (i := 5) (oi := ⟨_, _, _, _, _, _⟩) (v := ?_) rfl (by kernel_rfl) (by kernel_rfl) (by kernel_rfl) (fun _ _ _ h => h) (Or.inl ⟨by rfl, ?_⟩) (by assumption) ?_; rotate_left 1; · (intro w hSw; (try dsimp only at hSw); go_simp; all_goals with_reducible rfl))
                    try simp only [Act.put, List.setIfInBounds_toArray, List.set_cons_zero, List.set_cons_succ]
                    (refine wpAnyH_take (i := 6) (oi := ⟨_, _, _, _, _, _⟩) (v := ?_) rfl (by kernel_rfl) (by kernel_rfl) (by kernel_rfl) (fun _ _ _ h => h) (Or.inl ⟨by rfl, ?_⟩) (by assumption) ?_; rotate_left 1; · (intro w hSw; (try dsimp only at hSw); go_simp; all_goals with_reducible rfl))
                    try simp only [Act.put, List.setIfInBounds_toArray, List.set_cons_zero, List.set_cons_succ]
                    (refine wpAnyH_take (i := 7) (oi := ⟨_, _, _, _, _, _⟩) (v := ?_) rfl (by kernel_rfl) (by kernel_rfl) (by kernel_rfl) (fun _ _ _ h => h) (Or.inl ⟨by rfl, ?_⟩) (by assumption) ?_; rotate_left 1; · (intro w hSw; (try dsimp only at hSw); go_simp; all_goals with_reducible rfl))
                    try simp only [Act.put, List.setIfInBounds_toArray, List.set_cons_zero, List.set_cons_succ]
                    refine wpAnyH_ready (rs := [1]) (by kernel_rfl) (by simp) ?_
                    refine AllReadyH.cons (o := ⟨_, _, _, _, _, _⟩) rfl (fun Kq hKq => ?_) AllReadyH.nil
                    go_simp
                    clear hHeld
                    (go_at_call 13; (with_reducible refine (left_any GD.out.b).mono ?_); rw [← HNR.out]; rintro e v8 ⟨rfl, hb⟩; have G8 := Lib.hid (GD.out.keep (fdWl _ _ _) (fdWl _ _ _) (fdWl _ _ _) (fdWl _ _ _) hb); have B8 := Lib.hid (below_after BD.out hb (Nat.le_refl _)); clear hb)
                    refine hKq.out _ _ ?_ (fun hHeld => ?_)
                    · (try dsimp only); exact HQ22.out _ B8.out
                    clear hKq Kq
                    try simp only [Act.put, List.setIfInBounds_toArray, List.set_cons_zero, List.set_cons_succ]
                    (refine wpAnyH_take (i := 2) (oi := ⟨_, _, _, _, _, _⟩) (v := ?_) rfl (by kernel_rfl) (by kernel_rfl) (by kernel_rfl) (fun _ _ _ h => h) (Or.inl ⟨by rfl, ?_⟩) (by assumption) ?_; rotate_left 1; · (intro w hSw; (try dsimp only at hSw); go_simp; all_goals with_reducible rfl))
                    try simp only [Act.put, List.setIfInBounds_toArray, List.set_cons_zero, List.set_cons_succ]
                    refine wpAnyH_ready (rs := [8]) (by kernel_rfl) (by simp) ?_
                    refine AllReadyH.cons (o := ⟨_, _, _, _, _, _⟩) rfl (fun Kq hKq => ?_) AllReadyH.nil
                    go_simp
                    clear hHeld
                    (go_at_call 22; (with_reducible refine (set_any _ ps _ (HI.out _ G8.out.below) (by omega)).mono ?_); rintro e v9 ⟨t, rfl, ht, hb⟩; obtain ⟨A3, c3, rfl, -⟩ := ht; rw [← HNS.out]; have G9 := Lib.hid (G8.out.keep (fdWl _ _ _) (fdWl _ _ _) (fdWl _ _ _) (fdWl _ _ _) hb); have B9 := Lib.hid (below_after B8.out hb (Nat.le_refl _)); clear hb)
                    refine hKq.out _ _ ?_ (fun hHeld => ?_)
                    · (try dsimp only); exact HQ22.out _ B9.out
                    clear hKq Kq
                    try simp only [Act.put, List.setIfInBounds_toArray, List.set_cons_zero, List.set_cons_succ]
                    (refine wpAnyH_take (i := 9) (oi := ⟨_, _, _, _, _, _⟩) (v := ?_) rfl (by kernel_rfl) (by kernel_rfl) (by kernel_rfl) (fun _ _ _ h => h) (Or.inl ⟨by rfl, ?_⟩) (by assumption) ?_; rotate_left 1; · (intro w hSw; (try dsimp only at hSw); go_simp; all_goals with_reducible rfl))
                    try simp only [Act.put, List.setIfInBounds_toArray, List.set_cons_zero, List.set_cons_succ]
                    (refine wpAnyH_take (i := 10) (oi := ⟨_, _, _, _, _, _⟩) (v := ?_) rfl (by kernel_rfl) (by kernel_rfl) (by kernel_rfl) (fun _ _ _ h => h) (Or.inl ⟨by rfl, ?_⟩) (by assumption) ?_; rotate_left 1; · (intro w hSw; (try dsimp only at hSw); go_simp; all_goals with_reducible rfl))
                    try simp only [Act.put, List.setIfInBounds_toArray, List.set_cons_zero, List.set_cons_succ]
                    (refine wpAnyH_take (i := 11) (oi := ⟨_, _, _, _, _, _⟩) (v := ?_) rfl (by kernel_rfl) (by kernel_rfl) (by kernel_rfl) (fun _ _ _ h => h) (Or.inl ⟨by rfl, ?_⟩) (by assumption) ?_; rotate_left 1; · (intro w hSw; (try dsimp only at hSw); go_simp; all_goals with_reducible rfl))
                    try simp only [Act.put, List.setIfInBounds_toArray, List.set_cons_zero, List.set_cons_succ]
                    refine wpAnyH_take (i := 12) (oi := ⟨_, _, _, _, _, _⟩) (v := undef) rfl (by kernel_rfl) (by kernel_rfl) (by kernel_rfl) (fun _ _ _ h => h) (Or.inr ⟨by kernel_rfl, rfl⟩) (by assumption) ?_
                    try simp only [Act.put, List.setIfInBounds_toArray, List.set_cons_zero, List.set_cons_succ]
                    refine wpAnyH_take (i := 13) (oi := ⟨_, _, _, _, _, _⟩) (v := undef) rfl (by kernel_rfl) (by kernel_rfl) (by kernel_rfl) (fun _ _ _ h => h) (Or.inr ⟨by kernel_rfl, rfl⟩) (by assumption) ?_
                    try simp only [Act.put, List.setIfInBounds_toArray, List.set_cons_zero, List.set_cons_succ]
                    refine wpAnyH_take (i := 14) (oi := ⟨_, _, _, _, _, _⟩) (v := undef) rfl (by kernel_rfl) (by kernel_rfl) (by kernel_rfl) (fun _ _ _ h => h) (Or.inr ⟨by kernel_rfl, rfl⟩) (by assumption) ?_
                    try simp only [Act.put, List.setIfInBounds_toArray, List.set_cons_zero, List.set_cons_succ]
                    (refine wpAnyH_take (i := 15) (oi := ⟨_, _, _, _, _, _⟩) (v := ?_) rfl (by kernel_rfl) (by kernel_rfl) (by kernel_rfl) (fun _ _ _ h => h) (Or.inl ⟨by rfl, ?_⟩) (by assumption) ?_; rotate_left 1; · (intro w hSw; (try dsimp only at hSw); go_simp; all_goals with_reducible rfl))
                    try simp only [Act.put, List.setIfInBounds_toArray, List.set_cons_zero, List.set_cons_succ]
                    refine wpAnyH_done (by kernel_rfl) ?_ _
                    go_wp2_with fail
                    go_roundw
                    case rel => exact ⟨k + 1, rq, S2, S3, by go_num, by omega, HN2, Lib.hid G9.out.gone⟩
                    case measure => simp [intOf]; omega
                  · have k1 : ((nr : Int) + 1 == (ns : Int)) = false := by simp; omega
                    have k2 : ((nr : Int) + 1 != (ns : Int)) = true := by simp; omega
                    obtain ⟨rfl, rfl⟩ : xa = za ∧ xi = zi := by
                      have := HV2.out hc
                      injection this with a1 a2
                      exact ⟨a1, a2⟩
                    refine wp_region_held_drew (S := fun w' => w'.cell? (ad.add (k * 2)) = some (.slice A1 n1 c1) ∧ (w'.cell? ⟨gx, 0, none⟩ = some (.int .i64 xa) ∧ w'.cell? ⟨gx, 1, none⟩ = some (.int .i64 xi)) ∧ w'.cell? ⟨gz, 0, none⟩ = some (.int .i64 xa) ∧ w'.cell? ⟨gz, 1, none⟩ = some (.int .i64 xi)) (by kernel_rfl) ?_ (fun hHeld => ?_)
                    · exact HQ22.out _ BD.out
                    (refine wpAnyH_take (i := 0) (oi := ⟨_, _, _, _, _, _⟩) (v := ?_) rfl (by kernel_rfl) (by kernel_rfl) (by kernel_rfl) (fun _ _ _ h => h) (Or.inl ⟨by rfl, ?_⟩) (by assumption) ?_; rotate_left 1; · (intro w hSw; (try dsimp only at hSw); go_simp; all_goals with_reducible rfl))
                    try simp only [Act.put, List.setIfInBounds_toArray, List.set_cons_zero, List.set_cons_succ]
                    (refine wpAnyH_take (i := 3) (oi := ⟨_, _, _, _, _, _⟩) (v := ?_) rfl (by kernel_rfl) (by kernel_rfl) (by kernel_rfl) (fun _ _ _ h => h) (Or.inl ⟨by rfl, ?_⟩) (by assumption) ?_; rotate_left 1; · (intro w hSw; (try dsimp only at hSw); go_simp; all_goals with_reducible rfl))
                    try simp only [Act.put, List.setIfInBounds_toArray, List.set_cons_zero, List.set_cons_succ]
                    (refine wpAnyH_take (i := 4) (oi := ⟨_, _, _, _, _, _⟩) (v := ?_) rfl (by kernel_rfl) (by kernel_rfl) (by kernel_rfl) (fun _ _ _ h => h) (Or.inl ⟨by rfl, ?_⟩) (by assumption) ?_; rotate_left 1; · (intro w hSw; (try dsimp only at hSw); go_simp; all_goals with_reducible rfl))
                    try simp only [Act.put, List.setIfInBounds_toArray, List.set_cons_zero, List.set_cons_succ]
                    (refine wpAnyH_take (i := 5) (oi := ⟨_, _, _, _, _, _⟩) (v := ?_) rfl (by kernel_rfl) (by kernel_rfl) (by kernel_rfl) (fun _ _ _ h => h) (Or.inl ⟨by rfl, ?_⟩) (by assumption) ?_; rotate_left 1; · (intro w hSw; (try dsimp only at hSw); go_simp; all_goals with_reducible rfl))
                    try simp only [Act.put, List.setIfInBounds_toArray, List.set_cons_zero, List.set_cons_succ]
                    (refine wpAnyH_take (i := 6) (oi := ⟨_, _, _, _, _, _⟩) (v := ?_) rfl (by kernel_rfl) (by kernel_rfl) (by kernel_rfl) (fun _ _ _ h => h) (Or.inl ⟨by rfl, ?_⟩) (by assumption) ?_; rotate_left 1; · (intro w hSw; (try dsimp only at hSw); go_simp; all_goals with_reducible rfl))
                    try simp only [Act.put, List.setIfInBounds_toArray, List.set_cons_zero, List.set_cons_succ]
                    (refine wpAnyH_take (i := 7) (oi := ⟨_, _, _, _, _, _⟩) (v := ?_) rfl (by kernel_rfl) (by kernel_rfl) (by kernel_rfl) (fun _ _ _ h => h) (Or.inl ⟨by rfl, ?_⟩) (by assumption) ?_; rotate_left 1; · (intro w hSw; (try dsimp only at hSw); go_simp; all_goals with_reducible rfl))
                    try simp only [Act.put, List.setIfInBounds_toArray, List.set_cons_zero, List.set_cons_succ]
                    refine wpAnyH_ready (rs := [1]) (by kernel_rfl) (by simp) ?_
                    refine AllReadyH.cons (o := ⟨_, _, _, _, _, _⟩) rfl (fun Kq hKq => ?_) AllReadyH.nil
                    go_simp
                    clear hHeld
                    (go_at_call 13; (with_reducible refine (left_any GD.out.b).mono ?_); rw [← HNR.out]; rintro e v8 ⟨rfl, hb⟩; have G8 := Lib.hid (GD.out.keep (fdWl _ _ _) (fdWl _ _ _) (fdWl _ _ _) (fdWl _ _ _) hb); have B8 := Lib.hid (below_after BD.out hb (Nat.le_refl _)); clear hb)
                    refine hKq.out _ _ ?_ (fun hHeld => ?_)
                    · (try dsimp only); exact HQ22.out _ B8.out
                    clear hKq Kq
                    try simp only [Act.put, List.setIfInBounds_toArray, List.set_cons_zero, List.set_cons_succ]
                    (refine wpAnyH_take (i := 2) (oi := ⟨_, _, _, _, _, _⟩) (v := ?_) rfl (by kernel_rfl) (by kernel_rfl) (by kernel_rfl) (fun _ _ _ h => h) (Or.inl ⟨by rfl, ?_⟩) (by assumption) ?_; rotate_left 1; · (intro w hSw; (try dsimp only at hSw); go_simp; all_goals with_reducible rfl))
                    try simp only [Act.put, List.setIfInBounds_toArray, List.set_cons_zero, List.set_cons_succ]
                    refine wpAnyH_ready (rs := [8]) (by kernel_rfl) (by simp) ?_
                    refine AllReadyH.cons (o := ⟨_, _, _, _, _, _⟩) rfl (fun Kq hKq => ?_) AllReadyH.nil
                    go_simp
                    clear hHeld
                    (go_at_call 22; (with_reducible refine (set_any _ ps _ (HI.out _ G8.out.below) (by omega)).mono ?_); rintro e v9 ⟨t, rfl, ht, hb⟩; obtain ⟨A3, c3, rfl, -⟩ := ht; rw [← HNS.out]; have G9 := Lib.hid (G8.out.keep (fdWl _ _ _) (fdWl _ _ _) (fdWl _ _ _) (fdWl _ _ _) hb); have B9 := Lib.hid (below_after B8.out hb (Nat.le_refl _)); clear hb)
                    refine hKq.out _ _ ?_ (fun hHeld => ?_)
                    · (try dsimp only); exact HQ22.out _ B9.out
                    clear hKq Kq
                    try simp only [Act.put, List.setIfInBounds_toArray, List.set_cons_zero, List.set_cons_succ]
                    (refine wpAnyH_take (i := 9) (oi := ⟨_, _, _, _, _, _⟩) (v := ?_) rfl (by kernel_rfl) (by kernel_rfl) (by kernel_rfl) (fun _ _ _ h => h) (Or.inl ⟨by rfl, ?_⟩) (by assumption) ?_; rotate_left 1; · (intro w hSw; (try dsimp only at hSw); go_simp; all_goals with_reducible rfl))
                    try simp only [Act.put, List.setIfInBounds_toArray, List.set_cons_zero, List.set_cons_succ]
                    (refine wpAnyH_take (i := 10) (oi := ⟨_, _, _, _, _, _⟩) (v := ?_) rfl (by kernel_rfl) (by kernel_rfl) (by kernel_rfl) (fun _ _ _ h => h) (Or.inl ⟨by rfl, ?_⟩) (by assumption) ?_; rotate_left 1; · (intro w hSw; (try dsimp only at hSw); go_simp; all_goals with_reducible rfl))
                    try simp only [Act.put, List.setIfInBounds_toArray, List.set_cons_zero, List.set_cons_succ]
                    (refine wpAnyH_take (i := 11) (oi := ⟨_, _, _, _, _, _⟩) (v := ?_) rfl (by kernel_rfl) (by kernel_rfl) (by kernel_rfl) (fun _ _ _ h => h) (Or.inl ⟨by rfl, ?_⟩) (by assumption) ?_; rotate_left 1; · (intro w hSw; (try dsimp only at hSw); go_simp; all_goals with_reducible rfl))
                    try simp only [Act.put, List.setIfInBounds_toArray, List.set_cons_zero, List.set_cons_succ]
                    first | (refine wpAnyH_take (i := 12) (oi := ⟨_, _, _, _, _, _⟩) (v := ?_) rfl (by kernel_rfl) (by kernel_rfl) (by kernel_rfl) (fun _ _ _ h => h) (Or.inl ⟨by rfl, ?_⟩) (by assumption) ?_; rotate_left 1; · (intro w hSw; (try dsimp only at hSw); go_simp; all_goals with_reducible rfl)) | refine wpAnyH_take (i := 12) (oi := ⟨_, _, _, _, _, _⟩) (v := undef) rfl (by kernel_rfl) (by kernel_rfl) (by kernel_rfl) (fun _ _ _ h => h) (Or.inr ⟨by kernel_rfl, rfl⟩) (by assumption) ?_
                    try simp only [Act.put, List.setIfInBounds_toArray, List.set_cons_zero, List.set_cons_succ]
                    first | (refine wpAnyH_take (i := 13) (oi := ⟨_, _, _, _, _, _⟩) (v := ?_) rfl (by kernel_rfl) (by kernel_rfl) (by kernel_rfl) (fun _ _ _ h => h) (Or.inl ⟨by rfl, ?_⟩) (by assumption) ?_; rotate_left 1; · (intro w hSw; (try dsimp only at hSw); go_simp; all_goals with_reducible rfl)) | refine wpAnyH_take (i := 13) (oi := ⟨_, _, _, _, _, _⟩) (v := undef) rfl (by kernel_rfl) (by kernel_rfl) (by kernel_rfl) (fun _ _ _ h => h) (Or.inr ⟨by kernel_rfl, rfl⟩) (by assumption) ?_
                    try simp only [Act.put, List.setIfInBounds_toArray, List.set_cons_zero, List.set_cons_succ]
                    first | (refine wpAnyH_take (i := 14) (oi := ⟨_, _, _, _, _, _⟩) (v := ?_) rfl (by kernel_rfl) (by kernel_rfl) (by kernel_rfl) (fun _ _ _ h => h) (Or.inl ⟨by rfl, ?_⟩) (by assumption) ?_; rotate_left 1; · (intro w hSw; (try dsimp only at hSw); go_simp; all_goals with_reducible rfl)) | refine wpAnyH_take (i := 14) (oi := ⟨_, _, _, _, _, _⟩) (v := undef) rfl (by kernel_rfl) (by kernel_rfl) (by kernel_rfl) (fun _ _ _ h => h) (Or.inr ⟨by kernel_rfl, rfl⟩) (by assumption) ?_
                    try simp only [Act.put, List.setIfInBounds_toArray, List.set_cons_zero, List.set_cons_succ]
                    (refine wpAnyH_take (i := 15) (oi := ⟨_, _, _, _, _, _⟩) (v := ?_) rfl (by kernel_rfl) (by kernel_rfl) (by kernel_rfl) (fun _ _ _ h => h) (Or.inl ⟨by rfl, ?_⟩) (by assumption) ?_; rotate_left 1; · (intro w hSw; (try dsimp only at hSw); go_simp; all_goals with_reducible rfl))
                    try simp only [Act.put, List.setIfInBounds_toArray, List.set_cons_zero, List.set_cons_succ]
                    refine wpAnyH_done (by kernel_rfl) ?_ _
                    go_wp2_with fail
                    go_roundw
                    case rel => exact ⟨k + 1, rq, S2, S3, by go_num, by omega, HN2, Lib.hid G9.out.gone⟩
                    case measure => simp [intOf]; omega
          · have hd : decide ((k : Int) < (sb.length : Int)) = false := decide_eq_false (by omega)
            go_wp2_with fail
            refine (left_any F.out.a).mono ?_
            rw [HL0.out]
            rintro e w9 ⟨rfl, hb⟩
            have B9 := Lib.hid (below_after F.out.below hb (Nat.le_refl _))
            go_wp2_with fail
            go_ret
            exact ⟨rfl, B9.out⟩
          end Go.Proofs.Ytmgkbfhkipfimaa
