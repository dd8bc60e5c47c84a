/-
  A walk over a statement: with the same peers each comes in time. No statement is proved in this text; it holds for every input that its premises let by.
-/
import Derived.Test.YtmgkbfhkipfimaaWlkK
import Derived.Test.YtmgkbfhkipfimaaXSetOps
set_option maxRecDepth 20000
namespace Go.Proofs.Ytmgkbfhkipfimaa
open Go Go.RowKit Sets
theorem due_any {ps l : List Id2} (hn : l.Nodup) : Due ps l [] (2 * (setOf ps).length - 1) := by
  by_cases h : ps = []
  · subst h
    exact ⟨(fun q hq => by cases hq), .inl fun q hq => by cases hq⟩
  · exact due_start hn h
set_option maxHeartbeats 4000000 in
theorem lawTime_any (v : Value) (ss : List St) (u : Value) (ps : List Id2) (vd : Value) (ds : List Nat) (W : World) (h : Rcs encS 2 W v ss) (hR : (∀ s ∈ ss, StOk W s ∧ s.l.length ≤ 8796093022208) ∧ ss.length ≤ 8796093022208)
    (hI : Ids W u ps) (hD : Rcs encD 1 W vd ds) (hdd : ∀ n ∈ ds, n < 4294967296) :
    Calls Try.prog 7 #[v, u, vd] W fun e w' => e = .returned (.bool true) ∧ Below W.heap.size W w' := by
  obtain ⟨hs, hll⟩ := hR
  have H := Lib.hid h
  have HS := Lib.hid hs
  have HL := Lib.hid hll
  have HD := Lib.hid hD
  have HDD := Lib.hid hdd
  have HI := Lib.hid fun w' (hb : Below W.heap.size W w') => hI.below hb
  obtain ⟨A, c, rfl, hz⟩ := h
  clear hz hs hll hdd
  obtain ⟨AI, cI, rfl, hz⟩ := hI
  clear hz
  obtain ⟨AD, cD, rfl, hz⟩ := hD
  clear hz
  go_enter Try.func7, Try.ntmps7
  go_wp2_with fail
  refine (works_any _).mono ?_
  rintro e w1 ⟨rfl, hb⟩
  have B1 := Lib.hid hb
  clear hb
  go_wp2_with fail
  refine (large_any _ ss _ (H.out.below B1.out) (fun s hs => (HS.out s hs).2) HL.out).mono ?_
  rintro e w2 ⟨⟨z, rfl, hz⟩, hb⟩
  have B2 := Lib.hid (below_after B1.out hb (Nat.le_refl _))
  clear hb B1
  cases z
  case true =>
    clear hz
    go_wp2_with fail
    refine (works_any _).mono ?_
    rintro e w3 ⟨rfl, hb⟩
    have B3 := Lib.hid (below_after B2.out hb (Nat.le_refl _))
    clear hb
    go_wp2_with fail
    go_ret
    exact ⟨rfl, B3.out⟩
  case false =>
    obtain ⟨hl3, hp3⟩ := hz rfl
    have HP := Lib.hid hp3
    clear hz hp3
    by_cases hpl : 60 < ps.length
    · have hq1 : decide ((60 : Int) < (ps.length : Int)) = true := decide_eq_true (by omega)
      go_wp2_with fail
      refine (works_any _).mono ?_
      rintro e w3 ⟨rfl, hb⟩
      have B3 := Lib.hid (below_after B2.out hb (Nat.le_refl _))
      clear hb
      go_wp2_with fail
      go_ret
      exact ⟨rfl, B3.out⟩
    have hq1 : decide ((60 : Int) < (ps.length : Int)) = false := decide_eq_false (by omega)
    by_cases hdl : 200 < ds.length
    · have hq2 : decide ((200 : Int) < (ds.length : Int)) = true := decide_eq_true (by omega)
      go_wp2_with fail
      refine (works_any _).mono ?_
      rintro e w3 ⟨rfl, hb⟩
      have B3 := Lib.hid (below_after B2.out hb (Nat.le_refl _))
      clear hb
      go_wp2_with fail
      go_ret
      exact ⟨rfl, B3.out⟩
    have hq2 : decide ((200 : Int) < (ds.length : Int)) = false := decide_eq_false (by omega)
    go_wp2_with fail
    refine (new_any _).mono ?_
    rintro e w3 ⟨p, S0, rfl, hw, hlo, hb⟩
    have F0 : Hid (Four W w3 (WlP 51 p []) NoP NoP NoP S0 (fun _ => False) (fun _ => False) (fun _ => False)) := Lib.hid (Four.one hw (below_after B2.out hb (Nat.le_refl _)) fun k hk => Nat.le_trans B2.out.size (hlo k hk))
    clear hw hlo hb B2
    go_wp2_with fail
    go_loopw [8] (fun s8 wr => ∃ (k : Nat) (l : List Id2) (S : Nat → Prop), s8 = .int .i64 k ∧ k ≤ ss.length ∧ Hid (l.length ≤ 10000) ∧ Hid l.Nodup ∧ Hid (Four W wr (WlP 51 p l) NoP NoP NoP S (fun _ => False) (fun _ => False) (fun _ => False))) (fun s8 _ => ss.length - (intOf s8).toNat)
    case atStart => exact ⟨0, [], S0, rfl, by omega, Lib.hid (by simp), Lib.hid List.nodup_nil, F0⟩
    case round =>
      obtain ⟨k, l, S, rfl, hk, HN, HU, F⟩ := hrel
      have i3 : (0 : Int) ≤ (k : Int) := by omega
      by_cases hlt : k < ss.length
      · have hd : decide ((k : Int) < (ss.length : Int)) = true := decide_eq_true (by omega)
        have i4 : (k : Int) < (ss.length : Int) := by omega
        have i7 : IntKind.i64.wrap ((k : Int) + 1) = (k : Int) + 1 := IntWalk.i64_in _ ⟨by omega, by omega⟩
        obtain ⟨ad, rfl⟩ := H.out.addr (Nat.lt_of_le_of_lt (Nat.zero_le _) hlt)
        have HQ := Lib.hid fun w' (hb : Below W.heap.size W w') => step_cells H.out hlt hb
        have HI1 := Lib.hid fun w' (hb : Below W.heap.size W w') => ((HS.out _ (List.getElem_mem hlt)).1.below hb).ids
        have hd1 := (HS.out _ (List.getElem_mem hlt)).1.d32
        have hn1 := HP.out _ (List.getElem_mem hlt)
        unfold St.val at HI1
        generalize ss[k] = s at *
        obtain ⟨A1, c1, ps1, d1⟩ := s
        dsimp only at HQ HI1 hd1 hn1
        have CN : Hid (∀ (S : Nat → Prop) (w : World), Wl 51 p l S w → (∀ W', Fr S w W' → Ids W' (.slice A1 ps1.length c1) ps1) → Calls Try.prog 10 #[.pointer (some ⟨p, 0, none⟩), .slice A1 ps1.length c1, .int .u32 d1] w fun e w' => e = Idb (nxX l ps1 d1) (nxB ps1) ∧ ∃ S', Wl 51 p (nxR l ps1 d1) S' w' ∧ Upd S w w' S') :=
          Lib.hid fun S w h1 h2 => next_all h1 h2 (by omega) (by have := HN.out; omega) hd1
        have HN2 := Lib.hid (nxR_len (d := d1) HN.out hn1)
        have HU2 := Lib.hid (nxR_nodup (ps := ps1) (d := d1) HU.out)
        generalize nxX l ps1 d1 = xq at *
        generalize nxR l ps1 d1 = rq at *
        generalize nxB ps1 = bq at *
        obtain ⟨xa, xi⟩ := xq
        generalize hn : ps1.length = n1 at *
        go_wp2_with fail
        have FD := Lib.hid (F.out.keep (fdWl _ _ _) fdNo fdNo fdNo (Below.refl _ _).drew)
        refine wp_region_held_drew (S := fun w' => w'.cell? (ad.add (k * 2)) = some (.slice A1 n1 c1) ∧ w'.cell? ⟨(ad.add (k * 2)).block, (ad.add (k * 2)).off + 1, none⟩ = some (.int .u32 d1)) (by kernel_rfl) ?_ (fun hHeld => ?_)
        · exact HQ.out _ FD.out.below
        (refine wpAnyH_take (i := 0) (oi := ⟨_, _, _, _, _, _⟩) (v := ?_) rfl (by kernel_rfl) (by kernel_rfl) (by kernel_rfl) (fun _ _ _ h => h) (Or.inl ⟨by rfl, ?_⟩) (by assumption) ?_; rotate_left 1; · (intro w hSw; (try dsimp only at hSw); go_simp; all_goals with_reducible rfl))
        try simp only [Act.put, List.setIfInBounds_toArray, List.set_cons_zero, List.set_cons_succ]
        (refine wpAnyH_take (i := 1) (oi := ⟨_, _, _, _, _, _⟩) (v := ?_) rfl (by kernel_rfl) (by kernel_rfl) (by kernel_rfl) (fun _ _ _ h => h) (Or.inl ⟨by rfl, ?_⟩) (by assumption) ?_; rotate_left 1; · (intro w hSw; (try dsimp only at hSw); go_simp; all_goals with_reducible rfl))
        try simp only [Act.put, List.setIfInBounds_toArray, List.set_cons_zero, List.set_cons_succ]
        (refine wpAnyH_take (i := 2) (oi := ⟨_, _, _, _, _, _⟩) (v := ?_) rfl (by kernel_rfl) (by kernel_rfl) (by kernel_rfl) (fun _ _ _ h => h) (Or.inl ⟨by rfl, ?_⟩) (by assumption) ?_; rotate_left 1; · (intro w hSw; (try dsimp only at hSw); go_simp; all_goals with_reducible rfl))
        try simp only [Act.put, List.setIfInBounds_toArray, List.set_cons_zero, List.set_cons_succ]
        (refine wpAnyH_take (i := 3) (oi := ⟨_, _, _, _, _, _⟩) (v := ?_) rfl (by kernel_rfl) (by kernel_rfl) (by kernel_rfl) (fun _ _ _ h => h) (Or.inl ⟨by rfl, ?_⟩) (by assumption) ?_; rotate_left 1; · (intro w hSw; (try dsimp only at hSw); go_simp; all_goals with_reducible rfl))
        try simp only [Act.put, List.setIfInBounds_toArray, List.set_cons_zero, List.set_cons_succ]
        (refine wpAnyH_take (i := 4) (oi := ⟨_, _, _, _, _, _⟩) (v := ?_) rfl (by kernel_rfl) (by kernel_rfl) (by kernel_rfl) (fun _ _ _ h => h) (Or.inl ⟨by rfl, ?_⟩) (by assumption) ?_; rotate_left 1; · (intro w hSw; (try dsimp only at hSw); go_simp; all_goals with_reducible rfl))
        try simp only [Act.put, List.setIfInBounds_toArray, List.set_cons_zero, List.set_cons_succ]
        (refine wpAnyH_take (i := 5) (oi := ⟨_, _, _, _, _, _⟩) (v := ?_) rfl (by kernel_rfl) (by kernel_rfl) (by kernel_rfl) (fun _ _ _ h => h) (Or.inl ⟨by rfl, ?_⟩) (by assumption) ?_; rotate_left 1; · (intro w hSw; (try dsimp only at hSw); go_simp; all_goals with_reducible rfl))
        try simp only [Act.put, List.setIfInBounds_toArray, List.set_cons_zero, List.set_cons_succ]
        (refine wpAnyH_take (i := 6) (oi := ⟨_, _, _, _, _, _⟩) (v := ?_) rfl (by kernel_rfl) (by kernel_rfl) (by kernel_rfl) (fun _ _ _ h => h) (Or.inl ⟨by rfl, ?_⟩) (by assumption) ?_; rotate_left 1; · (intro w hSw; (try dsimp only at hSw); go_simp; all_goals with_reducible rfl))
        try simp only [Act.put, List.setIfInBounds_toArray, List.set_cons_zero, List.set_cons_succ]
        (refine wpAnyH_take (i := 7) (oi := ⟨_, _, _, _, _, _⟩) (v := ?_) rfl (by kernel_rfl) (by kernel_rfl) (by kernel_rfl) (fun _ _ _ h => h) (Or.inl ⟨by rfl, ?_⟩) (by assumption) ?_; rotate_left 1; · (intro w hSw; (try dsimp only at hSw); go_simp; all_goals with_reducible rfl))
        try simp only [Act.put, List.setIfInBounds_toArray, List.set_cons_zero, List.set_cons_succ]
        (refine wpAnyH_take (i := 8) (oi := ⟨_, _, _, _, _, _⟩) (v := ?_) rfl (by kernel_rfl) (by kernel_rfl) (by kernel_rfl) (fun _ _ _ h => h) (Or.inl ⟨by rfl, ?_⟩) (by assumption) ?_; rotate_left 1; · (intro w hSw; (try dsimp only at hSw); go_simp; all_goals with_reducible rfl))
        try simp only [Act.put, List.setIfInBounds_toArray, List.set_cons_zero, List.set_cons_succ]
        (refine wpAnyH_take (i := 9) (oi := ⟨_, _, _, _, _, _⟩) (v := ?_) rfl (by kernel_rfl) (by kernel_rfl) (by kernel_rfl) (fun _ _ _ h => h) (Or.inl ⟨by rfl, ?_⟩) (by assumption) ?_; rotate_left 1; · (intro w hSw; (try dsimp only at hSw); go_simp; all_goals with_reducible rfl))
        try simp only [Act.put, List.setIfInBounds_toArray, List.set_cons_zero, List.set_cons_succ]
        (refine wpAnyH_take (i := 10) (oi := ⟨_, _, _, _, _, _⟩) (v := ?_) rfl (by kernel_rfl) (by kernel_rfl) (by kernel_rfl) (fun _ _ _ h => h) (Or.inl ⟨by rfl, ?_⟩) (by assumption) ?_; rotate_left 1; · (intro w hSw; (try dsimp only at hSw); go_simp; all_goals with_reducible rfl))
        try simp only [Act.put, List.setIfInBounds_toArray, List.set_cons_zero, List.set_cons_succ]
        refine wpAnyH_ready (rs := [11]) (by kernel_rfl) (by simp) ?_
        refine AllReadyH.cons (o := ⟨_, _, _, _, _, _⟩) rfl (fun Kq hKq => ?_) AllReadyH.nil
        go_simp
        clear hHeld
        (go_at_call 10; (with_reducible refine (CN.out _ _ FD.out.a (FD.out.arg HI1.out)).mono ?_); rintro e w7 ⟨rfl, S7, hw, hu⟩; have F7 := Lib.hid (FD.out.op fdNo fdNo fdNo hw hu); clear hw hu)
        refine hKq.out _ _ ?_ (fun hHeld => ?_)
        · (try dsimp only); exact HQ.out _ F7.out.below
        clear hKq Kq
        refine wpAnyH_done (by kernel_rfl) ?_ _
        go_wp2_with fail
        go_roundw
        case rel => exact ⟨k + 1, rq, S7, rfl, by omega, HN2, HU2, F7⟩
        case measure => simp [intOf]; omega
      · have hd : decide ((k : Int) < (ss.length : Int)) = false := decide_eq_false (by omega)
        have hpl2 : ps.length ≤ 40000 := by omega
        have HSL := Lib.hid (setOf_len ps)
        have HDU := Lib.hid (due_any (ps := ps) HU.out)
        go_wp2_with fail
        refine (set_any _ ps _ (HI.out _ F.out.below) hpl2).mono ?_
        rintro e w4 ⟨t, rfl, ht, hb⟩
        obtain ⟨A3, c3, rfl, hz⟩ := ht
        have F4 := Lib.hid (F.out.keep (fdWl _ _ _) fdNo fdNo fdNo hb)
        clear hz hb F
        obtain ⟨n, hn⟩ : ∃ n, n = (setOf ps).length := ⟨_, rfl⟩
        have HNE := Lib.hid hn
        have hn60 : n ≤ 60 := by have := HSL.out; omega
        rw [← hn] at HDU
        rw [← hn]
        clear hn
        have j1 : IntKind.i64.wrap (2 * (n : Int)) = 2 * (n : Int) := IntWalk.i64_in _ ⟨by omega, by omega⟩
        have j2 : IntKind.i64.wrap (2 * (n : Int) - 1) = 2 * (n : Int) - 1 := IntWalk.i64_in _ ⟨by omega, by omega⟩
        have F5 : Hid (Four W w4 (WlP 51 p l) (LsP (.slice none 0 0) []) NoP NoP S (fun _ => False) (fun _ => False) (fun _ => False)) := Lib.hid (by
          have f := F4.out
          exact ⟨f.a, ls_nil _, f.c, f.d, f.ab, f.ac, f.ad, f.bc, f.bd, f.cd, f.lo1, f.lo2, f.lo3, f.lo4, f.below⟩)
        clear F4
        go_wp2_with fail
        go_loopw [9, 11] (fun s9 s11 wr => ∃ (k : Nat) (l met : List Id2) (Am : Option Addr) (cm : Nat) (S S2 : Nat → Prop), s9 = .slice Am met.length cm ∧ s11 = .int .i64 k ∧ k ≤ 2 * n ∧ Hid (l.length ≤ 10000) ∧ Hid (met.length = k) ∧ Hid (Due ps l met (2 * n - 1 - k)) ∧ Hid (Four W wr (WlP 51 p l) (LsP (.slice Am met.length cm) met) NoP NoP S S2 (fun _ => False) (fun _ => False))) (fun _ s11 _ => 2 * n - (intOf s11).toNat)
        case atStart => exact ⟨0, l, [], none, 0, S, _, rfl, rfl, by omega, HN, Lib.hid rfl, HDU, F5⟩
        case round =>
          clear HN HU HDU F5
          obtain ⟨k, l, met, Am, cm, S, Sm, rfl, rfl, hk2, HN, HM, HDU, F⟩ := hrel
          have i3 : (0 : Int) ≤ (k : Int) := by omega
          by_cases hlt2 : k + 1 < 2 * n
          · have hd2 : decide ((k : Int) < 2 * (n : Int) - 1) = true := decide_eq_true (by omega)
            have i7 : IntKind.i64.wrap ((k : Int) + 1) = (k : Int) + 1 := IntWalk.i64_in _ ⟨by omega, by omega⟩
            have hps : ps ≠ [] := fun e => by
              have := HNE.out
              rw [e] at this
              have h0 : (setOf []).length = 0 := rfl
              omega
            go_upto_if 64 with fail
            go_cut [12] (fun s12 wx => ∃ d : Nat, s12 = .int .u32 d ∧ d < 4294967296 ∧ wx = wr)
            case first =>
              by_cases hkd : k < ds.length
              · have hd3 : decide ((k : Int) < (ds.length : Int)) = true := decide_eq_true (by omega)
                have i4 : (k : Int) < (ds.length : Int) := by omega
                obtain ⟨ae, rfl⟩ := HD.out.addr (Nat.lt_of_le_of_lt (Nat.zero_le _) hkd)
                have c0 := HD.out.first F.out.below hkd (u := .int .u32 ds[k]) rfl
                have hdk := HDD.out _ (List.getElem_mem hkd)
                rw [Nat.mul_one] at c0
                generalize ds[k] = dk at *
                go_wp2_with fail
                go_meet
                exact ⟨dk, rfl, hdk, rfl⟩
              · have hd3 : decide ((k : Int) < (ds.length : Int)) = false := decide_eq_false (by omega)
                go_wp2_with fail
                go_meet
                exact ⟨0, rfl, by decide, rfl⟩
            case rest =>
              obtain ⟨d, rfl, hdk, rfl⟩ := hcut
              obtain ⟨x, r, hx⟩ := nx_cons hps l d
              have HX := Lib.hid hx
              have HN2 := Lib.hid (show r.length ≤ 10000 by have := nx_max (d := d) HN.out (show ps.length ≤ 10000 by omega); rw [hx] at this; simp at this; omega)
              have HD2 : Hid (Due ps r (met ++ [x]) (2 * n - 1 - (k + 1))) := Lib.hid (due_step (by rw [show 2 * n - 1 - (k + 1) + 1 = 2 * n - 1 - k by omega]; exact HDU.out) hx)
              clear hx HDU
              obtain ⟨xa, xi⟩ := x
              go_wp2_with fail
              refine (next_any F.out.a (F.out.arg HI.out) hps hpl2 (by have := HN.out; omega) hdk HX.out).mono ?_
              rintro e w6 ⟨rfl, S6, hw, hu⟩
              have F6 := Lib.hid (F.out.op (fdLs _ _) fdNo fdNo hw hu)
              clear hw hu F HX
              go_upto_region 17 with fail
              have B7 := Lib.hid (F6.out.box (fdWl _ _ _) (fdLs _ _) fdNo fdNo xa xi)
              have F7 := Lib.hid (F6.out.keep (fdWl _ _ _) (fdLs _ _) fdNo fdNo (below_one w6 (.cells #[.int .i64 xa, .int .i64 xi] 24)))
              generalize World.alloc w6 (.cells #[.int .i64 xa, .int .i64 xi] 24) = w7 at *
              clear F6
              obtain ⟨p0, p1⟩ := box_cells B7.out.box
              go_wp2_with (first
                | (at_builtin; refine wpList_push_ls rfl (.tmp 78) (.tmp 80) rfl w7 Sm _ met xa xi rfl rfl F7.out.b (by have := HM.out; omega) ?_; intro g8 c8 w8 S8 h1 h2; have F8 := Lib.hid (F7.out.opB (fdWl _ _ _) fdNo fdNo h1 h2); clear h1 h2 p0 p1))
              go_roundw
              case rel => exact ⟨k + 1, r, met ++ [(xa, xi)], some ⟨g8, 0, none⟩, c8, S6, S8, by rw [List.length_append]; rfl, by go_num, by omega, HN2, Lib.hid (by rw [List.length_append, HM.out]; rfl), HD2, Lib.hid (by rw [List.length_append]; exact F8.out)⟩
              case measure => simp [intOf]; omega
          · have hd2 : decide ((k : Int) < 2 * (n : Int) - 1) = false := decide_eq_false (by omega)
            have HE : Hid (sameB (setOf met) (setOf ps) = true) := Lib.hid (due_end (by rw [← show 2 * n - 1 - k = 0 by omega]; exact HDU.out))
            go_wp2_with fail
            refine (same_any _ _ met ps _ (ls_ids F.out.b) (HI.out _ F.out.below) (by have := HM.out; omega) hpl2).mono ?_
            rw [HE.out]
            rintro e w9 ⟨rfl, hb⟩
            have B9 := Lib.hid (below_after F.out.below hb (Nat.le_refl _))
            go_wp2_with fail
            go_ret
            exact ⟨rfl, B9.out⟩
      end Go.Proofs.Ytmgkbfhkipfimaa
