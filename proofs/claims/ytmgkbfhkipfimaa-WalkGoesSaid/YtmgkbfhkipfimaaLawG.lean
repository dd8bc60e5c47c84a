/-
  A walk over a statement: the walk goes as the document's. No statement is proved in this text; it holds for every input that its premises let by.
-/
import Derived.Test.YtmgkbfhkipfimaaWlkN
import Derived.Test.YtmgkbfhkipfimaaXSetOps
set_option maxRecDepth 20000
namespace Go.Proofs.Ytmgkbfhkipfimaa
open Go Go.RowKit Sets
set_option maxHeartbeats 8000000 in
theorem lawGoes_any (v : Value) (ss : List St) (W : World) (h : Rcs encS 2 W v ss) (hR : (∀ s ∈ ss, StOk W s ∧ s.l.length ≤ 8796093022208) ∧ ss.length ≤ 8796093022208) :
    Calls Try.prog 4 #[v] W fun e w' => e = .returned (.bool true) ∧ Below W.heap.size W w' := by
  obtain ⟨hs, hll⟩ := hR
  have H := Lib.hid h
  have HS := Lib.hid hs
  have HL := Lib.hid hll
  obtain ⟨A, c, rfl, hz⟩ := h
  clear hz hs hll
  go_enter Try.func4, Try.ntmps4
  go_wp2_with fail
  refine (large_any _ ss _ H.out (fun s hs => (HS.out s hs).2) HL.out).mono ?_
  rintro e w2 ⟨⟨z, rfl, hz⟩, hb⟩
  have B2 := Lib.hid hb
  clear hb
  cases z
  case true =>
    clear hz
    go_wp2_with fail
    go_ret
    exact ⟨rfl, B2.out⟩
  case false =>
  obtain ⟨hl3, hp3⟩ := hz rfl
  have HP := Lib.hid hp3
  clear hz hp3
  go_wp2_with fail
  refine (new_any _).mono ?_
  rintro e w3 ⟨p, S0, rfl, hw, hlo, hb⟩
  have B3 := Lib.hid (below_after B2.out hb (Nat.le_refl _))
  have F3 : Hid (Four W w3 (WlP 51 p []) NoP NoP NoP S0 (fun _ => False) (fun _ => False) (fun _ => False)) := Lib.hid (Four.one hw B3.out fun k hk => Nat.le_trans B2.out.size (hlo k hk))
  clear hw hlo hb B2 B3
  go_upto_region 5 with fail
  have F4 : Hid (Four W (w3.alloc (.cells #[.slice none 0 0] 39)) (WlP 51 p []) (WlP 39 w3.heap.size []) NoP NoP S0 (fun k => k = w3.heap.size) (fun _ => False) (fun _ => False)) := Lib.hid (F3.out.opB (fdWl _ _ _) fdNo fdNo (ref_new w3) (upd_new (below_one w3 _) fun k hk => by rw [hk]; exact Nat.le_refl _))
  generalize World.alloc w3 (.cells #[.slice none 0 0] 39) = w4 at *
  generalize w3.heap.size = q at *
  clear F3
  go_wp2_with fail
  go_loopw [5] (fun s5 wr => ∃ (k : Nat) (l : List Id2) (S1 S2 : Nat → Prop), s5 = .int .i64 k ∧ k ≤ ss.length ∧ Hid (l.length ≤ 10000) ∧ Hid (Four W wr (WlP 51 p l) (WlP 39 q l) NoP NoP S1 S2 (fun _ => False) (fun _ => False))) (fun s5 _ => ss.length - (intOf s5).toNat)
  case atStart => exact ⟨0, [], S0, _, rfl, by omega, Lib.hid (by simp), F4⟩
  case round =>
    clear F4
    obtain ⟨k, l, S1, S2, rfl, hk, HN, F⟩ := hrel
    have i3 : (0 : Int) ≤ (k : Int) := by omega
    by_cases hlt : k < ss.length
    · have hd : decide ((k : Int) < (ss.length : Int)) = true := decide_eq_true (by omega)
      have i4 : (k : Int) < (ss.length : Int) := by omega
      have i7 : IntKind.i64.wrap ((k : Int) + 1) = (k : Int) + 1 := IntWalk.i64_in _ ⟨by omega, by omega⟩
      obtain ⟨ad, rfl⟩ := H.out.addr (Nat.lt_of_le_of_lt (Nat.zero_le _) hlt)
      have HQ := Lib.hid fun w' (hb : Below W.heap.size W w') => step_cells H.out hlt hb
      have HI := Lib.hid fun w' (hb : Below W.heap.size W w') => ((HS.out _ (List.getElem_mem hlt)).1.below hb).ids
      have hd1 := (HS.out _ (List.getElem_mem hlt)).1.d32
      have hn1 := HP.out _ (List.getElem_mem hlt)
      unfold St.val at HI
      generalize ss[k] = s at *
      obtain ⟨A1, c1, ps, d1⟩ := s
      dsimp only at HQ HI hd1 hn1
      have CA : Hid (∀ (u : Value) (S : Nat → Prop) (w : World), Wl 51 p l S w → (∀ W', Fr S w W' → Ids W' u ps) → Calls Try.prog 10 #[.pointer (some ⟨p, 0, none⟩), u, .int .u32 d1] w fun e w' => e = Idb (nxX l ps d1) (nxB ps) ∧ ∃ S', Wl 51 p (nxR l ps d1) S' w' ∧ Upd S w w' S') :=
        Lib.hid fun u S w h1 h2 => next_all h1 h2 (by omega) (by have := HN.out; omega) hd1
      have CB : Hid (∀ (S : Nat → Prop) (w : World), Wl 39 q l S w → (∀ W', Fr S w W' → Ids W' (.slice A1 ps.length c1) ps) → Calls Try.prog 19 #[.pointer (some ⟨q, 0, none⟩), .slice A1 ps.length c1, .int .u32 d1] w fun e w' => e = Idb (nxX l ps d1) (nxB ps) ∧ ∃ S', Wl 39 q (nxR l ps d1) S' w' ∧ Upd S w w' S') :=
        Lib.hid fun S w h1 h2 => refNext_all h1 h2 (by omega) hd1
      have CR : Hid (∀ (u : Value) (w : World), Ids w u ps → Calls Try.prog 15 #[u, .int .u32 d1] w (RowN (rowP ps d1) w)) := Lib.hid fun u w h => row_any u ps d1 w h (by omega) hd1
      have CD : Hid (∀ (u : Value) (w : World), Ids w u ps → Calls Try.prog 21 #[u, .int .u32 d1] w (RowN (rowP ps d1) w)) := Lib.hid fun u w h => refRow_any u ps d1 w h (by omega) hd1
      have HRL := Lib.hid (show (rowP ps d1).length ≤ 10000 by rw [rowP_len]; exact Nat.le_trans (setOf_len ps) hn1)
      have HN2 := Lib.hid (nxR_len (d := d1) HN.out hn1)
      have HPL := Lib.hid hn1
      generalize nxX l ps d1 = xq at *
      generalize nxR l ps d1 = rq at *
      generalize nxB ps = bq at *
      generalize rowP ps d1 = Z at *
      obtain ⟨xa, xi⟩ := xq
      generalize hn : ps.length = n1 at *
      have HPS := Lib.hid hn
      clear hn
      have M0 := Lib.hid (owns_made wr wr.heap.size (Nat.le_refl _))
      have B0 := Lib.hid (below_one wr (.cells #[] 24))
      obtain ⟨c0, -⟩ := HQ.out (wr.alloc (.cells #[] 24)) (below_after F.out.below B0.out (Nat.le_refl _))
      go_wp2_with (first
        | (at_builtin; refine wpList_append_list rfl (.tmp 25) (.tmp 30) rfl _ wr.heap.size _ _ [] ps rfl rfl M0.out (HI.out _ (below_after F.out.below B0.out (Nat.le_refl _))) (by have := HPS.out; simp; omega) B0.out.size ?_; intro v5 w5 h1 h2; have V5 := Lib.hid (show RowV w5 wr.heap.size v5 ps from rowV_owns h1); have B5 := Lib.hid (B0.out.trans h2); clear h1 h2 c0 M0 B0; have Q5 := Lib.hid (HQ.out w5 (below_after F.out.below B5.out (Nat.le_refl _))); obtain ⟨Ai, ci, rfl, -⟩ := V5.out.ids; have F5 := Lib.hid (F.out.opC (fdWl _ _ _) (fdWl _ _ _) fdNo (rw_new V5.out) (upd_new B5.out (rw_lo V5.out))); clear V5 B5 F; obtain ⟨c0, c1'⟩ := Q5.out))
      refine (CR.out _ _ (rw_ids F5.out.c)).mono ?_
      rintro e w6 ⟨t, rfl, hv, hb⟩
      have V6 := Lib.hid hv
      obtain ⟨Ar, cr, rfl, -⟩ := hv.ids
      have F6 := Lib.hid (F5.out.opD (fdWl _ _ _) (fdWl _ _ _) (fdRw _ _) (rw_new V6.out) (upd_new hb (rw_lo V6.out)))
      clear hv hb V6 F5 c0 c1' Q5
      obtain ⟨c0, c1'⟩ := HQ.out w6 F6.out.below
      go_wp2_with fail
      refine (CA.out _ _ _ F6.out.a F6.out.mine).mono ?_
      rintro e w7 ⟨rfl, S7, hw, hu⟩
      have F7 := Lib.hid (F6.out.op (fdWl _ _ _) (fdRw _ _) (fdRw _ _) hw hu)
      clear hw hu F6 c0 c1'
      go_upto_region 11 with fail
      have B8 := Lib.hid (F7.out.box (fdWl _ _ _) (fdWl _ _ _) (fdRw _ _) (fdRw _ _) xa xi)
      have F8 := Lib.hid (F7.out.keep (fdWl _ _ _) (fdWl _ _ _) (fdRw _ _) (fdRw _ _) (below_one w7 (.cells #[.int .i64 xa, .int .i64 xi] 24)))
      generalize World.alloc w7 (.cells #[.int .i64 xa, .int .i64 xi] 24) = w8 at *
      generalize w7.heap.size = gx at *
      clear F7
      generalize hS3 : (fun k => (Value.slice Ai ps.length ci).ownBlock = some k) = S3 at *
      generalize hS4 : (fun k => (Value.slice Ar Z.length cr).ownBlock = some k) = S4 at *
      clear hS3 hS4
      go_upto_region 11 with fail
      go_cut [10, 11] (fun s10 s11 wx => ∃ (gy : Nat) (S' : Nat → Prop), s10 = .pointer (some ⟨gy, 0, none⟩) ∧ s11 = .bool bq ∧ Hid (Four W wx (WlP 51 p rq) (WlP 39 q rq) (RwP (.slice Ai ps.length ci) ps) (RwP (.slice Ar Z.length cr) Z) S7 S' S3 S4) ∧ Hid (Bq W wx S7 S' S3 S4 gy xa xi) ∧ Hid (Bq W wx S7 S' S3 S4 gx xa xi))
      case first =>
        have Fy0 := Lib.hid (F8.out.keep (fdWl _ _ _) (fdWl _ _ _) (fdRw _ _) (fdRw _ _) (Below.refl _ _).drew)
        have B8y0 := Lib.hid (B8.out.keep (Below.refl _ _).drew)
        refine wp_region_held_drew (S := fun w' => w'.cell? (ad.add (k * 2)) = some (.slice A1 n1 c1) ∧ w'.cell? ⟨(ad.add (k * 2)).block, (ad.add (k * 2)).off + 1, none⟩ = some (.int .u32 d1)) (by kernel_rfl) ?_ (fun hHeld => ?_)
        · exact HQ.out _ Fy0.out.below
        generalize World.drew w8 = y0 at *
        (refine wpAnyH_take (i := 0) (oi := ⟨_, _, _, _, _, _⟩) (v := ?_) rfl (by kernel_rfl) (by kernel_rfl) (by kernel_rfl) (fun _ _ _ h => h) (Or.inl ⟨by rfl, ?_⟩) (by assumption) ?_; rotate_left 1; · (intro w hSw; (try dsimp only at hSw); go_simp; all_goals with_reducible rfl))
        try simp only [Act.put, List.setIfInBounds_toArray, List.set_cons_zero, List.set_cons_succ]
        (refine wpAnyH_take (i := 1) (oi := ⟨_, _, _, _, _, _⟩) (v := ?_) rfl (by kernel_rfl) (by kernel_rfl) (by kernel_rfl) (fun _ _ _ h => h) (Or.inl ⟨by rfl, ?_⟩) (by assumption) ?_; rotate_left 1; · (intro w hSw; (try dsimp only at hSw); go_simp; all_goals with_reducible rfl))
        try simp only [Act.put, List.setIfInBounds_toArray, List.set_cons_zero, List.set_cons_succ]
        (refine wpAnyH_take (i := 2) (oi := ⟨_, _, _, _, _, _⟩) (v := ?_) rfl (by kernel_rfl) (by kernel_rfl) (by kernel_rfl) (fun _ _ _ h => h) (Or.inl ⟨by rfl, ?_⟩) (by assumption) ?_; rotate_left 1; · (intro w hSw; (try dsimp only at hSw); go_simp; all_goals with_reducible rfl))
        try simp only [Act.put, List.setIfInBounds_toArray, List.set_cons_zero, List.set_cons_succ]
        (refine wpAnyH_take (i := 3) (oi := ⟨_, _, _, _, _, _⟩) (v := ?_) rfl (by kernel_rfl) (by kernel_rfl) (by kernel_rfl) (fun _ _ _ h => h) (Or.inl ⟨by rfl, ?_⟩) (by assumption) ?_; rotate_left 1; · (intro w hSw; (try dsimp only at hSw); go_simp; all_goals with_reducible rfl))
        try simp only [Act.put, List.setIfInBounds_toArray, List.set_cons_zero, List.set_cons_succ]
        (refine wpAnyH_take (i := 4) (oi := ⟨_, _, _, _, _, _⟩) (v := ?_) rfl (by kernel_rfl) (by kernel_rfl) (by kernel_rfl) (fun _ _ _ h => h) (Or.inl ⟨by rfl, ?_⟩) (by assumption) ?_; rotate_left 1; · (intro w hSw; (try dsimp only at hSw); go_simp; all_goals with_reducible rfl))
        try simp only [Act.put, List.setIfInBounds_toArray, List.set_cons_zero, List.set_cons_succ]
        (refine wpAnyH_take (i := 5) (oi := ⟨_, _, _, _, _, _⟩) (v := ?_) rfl (by kernel_rfl) (by kernel_rfl) (by kernel_rfl) (fun _ _ _ h => h) (Or.inl ⟨by rfl, ?_⟩) (by assumption) ?_; rotate_left 1; · (intro w hSw; (try dsimp only at hSw); go_simp; all_goals with_reducible rfl))
        try simp only [Act.put, List.setIfInBounds_toArray, List.set_cons_zero, List.set_cons_succ]
        (refine wpAnyH_take (i := 6) (oi := ⟨_, _, _, _, _, _⟩) (v := ?_) rfl (by kernel_rfl) (by kernel_rfl) (by kernel_rfl) (fun _ _ _ h => h) (Or.inl ⟨by rfl, ?_⟩) (by assumption) ?_; rotate_left 1; · (intro w hSw; (try dsimp only at hSw); go_simp; all_goals with_reducible rfl))
        try simp only [Act.put, List.setIfInBounds_toArray, List.set_cons_zero, List.set_cons_succ]
        (refine wpAnyH_take (i := 7) (oi := ⟨_, _, _, _, _, _⟩) (v := ?_) rfl (by kernel_rfl) (by kernel_rfl) (by kernel_rfl) (fun _ _ _ h => h) (Or.inl ⟨by rfl, ?_⟩) (by assumption) ?_; rotate_left 1; · (intro w hSw; (try dsimp only at hSw); go_simp; all_goals with_reducible rfl))
        try simp only [Act.put, List.setIfInBounds_toArray, List.set_cons_zero, List.set_cons_succ]
        (refine wpAnyH_take (i := 8) (oi := ⟨_, _, _, _, _, _⟩) (v := ?_) rfl (by kernel_rfl) (by kernel_rfl) (by kernel_rfl) (fun _ _ _ h => h) (Or.inl ⟨by rfl, ?_⟩) (by assumption) ?_; rotate_left 1; · (intro w hSw; (try dsimp only at hSw); go_simp; all_goals with_reducible rfl))
        try simp only [Act.put, List.setIfInBounds_toArray, List.set_cons_zero, List.set_cons_succ]
        (refine wpAnyH_take (i := 9) (oi := ⟨_, _, _, _, _, _⟩) (v := ?_) rfl (by kernel_rfl) (by kernel_rfl) (by kernel_rfl) (fun _ _ _ h => h) (Or.inl ⟨by rfl, ?_⟩) (by assumption) ?_; rotate_left 1; · (intro w hSw; (try dsimp only at hSw); go_simp; all_goals with_reducible rfl))
        try simp only [Act.put, List.setIfInBounds_toArray, List.set_cons_zero, List.set_cons_succ]
        (refine wpAnyH_take (i := 10) (oi := ⟨_, _, _, _, _, _⟩) (v := ?_) rfl (by kernel_rfl) (by kernel_rfl) (by kernel_rfl) (fun _ _ _ h => h) (Or.inl ⟨by rfl, ?_⟩) (by assumption) ?_; rotate_left 1; · (intro w hSw; (try dsimp only at hSw); go_simp; all_goals with_reducible rfl))
        try simp only [Act.put, List.setIfInBounds_toArray, List.set_cons_zero, List.set_cons_succ]
        refine wpAnyH_ready (rs := [11, 15]) (by kernel_rfl) (by simp) ?_
        refine AllReadyH.cons (o := ⟨_, _, _, _, _, _⟩) rfl (fun Kq hKq => ?_) (AllReadyH.cons (o := ⟨_, _, _, _, _, _⟩) rfl (fun Kq hKq => ?_) (AllReadyH.nil))
        · go_simp
          clear hHeld
          go_at_call 19; (with_reducible refine (CB.out _ _ Fy0.out.b (Fy0.out.argB HI.out)).mono ?_); rintro e y1 ⟨rfl, Sy1, hw, hu⟩
          have Fy1 := Lib.hid (Fy0.out.opB (fdWl _ _ _) (fdRw _ _) (fdRw _ _) hw hu)
          have B8y1 := Lib.hid (B8y0.out.opB hu)
          clear hw hu
          refine hKq.out _ _ ?_ (fun hHeld => ?_)
          · (try dsimp only); exact HQ.out _ Fy1.out.below
          clear hKq Kq
          (refine wpAnyH_take (i := 12) (oi := ⟨_, _, _, _, _, _⟩) (v := ?_) rfl (by kernel_rfl) (by kernel_rfl) (by kernel_rfl) (fun _ _ _ h => h) (Or.inl ⟨by rfl, ?_⟩) (by assumption) ?_; rotate_left 1; · (intro w hSw; (try dsimp only at hSw); go_simp; all_goals with_reducible rfl))
          try simp only [Act.put, List.setIfInBounds_toArray, List.set_cons_zero, List.set_cons_succ]
          (refine wpAnyH_take (i := 13) (oi := ⟨_, _, _, _, _, _⟩) (v := ?_) rfl (by kernel_rfl) (by kernel_rfl) (by kernel_rfl) (fun _ _ _ h => h) (Or.inl ⟨by rfl, ?_⟩) (by assumption) ?_; rotate_left 1; · (intro w hSw; (try dsimp only at hSw); go_simp; all_goals with_reducible rfl))
          try simp only [Act.put, List.setIfInBounds_toArray, List.set_cons_zero, List.set_cons_succ]
          (refine wpAnyH_take (i := 14) (oi := ⟨_, _, _, _, _, _⟩) (v := ?_) rfl (by kernel_rfl) (by kernel_rfl) (by kernel_rfl) (fun _ _ _ h => h) (Or.inl ⟨by rfl, ?_⟩) (by assumption) ?_; rotate_left 1; · (intro w hSw; (try dsimp only at hSw); go_simp; all_goals with_reducible rfl))
          try simp only [Act.put, List.setIfInBounds_toArray, List.set_cons_zero, List.set_cons_succ]
          refine wpAnyH_ready (rs := [15]) (by kernel_rfl) (by simp) ?_
          refine AllReadyH.cons (o := ⟨_, _, _, _, _, _⟩) rfl (fun Kq hKq => ?_) (AllReadyH.nil)
          go_simp
          clear hHeld
          have By2 := Lib.hid (Fy1.out.box (fdWl _ _ _) (fdWl _ _ _) (fdRw _ _) (fdRw _ _) 0 0)
          have BB := Lib.hid (below_one y1 (.cells #[.int .i64 0, .int .i64 0] 24))
          have Fy2 := Lib.hid (Fy1.out.keep (fdWl _ _ _) (fdWl _ _ _) (fdRw _ _) (fdRw _ _) BB.out)
          have B8y2 := Lib.hid (B8y1.out.keep BB.out)
          have NB8y := Lib.hid (Nat.ne_of_lt (box_lt B8y1.out.box))
          clear BB
          generalize World.alloc y1 (.cells #[.int .i64 0, .int .i64 0] 24) = y2 at *
          generalize hgy : y1.heap.size = gy at *
          clear hgy
          refine hKq.out _ _ ?_ (fun hHeld => ?_)
          · (try dsimp only); exact HQ.out _ Fy2.out.below
          clear hKq Kq
          try simp only [Act.put, List.setIfInBounds_toArray, List.set_cons_zero, List.set_cons_succ]
          refine wpAnyH_ready (rs := [16]) (by kernel_rfl) (by simp) ?_
          refine AllReadyH.cons (o := ⟨_, _, _, _, _, _⟩) rfl (fun Kq hKq => ?_) (AllReadyH.nil)
          obtain ⟨p0, p1⟩ := box_cells By2.out.box
          obtain ⟨f0, f1⟩ := box_free By2.out.box
          go_simp
          clear hHeld
          have By3 := Lib.hid (By2.out.put xa xi)
          have FF := Lib.hid (fr_put y2 gy xa xi)
          have Fy3 := Lib.hid (Fy2.out.put (fdWl _ _ _) (fdWl _ _ _) (fdRw _ _) (fdRw _ _) By2.out FF.out)
          have B8y3 := Lib.hid (B8y2.out.other FF.out NB8y.out)
          clear FF p0 p1 f0 f1
          generalize World.setCell (World.setCell y2 ⟨gy, 0, none⟩ (.int .i64 xa)) ⟨gy, 1, none⟩ (.int .i64 xi) = y3 at *
          refine hKq.out _ _ ?_ (fun hHeld => ?_)
          · (try dsimp only); exact HQ.out _ Fy3.out.below
          clear hKq Kq
          try simp only [Act.put, List.setIfInBounds_toArray, List.set_cons_zero, List.set_cons_succ]
          (refine wpAnyH_take (i := 17) (oi := ⟨_, _, _, _, _, _⟩) (v := ?_) rfl (by kernel_rfl) (by kernel_rfl) (by kernel_rfl) (fun _ _ _ h => h) (Or.inl ⟨by rfl, ?_⟩) (by assumption) ?_; rotate_left 1; · (intro w hSw; (try dsimp only at hSw); go_simp; all_goals with_reducible rfl))
          try simp only [Act.put, List.setIfInBounds_toArray, List.set_cons_zero, List.set_cons_succ]
          refine wpAnyH_done (by kernel_rfl) ?_ _
          go_wp2_with fail
          go_meet
          exact ⟨gy, Sy1, rfl, rfl, Fy3, By3, B8y3⟩
        · go_simp
          clear hHeld
          have By1 := Lib.hid (Fy0.out.box (fdWl _ _ _) (fdWl _ _ _) (fdRw _ _) (fdRw _ _) 0 0)
          have BB := Lib.hid (below_one y0 (.cells #[.int .i64 0, .int .i64 0] 24))
          have Fy1 := Lib.hid (Fy0.out.keep (fdWl _ _ _) (fdWl _ _ _) (fdRw _ _) (fdRw _ _) BB.out)
          have B8y1 := Lib.hid (B8y0.out.keep BB.out)
          have NB8y := Lib.hid (Nat.ne_of_lt (box_lt B8y0.out.box))
          clear BB
          generalize World.alloc y0 (.cells #[.int .i64 0, .int .i64 0] 24) = y1 at *
          generalize hgy : y0.heap.size = gy at *
          clear hgy
          refine hKq.out _ _ ?_ (fun hHeld => ?_)
          · (try dsimp only); exact HQ.out _ Fy1.out.below
          clear hKq Kq
          try simp only [Act.put, List.setIfInBounds_toArray, List.set_cons_zero, List.set_cons_succ]
          refine wpAnyH_ready (rs := [11]) (by kernel_rfl) (by simp) ?_
          refine AllReadyH.cons (o := ⟨_, _, _, _, _, _⟩) rfl (fun Kq hKq => ?_) (AllReadyH.nil)
          go_simp
          clear hHeld
          go_at_call 19; (with_reducible refine (CB.out _ _ Fy1.out.b (Fy1.out.argB HI.out)).mono ?_); rintro e y2 ⟨rfl, Sy2, hw, hu⟩
          have Fy2 := Lib.hid (Fy1.out.opB (fdWl _ _ _) (fdRw _ _) (fdRw _ _) hw hu)
          have B8y2 := Lib.hid (B8y1.out.opB hu)
          have By2 := Lib.hid (By1.out.opB hu)
          clear hw hu
          refine hKq.out _ _ ?_ (fun hHeld => ?_)
          · (try dsimp only); exact HQ.out _ Fy2.out.below
          clear hKq Kq
          (refine wpAnyH_take (i := 12) (oi := ⟨_, _, _, _, _, _⟩) (v := ?_) rfl (by kernel_rfl) (by kernel_rfl) (by kernel_rfl) (fun _ _ _ h => h) (Or.inl ⟨by rfl, ?_⟩) (by assumption) ?_; rotate_left 1; · (intro w hSw; (try dsimp only at hSw); go_simp; all_goals with_reducible rfl))
          try simp only [Act.put, List.setIfInBounds_toArray, List.set_cons_zero, List.set_cons_succ]
          (refine wpAnyH_take (i := 13) (oi := ⟨_, _, _, _, _, _⟩) (v := ?_) rfl (by kernel_rfl) (by kernel_rfl) (by kernel_rfl) (fun _ _ _ h => h) (Or.inl ⟨by rfl, ?_⟩) (by assumption) ?_; rotate_left 1; · (intro w hSw; (try dsimp only at hSw); go_simp; all_goals with_reducible rfl))
          try simp only [Act.put, List.setIfInBounds_toArray, List.set_cons_zero, List.set_cons_succ]
          (refine wpAnyH_take (i := 14) (oi := ⟨_, _, _, _, _, _⟩) (v := ?_) rfl (by kernel_rfl) (by kernel_rfl) (by kernel_rfl) (fun _ _ _ h => h) (Or.inl ⟨by rfl, ?_⟩) (by assumption) ?_; rotate_left 1; · (intro w hSw; (try dsimp only at hSw); go_simp; all_goals with_reducible rfl))
          try simp only [Act.put, List.setIfInBounds_toArray, List.set_cons_zero, List.set_cons_succ]
          refine wpAnyH_ready (rs := [16]) (by kernel_rfl) (by simp) ?_
          refine AllReadyH.cons (o := ⟨_, _, _, _, _, _⟩) rfl (fun Kq hKq => ?_) (AllReadyH.nil)
          obtain ⟨p0, p1⟩ := box_cells By2.out.box
          obtain ⟨f0, f1⟩ := box_free By2.out.box
          go_simp
          clear hHeld
          have By3 := Lib.hid (By2.out.put xa xi)
          have FF := Lib.hid (fr_put y2 gy xa xi)
          have Fy3 := Lib.hid (Fy2.out.put (fdWl _ _ _) (fdWl _ _ _) (fdRw _ _) (fdRw _ _) By2.out FF.out)
          have B8y3 := Lib.hid (B8y2.out.other FF.out NB8y.out)
          clear FF p0 p1 f0 f1
          generalize World.setCell (World.setCell y2 ⟨gy, 0, none⟩ (.int .i64 xa)) ⟨gy, 1, none⟩ (.int .i64 xi) = y3 at *
          refine hKq.out _ _ ?_ (fun hHeld => ?_)
          · (try dsimp only); exact HQ.out _ Fy3.out.below
          clear hKq Kq
          try simp only [Act.put, List.setIfInBounds_toArray, List.set_cons_zero, List.set_cons_succ]
          (refine wpAnyH_take (i := 17) (oi := ⟨_, _, _, _, _, _⟩) (v := ?_) rfl (by kernel_rfl) (by kernel_rfl) (by kernel_rfl) (fun _ _ _ h => h) (Or.inl ⟨by rfl, ?_⟩) (by assumption) ?_; rotate_left 1; · (intro w hSw; (try dsimp only at hSw); go_simp; all_goals with_reducible rfl))
          try simp only [Act.put, List.setIfInBounds_toArray, List.set_cons_zero, List.set_cons_succ]
          refine wpAnyH_done (by kernel_rfl) ?_ _
          go_wp2_with fail
          go_meet
          exact ⟨gy, Sy2, rfl, rfl, Fy3, By3, B8y3⟩
      case rest =>
        obtain ⟨gy, S8, rfl, rfl, F9, C9, B9⟩ := hcut
        rename World => w9
        obtain ⟨Aq, cq, hcq⟩ := wl_cell F9.out.b
        have HQ12 := Lib.hid fun w' (hb : Below w9.heap.size w9 w') => (show (w'.cell? (ad.add (k * 2)) = some (.slice A1 n1 c1) ∧ w'.cell? ⟨(ad.add (k * 2)).block, (ad.add (k * 2)).off + 1, none⟩ = some (.int .u32 d1)) ∧ (w'.cell? ⟨gx, 0, none⟩ = some (.int .i64 xa) ∧ w'.cell? ⟨gx, 1, none⟩ = some (.int .i64 xi)) ∧ (w'.cell? ⟨gy, 0, none⟩ = some (.int .i64 xa) ∧ w'.cell? ⟨gy, 1, none⟩ = some (.int .i64 xi)) ∧ w'.cell? ⟨q, 0, none⟩ = some (.slice Aq rq.length cq) from ⟨HQ.out _ (F9.out.below.trans (hb.mono F9.out.below.size)), box_cells (box_below B9.out.box hb), box_cells (box_below C9.out.box hb), hcq _ hb⟩)
        have GD := Lib.hid (F9.out.keep (fdWl _ _ _) (fdWl _ _ _) (fdRw _ _) (fdRw _ _) (Below.refl _ _).drew)
        have BD := Lib.hid (show Below w9.heap.size w9 w9.drew from (Below.refl _ _).drew)
        have HZZ := Lib.hid (show sameB Z Z = true from decide_eq_true rfl)
        have HPP := Lib.hid (show sameB ps ps = true from decide_eq_true rfl)
        clear F9 C9 B9 hcq
        go_wp2_with fail
        refine wp_region_held_drew (S := fun w' => (w'.cell? (ad.add (k * 2)) = some (.slice A1 n1 c1) ∧ w'.cell? ⟨(ad.add (k * 2)).block, (ad.add (k * 2)).off + 1, none⟩ = some (.int .u32 d1)) ∧ (w'.cell? ⟨gx, 0, none⟩ = some (.int .i64 xa) ∧ w'.cell? ⟨gx, 1, none⟩ = some (.int .i64 xi)) ∧ (w'.cell? ⟨gy, 0, none⟩ = some (.int .i64 xa) ∧ w'.cell? ⟨gy, 1, none⟩ = some (.int .i64 xi)) ∧ w'.cell? ⟨q, 0, none⟩ = some (.slice Aq rq.length cq)) (by kernel_rfl) ?_ (fun hHeld => ?_)
        · exact HQ12.out _ BD.out
        (refine wpAnyH_take (i := 0) (oi := ⟨_, _, _, _, _, _⟩) (v := ?_) rfl (by kernel_rfl) (by kernel_rfl) (by kernel_rfl) (fun _ _ _ h => h) (Or.inl ⟨by rfl, ?_⟩) (by assumption) ?_; rotate_left 1; · (intro w hSw; (try dsimp only at hSw); go_simp; all_goals with_reducible rfl))
        try simp only [Act.put, List.setIfInBounds_toArray, List.set_cons_zero, List.set_cons_succ]
        (refine wpAnyH_take (i := 1) (oi := ⟨_, _, _, _, _, _⟩) (v := ?_) rfl (by kernel_rfl) (by kernel_rfl) (by kernel_rfl) (fun _ _ _ h => h) (Or.inl ⟨by rfl, ?_⟩) (by assumption) ?_; rotate_left 1; · (intro w hSw; (try dsimp only at hSw); go_simp; all_goals with_reducible rfl))
        try simp only [Act.put, List.setIfInBounds_toArray, List.set_cons_zero, List.set_cons_succ]
        (refine wpAnyH_take (i := 2) (oi := ⟨_, _, _, _, _, _⟩) (v := ?_) rfl (by kernel_rfl) (by kernel_rfl) (by kernel_rfl) (fun _ _ _ h => h) (Or.inl ⟨by rfl, ?_⟩) (by assumption) ?_; rotate_left 1; · (intro w hSw; (try dsimp only at hSw); go_simp; all_goals with_reducible rfl))
        try simp only [Act.put, List.setIfInBounds_toArray, List.set_cons_zero, List.set_cons_succ]
        (refine wpAnyH_take (i := 3) (oi := ⟨_, _, _, _, _, _⟩) (v := ?_) rfl (by kernel_rfl) (by kernel_rfl) (by kernel_rfl) (fun _ _ _ h => h) (Or.inl ⟨by rfl, ?_⟩) (by assumption) ?_; rotate_left 1; · (intro w hSw; (try dsimp only at hSw); go_simp; all_goals with_reducible rfl))
        try simp only [Act.put, List.setIfInBounds_toArray, List.set_cons_zero, List.set_cons_succ]
        first | (refine wpAnyH_take (i := 4) (oi := ⟨_, _, _, _, _, _⟩) (v := ?_) rfl (by kernel_rfl) (by kernel_rfl) (by kernel_rfl) (fun _ _ _ h => h) (Or.inl ⟨by rfl, ?_⟩) (by assumption) ?_; rotate_left 1; · (intro w hSw; (try dsimp only at hSw); go_simp; all_goals with_reducible rfl)) | refine wpAnyH_take (i := 4) (oi := ⟨_, _, _, _, _, _⟩) (v := undef) rfl (by kernel_rfl) (by kernel_rfl) (by kernel_rfl) (fun _ _ _ h => h) (Or.inr ⟨by kernel_rfl, rfl⟩) (by assumption) ?_
        try simp only [Act.put, List.setIfInBounds_toArray, List.set_cons_zero, List.set_cons_succ]
        first | (refine wpAnyH_take (i := 5) (oi := ⟨_, _, _, _, _, _⟩) (v := ?_) rfl (by kernel_rfl) (by kernel_rfl) (by kernel_rfl) (fun _ _ _ h => h) (Or.inl ⟨by rfl, ?_⟩) (by assumption) ?_; rotate_left 1; · (intro w hSw; (try dsimp only at hSw); go_simp; all_goals with_reducible rfl)) | refine wpAnyH_take (i := 5) (oi := ⟨_, _, _, _, _, _⟩) (v := undef) rfl (by kernel_rfl) (by kernel_rfl) (by kernel_rfl) (fun _ _ _ h => h) (Or.inr ⟨by kernel_rfl, rfl⟩) (by assumption) ?_
        try simp only [Act.put, List.setIfInBounds_toArray, List.set_cons_zero, List.set_cons_succ]
        first | (refine wpAnyH_take (i := 6) (oi := ⟨_, _, _, _, _, _⟩) (v := ?_) rfl (by kernel_rfl) (by kernel_rfl) (by kernel_rfl) (fun _ _ _ h => h) (Or.inl ⟨by rfl, ?_⟩) (by assumption) ?_; rotate_left 1; · (intro w hSw; (try dsimp only at hSw); go_simp; all_goals with_reducible rfl)) | refine wpAnyH_take (i := 6) (oi := ⟨_, _, _, _, _, _⟩) (v := undef) rfl (by kernel_rfl) (by kernel_rfl) (by kernel_rfl) (fun _ _ _ h => h) (Or.inr ⟨by kernel_rfl, rfl⟩) (by assumption) ?_
        try simp only [Act.put, List.setIfInBounds_toArray, List.set_cons_zero, List.set_cons_succ]
        (refine wpAnyH_take (i := 7) (oi := ⟨_, _, _, _, _, _⟩) (v := ?_) rfl (by kernel_rfl) (by kernel_rfl) (by kernel_rfl) (fun _ _ _ h => h) (Or.inl ⟨by rfl, ?_⟩) (by assumption) ?_; rotate_left 1; · (intro w hSw; (try dsimp only at hSw); go_simp; all_goals with_reducible rfl))
        try simp only [Act.put, List.setIfInBounds_toArray, List.set_cons_zero, List.set_cons_succ]
        (refine wpAnyH_take (i := 8) (oi := ⟨_, _, _, _, _, _⟩) (v := ?_) rfl (by kernel_rfl) (by kernel_rfl) (by kernel_rfl) (fun _ _ _ h => h) (Or.inl ⟨by rfl, ?_⟩) (by assumption) ?_; rotate_left 1; · (intro w hSw; (try dsimp only at hSw); go_simp; all_goals with_reducible rfl))
        try simp only [Act.put, List.setIfInBounds_toArray, List.set_cons_zero, List.set_cons_succ]
        first | (refine wpAnyH_take (i := 9) (oi := ⟨_, _, _, _, _, _⟩) (v := ?_) rfl (by kernel_rfl) (by kernel_rfl) (by kernel_rfl) (fun _ _ _ h => h) (Or.inl ⟨by rfl, ?_⟩) (by assumption) ?_; rotate_left 1; · (intro w hSw; (try dsimp only at hSw); go_simp; all_goals with_reducible rfl)) | refine wpAnyH_take (i := 9) (oi := ⟨_, _, _, _, _, _⟩) (v := undef) rfl (by kernel_rfl) (by kernel_rfl) (by kernel_rfl) (fun _ _ _ h => h) (Or.inr ⟨by kernel_rfl, rfl⟩) (by assumption) ?_
        try simp only [Act.put, List.setIfInBounds_toArray, List.set_cons_zero, List.set_cons_succ]
        first | (refine wpAnyH_take (i := 11) (oi := ⟨_, _, _, _, _, _⟩) (v := ?_) rfl (by kernel_rfl) (by kernel_rfl) (by kernel_rfl) (fun _ _ _ h => h) (Or.inl ⟨by rfl, ?_⟩) (by assumption) ?_; rotate_left 1; · (intro w hSw; (try dsimp only at hSw); go_simp; all_goals with_reducible rfl)) | refine wpAnyH_take (i := 11) (oi := ⟨_, _, _, _, _, _⟩) (v := undef) rfl (by kernel_rfl) (by kernel_rfl) (by kernel_rfl) (fun _ _ _ h => h) (Or.inr ⟨by kernel_rfl, rfl⟩) (by assumption) ?_
        try simp only [Act.put, List.setIfInBounds_toArray, List.set_cons_zero, List.set_cons_succ]
        first | (refine wpAnyH_take (i := 12) (oi := ⟨_, _, _, _, _, _⟩) (v := ?_) rfl (by kernel_rfl) (by kernel_rfl) (by kernel_rfl) (fun _ _ _ h => h) (Or.inl ⟨by rfl, ?_⟩) (by assumption) ?_; rotate_left 1; · (intro w hSw; (try dsimp only at hSw); go_simp; all_goals with_reducible rfl)) | refine wpAnyH_take (i := 12) (oi := ⟨_, _, _, _, _, _⟩) (v := undef) rfl (by kernel_rfl) (by kernel_rfl) (by kernel_rfl) (fun _ _ _ h => h) (Or.inr ⟨by kernel_rfl, rfl⟩) (by assumption) ?_
        try simp only [Act.put, List.setIfInBounds_toArray, List.set_cons_zero, List.set_cons_succ]
        first | (refine wpAnyH_take (i := 13) (oi := ⟨_, _, _, _, _, _⟩) (v := ?_) rfl (by kernel_rfl) (by kernel_rfl) (by kernel_rfl) (fun _ _ _ h => h) (Or.inl ⟨by rfl, ?_⟩) (by assumption) ?_; rotate_left 1; · (intro w hSw; (try dsimp only at hSw); go_simp; all_goals with_reducible rfl)) | refine wpAnyH_take (i := 13) (oi := ⟨_, _, _, _, _, _⟩) (v := undef) rfl (by kernel_rfl) (by kernel_rfl) (by kernel_rfl) (fun _ _ _ h => h) (Or.inr ⟨by kernel_rfl, rfl⟩) (by assumption) ?_
        try simp only [Act.put, List.setIfInBounds_toArray, List.set_cons_zero, List.set_cons_succ]
        first | (refine wpAnyH_take (i := 14) (oi := ⟨_, _, _, _, _, _⟩) (v := ?_) rfl (by kernel_rfl) (by kernel_rfl) (by kernel_rfl) (fun _ _ _ h => h) (Or.inl ⟨by rfl, ?_⟩) (by assumption) ?_; rotate_left 1; · (intro w hSw; (try dsimp only at hSw); go_simp; all_goals with_reducible rfl)) | refine wpAnyH_take (i := 14) (oi := ⟨_, _, _, _, _, _⟩) (v := undef) rfl (by kernel_rfl) (by kernel_rfl) (by kernel_rfl) (fun _ _ _ h => h) (Or.inr ⟨by kernel_rfl, rfl⟩) (by assumption) ?_
        try simp only [Act.put, List.setIfInBounds_toArray, List.set_cons_zero, List.set_cons_succ]
        first | (refine wpAnyH_take (i := 15) (oi := ⟨_, _, _, _, _, _⟩) (v := ?_) rfl (by kernel_rfl) (by kernel_rfl) (by kernel_rfl) (fun _ _ _ h => h) (Or.inl ⟨by rfl, ?_⟩) (by assumption) ?_; rotate_left 1; · (intro w hSw; (try dsimp only at hSw); go_simp; all_goals with_reducible rfl)) | refine wpAnyH_take (i := 15) (oi := ⟨_, _, _, _, _, _⟩) (v := undef) rfl (by kernel_rfl) (by kernel_rfl) (by kernel_rfl) (fun _ _ _ h => h) (Or.inr ⟨by kernel_rfl, rfl⟩) (by assumption) ?_
        try simp only [Act.put, List.setIfInBounds_toArray, List.set_cons_zero, List.set_cons_succ]
        refine wpAnyH_ready (rs := [10]) (by kernel_rfl) (by simp) ?_
        refine AllReadyH.cons (o := ⟨_, _, _, _, _, _⟩) rfl (fun Kq hKq => ?_) AllReadyH.nil
        go_simp
        clear hHeld
        (go_at_call 13; (with_reducible refine (left_any GD.out.a).mono ?_); rintro e v1 ⟨rfl, hb⟩; have G1 := Lib.hid (GD.out.keep (fdWl _ _ _) (fdWl _ _ _) (fdRw _ _) (fdRw _ _) hb); have B1 := Lib.hid (below_after BD.out hb (Nat.le_refl _)); clear hb)
        refine hKq.out _ _ ?_ (fun hHeld => ?_)
        · (try dsimp only); exact HQ12.out _ B1.out
        clear hKq Kq
        try simp only [Act.put, List.setIfInBounds_toArray, List.set_cons_zero, List.set_cons_succ]
        first | (refine wpAnyH_take (i := 16) (oi := ⟨_, _, _, _, _, _⟩) (v := ?_) rfl (by kernel_rfl) (by kernel_rfl) (by kernel_rfl) (fun _ _ _ h => h) (Or.inl ⟨by rfl, ?_⟩) (by assumption) ?_; rotate_left 1; · (intro w hSw; (try dsimp only at hSw); go_simp; all_goals with_reducible rfl)) | refine wpAnyH_take (i := 16) (oi := ⟨_, _, _, _, _, _⟩) (v := undef) rfl (by kernel_rfl) (by kernel_rfl) (by kernel_rfl) (fun _ _ _ h => h) (Or.inr ⟨by kernel_rfl, rfl⟩) (by assumption) ?_
        try simp only [Act.put, List.setIfInBounds_toArray, List.set_cons_zero, List.set_cons_succ]
        (refine wpAnyH_take (i := 17) (oi := ⟨_, _, _, _, _, _⟩) (v := ?_) rfl (by kernel_rfl) (by kernel_rfl) (by kernel_rfl) (fun _ _ _ h => h) (Or.inl ⟨by rfl, ?_⟩) (by assumption) ?_; rotate_left 1; · (intro w hSw; (try dsimp only at hSw); go_simp; all_goals with_reducible rfl))
        try simp only [Act.put, List.setIfInBounds_toArray, List.set_cons_zero, List.set_cons_succ]
        (refine wpAnyH_take (i := 18) (oi := ⟨_, _, _, _, _, _⟩) (v := ?_) rfl (by kernel_rfl) (by kernel_rfl) (by kernel_rfl) (fun _ _ _ h => h) (Or.inl ⟨by rfl, ?_⟩) (by assumption) ?_; rotate_left 1; · (intro w hSw; (try dsimp only at hSw); go_simp; all_goals with_reducible rfl))
        try simp only [Act.put, List.setIfInBounds_toArray, List.set_cons_zero, List.set_cons_succ]
        first | (refine wpAnyH_take (i := 19) (oi := ⟨_, _, _, _, _, _⟩) (v := ?_) rfl (by kernel_rfl) (by kernel_rfl) (by kernel_rfl) (fun _ _ _ h => h) (Or.inl ⟨by rfl, ?_⟩) (by assumption) ?_; rotate_left 1; · (intro w hSw; (try dsimp only at hSw); go_simp; all_goals with_reducible rfl)) | refine wpAnyH_take (i := 19) (oi := ⟨_, _, _, _, _, _⟩) (v := undef) rfl (by kernel_rfl) (by kernel_rfl) (by kernel_rfl) (fun _ _ _ h => h) (Or.inr ⟨by kernel_rfl, rfl⟩) (by assumption) ?_
        try simp only [Act.put, List.setIfInBounds_toArray, List.set_cons_zero, List.set_cons_succ]
        first | (refine wpAnyH_take (i := 20) (oi := ⟨_, _, _, _, _, _⟩) (v := ?_) rfl (by kernel_rfl) (by kernel_rfl) (by kernel_rfl) (fun _ _ _ h => h) (Or.inl ⟨by rfl, ?_⟩) (by assumption) ?_; rotate_left 1; · (intro w hSw; (try dsimp only at hSw); go_simp; all_goals with_reducible rfl)) | refine wpAnyH_take (i := 20) (oi := ⟨_, _, _, _, _, _⟩) (v := undef) rfl (by kernel_rfl) (by kernel_rfl) (by kernel_rfl) (fun _ _ _ h => h) (Or.inr ⟨by kernel_rfl, rfl⟩) (by assumption) ?_
        try simp only [Act.put, List.setIfInBounds_toArray, List.set_cons_zero, List.set_cons_succ]
        first | (refine wpAnyH_take (i := 21) (oi := ⟨_, _, _, _, _, _⟩) (v := ?_) rfl (by kernel_rfl) (by kernel_rfl) (by kernel_rfl) (fun _ _ _ h => h) (Or.inl ⟨by rfl, ?_⟩) (by assumption) ?_; rotate_left 1; · (intro w hSw; (try dsimp only at hSw); go_simp; all_goals with_reducible rfl)) | refine wpAnyH_take (i := 21) (oi := ⟨_, _, _, _, _, _⟩) (v := undef) rfl (by kernel_rfl) (by kernel_rfl) (by kernel_rfl) (fun _ _ _ h => h) (Or.inr ⟨by kernel_rfl, rfl⟩) (by assumption) ?_
        try simp only [Act.put, List.setIfInBounds_toArray, List.set_cons_zero, List.set_cons_succ]
        first | (refine wpAnyH_take (i := 22) (oi := ⟨_, _, _, _, _, _⟩) (v := ?_) rfl (by kernel_rfl) (by kernel_rfl) (by kernel_rfl) (fun _ _ _ h => h) (Or.inl ⟨by rfl, ?_⟩) (by assumption) ?_; rotate_left 1; · (intro w hSw; (try dsimp only at hSw); go_simp; all_goals with_reducible rfl)) | refine wpAnyH_take (i := 22) (oi := ⟨_, _, _, _, _, _⟩) (v := undef) rfl (by kernel_rfl) (by kernel_rfl) (by kernel_rfl) (fun _ _ _ h => h) (Or.inr ⟨by kernel_rfl, rfl⟩) (by assumption) ?_
        try simp only [Act.put, List.setIfInBounds_toArray, List.set_cons_zero, List.set_cons_succ]
        first | (refine wpAnyH_take (i := 23) (oi := ⟨_, _, _, _, _, _⟩) (v := ?_) rfl (by kernel_rfl) (by kernel_rfl) (by kernel_rfl) (fun _ _ _ h => h) (Or.inl ⟨by rfl, ?_⟩) (by assumption) ?_; rotate_left 1; · (intro w hSw; (try dsimp only at hSw); go_simp; all_goals with_reducible rfl)) | refine wpAnyH_take (i := 23) (oi := ⟨_, _, _, _, _, _⟩) (v := undef) rfl (by kernel_rfl) (by kernel_rfl) (by kernel_rfl) (fun _ _ _ h => h) (Or.inr ⟨by kernel_rfl, rfl⟩) (by assumption) ?_
        try simp only [Act.put, List.setIfInBounds_toArray, List.set_cons_zero, List.set_cons_succ]
        first | (refine wpAnyH_take (i := 24) (oi := ⟨_, _, _, _, _, _⟩) (v := ?_) rfl (by kernel_rfl) (by kernel_rfl) (by kernel_rfl) (fun _ _ _ h => h) (Or.inl ⟨by rfl, ?_⟩) (by assumption) ?_; rotate_left 1; · (intro w hSw; (try dsimp only at hSw); go_simp; all_goals with_reducible rfl)) | refine wpAnyH_take (i := 24) (oi := ⟨_, _, _, _, _, _⟩) (v := undef) rfl (by kernel_rfl) (by kernel_rfl) (by kernel_rfl) (fun _ _ _ h => h) (Or.inr ⟨by kernel_rfl, rfl⟩) (by assumption) ?_
        try simp only [Act.put, List.setIfInBounds_toArray, List.set_cons_zero, List.set_cons_succ]
        first | (refine wpAnyH_take (i := 25) (oi := ⟨_, _, _, _, _, _⟩) (v := ?_) rfl (by kernel_rfl) (by kernel_rfl) (by kernel_rfl) (fun _ _ _ h => h) (Or.inl ⟨by rfl, ?_⟩) (by assumption) ?_; rotate_left 1; · (intro w hSw; (try dsimp only at hSw); go_simp; all_goals with_reducible rfl)) | refine wpAnyH_take (i := 25) (oi := ⟨_, _, _, _, _, _⟩) (v := undef) rfl (by kernel_rfl) (by kernel_rfl) (by kernel_rfl) (fun _ _ _ h => h) (Or.inr ⟨by kernel_rfl, rfl⟩) (by assumption) ?_
        try simp only [Act.put, List.setIfInBounds_toArray, List.set_cons_zero, List.set_cons_succ]
        first | (refine wpAnyH_take (i := 26) (oi := ⟨_, _, _, _, _, _⟩) (v := ?_) rfl (by kernel_rfl) (by kernel_rfl) (by kernel_rfl) (fun _ _ _ h => h) (Or.inl ⟨by rfl, ?_⟩) (by assumption) ?_; rotate_left 1; · (intro w hSw; (try dsimp only at hSw); go_simp; all_goals with_reducible rfl)) | refine wpAnyH_take (i := 26) (oi := ⟨_, _, _, _, _, _⟩) (v := undef) rfl (by kernel_rfl) (by kernel_rfl) (by kernel_rfl) (fun _ _ _ h => h) (Or.inr ⟨by kernel_rfl, rfl⟩) (by assumption) ?_
        try simp only [Act.put, List.setIfInBounds_toArray, List.set_cons_zero, List.set_cons_succ]
        first | (refine wpAnyH_take (i := 27) (oi := ⟨_, _, _, _, _, _⟩) (v := ?_) rfl (by kernel_rfl) (by kernel_rfl) (by kernel_rfl) (fun _ _ _ h => h) (Or.inl ⟨by rfl, ?_⟩) (by assumption) ?_; rotate_left 1; · (intro w hSw; (try dsimp only at hSw); go_simp; all_goals with_reducible rfl)) | refine wpAnyH_take (i := 27) (oi := ⟨_, _, _, _, _, _⟩) (v := undef) rfl (by kernel_rfl) (by kernel_rfl) (by kernel_rfl) (fun _ _ _ h => h) (Or.inr ⟨by kernel_rfl, rfl⟩) (by assumption) ?_
        try simp only [Act.put, List.setIfInBounds_toArray, List.set_cons_zero, List.set_cons_succ]
        first | (refine wpAnyH_take (i := 28) (oi := ⟨_, _, _, _, _, _⟩) (v := ?_) rfl (by kernel_rfl) (by kernel_rfl) (by kernel_rfl) (fun _ _ _ h => h) (Or.inl ⟨by rfl, ?_⟩) (by assumption) ?_; rotate_left 1; · (intro w hSw; (try dsimp only at hSw); go_simp; all_goals with_reducible rfl)) | refine wpAnyH_take (i := 28) (oi := ⟨_, _, _, _, _, _⟩) (v := undef) rfl (by kernel_rfl) (by kernel_rfl) (by kernel_rfl) (fun _ _ _ h => h) (Or.inr ⟨by kernel_rfl, rfl⟩) (by assumption) ?_
        try simp only [Act.put, List.setIfInBounds_toArray, List.set_cons_zero, List.set_cons_succ]
        first | (refine wpAnyH_take (i := 29) (oi := ⟨_, _, _, _, _, _⟩) (v := ?_) rfl (by kernel_rfl) (by kernel_rfl) (by kernel_rfl) (fun _ _ _ h => h) (Or.inl ⟨by rfl, ?_⟩) (by assumption) ?_; rotate_left 1; · (intro w hSw; (try dsimp only at hSw); go_simp; all_goals with_reducible rfl)) | refine wpAnyH_take (i := 29) (oi := ⟨_, _, _, _, _, _⟩) (v := undef) rfl (by kernel_rfl) (by kernel_rfl) (by kernel_rfl) (fun _ _ _ h => h) (Or.inr ⟨by kernel_rfl, rfl⟩) (by assumption) ?_
        try simp only [Act.put, List.setIfInBounds_toArray, List.set_cons_zero, List.set_cons_succ]
        refine wpAnyH_ready (rs := [30]) (by kernel_rfl) (by simp) ?_
        refine AllReadyH.cons (o := ⟨_, _, _, _, _, _⟩) rfl (fun Kq hKq => ?_) AllReadyH.nil
        go_simp
        clear hHeld
        (go_at_call 21; (with_reducible refine (CD.out _ _ (HI.out _ G1.out.below)).mono ?_); rintro e v2 ⟨t2, rfl, hv, hb⟩; obtain ⟨A2, c2, rfl, -⟩ := hv.ids; have V2 := Lib.hid hv.ids; clear hv; have G2 := Lib.hid (G1.out.keep (fdWl _ _ _) (fdWl _ _ _) (fdRw _ _) (fdRw _ _) hb); have B2 := Lib.hid (below_after B1.out hb (Nat.le_refl _)); clear hb)
        refine hKq.out _ _ ?_ (fun hHeld => ?_)
        · (try dsimp only); exact HQ12.out _ B2.out
        clear hKq Kq
        try simp only [Act.put, List.setIfInBounds_toArray, List.set_cons_zero, List.set_cons_succ]
        refine wpAnyH_ready (rs := [31]) (by kernel_rfl) (by simp) ?_
        refine AllReadyH.cons (o := ⟨_, _, _, _, _, _⟩) rfl (fun Kq hKq => ?_) AllReadyH.nil
        go_simp
        clear hHeld
        (go_at_call 20; (with_reducible refine (ids_any _ _ Z Z _ (rw_ids G2.out.d) V2.out (by have := HRL.out; omega)).mono ?_); rw [HZZ.out]; rintro e v3 ⟨rfl, hb⟩; clear V2; have G3 := Lib.hid (G2.out.keep (fdWl _ _ _) (fdWl _ _ _) (fdRw _ _) (fdRw _ _) hb); have B3 := Lib.hid (below_after B2.out hb (Nat.le_refl _)); clear hb)
        refine hKq.out _ _ ?_ (fun hHeld => ?_)
        · (try dsimp only); exact HQ12.out _ B3.out
        clear hKq Kq
        try simp only [Act.put, List.setIfInBounds_toArray, List.set_cons_zero, List.set_cons_succ]
        first | (refine wpAnyH_take (i := 32) (oi := ⟨_, _, _, _, _, _⟩) (v := ?_) rfl (by kernel_rfl) (by kernel_rfl) (by kernel_rfl) (fun _ _ _ h => h) (Or.inl ⟨by rfl, ?_⟩) (by assumption) ?_; rotate_left 1; · (intro w hSw; (try dsimp only at hSw); go_simp; all_goals with_reducible rfl)) | refine wpAnyH_take (i := 32) (oi := ⟨_, _, _, _, _, _⟩) (v := undef) rfl (by kernel_rfl) (by kernel_rfl) (by kernel_rfl) (fun _ _ _ h => h) (Or.inr ⟨by kernel_rfl, rfl⟩) (by assumption) ?_
        try simp only [Act.put, List.setIfInBounds_toArray, List.set_cons_zero, List.set_cons_succ]
        (refine wpAnyH_take (i := 33) (oi := ⟨_, _, _, _, _, _⟩) (v := ?_) rfl (by kernel_rfl) (by kernel_rfl) (by kernel_rfl) (fun _ _ _ h => h) (Or.inl ⟨by rfl, ?_⟩) (by assumption) ?_; rotate_left 1; · (intro w hSw; (try dsimp only at hSw); go_simp; all_goals with_reducible rfl))
        try simp only [Act.put, List.setIfInBounds_toArray, List.set_cons_zero, List.set_cons_succ]
        (refine wpAnyH_take (i := 34) (oi := ⟨_, _, _, _, _, _⟩) (v := ?_) rfl (by kernel_rfl) (by kernel_rfl) (by kernel_rfl) (fun _ _ _ h => h) (Or.inl ⟨by rfl, ?_⟩) (by assumption) ?_; rotate_left 1; · (intro w hSw; (try dsimp only at hSw); go_simp; all_goals with_reducible rfl))
        try simp only [Act.put, List.setIfInBounds_toArray, List.set_cons_zero, List.set_cons_succ]
        first | (refine wpAnyH_take (i := 35) (oi := ⟨_, _, _, _, _, _⟩) (v := ?_) rfl (by kernel_rfl) (by kernel_rfl) (by kernel_rfl) (fun _ _ _ h => h) (Or.inl ⟨by rfl, ?_⟩) (by assumption) ?_; rotate_left 1; · (intro w hSw; (try dsimp only at hSw); go_simp; all_goals with_reducible rfl)) | refine wpAnyH_take (i := 35) (oi := ⟨_, _, _, _, _, _⟩) (v := undef) rfl (by kernel_rfl) (by kernel_rfl) (by kernel_rfl) (fun _ _ _ h => h) (Or.inr ⟨by kernel_rfl, rfl⟩) (by assumption) ?_
        try simp only [Act.put, List.setIfInBounds_toArray, List.set_cons_zero, List.set_cons_succ]
        first | (refine wpAnyH_take (i := 36) (oi := ⟨_, _, _, _, _, _⟩) (v := ?_) rfl (by kernel_rfl) (by kernel_rfl) (by kernel_rfl) (fun _ _ _ h => h) (Or.inl ⟨by rfl, ?_⟩) (by assumption) ?_; rotate_left 1; · (intro w hSw; (try dsimp only at hSw); go_simp; all_goals with_reducible rfl)) | refine wpAnyH_take (i := 36) (oi := ⟨_, _, _, _, _, _⟩) (v := undef) rfl (by kernel_rfl) (by kernel_rfl) (by kernel_rfl) (fun _ _ _ h => h) (Or.inr ⟨by kernel_rfl, rfl⟩) (by assumption) ?_
        try simp only [Act.put, List.setIfInBounds_toArray, List.set_cons_zero, List.set_cons_succ]
        first | (refine wpAnyH_take (i := 37) (oi := ⟨_, _, _, _, _, _⟩) (v := ?_) rfl (by kernel_rfl) (by kernel_rfl) (by kernel_rfl) (fun _ _ _ h => h) (Or.inl ⟨by rfl, ?_⟩) (by assumption) ?_; rotate_left 1; · (intro w hSw; (try dsimp only at hSw); go_simp; all_goals with_reducible rfl)) | refine wpAnyH_take (i := 37) (oi := ⟨_, _, _, _, _, _⟩) (v := undef) rfl (by kernel_rfl) (by kernel_rfl) (by kernel_rfl) (fun _ _ _ h => h) (Or.inr ⟨by kernel_rfl, rfl⟩) (by assumption) ?_
        try simp only [Act.put, List.setIfInBounds_toArray, List.set_cons_zero, List.set_cons_succ]
        first | (refine wpAnyH_take (i := 38) (oi := ⟨_, _, _, _, _, _⟩) (v := ?_) rfl (by kernel_rfl) (by kernel_rfl) (by kernel_rfl) (fun _ _ _ h => h) (Or.inl ⟨by rfl, ?_⟩) (by assumption) ?_; rotate_left 1; · (intro w hSw; (try dsimp only at hSw); go_simp; all_goals with_reducible rfl)) | refine wpAnyH_take (i := 38) (oi := ⟨_, _, _, _, _, _⟩) (v := undef) rfl (by kernel_rfl) (by kernel_rfl) (by kernel_rfl) (fun _ _ _ h => h) (Or.inr ⟨by kernel_rfl, rfl⟩) (by assumption) ?_
        try simp only [Act.put, List.setIfInBounds_toArray, List.set_cons_zero, List.set_cons_succ]
        first | (refine wpAnyH_take (i := 39) (oi := ⟨_, _, _, _, _, _⟩) (v := ?_) rfl (by kernel_rfl) (by kernel_rfl) (by kernel_rfl) (fun _ _ _ h => h) (Or.inl ⟨by rfl, ?_⟩) (by assumption) ?_; rotate_left 1; · (intro w hSw; (try dsimp only at hSw); go_simp; all_goals with_reducible rfl)) | refine wpAnyH_take (i := 39) (oi := ⟨_, _, _, _, _, _⟩) (v := undef) rfl (by kernel_rfl) (by kernel_rfl) (by kernel_rfl) (fun _ _ _ h => h) (Or.inr ⟨by kernel_rfl, rfl⟩) (by assumption) ?_
        try simp only [Act.put, List.setIfInBounds_toArray, List.set_cons_zero, List.set_cons_succ]
        first | (refine wpAnyH_take (i := 40) (oi := ⟨_, _, _, _, _, _⟩) (v := ?_) rfl (by kernel_rfl) (by kernel_rfl) (by kernel_rfl) (fun _ _ _ h => h) (Or.inl ⟨by rfl, ?_⟩) (by assumption) ?_; rotate_left 1; · (intro w hSw; (try dsimp only at hSw); go_simp; all_goals with_reducible rfl)) | refine wpAnyH_take (i := 40) (oi := ⟨_, _, _, _, _, _⟩) (v := undef) rfl (by kernel_rfl) (by kernel_rfl) (by kernel_rfl) (fun _ _ _ h => h) (Or.inr ⟨by kernel_rfl, rfl⟩) (by assumption) ?_
        try simp only [Act.put, List.setIfInBounds_toArray, List.set_cons_zero, List.set_cons_succ]
        refine wpAnyH_ready (rs := [41]) (by kernel_rfl) (by simp) ?_
        refine AllReadyH.cons (o := ⟨_, _, _, _, _, _⟩) rfl (fun Kq hKq => ?_) AllReadyH.nil
        go_simp
        clear hHeld
        (go_at_call 20; (with_reducible refine (ids_any _ _ ps ps _ (rw_ids G3.out.c) (HI.out _ G3.out.below) (by have := HPS.out; omega)).mono ?_); rw [HPP.out]; rintro e v4 ⟨rfl, hb⟩; have G4 := Lib.hid (G3.out.keep (fdWl _ _ _) (fdWl _ _ _) (fdRw _ _) (fdRw _ _) hb); have B4 := Lib.hid (below_after B3.out hb (Nat.le_refl _)); clear hb)
        refine hKq.out _ _ ?_ (fun hHeld => ?_)
        · (try dsimp only); exact HQ12.out _ B4.out
        clear hKq Kq
        try simp only [Act.put, List.setIfInBounds_toArray, List.set_cons_zero, List.set_cons_succ]
        first | (refine wpAnyH_take (i := 42) (oi := ⟨_, _, _, _, _, _⟩) (v := ?_) rfl (by kernel_rfl) (by kernel_rfl) (by kernel_rfl) (fun _ _ _ h => h) (Or.inl ⟨by rfl, ?_⟩) (by assumption) ?_; rotate_left 1; · (intro w hSw; (try dsimp only at hSw); go_simp; all_goals with_reducible rfl)) | refine wpAnyH_take (i := 42) (oi := ⟨_, _, _, _, _, _⟩) (v := undef) rfl (by kernel_rfl) (by kernel_rfl) (by kernel_rfl) (fun _ _ _ h => h) (Or.inr ⟨by kernel_rfl, rfl⟩) (by assumption) ?_
        try simp only [Act.put, List.setIfInBounds_toArray, List.set_cons_zero, List.set_cons_succ]
        (refine wpAnyH_take (i := 43) (oi := ⟨_, _, _, _, _, _⟩) (v := ?_) rfl (by kernel_rfl) (by kernel_rfl) (by kernel_rfl) (fun _ _ _ h => h) (Or.inl ⟨by rfl, ?_⟩) (by assumption) ?_; rotate_left 1; · (intro w hSw; (try dsimp only at hSw); go_simp; all_goals with_reducible rfl))
        try simp only [Act.put, List.setIfInBounds_toArray, List.set_cons_zero, List.set_cons_succ]
        refine wpAnyH_done (by kernel_rfl) ?_ _
        go_wp2_with fail
        go_loopw [12] (fun sk wr => ∃ (j : Nat) (lx : List Id2), sk = .int .i64 j ∧ j ≤ ps.length ∧ Hid (lx.length = ps.length) ∧ Hid (Four W wr (WlP 51 p rq) (WlP 39 q rq) (RwP (.slice Ai ps.length ci) lx) (RwP (.slice Ar Z.length cr) Z) S7 S8 S3 S4)) (fun sk _ => ps.length - (intOf sk).toNat)
        case atStart => exact ⟨0, ps, rfl, by omega, Lib.hid rfl, Lib.hid G4.out⟩
        case round =>
          obtain ⟨j, lx, rfl, hj, HLX, FX⟩ := hrel
          by_cases hjl : j < ps.length
          · have hd2 : decide ((j : Int) < (ps.length : Int)) = true := decide_eq_true (by omega)
            have q3 : (0 : Int) ≤ (j : Int) := by omega
            have q4 : (j : Int) < (ps.length : Int) := by omega
            have qL : ps.length ≤ 10000 := by have := HPS.out; have := HPL.out; have := HRL.out; omega
            have q7 : IntKind.i64.wrap ((j : Int) + 1) = (j : Int) + 1 := IntWalk.i64_in _ ⟨by omega, by omega⟩
            obtain ⟨gg, rfl, ⟨⟨u1, q5⟩, u2, q6⟩, f5, f6⟩ := rw_cells FX.out.c (k := j) (by have := HLX.out; omega)
            obtain ⟨h1, h2⟩ := rw_put (k := j) (a := -5) (i := 0) FX.out.c (by have := HLX.out; omega)
            have FY := Lib.hid (FX.out.opC (fdWl _ _ _) (fdWl _ _ _) (fdRw _ _) h1 h2)
            clear h1 h2 FX
            go_wp2_with fail
            go_roundw
            case rel => exact ⟨j + 1, lx.set j (-5, 0), by go_num, by omega, Lib.hid (by rw [List.length_set]; exact HLX.out), FY⟩
            case measure => simp [intOf]; omega
          · have hd2 : decide ((j : Int) < (ps.length : Int)) = false := decide_eq_false (by omega)
            generalize lx = lx0 at *
            clear HLX
            go_wp2_with fail
            go_loopw [13] (fun sk wr => ∃ (j : Nat) (lx : List Id2), sk = .int .i64 j ∧ j ≤ Z.length ∧ Hid (lx.length = Z.length) ∧ Hid (Four W wr (WlP 51 p rq) (WlP 39 q rq) (RwP (.slice Ai ps.length ci) lx0) (RwP (.slice Ar Z.length cr) lx) S7 S8 S3 S4)) (fun sk _ => Z.length - (intOf sk).toNat)
            case atStart => exact ⟨0, Z, rfl, by omega, Lib.hid rfl, Lib.hid FX.out⟩
            case round =>
              obtain ⟨j, lx, rfl, hj, HLX, FX⟩ := hrel
              by_cases hjl : j < Z.length
              · have hd2 : decide ((j : Int) < (Z.length : Int)) = true := decide_eq_true (by omega)
                have q3 : (0 : Int) ≤ (j : Int) := by omega
                have q4 : (j : Int) < (Z.length : Int) := by omega
                have qL : Z.length ≤ 10000 := by have := HPS.out; have := HPL.out; have := HRL.out; omega
                have q7 : IntKind.i64.wrap ((j : Int) + 1) = (j : Int) + 1 := IntWalk.i64_in _ ⟨by omega, by omega⟩
                obtain ⟨gg, rfl, ⟨⟨u1, q5⟩, u2, q6⟩, f5, f6⟩ := rw_cells FX.out.d (k := j) (by have := HLX.out; omega)
                obtain ⟨h1, h2⟩ := rw_put (k := j) (a := -5) (i := 0) FX.out.d (by have := HLX.out; omega)
                have FY := Lib.hid (FX.out.opD (fdWl _ _ _) (fdWl _ _ _) (fdRw _ _) h1 h2)
                clear h1 h2 FX
                go_wp2_with fail
                go_roundw
                case rel => exact ⟨j + 1, lx.set j (-5, 0), by go_num, by omega, Lib.hid (by rw [List.length_set]; exact HLX.out), FY⟩
                case measure => simp [intOf]; omega
              · have hd2 : decide ((j : Int) < (Z.length : Int)) = false := decide_eq_false (by omega)
                go_wp2_with fail
                go_roundw
                case rel => exact ⟨k + 1, rq, S7, S8, by go_num, by omega, HN2, Lib.hid FX.out.drop⟩
                case measure => simp [intOf]; omega
    · have hd : decide ((k : Int) < (ss.length : Int)) = false := decide_eq_false (by omega)
      have HB := Lib.hid F.out.below
      go_wp2_with fail
      go_ret
      exact ⟨rfl, HB.out⟩
end Go.Proofs.Ytmgkbfhkipfimaa
