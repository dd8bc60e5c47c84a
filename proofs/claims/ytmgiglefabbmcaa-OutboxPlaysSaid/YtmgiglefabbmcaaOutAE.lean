/-
  A walk over the law that plays with the program's box and the document's. It holds for every input that its premises let by.
-/
import Derived.Test.YtmgiglefabbmcaaOutAD
set_option maxRecDepth 20000
namespace Go.Proofs.Ytmgiglefabbmcaa
open Go Go.RowKit
theorem addr_adds (a : Addr) (j k : Nat) : (a.add j).add k = a.add (j + k) := by
  by_cases hj : 0 < j
  · exact addr_add_add a j k hj
  · have : j = 0 := by omega
    subst this
    rw [Nat.zero_add]
    rfl
theorem row_whole {w : World} {ad : Addr} {n c : Nat} {l : List Fq} (h : Rcs encF 14 w (.slice (some ad) n c) l) {k : Nat} (hk : k < l.length) : ∀ j v, (fc l[k])[j]? = some v → w.cell? ((ad.add (k * 14)).add j) = some v := by
  obtain ⟨A, c', hv, _, _, hx⟩ := h
  injection hv with e1 _ _
  subst e1
  obtain ⟨ad', e, _, h2⟩ := hx k hk
  injection e with e
  subst e
  intro j v hv
  have h3 := h2 j v (by simpa [fc] using hv)
  rwa [← addr_adds ad (k * 14) j] at h3
set_option maxHeartbeats 32000000 in
theorem plays_any (mx : Int) (v : Value) (l : List Sq) (w : World) (_hmx : -9223372036854775808 ≤ mx ∧ mx ≤ 9223372036854775807) (h : Rcs encS 15 w v l) (hs : (∀ s ∈ l, FR w s.2 ∧ WideV s.2.F.v) ∧ l.length ≤ 8796093022208) :
    Calls Try.prog 4 #[.int .i64 mx, v] w fun e w' => e = .returned (.bool true) ∧ Below w.heap.size w w' := by
  have HI := Lib.hid h
  have HS := Lib.hid hs
  obtain ⟨A, c, rfl, -, -, -⟩ := h
  clear hs
  go_enter Try.func4, Try.ntmps4
  go_wp2_with fail
  (with_reducible refine (large_any _ l w HI.out HS.out.1 HS.out.2).mono ?_)
  rintro e2 w2 ⟨⟨z, rfl, hz⟩, hb⟩
  have B2 := Lib.hid hb
  clear hb
  rcases z with _ | _
  case true =>
    clear hz
    go_wp2_with fail
    go_ret
    exact ⟨rfl, B2.out⟩
  case false =>
    have HL := Lib.hid (hz rfl)
    clear hz
    go_wp2_with fail
    by_cases hm : 1 ≤ mx ∧ mx ≤ 4096
    case neg =>
      (with_reducible refine (new_no mx w2 hm).mono ?_)
      rintro e4 w4 ⟨rfl, rfl⟩
      go_wp2_with fail
      (with_reducible refine (rnew_no mx w2 hm).mono ?_)
      rintro e5 w5 ⟨rfl, rfl⟩
      go_wp2_with fail
      go_ret
      exact ⟨rfl, B2.out⟩
    case pos =>
      (with_reducible refine (bx_new (fun k => k < w.heap.size) mx w2 (fun k hk => Nat.lt_of_lt_of_le hk B2.out.size) hm).mono ?_)
      rintro e4 w4 ⟨rfl, hx, hb⟩
      have H4 := Lib.hid hx
      have B4 := Lib.hid (below_after B2.out hb (Nat.le_refl _))
      clear hx hb B2
      go_wp2_with fail
      obtain ⟨p, hp⟩ : ∃ p, p = w2.heap.size := ⟨_, rfl⟩
      rw [← hp] at H4
      rw [← hp]
      clear hp
      (with_reducible refine (rnew_any mx w4 hm).mono ?_)
      rintro e5 w5 ⟨rfl, rfl⟩
      have b5 := below_one w4 (.cells #[.int .i64 mx, .slice none 0 0] 60)
      have P5 := Lib.hid (show PlI (fun _ => False) w p w4.heap.size mx [] [] (w4.alloc (.cells #[.int .i64 mx, .slice none 0 0] 60)) from
        ⟨⟨_, none, 0, H4.out.below b5, ⟨heap_alloc_new w4 _, .inl ⟨rfl, rfl, rfl⟩⟩, fun k hk => .inl hk, .inr ⟨Nat.le_refl _, by simp⟩, (fun k ⟨_, e, _⟩ => by cases e), fun k hk => hk.elim⟩, below_after B4.out b5 (Nat.le_refl _), B4.out.size⟩)
      clear b5 H4 B4
      generalize w4.alloc (.cells #[.int .i64 mx, .slice none 0 0] 60) = w5 at *
      generalize w4.heap.size = x at *
      go_wp2_with fail
      have l300 := HL.out.1
      go_loopw [9] (fun s9 wr => ∃ (i : Nat) (L : List Fr) (qs : List Fq), i ≤ l.length ∧ s9 = .int .i64 i ∧ Hid (PlI (fun _ => False) w p x mx L qs wr) ∧ Hid (qs.map (·.F) = L) ∧ Hid (∀ q ∈ qs, FR w q)) (fun s9 _ => l.length - (intOf s9).toNat)
      case atStart => exact ⟨0, [], [], by omega, rfl, P5, Lib.hid rfl, Lib.hid (fun q hq => by cases hq)⟩
      case round =>
        clear P5
        obtain ⟨i, L, qs, hil, rfl, P0, HLQ, HQF⟩ := hrel
        have i3 : (0 : Int) ≤ (i : Int) := by omega
        have HLEN := Lib.hid (show qs.length = L.length by have := congrArg List.length HLQ.out; simpa using this)
        by_cases hlt : i < l.length
        case neg =>
          obtain rfl : i = l.length := by omega
          have hd : decide ((l.length : Int) < (l.length : Int)) = false := by simp
          have l5 : L.length ≤ 4096 := P0.out.few.1
          have hfit := Lib.hid P0.out.few.2.2.2.2
          obtain ⟨Ax, cx, cc, -, hrx⟩ := P0.out.rb
          have RX := Lib.hid hrx
          have HSX := Lib.hid fun W (hb : Below wr.heap.size wr W) => cell_below hb cc
          clear hrx
          go_wp2_with fail
          have KB := Lib.hid (show Below wr.heap.size wr wr.drew from (Below.refl _ _).drew)
          refine wp_region_held_drew (S := (fun W : World => W.cell? ⟨x, 1, none⟩ = some (.slice Ax qs.length cx))) (by kernel_rfl) ?_ (fun hHeld => ?_)
          · exact cc
          (refine wpAnyH_take (i := 0) (oi := ⟨_, _, _, _, _, _⟩) (v := ?_) rfl (by kernel_rfl) (by kernel_rfl) (by kernel_rfl) (fun _ _ _ h => h) (Or.inl ⟨by rfl, ?_⟩) (by assumption) ?_; rotate_left 1; · (intro w hSw; (try dsimp only at hSw); go_simp; all_goals with_reducible rfl))
          try simp only [Act.put, List.setIfInBounds_toArray, List.set_cons_zero, List.set_cons_succ]
          (refine wpAnyH_take (i := 2) (oi := ⟨_, _, _, _, _, _⟩) (v := ?_) rfl (by kernel_rfl) (by kernel_rfl) (by kernel_rfl) (fun _ _ _ h => h) (Or.inl ⟨by rfl, ?_⟩) (by assumption) ?_; rotate_left 1; · (intro w hSw; (try dsimp only at hSw); go_simp; all_goals with_reducible rfl))
          try simp only [Act.put, List.setIfInBounds_toArray, List.set_cons_zero, List.set_cons_succ]
          (refine wpAnyH_take (i := 3) (oi := ⟨_, _, _, _, _, _⟩) (v := ?_) rfl (by kernel_rfl) (by kernel_rfl) (by kernel_rfl) (fun _ _ _ h => h) (Or.inl ⟨by rfl, ?_⟩) (by assumption) ?_; rotate_left 1; · (intro w hSw; (try dsimp only at hSw); go_simp; all_goals with_reducible rfl))
          try simp only [Act.put, List.setIfInBounds_toArray, List.set_cons_zero, List.set_cons_succ]
          (refine wpAnyH_take (i := 4) (oi := ⟨_, _, _, _, _, _⟩) (v := ?_) rfl (by kernel_rfl) (by kernel_rfl) (by kernel_rfl) (fun _ _ _ h => h) (Or.inl ⟨by rfl, ?_⟩) (by assumption) ?_; rotate_left 1; · (intro w hSw; (try dsimp only at hSw); go_simp; all_goals with_reducible rfl))
          try simp only [Act.put, List.setIfInBounds_toArray, List.set_cons_zero, List.set_cons_succ]
          (refine wpAnyH_take (i := 5) (oi := ⟨_, _, _, _, _, _⟩) (v := ?_) rfl (by kernel_rfl) (by kernel_rfl) (by kernel_rfl) (fun _ _ _ h => h) (Or.inl ⟨by rfl, ?_⟩) (by assumption) ?_; rotate_left 1; · (intro w hSw; (try dsimp only at hSw); go_simp; all_goals with_reducible rfl))
          try simp only [Act.put, List.setIfInBounds_toArray, List.set_cons_zero, List.set_cons_succ]
          refine wpAnyH_ready (rs := [1]) (by kernel_rfl) (by simp) ?_
          refine AllReadyH.cons (o := ⟨_, _, _, _, _, _⟩) rfl (fun Kq hKq => ?_) AllReadyH.nil
          go_simp
          clear hHeld
          go_at_call 15; (with_reducible refine (pl_all _ w p x mx L qs _ (P0.out.step KB.out)).mono ?_); rintro e1 w2 ⟨us, va, rfl, hu, hfl, hp, hb⟩; have KB := Lib.hid (KB.out.trans (hb.mono KB.out.size)); have P2 := Lib.hid (hp.mono (Y := fun _ => False) fun k hk => hk.elim); have HUS := Lib.hid hu; obtain ⟨A1, c1, rfl, hrow, hab, hfr⟩ := hfl; have ROW := Lib.hid hrow; have FRS := Lib.hid hfr.each; clear hp hb hu hrow hab hfr
          refine hKq.out _ _ ?_ (fun hHeld => ?_)
          · (try dsimp only); exact HSX.out _ KB.out
          clear hKq Kq
          try simp only [Act.put, List.setIfInBounds_toArray, List.set_cons_zero, List.set_cons_succ]
          refine wpAnyH_ready (rs := [6]) (by kernel_rfl) (by simp) ?_
          refine AllReadyH.cons (o := ⟨_, _, _, _, _, _⟩) rfl (fun Kq hKq => ?_) AllReadyH.nil
          go_simp
          clear hHeld
          go_at_call 26; (with_reducible refine (frames_same _ _ us qs _ ROW.out.rcs (RX.out.below KB.out) FRS.out (fun q hq => (HQF.out q hq).below P2.out.b) (by rw [HUS.out, HLQ.out]) (fun q hq => hfit.out _ (by rw [← HUS.out]; exact List.mem_map_of_mem hq)) (by have h1 := congrArg List.length HUS.out; have h2 := HLEN.out; simp at h1; omega)).mono ?_); rintro e3 w3 ⟨rfl, hb⟩; have KB := Lib.hid (KB.out.trans (hb.mono KB.out.size)); have P3 := Lib.hid (P2.out.step hb); clear hb P2 ROW FRS HUS
          refine hKq.out _ _ ?_ (fun hHeld => ?_)
          · (try dsimp only); exact HSX.out _ KB.out
          clear hKq Kq
          try simp only [Act.put, List.setIfInBounds_toArray, List.set_cons_zero, List.set_cons_succ]
          (refine wpAnyH_take (i := 7) (oi := ⟨_, _, _, _, _, _⟩) (v := ?_) rfl (by kernel_rfl) (by kernel_rfl) (by kernel_rfl) (fun _ _ _ h => h) (Or.inl ⟨by rfl, ?_⟩) (by assumption) ?_; rotate_left 1; · (intro w hSw; (try dsimp only at hSw); go_simp; all_goals with_reducible rfl))
          try simp only [Act.put, List.setIfInBounds_toArray, List.set_cons_zero, List.set_cons_succ]
          first | (refine wpAnyH_take (i := 8) (oi := ⟨_, _, _, _, _, _⟩) (v := ?_) rfl (by kernel_rfl) (by kernel_rfl) (by kernel_rfl) (fun _ _ _ h => h) (Or.inl ⟨by rfl, ?_⟩) (by assumption) ?_; rotate_left 1; · (intro w hSw; (try dsimp only at hSw); go_simp; all_goals with_reducible rfl)) | refine wpAnyH_take (i := 8) (oi := ⟨_, _, _, _, _, _⟩) (v := undef) rfl (by kernel_rfl) (by kernel_rfl) (by kernel_rfl) (fun _ _ _ h => h) (Or.inr ⟨by kernel_rfl, rfl⟩) (by assumption) ?_
          try simp only [Act.put, List.setIfInBounds_toArray, List.set_cons_zero, List.set_cons_succ]
          first | (refine wpAnyH_take (i := 11) (oi := ⟨_, _, _, _, _, _⟩) (v := ?_) rfl (by kernel_rfl) (by kernel_rfl) (by kernel_rfl) (fun _ _ _ h => h) (Or.inl ⟨by rfl, ?_⟩) (by assumption) ?_; rotate_left 1; · (intro w hSw; (try dsimp only at hSw); go_simp; all_goals with_reducible rfl)) | refine wpAnyH_take (i := 11) (oi := ⟨_, _, _, _, _, _⟩) (v := undef) rfl (by kernel_rfl) (by kernel_rfl) (by kernel_rfl) (fun _ _ _ h => h) (Or.inr ⟨by kernel_rfl, rfl⟩) (by assumption) ?_
          try simp only [Act.put, List.setIfInBounds_toArray, List.set_cons_zero, List.set_cons_succ]
          first | (refine wpAnyH_take (i := 12) (oi := ⟨_, _, _, _, _, _⟩) (v := ?_) rfl (by kernel_rfl) (by kernel_rfl) (by kernel_rfl) (fun _ _ _ h => h) (Or.inl ⟨by rfl, ?_⟩) (by assumption) ?_; rotate_left 1; · (intro w hSw; (try dsimp only at hSw); go_simp; all_goals with_reducible rfl)) | refine wpAnyH_take (i := 12) (oi := ⟨_, _, _, _, _, _⟩) (v := undef) rfl (by kernel_rfl) (by kernel_rfl) (by kernel_rfl) (fun _ _ _ h => h) (Or.inr ⟨by kernel_rfl, rfl⟩) (by assumption) ?_
          try simp only [Act.put, List.setIfInBounds_toArray, List.set_cons_zero, List.set_cons_succ]
          first | (refine wpAnyH_take (i := 13) (oi := ⟨_, _, _, _, _, _⟩) (v := ?_) rfl (by kernel_rfl) (by kernel_rfl) (by kernel_rfl) (fun _ _ _ h => h) (Or.inl ⟨by rfl, ?_⟩) (by assumption) ?_; rotate_left 1; · (intro w hSw; (try dsimp only at hSw); go_simp; all_goals with_reducible rfl)) | refine wpAnyH_take (i := 13) (oi := ⟨_, _, _, _, _, _⟩) (v := undef) rfl (by kernel_rfl) (by kernel_rfl) (by kernel_rfl) (fun _ _ _ h => h) (Or.inr ⟨by kernel_rfl, rfl⟩) (by assumption) ?_
          try simp only [Act.put, List.setIfInBounds_toArray, List.set_cons_zero, List.set_cons_succ]
          first | (refine wpAnyH_take (i := 14) (oi := ⟨_, _, _, _, _, _⟩) (v := ?_) rfl (by kernel_rfl) (by kernel_rfl) (by kernel_rfl) (fun _ _ _ h => h) (Or.inl ⟨by rfl, ?_⟩) (by assumption) ?_; rotate_left 1; · (intro w hSw; (try dsimp only at hSw); go_simp; all_goals with_reducible rfl)) | refine wpAnyH_take (i := 14) (oi := ⟨_, _, _, _, _, _⟩) (v := undef) rfl (by kernel_rfl) (by kernel_rfl) (by kernel_rfl) (fun _ _ _ h => h) (Or.inr ⟨by kernel_rfl, rfl⟩) (by assumption) ?_
          try simp only [Act.put, List.setIfInBounds_toArray, List.set_cons_zero, List.set_cons_succ]
          refine wpAnyH_ready (rs := [9]) (by kernel_rfl) (by simp) ?_
          refine AllReadyH.cons (o := ⟨_, _, _, _, _, _⟩) rfl (fun Kq hKq => ?_) AllReadyH.nil
          go_simp
          clear hHeld
          go_at_call 16; (with_reducible refine (pl_copy _ w p x mx L qs _ P3.out).mono ?_); rintro e4 w4 ⟨p2, rfl, hbx, hp, hb⟩; have KB := Lib.hid (KB.out.trans (hb.mono KB.out.size)); have C4 := Lib.hid hbx; have P4 := Lib.hid (hp.mono (Y := fun _ => False) fun k hk => hk.elim); clear hp hb hbx P3
          refine hKq.out _ _ ?_ (fun hHeld => ?_)
          · (try dsimp only); exact HSX.out _ KB.out
          clear hKq Kq
          try simp only [Act.put, List.setIfInBounds_toArray, List.set_cons_zero, List.set_cons_succ]
          refine wpAnyH_ready (rs := [10]) (by kernel_rfl) (by simp) ?_
          refine AllReadyH.cons (o := ⟨_, _, _, _, _, _⟩) rfl (fun Kq hKq => ?_) AllReadyH.nil
          go_simp
          clear hHeld
          go_at_call 15; (with_reducible refine (bx_all _ _ p2 mx L C4.out).mono ?_); rintro e5 w5 ⟨us, va, rfl, hu, hfl, -, hb⟩; have KB := Lib.hid (KB.out.trans (hb.mono KB.out.size)); have P5 := Lib.hid (P4.out.step hb); have HUS := Lib.hid hu; obtain ⟨A1, c1, rfl, hrow, hab, hfr⟩ := hfl; have ROW := Lib.hid hrow; have FRS := Lib.hid hfr.each; clear hb hu hrow hab hfr P4 C4
          refine hKq.out _ _ ?_ (fun hHeld => ?_)
          · (try dsimp only); exact HSX.out _ KB.out
          clear hKq Kq
          try simp only [Act.put, List.setIfInBounds_toArray, List.set_cons_zero, List.set_cons_succ]
          refine wpAnyH_ready (rs := [15]) (by kernel_rfl) (by simp) ?_
          refine AllReadyH.cons (o := ⟨_, _, _, _, _, _⟩) rfl (fun Kq hKq => ?_) AllReadyH.nil
          go_simp
          clear hHeld
          go_at_call 26; (with_reducible refine (frames_same _ _ us qs _ ROW.out.rcs (RX.out.below KB.out) FRS.out (fun q hq => (HQF.out q hq).below P5.out.b) (by rw [HUS.out, HLQ.out]) (fun q hq => hfit.out _ (by rw [← HUS.out]; exact List.mem_map_of_mem hq)) (by have h1 := congrArg List.length HUS.out; have h2 := HLEN.out; simp at h1; omega)).mono ?_); rintro e6 w6 ⟨rfl, hb⟩; have KB := Lib.hid (KB.out.trans (hb.mono KB.out.size)); have P6 := Lib.hid (P5.out.step hb); clear hb P5
          refine hKq.out _ _ ?_ (fun hHeld => ?_)
          · (try dsimp only); exact HSX.out _ KB.out
          clear hKq Kq
          try simp only [Act.put, List.setIfInBounds_toArray, List.set_cons_zero, List.set_cons_succ]
          (refine wpAnyH_take (i := 16) (oi := ⟨_, _, _, _, _, _⟩) (v := ?_) rfl (by kernel_rfl) (by kernel_rfl) (by kernel_rfl) (fun _ _ _ h => h) (Or.inl ⟨by rfl, ?_⟩) (by assumption) ?_; rotate_left 1; · (intro w hSw; (try dsimp only at hSw); go_simp; all_goals with_reducible rfl))
          try simp only [Act.put, List.setIfInBounds_toArray, List.set_cons_zero, List.set_cons_succ]
          (refine wpAnyH_take (i := 17) (oi := ⟨_, _, _, _, _, _⟩) (v := ?_) rfl (by kernel_rfl) (by kernel_rfl) (by kernel_rfl) (fun _ _ _ h => h) (Or.inl ⟨by rfl, ?_⟩) (by assumption) ?_; rotate_left 1; · (intro w hSw; (try dsimp only at hSw); go_simp; all_goals with_reducible rfl))
          try simp only [Act.put, List.setIfInBounds_toArray, List.set_cons_zero, List.set_cons_succ]
          refine wpAnyH_done (by kernel_rfl) ?_ _
          go_wp2_with fail
          go_ret
          exact ⟨rfl, P6.out.b⟩
        case pos =>
          have hd : decide ((i : Int) < (l.length : Int)) = true := by simp; omega
          have i4 : (i : Int) < (l.length : Int) := by omega
          obtain ⟨ad, rfl⟩ := HI.out.addr (Nat.lt_of_le_of_lt (Nat.zero_le _) hlt)
          have HC := Lib.hid (fun W (hb : Below w.heap.size w W) => rcs_step HI.out hb hlt)
          have c0 := HI.out.first P0.out.b hlt (u := .int .u8 l[i].1) rfl
          have FF := Lib.hid (HS.out.1 _ (List.getElem_mem hlt)).1
          have VV := Lib.hid (HL.out.2 _ (List.getElem_mem hlt))
          generalize l[i] = s at *
          obtain ⟨sd, s⟩ := s
          dsimp only at c0 HC FF VV
          go_upto_block 2 with fail
          clear hd
          go_cut [9] (fun s9 wx => s9 = .int .i64 i ∧ ∃ (L' : List Fr) (qs' : List Fq), Hid (PlI (fun _ => False) w p x mx L' qs' wx) ∧ Hid (qs'.map (·.F) = L') ∧ Hid (∀ q ∈ qs', FR w q))
          case first =>
            as_aux_lemma =>
              by_cases h0 : sd = 0
              · subst h0
                have SS := Lib.hid (size32 s)
                have HC0 := Lib.hid (HC.out _ P0.out.b)
                go_wp2_with (refine wpList_load_recs rfl 32 (.tmp 72) rfl _ rfl (fc s) _ HC0.out Try.underlying32 rfl SS.out ?_)
                (with_reducible refine (copied_any s _ (FF.out.below P0.out.b) VV.out).mono ?_)
                rintro e1 w1 ⟨u, rfl, hu, ho, hb⟩
                have HU := Lib.hid hu
                have P1 := Lib.hid (P0.out.below hb)
                have HO1 := Lib.hid ho
                have hw1 := hb.size
                clear hu ho hb c0 HC0
                generalize wr.heap.size = n0 at *
                have SO := Lib.hid (size32 (u))
                have ZZ := Lib.hid (heap_alloc_new w1 (.cells #[.int .u8 0, .int .i64 0, .int .i64 0, .int .i64 0, .int .i64 0, .int .i64 0, .int .i64 0, .int .i64 0, .int .i64 0, .slice none 0 0, .slice none 0 0, .slice none 0 0, .slice none 0 0, .slice none 0 0] 32))
                have B2 := Lib.hid (show Below w1.heap.size w1 ((w1.alloc (.cells #[.int .u8 0, .int .i64 0, .int .i64 0, .int .i64 0, .int .i64 0, .int .i64 0, .int .i64 0, .int .i64 0, .int .i64 0, .slice none 0 0, .slice none 0 0, .slice none 0 0, .slice none 0 0, .slice none 0 0] 32)).setRow w1.heap.size (fc u)) from below_setRow (below_one w1 _) (Nat.le_refl _) _)
                have X2 := Lib.hid (show FB ((w1.alloc (.cells #[.int .u8 0, .int .i64 0, .int .i64 0, .int .i64 0, .int .i64 0, .int .i64 0, .int .i64 0, .int .i64 0, .int .i64 0, .slice none 0 0, .slice none 0 0, .slice none 0 0, .slice none 0 0, .slice none 0 0] 32)).setRow w1.heap.size (fc u)) w1.heap.size (u) from setRow_set ZZ.out)
                go_upto_region 15 with (refine wpList_store_row rfl 32 (.tmp 10) (.tmp 74) rfl w1.heap.size (fc (u)) rfl rfl 32 _ ZZ.out SO.out rfl (fc_one _) ?_)
                clear ZZ SO
                have GE2 := Lib.hid (show w1.heap.size < ((w1.alloc (.cells #[.int .u8 0, .int .i64 0, .int .i64 0, .int .i64 0, .int .i64 0, .int .i64 0, .int .i64 0, .int .i64 0, .int .i64 0, .slice none 0 0, .slice none 0 0, .slice none 0 0, .slice none 0 0, .slice none 0 0] 32)).setRow w1.heap.size (fc u)).heap.size from fb_lt X2.out)
                generalize (w1.alloc (.cells #[.int .u8 0, .int .i64 0, .int .i64 0, .int .i64 0, .int .i64 0, .int .i64 0, .int .i64 0, .int .i64 0, .int .i64 0, .slice none 0 0, .slice none 0 0, .slice none 0 0, .slice none 0 0, .slice none 0 0] 32)).setRow w1.heap.size (fc u) = w2 at *
                obtain ⟨g10, hg10⟩ : ∃ b, b = w1.heap.size := ⟨_, rfl⟩
                rw [← hg10] at X2 GE2
                rw [← hg10]
                have Hg10 := Lib.hid hg10
                clear hg10
                have P2 := Lib.hid (P1.out.below B2.out)
                have HO2 := Lib.hid (HO1.out.on (Below.on B2.out fun k hk => hk.2))
                have SU := Lib.hid (size32 u)
                go_wp2_with (refine wpList_load_row rfl 32 (.tmp 10) rfl _ rfl 32 _ (0, 0) _ X2.out Try.underlying32 rfl SU.out ?_)
                (with_reducible refine (pl_put _ w p x mx L qs w2 P2.out u HO2.out.reads (by rw [HU.out]; exact VV.out)).mono ?_)
                rw [HU.out]
                rintro e3 w3 ⟨qo, Q, rfl, hqo, hfo, hqz, hp, hon⟩
                have HPQ := Lib.hid (putQ_F mx qs s)
                have HFQ := Lib.hid (putQ_fr (mx := mx) FF.out HQF.out)
                have HFIT := Lib.hid (putL_fit (mx := mx) P0.out.few.2.2.2.2 VV.out)
                rw [HLQ.out] at HPQ
                obtain ⟨R, hR⟩ : ∃ R, putL mx L s.F = R := ⟨_, rfl⟩
                rw [hR] at HPQ HFIT hqo hp
                rw [hR]
                clear hR
                obtain ⟨L1, FO1, z⟩ := R
                dsimp only at HPQ HFIT hqo hp
                have PUTQ : ∃ RQ, putQ mx qs s = RQ := ⟨_, rfl⟩
                have P3 := Lib.hid hp
                have HQO := Lib.hid hqo
                have HFO3 := Lib.hid hfo
                have HQZ := Lib.hid hqz
                have HO3 := Lib.hid (HO2.out.on (hon.mono fun k hk => .inl (.inr hk)))
                have X3 := Lib.hid (show FB w3 g10 u from (hon g10 (.inr ⟨Nat.le_of_eq Hg10.out.symm, GE2.out⟩)).trans X2.out)
                have GT3 := Lib.hid (fb_lt X3.out)
                clear hp hqo hfo hqz hon HO2 X2 P2 HO1 P1 B2
                dsimp only
                have SO := Lib.hid (size32 (qo))
                have ZZ := Lib.hid (heap_alloc_new w3 (.cells #[.int .u8 0, .int .i64 0, .int .i64 0, .int .i64 0, .int .i64 0, .int .i64 0, .int .i64 0, .int .i64 0, .int .i64 0, .slice none 0 0, .slice none 0 0, .slice none 0 0, .slice none 0 0, .slice none 0 0] 32))
                have B4 := Lib.hid (show Below w3.heap.size w3 ((w3.alloc (.cells #[.int .u8 0, .int .i64 0, .int .i64 0, .int .i64 0, .int .i64 0, .int .i64 0, .int .i64 0, .int .i64 0, .int .i64 0, .slice none 0 0, .slice none 0 0, .slice none 0 0, .slice none 0 0, .slice none 0 0] 32)).setRow w3.heap.size (fc qo)) from below_setRow (below_one w3 _) (Nat.le_refl _) _)
                have X4 := Lib.hid (show FB ((w3.alloc (.cells #[.int .u8 0, .int .i64 0, .int .i64 0, .int .i64 0, .int .i64 0, .int .i64 0, .int .i64 0, .int .i64 0, .int .i64 0, .slice none 0 0, .slice none 0 0, .slice none 0 0, .slice none 0 0, .slice none 0 0] 32)).setRow w3.heap.size (fc qo)) w3.heap.size (qo) from setRow_set ZZ.out)
                go_upto_region 16 with (refine wpList_store_row rfl 32 (.tmp 11) (.tmp 79) rfl w3.heap.size (fc (qo)) rfl rfl 32 _ ZZ.out SO.out rfl (fc_one _) ?_)
                clear ZZ SO
                have GE4 := Lib.hid (show w3.heap.size < ((w3.alloc (.cells #[.int .u8 0, .int .i64 0, .int .i64 0, .int .i64 0, .int .i64 0, .int .i64 0, .int .i64 0, .int .i64 0, .int .i64 0, .slice none 0 0, .slice none 0 0, .slice none 0 0, .slice none 0 0, .slice none 0 0] 32)).setRow w3.heap.size (fc qo)).heap.size from fb_lt X4.out)
                generalize (w3.alloc (.cells #[.int .u8 0, .int .i64 0, .int .i64 0, .int .i64 0, .int .i64 0, .int .i64 0, .int .i64 0, .int .i64 0, .int .i64 0, .slice none 0 0, .slice none 0 0, .slice none 0 0, .slice none 0 0, .slice none 0 0] 32)).setRow w3.heap.size (fc qo) = w4 at *
                obtain ⟨g11, hg11⟩ : ∃ b, b = w3.heap.size := ⟨_, rfl⟩
                rw [← hg11] at X4 GE4
                rw [← hg11]
                have Hg11 := Lib.hid hg11
                clear hg11
                have P4 := Lib.hid (P3.out.below B4.out)
                have HO4 := Lib.hid (HO3.out.on (Below.on B4.out fun k hk => (P3.out.zlt (.inl (.inl (.inr hk)))).1))
                have HFO4 := Lib.hid (HFO3.out.on (Below.on B4.out fun k hk => (P3.out.zlt (.inr hk)).1))
                have X3b := Lib.hid (fb_below X3.out B4.out)
                have HC4 := Lib.hid (HC.out _ P4.out.b)
                clear HO3 HFO3 X3 P3 B4
                go_wp2_with (refine wpList_load_recs rfl 32 (.tmp 87) rfl _ rfl (fc s) _ HC4.out Try.underlying32 rfl SS.out ?_)
                (with_reducible refine (pl_rput _ w p x mx _ qs w4 P4.out s (by have := P0.out.few.2.1; have := HLEN.out; omega)).mono ?_)
                obtain ⟨RQ, hRQ⟩ := PUTQ
                rw [hRQ] at HPQ HFQ
                rw [hRQ]
                clear hRQ
                obtain ⟨qs1, qw, z2⟩ := RQ
                dsimp only at HPQ HFQ
                dsimp only
                have HP1 := Lib.hid (show L1 = qs1.map (·.F) ∧ FO1 = qw.F ∧ z = z2 by have := HPQ.out; simp only [Prod.mk.injEq] at this; exact this)
                obtain rfl := HP1.out.2.2
                rintro e5 w5 ⟨rfl, hp, hon⟩
                have P5 := Lib.hid hp
                have HO5 := Lib.hid (HO4.out.on (hon.mono fun k hk => .inl (.inl (.inl (.inr hk)))))
                have HFO5 := Lib.hid (HFO4.out.on (hon.mono fun k hk => .inl (.inr hk)))
                have X5 := Lib.hid (show FB w5 g10 u from (hon g10 (.inl (.inl (.inr ⟨Nat.le_of_eq Hg10.out.symm, GE2.out⟩)))).trans X3b.out)
                have Y5 := Lib.hid (show FB w5 g11 qo from (hon g11 (.inr ⟨Nat.le_of_eq Hg11.out.symm, GE4.out⟩)).trans X4.out)
                clear hp hon HO4 HFO4 X3b X4 P4 HC4 HPQ
                have SO := Lib.hid (size32 (qw))
                have ZZ := Lib.hid (heap_alloc_new w5 (.cells #[.int .u8 0, .int .i64 0, .int .i64 0, .int .i64 0, .int .i64 0, .int .i64 0, .int .i64 0, .int .i64 0, .int .i64 0, .slice none 0 0, .slice none 0 0, .slice none 0 0, .slice none 0 0, .slice none 0 0] 32))
                have B6 := Lib.hid (show Below w5.heap.size w5 ((w5.alloc (.cells #[.int .u8 0, .int .i64 0, .int .i64 0, .int .i64 0, .int .i64 0, .int .i64 0, .int .i64 0, .int .i64 0, .int .i64 0, .slice none 0 0, .slice none 0 0, .slice none 0 0, .slice none 0 0, .slice none 0 0] 32)).setRow w5.heap.size (fc qw)) from below_setRow (below_one w5 _) (Nat.le_refl _) _)
                have X6 := Lib.hid (show FB ((w5.alloc (.cells #[.int .u8 0, .int .i64 0, .int .i64 0, .int .i64 0, .int .i64 0, .int .i64 0, .int .i64 0, .int .i64 0, .int .i64 0, .slice none 0 0, .slice none 0 0, .slice none 0 0, .slice none 0 0, .slice none 0 0] 32)).setRow w5.heap.size (fc qw)) w5.heap.size (qw) from setRow_set ZZ.out)
                go_upto_region 17 with (refine wpList_store_row rfl 32 (.tmp 14) (.tmp 90) rfl w5.heap.size (fc (qw)) rfl rfl 32 _ ZZ.out SO.out rfl (fc_one _) ?_)
                clear ZZ SO
                have GE6 := Lib.hid (show w5.heap.size < ((w5.alloc (.cells #[.int .u8 0, .int .i64 0, .int .i64 0, .int .i64 0, .int .i64 0, .int .i64 0, .int .i64 0, .int .i64 0, .int .i64 0, .slice none 0 0, .slice none 0 0, .slice none 0 0, .slice none 0 0, .slice none 0 0] 32)).setRow w5.heap.size (fc qw)).heap.size from fb_lt X6.out)
                generalize (w5.alloc (.cells #[.int .u8 0, .int .i64 0, .int .i64 0, .int .i64 0, .int .i64 0, .int .i64 0, .int .i64 0, .int .i64 0, .int .i64 0, .slice none 0 0, .slice none 0 0, .slice none 0 0, .slice none 0 0, .slice none 0 0] 32)).setRow w5.heap.size (fc qw) = w6 at *
                obtain ⟨g14, hg14⟩ : ∃ b, b = w5.heap.size := ⟨_, rfl⟩
                rw [← hg14] at X6 GE6
                rw [← hg14]
                have Hg14 := Lib.hid hg14
                clear hg14
                have P6 := Lib.hid (P5.out.step B6.out)
                have HO6 := Lib.hid (HO5.out.on (Below.on B6.out fun k hk => (P5.out.zlt (.inl (.inl (.inl (.inr hk))))).1))
                have HFO6 := Lib.hid (HFO5.out.on (Below.on B6.out fun k hk => (P5.out.zlt (.inl (.inr hk))).1))
                have X6b := Lib.hid (fb_below X5.out B6.out)
                have Y6 := Lib.hid (fb_below Y5.out B6.out)
                clear HO5 HFO5 X5 Y5 P5 B6
                obtain ⟨a0, a1, a2, a3, a4, a5, a6, a7, a8, a9, a10, a11, a12, a13⟩ := fb_cells Y6.out
                obtain ⟨b0, b1, b2, b3, b4, b5, b6, b7, b8, b9, b10, b11, b12, b13⟩ := fb_cells X6.out
                go_wp2_with fail
                clear a0 a1 a2 a3 a4 a5 a6 a7 a8 a9 a10 a11 a12 a13 b0 b1 b2 b3 b4 b5 b6 b7 b8 b9 b10 b11 b12 b13
                rw [← fc_is qo, ← fc_is qw]
                (with_reducible refine (same_any qo qw w6 HFO6.out.reads (HFQ.out.1.below P6.out.b) (by rw [HQO.out]; exact HP1.out.2.1) (by rw [HQO.out]; exact HFIT.out.2)).mono ?_)
                rintro e7 w7 ⟨rfl, hb⟩
                have P7 := Lib.hid (P6.out.step hb)
                have HO7 := Lib.hid (HO6.out.on (Below.on hb fun k hk => (P6.out.zlt (.inl (.inl (.inl (.inr hk))))).1))
                have HFO7 := Lib.hid (HFO6.out.on (Below.on hb fun k hk => (P6.out.zlt (.inl (.inr hk))).1))
                have X7 := Lib.hid (fb_below X6b.out hb)
                have Y7 := Lib.hid (fb_below Y6.out hb)
                have SQ := Lib.hid (size32 qo)
                clear hb HO6 HFO6 X6b Y6 P6 X6
                go_wp2_with (refine wpList_load_row rfl 32 (.tmp 10) rfl _ rfl 32 _ (0, 0) _ X7.out Try.underlying32 rfl SU.out ?_)
                (with_reducible refine (spoil_any _ w7 u HO7.out (by rw [HU.out]; exact VV.out)).mono ?_)
                rintro e8 w8 ⟨rfl, hb⟩
                have P8 := Lib.hid (P7.out.spoil hb fun k hk => .inl (.inl (.inl (.inr hk))))
                have HFO8 := Lib.hid (HFO7.out.on (P7.out.on hb fun k hk => ⟨.inl (.inr hk), fun e => HQZ.out k hk (.inl (.inr e))⟩))
                have Y8 := Lib.hid (fb_only Y7.out hb (fun e => by have := Hg11.out; have h1 := e.2; have h2 := GT3.out; have := Hg10.out; omega))
                clear hb HO7 HFO7 X7 Y7 P7
                go_wp2_with (refine wpList_load_row rfl 32 (.tmp 11) rfl _ rfl 32 _ (0, 0) _ Y8.out Try.underlying32 rfl SQ.out ?_)
                (with_reducible refine (spoil_any _ w8 qo HFO8.out (by rw [HQO.out]; exact HFIT.out.2)).mono ?_)
                rintro e9 w9 ⟨rfl, hb⟩
                have P9 := Lib.hid ((P8.out.spoil hb fun k hk => .inl (.inr hk)).mono (Y := fun _ => False) fun k hk => hk.elim)
                have HLQ9 := Lib.hid (show qs1.map (·.F) = L1 from HP1.out.1.symm)
                have HQF9 := Lib.hid HFQ.out.2
                clear hb HFO8 Y8 P8
                go_wp2_with fail
                go_meet
                exact ⟨rfl, L1, qs1, P9, HLQ9, HQF9⟩
              · by_cases h1 : sd = 1
                · subst h1
                  clear FF VV HC
                  go_wp2_with fail
                  (with_reducible refine (pl_take _ w p x mx L qs wr P0.out).mono ?_)
                  rintro e1 w1 ⟨qo, Q, rfl, hqo, hfo, -, hp, -⟩
                  have P1 := Lib.hid hp
                  have HQO := Lib.hid hqo
                  have HFO1 := Lib.hid hfo
                  have HFIT := Lib.hid (show Fit 20000 (hdF L).v from by
                    cases L with
                    | nil => exact fit_none
                    | cons G t => exact P0.out.few.2.2.2.2 G (by simp))
                  have HHD := Lib.hid (show hdF L = (tq qs).F from by rw [tq_F, HLQ.out])
                  have HEM := Lib.hid (show (!L.isEmpty) = !qs.isEmpty from by rw [← HLQ.out]; cases qs <;> rfl)
                  have HTL := Lib.hid (show qs.tail.map (·.F) = L.tail from by rw [← HLQ.out]; cases qs <;> rfl)
                  have HTF := Lib.hid (tq_fr HQF.out)
                  have hql : qs.length ≤ 5000 := by have := P0.out.few.1; have := HLEN.out; omega
                  rw [HEM.out]
                  clear hp hqo hfo c0 P0
                  have SO := Lib.hid (size32 (qo))
                  have ZZ := Lib.hid (heap_alloc_new w1 (.cells #[.int .u8 0, .int .i64 0, .int .i64 0, .int .i64 0, .int .i64 0, .int .i64 0, .int .i64 0, .int .i64 0, .int .i64 0, .slice none 0 0, .slice none 0 0, .slice none 0 0, .slice none 0 0, .slice none 0 0] 32))
                  have B2 := Lib.hid (show Below w1.heap.size w1 ((w1.alloc (.cells #[.int .u8 0, .int .i64 0, .int .i64 0, .int .i64 0, .int .i64 0, .int .i64 0, .int .i64 0, .int .i64 0, .int .i64 0, .slice none 0 0, .slice none 0 0, .slice none 0 0, .slice none 0 0, .slice none 0 0] 32)).setRow w1.heap.size (fc qo)) from below_setRow (below_one w1 _) (Nat.le_refl _) _)
                  have X2 := Lib.hid (show FB ((w1.alloc (.cells #[.int .u8 0, .int .i64 0, .int .i64 0, .int .i64 0, .int .i64 0, .int .i64 0, .int .i64 0, .int .i64 0, .int .i64 0, .slice none 0 0, .slice none 0 0, .slice none 0 0, .slice none 0 0, .slice none 0 0] 32)).setRow w1.heap.size (fc qo)) w1.heap.size (qo) from setRow_set ZZ.out)
                  go_upto_region 23 with (refine wpList_store_row rfl 32 (.tmp 16) (.tmp 114) rfl w1.heap.size (fc (qo)) rfl rfl 32 _ ZZ.out SO.out rfl (fc_one _) ?_)
                  clear ZZ SO
                  have GE2 := Lib.hid (show w1.heap.size < ((w1.alloc (.cells #[.int .u8 0, .int .i64 0, .int .i64 0, .int .i64 0, .int .i64 0, .int .i64 0, .int .i64 0, .int .i64 0, .int .i64 0, .slice none 0 0, .slice none 0 0, .slice none 0 0, .slice none 0 0, .slice none 0 0] 32)).setRow w1.heap.size (fc qo)).heap.size from fb_lt X2.out)
                  generalize (w1.alloc (.cells #[.int .u8 0, .int .i64 0, .int .i64 0, .int .i64 0, .int .i64 0, .int .i64 0, .int .i64 0, .int .i64 0, .int .i64 0, .slice none 0 0, .slice none 0 0, .slice none 0 0, .slice none 0 0, .slice none 0 0] 32)).setRow w1.heap.size (fc qo) = w2 at *
                  obtain ⟨g16, hg16⟩ : ∃ b, b = w1.heap.size := ⟨_, rfl⟩
                  rw [← hg16] at X2 GE2
                  rw [← hg16]
                  have Hg16 := Lib.hid hg16
                  clear hg16
                  have P2 := Lib.hid (P1.out.below B2.out)
                  have HFO2 := Lib.hid (HFO1.out.on (Below.on B2.out fun k hk => (P1.out.zlt (.inr hk)).1))
                  clear HFO1 P1 B2
                  go_wp2_with fail
                  (with_reducible refine (pl_rtake _ w p x mx _ qs w2 P2.out hql).mono ?_)
                  rintro e3 w3 ⟨rfl, hp, hon⟩
                  have P3 := Lib.hid hp
                  have HFO3 := Lib.hid (HFO2.out.on (hon.mono fun k hk => .inl (.inr hk)))
                  have X3 := Lib.hid (show FB w3 g16 qo from (hon g16 (.inr ⟨Nat.le_of_eq Hg16.out.symm, GE2.out⟩)).trans X2.out)
                  clear hp hon HFO2 X2 P2
                  generalize htq : tq qs = qt at *
                  have SO := Lib.hid (size32 (qt))
                  have ZZ := Lib.hid (heap_alloc_new w3 (.cells #[.int .u8 0, .int .i64 0, .int .i64 0, .int .i64 0, .int .i64 0, .int .i64 0, .int .i64 0, .int .i64 0, .int .i64 0, .slice none 0 0, .slice none 0 0, .slice none 0 0, .slice none 0 0, .slice none 0 0] 32))
                  have B4 := Lib.hid (show Below w3.heap.size w3 ((w3.alloc (.cells #[.int .u8 0, .int .i64 0, .int .i64 0, .int .i64 0, .int .i64 0, .int .i64 0, .int .i64 0, .int .i64 0, .int .i64 0, .slice none 0 0, .slice none 0 0, .slice none 0 0, .slice none 0 0, .slice none 0 0] 32)).setRow w3.heap.size (fc qt)) from below_setRow (below_one w3 _) (Nat.le_refl _) _)
                  have X4 := Lib.hid (show FB ((w3.alloc (.cells #[.int .u8 0, .int .i64 0, .int .i64 0, .int .i64 0, .int .i64 0, .int .i64 0, .int .i64 0, .int .i64 0, .int .i64 0, .slice none 0 0, .slice none 0 0, .slice none 0 0, .slice none 0 0, .slice none 0 0] 32)).setRow w3.heap.size (fc qt)) w3.heap.size (qt) from setRow_set ZZ.out)
                  go_upto_region 24 with (refine wpList_store_row rfl 32 (.tmp 18) (.tmp 119) rfl w3.heap.size (fc (qt)) rfl rfl 32 _ ZZ.out SO.out rfl (fc_one _) ?_)
                  clear ZZ SO
                  have GE4 := Lib.hid (show w3.heap.size < ((w3.alloc (.cells #[.int .u8 0, .int .i64 0, .int .i64 0, .int .i64 0, .int .i64 0, .int .i64 0, .int .i64 0, .int .i64 0, .int .i64 0, .slice none 0 0, .slice none 0 0, .slice none 0 0, .slice none 0 0, .slice none 0 0] 32)).setRow w3.heap.size (fc qt)).heap.size from fb_lt X4.out)
                  generalize (w3.alloc (.cells #[.int .u8 0, .int .i64 0, .int .i64 0, .int .i64 0, .int .i64 0, .int .i64 0, .int .i64 0, .int .i64 0, .int .i64 0, .slice none 0 0, .slice none 0 0, .slice none 0 0, .slice none 0 0, .slice none 0 0] 32)).setRow w3.heap.size (fc qt) = w4 at *
                  obtain ⟨g18, hg18⟩ : ∃ b, b = w3.heap.size := ⟨_, rfl⟩
                  rw [← hg18] at X4 GE4
                  rw [← hg18]
                  have Hg18 := Lib.hid hg18
                  clear hg18
                  have P4 := Lib.hid (P3.out.step B4.out)
                  have HFO4 := Lib.hid (HFO3.out.on (Below.on B4.out fun k hk => (P3.out.zlt (.inl (.inr hk))).1))
                  have X4b := Lib.hid (fb_below X3.out B4.out)
                  clear HFO3 X3 P3 B4
                  obtain ⟨a0, a1, a2, a3, a4, a5, a6, a7, a8, a9, a10, a11, a12, a13⟩ := fb_cells X4b.out
                  obtain ⟨b0, b1, b2, b3, b4, b5, b6, b7, b8, b9, b10, b11, b12, b13⟩ := fb_cells X4.out
                  generalize hem : (!qs.isEmpty) = z at *
                  clear hem HEM htq
                  go_wp2_with fail
                  clear a0 a1 a2 a3 a4 a5 a6 a7 a8 a9 a10 a11 a12 a13 b0 b1 b2 b3 b4 b5 b6 b7 b8 b9 b10 b11 b12 b13
                  rw [← fc_is qo, ← fc_is qt]
                  (with_reducible refine (same_any qo qt w4 HFO4.out.reads (HTF.out.1.below P4.out.b) (by rw [HQO.out]; exact HHD.out) (by rw [HQO.out]; exact HFIT.out)).mono ?_)
                  rintro e7 w7 ⟨rfl, hb⟩
                  have P7 := Lib.hid ((P4.out.step hb).mono (Y := fun _ => False) fun k hk => hk.elim)
                  have HTF2 := Lib.hid HTF.out.2
                  clear hb P4 HFO4 X4 X4b
                  go_wp2_with fail
                  go_meet
                  exact ⟨rfl, L.tail, qs.tail, P7, HTL, HTF2⟩
                · have e0 : (sd == 0) = false := by simpa using h0
                  have e1 : (sd == 1) = false := by simpa using h1
                  clear FF VV HC
                  go_wp2_with fail
                  (with_reducible refine (pl_clear _ w p x mx L qs wr P0.out).mono ?_)
                  rintro e1 w1 ⟨rfl, hp⟩
                  have P1 := Lib.hid hp
                  clear hp c0 P0
                  obtain ⟨Ax, cx, cc, ff, -⟩ := P1.out.rb
                  have P2 := Lib.hid (show PlI (fun _ => False) w p x mx [] [] (w1.setCell ⟨x, 1, none⟩ (.slice none 0 0)) from P1.out.doc ⟨rfl, rfl, rfl, by simp, fun k _ hn => Below.heap_setCell _ _ _ _ (fun e => hn e)⟩ fun A c h => ⟨none, 0, h.set (A' := none) (c' := 0) (qs' := []) (.inl ⟨rfl, rfl, rfl⟩), .inr fun k ⟨_, e, _⟩ => by cases e⟩)
                  go_wp2_with fail
                  go_meet
                  exact ⟨rfl, [], [], P2, Lib.hid rfl, Lib.hid (fun q hq => by cases hq)⟩
          case rest =>
            as_aux_lemma =>
              obtain ⟨rfl, L', qs', P1, HLQ1, HQF1⟩ := hcut
              rename World => wd
              clear P0 HLQ HQF HLEN c0 FF VV HC
              have HLEN1 := Lib.hid (show L'.length = qs'.length by have := congrArg List.length HLQ1.out; simpa using this.symm)
              obtain ⟨Ax, cx, cc, -, -⟩ := P1.out.rb
              have P2 := Lib.hid (P1.out.step (show Below wd.heap.size wd wd.drew from (Below.refl _ _).drew))
              go_upto_region 26 with fail
              go_region_held3 (fun W => W.cell? ⟨x, 1, none⟩ = some (.slice Ax qs'.length cx))
                (first | exact cc)
                (first | (go_at_call 14; (with_reducible refine (pl_len _ w p x mx L' qs' wd.drew P2.out).mono ?_); rw [HLEN1.out]; rintro e1 w1 ⟨rfl, rfl⟩))
              clear cc P1
              generalize wd.drew = w1 at *
              cases h5 : (i : Int) % 5 == 4 with
              | false =>
                go_wp2_with fail
                go_roundw
                case rel => exact ⟨i + 1, L', qs', by omega, by go_num, P2, HLQ1, HQF1⟩
                case measure => simp [intOf]; omega
              | true =>
                have hq5 : qs'.length ≤ 5000 := by have := P2.out.few.1; have := HLEN1.out; omega
                have hfit := Lib.hid P2.out.few.2.2.2.2
                go_wp2_with fail
                clear h5
                (with_reducible refine (pl_copy _ w p x mx L' qs' w1 P2.out).mono ?_)
                rintro e2 w2 ⟨p2, rfl, hbx, hp, hb⟩
                have C2 := Lib.hid hbx
                have P3 := Lib.hid hp
                have hs2 := hb.size
                clear hbx hp hb P2
                go_wp2_with fail
                (with_reducible refine (pl_all _ w p x mx L' qs' w2 P3.out).mono ?_)
                rintro e3 w3 ⟨us, va, rfl, hu, hfl, hp, hb⟩
                have C3 := Lib.hid (C2.out.below hb)
                have P4 := Lib.hid hp
                have HUS := Lib.hid hu
                obtain ⟨A1, c1, rfl, hrow, hab, hfr⟩ := hfl
                have ROW := Lib.hid hrow
                have HAB := Lib.hid hab
                have FRS := Lib.hid hfr
                have hs3 := hb.size
                clear hu hrow hab hfr hp hb C2 P3
                obtain ⟨Ax, cx, cc, -, hrx⟩ := P4.out.rb
                have RX := Lib.hid hrx
                clear hrx
                have hul : us.length ≤ 5000 := by have h1 := congrArg List.length HUS.out; have h2 := HLEN1.out; simp at h1; omega
                have HUF := Lib.hid (show ∀ q ∈ us, Fit 20000 q.F.v from fun q hq => hfit.out _ (by rw [← HUS.out]; exact List.mem_map_of_mem hq))
                go_wp2_with fail
                (with_reducible refine (frames_same _ _ us qs' w3 ROW.out.rcs RX.out (FRS.out.each) (fun q hq => (HQF1.out q hq).below P4.out.b) (by rw [HUS.out, HLQ1.out]) HUF.out hul).mono ?_)
                rintro e4 w4 ⟨rfl, hb⟩
                have hs4 := hb.size
                have P5 := Lib.hid ((P4.out.below hb).mono (Y := fun k => w1.heap.size ≤ k ∧ k < w4.heap.size) fun k hk => by
                  rcases Nat.lt_or_ge k w2.heap.size with h1 | h1
                  · exact .inl (.inl (.inr ⟨hk.1, h1⟩))
                  · rcases Nat.lt_or_ge k w3.heap.size with h2 | h2
                    · exact .inl (.inr ⟨h1, h2⟩)
                    · exact .inr ⟨h2, hk.2⟩)
                have C5 := Lib.hid ((C3.out.below hb).mono (E := fun k => k < w1.heap.size ∨ (w2.heap.size ≤ k ∧ k < w4.heap.size)) fun k hk => by
                  rcases hk with hk | hk
                  · exact .inl (.inl hk)
                  · rcases Nat.lt_or_ge k w3.heap.size with h2 | h2
                    · exact .inl (.inr ⟨hk.1, h2⟩)
                    · exact .inr ⟨h2, hk.2⟩)
                have ROW4 := Lib.hid (ROW.out.on (Below.on hb ROW.out.lt))
                have FRS4 := Lib.hid (show ∃ S : Nat → Prop, Frs w4 S (us.drop 0) ∧ (∀ k, S k → w2.heap.size ≤ k ∧ k < w4.heap.size) ∧ (∀ k, S k → ¬ AB A1 k) from ⟨_, FRS.out.on (Below.on hb fun k hk => by have := hk.1; omega), fun k hk => ⟨hk.1.1, by have := hk.1.2; omega⟩, fun k hk => hk.2⟩)
                clear hb cc P4 C3 ROW FRS RX
                go_wp2_with fail
                go_loopw [22] (fun s22 wr => ∃ k : Nat, k ≤ us.length ∧ s22 = .int .i64 k ∧ w4.heap.size ≤ wr.heap.size ∧ Hid (PlI (fun k => w1.heap.size ≤ k ∧ k < wr.heap.size) w p x mx L' qs' wr) ∧ Hid (Bx (fun k => k < w1.heap.size ∨ (w2.heap.size ≤ k ∧ k < wr.heap.size)) wr p2 mx L') ∧ Hid (Row14 wr A1 c1 us) ∧ Hid (∃ S : Nat → Prop, Frs wr S (us.drop k) ∧ (∀ j, S j → w2.heap.size ≤ j ∧ j < wr.heap.size) ∧ (∀ j, S j → ¬ AB A1 j))) (fun s22 _ => us.length - (intOf s22).toNat)
                case atStart => exact ⟨0, by omega, rfl, Nat.le_refl _, P5, C5, ROW4, FRS4⟩
                case round =>
                  clear P5 C5 ROW4 FRS4
                  obtain ⟨k, hku, rfl, hsz, P6, C6, ROW, FRS⟩ := hrel
                  have i5 : (0 : Int) ≤ (k : Int) := by omega
                  by_cases hltk : k < us.length
                  case neg =>
                    have hd2 : decide ((k : Int) < (us.length : Int)) = false := by simp; omega
                    clear ROW FRS
                    go_wp2_with fail
                    (with_reducible refine (bx_take _ _ p2 mx L' C6.out).mono ?_)
                    rintro e7 w7 ⟨qo, Q, rfl, hqo, hfo, hq, -, hk⟩
                    have hs7 := hk.size
                    have P7 := Lib.hid ((P6.out.kept hk fun j hj hn => by
                      by_cases h1 : j < w1.heap.size
                      · exact .inl h1
                      · exact absurd ⟨by omega, hj⟩ hn).mono (Y := fun j => w1.heap.size ≤ j ∧ j < w7.heap.size) fun j hj => by
                        rcases Nat.lt_or_ge j wr.heap.size with h1 | h1
                        · exact .inl ⟨hj.1, h1⟩
                        · exact .inr ⟨h1, hj.2⟩)
                    have HQ := Lib.hid (show ∀ j, Q j → w1.heap.size ≤ j ∧ j < w7.heap.size from fun j hj => by
                      have h1 := hq j hj
                      refine ⟨?_, h1.2⟩
                      rcases Nat.lt_or_ge j w1.heap.size with h2 | h2
                      · exact (h1.1 (.inl h2)).elim
                      · exact h2)
                    have HFO7 := Lib.hid hfo
                    have HQO := Lib.hid hqo
                    have HFIT := Lib.hid (show Fit 20000 (hdF L').v from by
                      have := hfit.out
                      cases L' with
                      | nil => exact fit_none
                      | cons G t => exact this G (by simp))
                    clear hfo hqo hq hk P6 C6 hd2
                    have SO := Lib.hid (size32 (qo))
                    have ZZ := Lib.hid (heap_alloc_new w7 (.cells #[.int .u8 0, .int .i64 0, .int .i64 0, .int .i64 0, .int .i64 0, .int .i64 0, .int .i64 0, .int .i64 0, .int .i64 0, .slice none 0 0, .slice none 0 0, .slice none 0 0, .slice none 0 0, .slice none 0 0] 32))
                    have B8 := Lib.hid (show Below w7.heap.size w7 ((w7.alloc (.cells #[.int .u8 0, .int .i64 0, .int .i64 0, .int .i64 0, .int .i64 0, .int .i64 0, .int .i64 0, .int .i64 0, .int .i64 0, .slice none 0 0, .slice none 0 0, .slice none 0 0, .slice none 0 0, .slice none 0 0] 32)).setRow w7.heap.size (fc qo)) from below_setRow (below_one w7 _) (Nat.le_refl _) _)
                    have X8 := Lib.hid (show FB ((w7.alloc (.cells #[.int .u8 0, .int .i64 0, .int .i64 0, .int .i64 0, .int .i64 0, .int .i64 0, .int .i64 0, .int .i64 0, .int .i64 0, .slice none 0 0, .slice none 0 0, .slice none 0 0, .slice none 0 0, .slice none 0 0] 32)).setRow w7.heap.size (fc qo)) w7.heap.size (qo) from setRow_set ZZ.out)
                    go_upto_region 38 with (refine wpList_store_row rfl 32 (.tmp 23) (.tmp 166) rfl w7.heap.size (fc (qo)) rfl rfl 32 _ ZZ.out SO.out rfl (fc_one _) ?_)
                    clear ZZ SO
                    have GE8 := Lib.hid (show w7.heap.size < ((w7.alloc (.cells #[.int .u8 0, .int .i64 0, .int .i64 0, .int .i64 0, .int .i64 0, .int .i64 0, .int .i64 0, .int .i64 0, .int .i64 0, .slice none 0 0, .slice none 0 0, .slice none 0 0, .slice none 0 0, .slice none 0 0] 32)).setRow w7.heap.size (fc qo)).heap.size from fb_lt X8.out)
                    generalize (w7.alloc (.cells #[.int .u8 0, .int .i64 0, .int .i64 0, .int .i64 0, .int .i64 0, .int .i64 0, .int .i64 0, .int .i64 0, .int .i64 0, .slice none 0 0, .slice none 0 0, .slice none 0 0, .slice none 0 0, .slice none 0 0] 32)).setRow w7.heap.size (fc qo) = w8 at *
                    obtain ⟨g23, hg23⟩ : ∃ b, b = w7.heap.size := ⟨_, rfl⟩
                    rw [← hg23] at X8 GE8
                    rw [← hg23]
                    have Hg23 := Lib.hid hg23
                    clear hg23
                    have P8 := Lib.hid (P7.out.step B8.out)
                    have HFO8 := Lib.hid (HFO7.out.on (Below.on B8.out fun j hj => (HQ.out j hj).2))
                    have SQ := Lib.hid (size32 qo)
                    clear P7 HFO7 B8
                    cases he : !L'.isEmpty with
                    | false =>
                      have P9 := Lib.hid (P8.out.mono (Y := fun _ => False) fun k hk => hk.elim)
                      go_wp2_with fail
                      go_roundw
                      case rel => exact ⟨i + 1, L', qs', by omega, by go_num, P9, HLQ1, HQF1⟩
                      case measure => simp [intOf]; omega
                    | true =>
                      go_wp2_with (refine wpList_load_row rfl 32 (.tmp 23) rfl _ rfl 32 _ (0, 0) _ X8.out Try.underlying32 rfl SQ.out ?_)
                      (with_reducible refine (spoil_any _ w8 qo HFO8.out (by rw [HQO.out]; exact HFIT.out)).mono ?_)
                      rintro e9 w9 ⟨rfl, hb⟩
                      have P9 := Lib.hid ((P8.out.spoil hb HQ.out).mono (Y := fun _ => False) fun k hk => hk.elim)
                      clear hb P8 X8 HFO8
                      go_wp2_with fail
                      go_roundw
                      case rel => exact ⟨i + 1, L', qs', by omega, by go_num, P9, HLQ1, HQF1⟩
                      case measure => simp [intOf]; omega
                  case pos =>
                    have hd2 : decide ((k : Int) < (us.length : Int)) = true := by simp; omega
                    have i6 : (k : Int) < (us.length : Int) := by omega
                    obtain ⟨S, hS, hS2, hS3⟩ := FRS.out
                    rw [List.drop_eq_getElem_cons hltk] at hS
                    obtain ⟨T, hT1, hT2, hT3⟩ := hS
                    obtain ⟨au, rfl⟩ := ROW.out.rcs.addr (show 0 < us.length by omega)
                    have HCU := Lib.hid (row_whole ROW.out.rcs hltk)
                    have HTT := Lib.hid hT2
                    have HT3 := Lib.hid hT3
                    have HST := Lib.hid (And.intro hT1 (And.intro hS2 hS3))
                    have HFU := Lib.hid (HUF.out _ (List.getElem_mem hltk))
                    clear hS2 hS3 hT1 hT2 hT3 FRS
                    generalize us[k] = q at *
                    have SQ := Lib.hid (size32 q)
                    go_wp2_with (refine wpList_load_recs rfl 32 (.tmp 160) rfl _ rfl (fc q) _ HCU.out Try.underlying32 rfl SQ.out ?_)
                    (with_reducible refine (spoil_any T wr q HTT.out HFU.out).mono ?_)
                    rintro e7 w7 ⟨rfl, hb⟩
                    have hs7 := hb.size
                    have P7 := Lib.hid ((P6.out.spoilNew hb fun j hj => by have := HST.out.2.1 j (HST.out.1 j hj); exact ⟨by omega, this.2⟩).mono (Y := fun j => w1.heap.size ≤ j ∧ j < w7.heap.size) fun j hj => by
                        rcases Nat.lt_or_ge j wr.heap.size with h1 | h1
                        · exact .inl ⟨hj.1, h1⟩
                        · exact .inr ⟨h1, hj.2⟩)
                    have C7 := Lib.hid ((C6.out.onlyNew hb fun j hj => .inr (HST.out.2.1 j (HST.out.1 j hj))).mono (E := fun j => j < w1.heap.size ∨ (w2.heap.size ≤ j ∧ j < w7.heap.size)) fun j hj => by
                        rcases hj with hj | hj
                        · exact .inl (.inl hj)
                        · rcases Nat.lt_or_ge j wr.heap.size with h1 | h1
                          · exact .inl (.inr ⟨hj.1, h1⟩)
                          · exact .inr ⟨h1, hj.2⟩)
                    have ROW7 := Lib.hid (ROW.out.on (hb.on fun j hj => ⟨ROW.out.lt j hj, fun e => HST.out.2.2 j (HST.out.1 j e) hj⟩))
                    have FRS7 := Lib.hid (show ∃ S : Nat → Prop, Frs w7 S (us.drop (k + 1)) ∧ (∀ j, S j → w2.heap.size ≤ j ∧ j < w7.heap.size) ∧ (∀ j, S j → ¬ AB (some au) j) from ⟨_, HT3.out.on (hb.on fun j hj => ⟨(HST.out.2.1 j hj.1).2, hj.2⟩), fun j hj => by have := HST.out.2.1 j hj.1; omega, fun j hj => HST.out.2.2 j hj.1⟩)
                    clear hb P6 C6 ROW HTT HT3 HST HCU
                    go_wp2_with fail
                    go_roundw
                    case rel => exact ⟨k + 1, by omega, by go_num, by omega, P7, C7, ROW7, FRS7⟩
                    case measure => simp [intOf]; omega
end Go.Proofs.Ytmgiglefabbmcaa
