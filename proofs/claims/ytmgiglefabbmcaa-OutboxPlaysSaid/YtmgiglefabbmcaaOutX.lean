/-
  A walk: what is lost, and what stays. No statement is proved in this text.
-/
import Derived.Test.YtmgiglefabbmcaaOutW
set_option maxRecDepth 20000
namespace Go.Proofs.Ytmgiglefabbmcaa
open Go Go.RowKit
theorem sliced_h (g o n c h : Nat) (hh : h ≤ c) (W : World) : (Instr.slice 41 (.slice (some ⟨g, o, none⟩) n c) none (some (.int .i64 (h : Int))) none).run Try.prog W = .ok (.slice (some ⟨g, o, none⟩) h c) W := by
  rw [run_slice_h (w := W) (P := Try.prog) 41 (some ⟨g, o, none⟩) n c under41 .i64 (h : Int) (by omega) (by omega), elem41, size32W]
  show Result.ok (sliced (some ⟨g, o, none⟩) 0 h c 14) W = _
  unfold sliced
  split <;> rfl
theorem sliced_l (ad : Addr) (n c l : Nat) (hh : l ≤ n) (z : Int) (hz : z = (l : Int)) (W : World) : (Instr.slice 41 (.slice (some ad) n c) (some (.int .i64 z)) none none).run Try.prog W = .ok (.slice (some (if c = l then ad else ad.add (l * 14))) (n - l) (c - l)) W := by
  subst hz
  rw [run_slice_l (w := W) (P := Try.prog) 41 (some ad) n c under41 .i64 (l : Int) (by omega) (by omega), elem41, size32W]
  show Result.ok (sliced (some ad) l n c 14) W = _
  unfold sliced
  split <;> rfl
theorem yieldsIf_slice {P : Program} {ops : Array Oper} {S : World → Prop} {op : Oper} {a : Act} {v : Value} (hw : Region.wanted op (yielded ops a.tmps) = true) (ty : TypeId) (x lo : Operand) (ho : op.op = .slice ty x (some lo) none none)
    (z l : Value) (hx : a.eval x = z) (hl : a.eval lo = l) (hS : ∀ w, S w → (Instr.sliceAt ty z (some l) none none).run P w = .ok v w) : YieldsIf P ops S op v a :=
  .inl ⟨hw, fun w hw' => by
    unfold execOp
    simp only [ho, hx, hl, Option.map_some, Option.map_none, Sem.run_bind, Sem.run_pure, Result.andThen_ok, hS w hw']⟩
theorem slicedAt_l (ad : Addr) (n c l : Nat) (hh : l ≤ n) (z : Int) (hz : z = (l : Int)) (W : World) : (Instr.sliceAt 41 (.slice (some ad) n c) (some (.int .i64 z)) none none).run Try.prog W = .ok (.slice (some (if c = l then ad else ad.add (l * 14))) (n - l) (c - l)) W := by
  rw [run_sliceAt_slice (w := W) (P := Try.prog) 41 _ _ _ _ under41]
  exact sliced_l ad n c l hh z hz W
/-- What stands behind the frame that has been put. -/
structure StG (w wr : World) (b9 : Nat) (us us2 : List Fq) (v v2 : Value) (q s : Fq) (l2 : List Fr) : Prop where
  r1 : Rcs encF 14 wr v us
  f1 : ∀ x ∈ us, FR wr x
  t1 : ∀ x ∈ us, Fit 20000 x.F.v
  r2 : Rcs encF 14 wr v2 us2
  f2 : ∀ x ∈ us2, FR wr x
  t2 : ∀ x ∈ us2, Fit 20000 x.F.v
  x : FB wr b9 q
  fq : FR wr q
  fs : FR wr s
  ts : Fit 20000 s.F.v
  e2 : us2.map (·.F) = l2
  b : Below w.heap.size w wr
theorem StG.frames {w wr : World} {b9 : Nat} {us us2 : List Fq} {v v2 : Value} {q s : Fq} {l2 : List Fr} (h : StG w wr b9 us us2 v v2 q s l2) {W : World} (hW : Below wr.heap.size wr W) (he : us2.map (·.F) = us.map (·.F)) (hl : us2.length ≤ 5000) :
    Calls Try.prog 26 #[v2, v] W fun e w' => e = .returned (.bool true) ∧ Below wr.heap.size wr w' :=
  (frames_same v2 v us2 us W (h.r2.below hW) (h.r1.below hW) (fun x hx => (h.f2 x hx).below hW) (fun x hx => (h.f1 x hx).below hW) he h.t2 hl).mono fun _ _ ⟨h1, h2⟩ => ⟨h1, below_after hW h2 (Nat.le_refl _)⟩
theorem StG.front {w wr : World} {b9 : Nat} {us us2 : List Fq} {v : Value} {A2 : Option Addr} {n2 c2 : Nat} {q s : Fq} {l2 : List Fr} (h : StG w wr b9 us us2 v (.slice A2 n2 c2) q s l2) {W : World} (hW : Below wr.heap.size wr W) (k : Nat) (hk : k ≤ us2.length) (he : (us2.take k).map (·.F) = us.map (·.F)) (hl : us2.length ≤ 5000) :
    Calls Try.prog 26 #[.slice A2 k c2, v] W fun e w' => e = .returned (.bool true) ∧ Below wr.heap.size wr w' :=
  (frames_same _ v (us2.take k) us W ((h.r2.take hk).below hW) (h.r1.below hW) (fun x hx => (h.f2 x (List.mem_of_mem_take hx)).below hW) (fun x hx => (h.f1 x hx).below hW) he (fun x hx => h.t2 x (List.mem_of_mem_take hx)) (by rw [List.length_take]; omega)).mono fun _ _ ⟨h1, h2⟩ => ⟨h1, below_after hW h2 (Nat.le_refl _)⟩
theorem frames_want {w wr : World} {b9 : Nat} {us us2 ws : List Fq} {v v2 : Value} {q s : Fq} {l2 : List Fr} (h : StG w wr b9 us us2 v v2 q s l2) {wd W : World} (hW : Below wd.heap.size wd W) (hW2 : Below wr.heap.size wr W) {vw : Value} (hr : Rcs encF 14 wd vw ws) (he : us2.map (·.F) = ws.map (·.F)) (hws : ∀ x ∈ ws, x ∈ us ∨ x = s) (hl : us2.length ≤ 5000) :
    Calls Try.prog 26 #[v2, vw] W fun e w' => e = .returned (.bool true) ∧ Below wr.heap.size wr w' :=
  (frames_same v2 vw us2 ws W (h.r2.below hW2) (hr.below hW) (fun x hx => (h.f2 x hx).below hW2) (fun x hx => by
    rcases hws x hx with h1 | rfl
    · exact (h.f1 x h1).below hW2
    · exact h.fs.below hW2) he h.t2 hl).mono fun _ _ ⟨h1, h2⟩ => ⟨h1, below_after hW2 h2 (Nat.le_refl _)⟩
theorem same_pair {wr W : World} {q u : Fq} (hW : Below wr.heap.size wr W) (h : FR wr q) (k : FR wr u) (he : q.F = u.F) (hV : Fit 20000 q.F.v) :
    Calls Try.prog 23 #[.agg (fc q), .agg (fc u)] W fun e w' => e = .returned (.bool true) ∧ Below wr.heap.size wr w' :=
  (same_any q u W (h.below hW) (k.below hW) he hV).mono fun _ _ ⟨h1, h2⟩ => ⟨h1, below_after hW h2 (Nat.le_refl _)⟩
theorem fb_run {W : World} {g : Nat} {q : Fq} (h : FB W g q) : (Instr.loadAt 32 (.pointer (some ⟨g, 0, none⟩))).run Try.prog W = .ok (.agg (fc q)) W := run_loadAt_recs fun j v hj => by
  have e : (⟨g, 0, none⟩ : Addr).add j = ⟨g, j, none⟩ := by unfold Addr.add; split <;> simp_all
  rw [e, cell_of_row _ _ _ _ _ _ h]
  exact hj
theorem rcs_run_mid {w w' : World} {g o n c : Nat} {qs : List Fq} (h : Rcs encF 14 w (.slice (some ⟨g, o, none⟩) n c) qs) (hb : Below w.heap.size w w') {k : Nat} (hk : k < qs.length) : (Instr.loadAt 32 (.pointer (some ⟨g, o + k * 14, none⟩))).run Try.prog w' = .ok (.agg (fc qs[k])) w' := by
  have h2 := rcs_run h hb hk
  rwa [Addr.add_mid] at h2
theorem wb_drew {w W : World} (h : Below w.heap.size w W) : Below w.heap.size w W.drew := below_drewN (n := 1) h
/-- What a frame that is put does, by cases. -/
theorem putL_cases (mx : Int) (L : List Fr) (F : Fr) (hm : (L.length : Int) ≤ mx) :
    ((L.length : Int) < mx ∧ (putL mx L F).1 = L ++ [F] ∧ (putL mx L F).2.2 = false) ∨
    ((L.length : Int) = mx ∧ dz L = -1 ∧ (putL mx L F).1 = L ∧ (putL mx L F).2.1 = F ∧ (putL mx L F).2.2 = true) ∨
    ((L.length : Int) = mx ∧ ∃ f : Nat, ∃ h : f < L.length, dz L = f ∧ (putL mx L F).1 = L.take f ++ L.drop (f + 1) ++ [F] ∧ (putL mx L F).2.1 = L[f] ∧ (putL mx L F).2.2 = true) := by
  unfold putL dz
  by_cases h1 : (L.length : Int) < mx
  · exact .inl ⟨h1, by rw [if_pos h1], by rw [if_pos h1]⟩
  · by_cases h2 : fi L < L.length
    · refine .inr (.inr ⟨by omega, fi L, h2, by rw [if_pos h2], ?_, ?_, ?_⟩)
      · rw [if_neg h1, dif_pos h2, List.eraseIdx_eq_take_drop_succ]
      · rw [if_neg h1, dif_pos h2]
      · rw [if_neg h1, dif_pos h2]
    · exact .inr (.inl ⟨by omega, by rw [if_neg h2], by rw [if_neg h1, dif_neg h2], by rw [if_neg h1, dif_neg h2], by rw [if_neg h1, dif_neg h2]⟩)
set_option maxHeartbeats 64000000 in
set_option maxRecDepth 100000 in
theorem stays_any (mx : Int) (v : Value) (l : List Sq) (w : World) (_hmx : -9223372036854775808 ≤ mx ∧ mx ≤ 9223372036854775807) (h : Rcs encS 15 w v l) (hs : (∀ s ∈ l, FR w s.2 ∧ WideV s.2.F.v) ∧ l.length ≤ 8796093022208) :
    Calls Try.prog 6 #[.int .i64 mx, v] w fun e w' => e = .returned (.bool true) ∧ Below w.heap.size w w' := by
  have HI := Lib.hid h
  have HS := Lib.hid hs
  obtain ⟨A, c, rfl, -, -, -⟩ := h
  clear hs
  go_enter Try.func6, Try.ntmps6
  go_wp2_with fail
  (with_reducible refine (works_any w).mono ?_)
  rintro e1 w1 ⟨rfl, hb⟩
  have B1 := Lib.hid hb
  clear hb
  go_wp2_with fail
  (with_reducible refine (large_any _ l w1 (HI.out.below B1.out) (fun s hs => ⟨(HS.out.1 s hs).1.below B1.out, (HS.out.1 s hs).2⟩) HS.out.2).mono ?_)
  rintro e2 w2 ⟨⟨z, rfl, hz⟩, hb⟩
  have B2 := Lib.hid (below_after B1.out hb (Nat.le_refl _))
  clear hb B1
  rcases z with _ | _
  case true =>
    clear hz
    go_wp2_with fail
    (with_reducible refine (works_any w2).mono ?_)
    rintro e3 w3 ⟨rfl, hb⟩
    have B3 := Lib.hid (below_after B2.out hb (Nat.le_refl _))
    go_wp2_with fail
    go_ret
    exact ⟨rfl, B3.out⟩
  case false =>
    have HL := Lib.hid (hz rfl)
    clear hz
    go_wp2_with fail
    by_cases hm : 1 ≤ mx ∧ mx ≤ 4096
    case neg =>
      (with_reducible refine (new_no mx w2 hm).mono ?_)
      rintro e4 w4 ⟨rfl, rfl⟩
      go_wp2_with fail
      go_ret
      exact ⟨rfl, B2.out⟩
    case pos =>
      (with_reducible refine (bx_new (fun k => k < w.heap.size) mx w2 (fun k hk => Nat.lt_of_lt_of_le hk B2.out.size) hm).mono ?_)
      rintro e4 w4 ⟨rfl, hx, hb⟩
      have H4 := Lib.hid hx
      have B4 := Lib.hid (below_after B2.out hb (Nat.le_refl _))
      clear hx hb B2
      go_wp2_with fail
      obtain ⟨p, hp⟩ : ∃ p, p = w2.heap.size := ⟨_, rfl⟩
      rw [← hp] at H4
      rw [← hp]
      clear hp
      have l300 := HL.out.1
      go_loopw [7] (fun s7 wr => ∃ (k : Nat) (L : List Fr), k ≤ l.length ∧ s7 = .int .i64 k ∧ Hid (Bx (fun k => k < w.heap.size) wr p mx L) ∧ Hid (Below w.heap.size w wr)) (fun s7 _ => l.length - (intOf s7).toNat)
      case atStart => exact ⟨0, [], by omega, rfl, H4, B4⟩
      case round =>
        clear H4 B4
        obtain ⟨i, L, hil, rfl, HX, HW⟩ := hrel
        have i3 : (0 : Int) ≤ (i : Int) := by omega
        by_cases hlt : i < l.length
        case neg =>
          obtain rfl : i = l.length := by omega
          have hd : decide ((l.length : Int) < (l.length : Int)) = false := by simp
          go_wp2_with fail
          go_ret
          exact ⟨rfl, HW.out⟩
        case pos =>
          have hd : decide ((i : Int) < (l.length : Int)) = true := by simp; omega
          have i4 : (i : Int) < (l.length : Int) := by omega
          obtain ⟨ad, rfl⟩ := HI.out.addr (Nat.lt_of_le_of_lt (Nat.zero_le _) hlt)
          have HC := Lib.hid (fun W (hb : Below w.heap.size w W) => rcs_step HI.out hb hlt)
          have c0 := HI.out.first HW.out hlt (u := .int .u8 l[i].1) rfl
          have FF := Lib.hid (HS.out.1 _ (List.getElem_mem hlt)).1
          have VV := Lib.hid (HL.out.2 _ (List.getElem_mem hlt))
          generalize l[i] = s at *
          obtain ⟨sd, s⟩ := s
          dsimp only at c0 HC FF VV
          by_cases h0 : sd = 0
          case neg =>
            have e0 : (sd != 0) = true := by simp [h0]
            go_wp2_with fail
            (with_reducible refine (bx_take _ _ p mx L HX.out).mono ?_)
            rintro e5 w5 ⟨qt, Q5, rfl, -, -, -, hx, hk⟩
            have HX5 := Lib.hid (hx.mono (E := fun k => k < w.heap.size) fun _ e => .inl e)
            have HW5 := Lib.hid (HW.out.trans (hk.below fun k e => e))
            clear hx hk HX HW c0
            go_wp2_with fail
            go_roundw
            case rel => exact ⟨i + 1, _, by omega, by go_num, HX5, HW5⟩
            case measure => simp [intOf]; omega
          case pos =>
            subst h0
            go_wp2_with fail
            (with_reducible refine (bx_all _ _ p mx L HX.out).mono ?_)
            rintro e5 w5 ⟨us, vv, rfl, hu, hf, hx, hb⟩
            have HU := Lib.hid hu
            have HF5 := Lib.hid hf
            have HX5 := Lib.hid hx
            have HW5 := Lib.hid (below_after HW.out hb (Nat.le_refl _))
            obtain ⟨A1, c1, hv1, hrow1, hab1, -⟩ := id hf
            subst hv1
            have HROW := Lib.hid hrow1
            have HAB := Lib.hid hab1
            clear hu hf hx hb HW c0 hrow1 hab1
            have HC5 := Lib.hid (HC.out _ HW5.out)
            have SS := Lib.hid (size32 s)
            go_wp2_with (refine wpList_load_recs rfl 32 (.tmp 51) rfl _ rfl (fc s) _ HC5.out Try.underlying32 rfl SS.out ?_)
            (with_reducible refine (bx_put _ w5 p mx L HX5.out s (FF.out.below HW5.out) VV.out).mono ?_)
            rintro e6 w6 ⟨qo, Q, rfl, ho, hfo, -, hx, hk⟩
            have HX6 := Lib.hid (hx.mono (E := fun k => k < w.heap.size) fun _ e => .inl (.inl e))
            have HF6 := Lib.hid (show Rcs encF 14 w6 (.slice A1 us.length c1) us ∧ ∀ x ∈ us, FR w6 x from have hfl := HF5.out.on (hk.on.mono fun _ e => .inr e); ⟨hfl.rcs, hfl.each⟩)
            have HRO := Lib.hid (HROW.out.on (hk.on.mono fun k hk2 => .inr (HAB.out k hk2)))
            have HW6 := Lib.hid (HW5.out.trans (hk.below fun k e => .inl e))
            have HO := Lib.hid ho
            have HFO := Lib.hid hfo.reads
            have SO := Lib.hid (size32 qo)
            clear ho hfo hx hk HX5 HW5 HC5 HF5 HROW HAB
            have ZZ := Lib.hid (heap_alloc_new w6 (.cells #[.int .u8 0, .int .i64 0, .int .i64 0, .int .i64 0, .int .i64 0, .int .i64 0, .int .i64 0, .int .i64 0, .int .i64 0, .slice none 0 0, .slice none 0 0, .slice none 0 0, .slice none 0 0, .slice none 0 0] 32))
            have B7 := Lib.hid (show Below w6.heap.size w6 ((w6.alloc (.cells #[.int .u8 0, .int .i64 0, .int .i64 0, .int .i64 0, .int .i64 0, .int .i64 0, .int .i64 0, .int .i64 0, .int .i64 0, .slice none 0 0, .slice none 0 0, .slice none 0 0, .slice none 0 0, .slice none 0 0] 32)).setRow w6.heap.size (fc qo)) from below_setRow (below_one w6 _) (Nat.le_refl _) _)
            have X7 := Lib.hid (show FB ((w6.alloc (.cells #[.int .u8 0, .int .i64 0, .int .i64 0, .int .i64 0, .int .i64 0, .int .i64 0, .int .i64 0, .int .i64 0, .int .i64 0, .slice none 0 0, .slice none 0 0, .slice none 0 0, .slice none 0 0, .slice none 0 0] 32)).setRow w6.heap.size (fc qo)) w6.heap.size qo from setRow_set ZZ.out)
            obtain ⟨z, hz⟩ : ∃ z, (putL mx L s.F).2.2 = z := ⟨_, rfl⟩
            rw [hz]
            have HZ := Lib.hid hz
            clear hz
            go_upto_region 13 with (refine wpList_store_row rfl 32 (.tmp 9) (.tmp 54) rfl w6.heap.size (fc qo) rfl rfl 32 _ ZZ.out SO.out rfl (fc_one _) ?_)
            clear ZZ
            generalize (w6.alloc (.cells #[.int .u8 0, .int .i64 0, .int .i64 0, .int .i64 0, .int .i64 0, .int .i64 0, .int .i64 0, .int .i64 0, .int .i64 0, .slice none 0 0, .slice none 0 0, .slice none 0 0, .slice none 0 0, .slice none 0 0] 32)).setRow w6.heap.size (fc qo) = w7 at *
            obtain ⟨b9, hb9⟩ : ∃ b, b = w6.heap.size := ⟨_, rfl⟩
            rw [← hb9] at X7
            rw [← hb9]
            clear hb9
            have HX7 := Lib.hid (HX6.out.step B7.out)
            go_wp2_with fail
            (with_reducible refine (bx_all _ _ p mx _ HX7.out).mono ?_)
            rintro e8 w8 ⟨us2, vv2, rfl, hu2, hf2, hx, hb⟩
            have B8 := Lib.hid (below_after B7.out hb (Nat.le_refl _))
            have HX8 := Lib.hid (hx.mono (E := fun k => k < w.heap.size) fun _ e => .inl e)
            have HW8 := Lib.hid (below_after HW6.out B8.out (Nat.le_refl _))
            have HRO8 := Lib.hid (HRO.out.on (Below.on B8.out HRO.out.lt))
            have GG : Hid (StG w w8 b9 us us2 (.slice A1 us.length c1) vv2 qo s (putL mx L s.F).1) := Lib.hid
              ⟨HF6.out.1.below B8.out, fun x hx => (HF6.out.2 x hx).below B8.out, fun x hx => HX.out.fit _ (by rw [← HU.out]; exact List.mem_map_of_mem hx), hf2.rcs, hf2.each, fun x hx => HX8.out.fit _ (by rw [← hu2]; exact List.mem_map_of_mem hx),
                fb_below X7.out hb, HFO.out.below B8.out, FF.out.below HW8.out, VV.out, hu2, HW8.out⟩
            obtain ⟨A2, c2, hv2, hrow2, -, -⟩ := id hf2
            subst hv2
            have HRO2 := Lib.hid hrow2
            have HUN := Lib.hid (show us.length = L.length by have := congrArg List.length HU.out; simpa using this)
            have hfew : us.length ≤ 4096 := by rw [HUN.out]; exact HX.out.few
            have hfew2 := HX8.out.few
            have hlenm := HX.out.len.1
            have hfew3 : us2.length ≤ 4096 := by have := congrArg List.length hu2; simp at this; omega
            have HLM := Lib.hid hlenm
            clear hu2 hf2 hx hb hrow2 HRO HF6 X7 B7 B8 HW6 HX6 HX7 HFO HX hfew2 hlenm
            go_upto_region 14 with fail
            go_wp2_with fail
            go_loopw [13, 14] (fun s13 s14 wq => ∃ (n : Nat) (f z : Int), n ≤ us.length ∧ s13 = .int .i64 f ∧ s14 = .int .i64 z ∧ z = (n : Int) - 1 ∧ Hid (FiI us n f) ∧ Hid (Below w8.heap.size w8 wq)) (fun _ s14 _ => (intOf s14 + 1).toNat)
            case atStart => exact ⟨us.length, -1, (us.length : Int) - 1, Nat.le_refl _, rfl, by go_num, rfl, Lib.hid (FiI.start us), Lib.hid (Below.refl _ _)⟩
            case round =>
              obtain ⟨n, f, zz, hn, rfl, rfl, hzz, HFI, HQ⟩ := hrel
              by_cases hn0 : n = 0
              case neg =>
                obtain ⟨m, rfl⟩ : ∃ m, n = m + 1 := ⟨n - 1, by omega⟩
                obtain rfl : zz = (m : Int) := by omega
                have hd2 : decide ((0 : Int) ≤ (m : Int)) = true := by simp
                have m3 : (0 : Int) ≤ (m : Int) := by omega
                have m4 : (m : Int) < (us.length : Int) := by omega
                have hml : m < us.length := by omega
                clear hzz
                obtain ⟨a1, rfl⟩ := GG.out.r1.addr (Nat.lt_of_le_of_lt (Nat.zero_le _) hml)
                have HCM := Lib.hid (rcs_frame GG.out.r1 HQ.out hml)
                have SM := Lib.hid (size32 us[m])
                obtain ⟨bk, hbk⟩ : ∃ b, kn us[m].F = b := ⟨_, rfl⟩
                go_wp2_with (refine wpList_load_recs rfl 32 (.tmp 68) rfl _ rfl (fc us[m]) _ HCM.out Try.underlying32 rfl SM.out ?_)
                (with_reducible refine (known_any us[m] _).mono ?_)
                rintro e9 w9 ⟨rfl, hb⟩
                have HQ9 := Lib.hid (below_after HQ.out hb (Nat.le_refl _))
                clear hb HCM SM HQ
                rw [hbk]
                have gw : IntKind.i64.wrap ((m : Int) - 1) = (m : Int) - 1 := IntWalk.i64_in _ ⟨by omega, by omega⟩
                cases bk
                case false =>
                  have HF9 := Lib.hid (HFI.out.no hml hbk)
                  clear hbk HFI
                  go_wp2_with fail
                  go_roundw
                  case rel => exact ⟨m, f, (m : Int) - 1, by omega, rfl, by go_num, rfl, HF9, HQ9⟩
                  case measure => simp [intOf]
                case true =>
                  have HF9 := Lib.hid (HFI.out.yes hml hbk)
                  clear hbk HFI
                  go_wp2_with fail
                  go_roundw
                  case rel => exact ⟨m, (m : Int), (m : Int) - 1, by omega, rfl, by go_num, rfl, HF9, HQ9⟩
                  case measure => simp [intOf]
              case pos =>
                subst hn0
                have hd2 : decide ((0 : Int) ≤ zz) = false := by simp; omega
                have hd3 : zz < 0 := by omega
                clear hzz
                have hfd := HFI.out.done
                rw [HU.out] at hfd
                clear HFI
                rcases putL_cases mx L s.F HLM.out with ⟨k1, k2, k3⟩ | ⟨k1, k0, k2, k4, k3⟩ | ⟨k1, fn, k5, k0, k2, k4, k3⟩
                case inl =>
                  as_aux_lemma =>
                    obtain rfl : z = false := HZ.out.symm.trans k3
                    have ez : ((us.length : Int) == mx) = false := by have := HUN.out; simp; omega
                    have hl2 : us2.length = us.length + 1 := by
                      have := congrArg List.length GG.out.e2
                      rw [k2] at this
                      have := HUN.out
                      simp at *
                      omega
                    have hlt2 : us.length < us2.length := by omega
                    obtain ⟨g2, o2, rfl⟩ : ∃ g o, A2 = some ⟨g, o, none⟩ := by
                      rcases HRO2.out with ⟨_, _, h⟩ | ⟨g, o, _, h, _⟩
                      · rw [h] at hlt2; exact absurd hlt2 (by simp)
                      · exact ⟨g, o, h⟩
                    have hcap : us.length ≤ c2 := by
                      rcases HRO2.out with ⟨h, _⟩ | ⟨g, o, cur, h, _, _, h2, _⟩
                      · cases h
                      · omega
                    have S2 := fun W => sliced_h g2 o2 us2.length c2 us.length hcap W
                    have HFS := Lib.hid (fun W (hW : Below w8.heap.size w8 W) => GG.out.front hW us.length (by omega) (by rw [List.map_take, GG.out.e2, k2, HU.out, HUN.out, List.take_left']; rfl) (by omega))
                    have HR1 := Lib.hid (fun W (hW : Below w8.heap.size w8 W) => rcs_run_mid GG.out.r2 hW hlt2)
                    have HR2 := Lib.hid (fun W (hW : Below w8.heap.size w8 W) => run_loadAt_recs (HC.out W (below_after HW8.out hW (Nat.le_refl _))))
                    have hxe : us2[us.length].F = s.F := by
                      have h1 := congrArg (fun l => l[us.length]?) (GG.out.e2.trans k2)
                      have h2 : (L ++ [s.F])[us.length]? = some s.F := by rw [HUN.out, List.getElem?_append_right (Nat.le_refl _)]; simp
                      simp only [h2] at h1
                      simpa [hlt2] using h1
                    have HSM := Lib.hid (fun W (hW : Below w8.heap.size w8 W) => same_pair hW (GG.out.f2 _ (List.getElem_mem hlt2)) GG.out.fs hxe (GG.out.t2 _ (List.getElem_mem hlt2)))
                    rw [hl2] at S2
                    obtain ⟨x, hx⟩ : ∃ x, us2[us.length] = x := ⟨_, rfl⟩
                    rw [hx] at HR1 HSM
                    have n4 : (0 : Int) ≤ (us.length : Int) := by omega
                    have n5 : (us.length : Int) < (us.length : Int) + 1 := by omega
                    have gw : IntKind.i64.wrap ((us.length : Int) + 1) = (us.length : Int) + 1 := IntWalk.i64_in _ ⟨by omega, by omega⟩
                    rw [hl2]
                    clear hx hxe hlt2 hcap k1 k2 k3 hfd
                    go_upto_region 26 with (fail)
                    refine wp_region_held_drew (S := fun W => (Instr.loadAt 32 (.pointer (some (⟨g2, o2 + us.length * 14, none⟩ : Addr)))).run Try.prog W = .ok (.agg (fc x)) W ∧ (Instr.loadAt 32 (.pointer (some (⟨(ad.add (i * 15)).block, (ad.add (i * 15)).off + 1, none⟩ : Addr)))).run Try.prog W = .ok (.agg (fc s)) W) (by kernel_rfl) ?_ (fun hHeld => ?_)
                    · exact ⟨HR1.out _ (wb_drew HQ.out), HR2.out _ (wb_drew HQ.out)⟩
                    (refine wpAnyH_take (i := 0) (oi := ⟨_, _, _, _, _, _⟩) (v := ?_) rfl (by kernel_rfl) (by kernel_rfl) (by kernel_rfl) (fun _ _ _ h => h) (Or.inl ⟨by rfl, ?_⟩) (by assumption) ?_; rotate_left 1; · (intro w hSw; (try dsimp only at hSw); go_simp; all_goals with_reducible rfl))
                    try simp only [Act.put, List.setIfInBounds_toArray, List.set_cons_zero, List.set_cons_succ]
                    (refine wpAnyH_take (i := 1) (oi := ⟨_, _, _, _, _, _⟩) (v := ?_) rfl (by kernel_rfl) (by kernel_rfl) (by kernel_rfl) (fun _ _ _ h => h) (Or.inl ⟨by rfl, ?_⟩) (by assumption) ?_; rotate_left 1; · (intro w hSw; (try dsimp only at hSw); go_simp; all_goals with_reducible rfl))
                    try simp only [Act.put, List.setIfInBounds_toArray, List.set_cons_zero, List.set_cons_succ]
                    (refine wpAnyH_take (i := 2) (oi := ⟨_, _, _, _, _, _⟩) (v := ?_) rfl (by kernel_rfl) (by kernel_rfl) (by kernel_rfl) (fun _ _ _ h => h) (Or.inl ⟨by rfl, ?_⟩) (by assumption) ?_; rotate_left 1; · (intro w hSw; (try dsimp only at hSw); go_simp; all_goals with_reducible rfl))
                    try simp only [Act.put, List.setIfInBounds_toArray, List.set_cons_zero, List.set_cons_succ]
                    (refine wpAnyH_take (i := 3) (oi := ⟨_, _, _, _, _, _⟩) (v := ?_) rfl (by kernel_rfl) (by kernel_rfl) (by kernel_rfl) (fun _ _ _ h => h) (Or.inl ⟨by rfl, ?_⟩) (by assumption) ?_; rotate_left 1; · (intro w hSw; (try dsimp only at hSw); go_simp; all_goals with_reducible rfl))
                    try simp only [Act.put, List.setIfInBounds_toArray, List.set_cons_zero, List.set_cons_succ]
                    (refine wpAnyH_take (i := 4) (oi := ⟨_, _, _, _, _, _⟩) (v := ?_) rfl (by kernel_rfl) (by kernel_rfl) (by kernel_rfl) (fun _ _ _ h => h) (Or.inl ⟨by rfl, ?_⟩) (by assumption) ?_; rotate_left 1; · (intro w hSw; (try dsimp only at hSw); go_simp; all_goals with_reducible rfl))
                    try simp only [Act.put, List.setIfInBounds_toArray, List.set_cons_zero, List.set_cons_succ]
                    (refine wpAnyH_take (i := 5) (oi := ⟨_, _, _, _, _, _⟩) (v := ?_) rfl (by kernel_rfl) (by kernel_rfl) (by kernel_rfl) (fun _ _ _ h => h) (Or.inl ⟨by rfl, ?_⟩) (by assumption) ?_; rotate_left 1; · (intro w hSw; (try dsimp only at hSw); go_simp; all_goals with_reducible rfl))
                    try simp only [Act.put, List.setIfInBounds_toArray, List.set_cons_zero, List.set_cons_succ]
                    (refine wpAnyH_take (i := 6) (oi := ⟨_, _, _, _, _, _⟩) (v := ?_) rfl (by kernel_rfl) (by kernel_rfl) (by kernel_rfl) (fun _ _ _ h => h) (Or.inl ⟨by rfl, ?_⟩) (by assumption) ?_; rotate_left 1; · (intro w hSw; (try dsimp only at hSw); go_simp; all_goals with_reducible rfl))
                    try simp only [Act.put, List.setIfInBounds_toArray, List.set_cons_zero, List.set_cons_succ]
                    first | (refine wpAnyH_take (i := 7) (oi := ⟨_, _, _, _, _, _⟩) (v := ?_) rfl (by kernel_rfl) (by kernel_rfl) (by kernel_rfl) (fun _ _ _ h => h) (Or.inl ⟨by rfl, ?_⟩) (by assumption) ?_; rotate_left 1; · (intro w hSw; (try dsimp only at hSw); go_simp; all_goals with_reducible rfl)) | refine wpAnyH_take (i := 7) (oi := ⟨_, _, _, _, _, _⟩) (v := undef) rfl (by kernel_rfl) (by kernel_rfl) (by kernel_rfl) (fun _ _ _ h => h) (Or.inr ⟨by kernel_rfl, rfl⟩) (by assumption) ?_
                    try simp only [Act.put, List.setIfInBounds_toArray, List.set_cons_zero, List.set_cons_succ]
                    first | (refine wpAnyH_take (i := 8) (oi := ⟨_, _, _, _, _, _⟩) (v := ?_) rfl (by kernel_rfl) (by kernel_rfl) (by kernel_rfl) (fun _ _ _ h => h) (Or.inl ⟨by rfl, ?_⟩) (by assumption) ?_; rotate_left 1; · (intro w hSw; (try dsimp only at hSw); go_simp; all_goals with_reducible rfl)) | refine wpAnyH_take (i := 8) (oi := ⟨_, _, _, _, _, _⟩) (v := undef) rfl (by kernel_rfl) (by kernel_rfl) (by kernel_rfl) (fun _ _ _ h => h) (Or.inr ⟨by kernel_rfl, rfl⟩) (by assumption) ?_
                    try simp only [Act.put, List.setIfInBounds_toArray, List.set_cons_zero, List.set_cons_succ]
                    first | (refine wpAnyH_take (i := 9) (oi := ⟨_, _, _, _, _, _⟩) (v := ?_) rfl (by kernel_rfl) (by kernel_rfl) (by kernel_rfl) (fun _ _ _ h => h) (Or.inl ⟨by rfl, ?_⟩) (by assumption) ?_; rotate_left 1; · (intro w hSw; (try dsimp only at hSw); go_simp; all_goals with_reducible rfl)) | refine wpAnyH_take (i := 9) (oi := ⟨_, _, _, _, _, _⟩) (v := undef) rfl (by kernel_rfl) (by kernel_rfl) (by kernel_rfl) (fun _ _ _ h => h) (Or.inr ⟨by kernel_rfl, rfl⟩) (by assumption) ?_
                    try simp only [Act.put, List.setIfInBounds_toArray, List.set_cons_zero, List.set_cons_succ]
                    first | (refine wpAnyH_take (i := 10) (oi := ⟨_, _, _, _, _, _⟩) (v := ?_) rfl (by kernel_rfl) (by kernel_rfl) (by kernel_rfl) (fun _ _ _ h => h) (Or.inl ⟨by rfl, ?_⟩) (by assumption) ?_; rotate_left 1; · (intro w hSw; (try dsimp only at hSw); go_simp; all_goals with_reducible rfl)) | refine wpAnyH_take (i := 10) (oi := ⟨_, _, _, _, _, _⟩) (v := undef) rfl (by kernel_rfl) (by kernel_rfl) (by kernel_rfl) (fun _ _ _ h => h) (Or.inr ⟨by kernel_rfl, rfl⟩) (by assumption) ?_
                    try simp only [Act.put, List.setIfInBounds_toArray, List.set_cons_zero, List.set_cons_succ]
                    first | (refine wpAnyH_take (i := 11) (oi := ⟨_, _, _, _, _, _⟩) (v := ?_) rfl (by kernel_rfl) (by kernel_rfl) (by kernel_rfl) (fun _ _ _ h => h) (Or.inl ⟨by rfl, ?_⟩) (by assumption) ?_; rotate_left 1; · (intro w hSw; (try dsimp only at hSw); go_simp; all_goals with_reducible rfl)) | refine wpAnyH_take (i := 11) (oi := ⟨_, _, _, _, _, _⟩) (v := undef) rfl (by kernel_rfl) (by kernel_rfl) (by kernel_rfl) (fun _ _ _ h => h) (Or.inr ⟨by kernel_rfl, rfl⟩) (by assumption) ?_
                    try simp only [Act.put, List.setIfInBounds_toArray, List.set_cons_zero, List.set_cons_succ]
                    refine wpAnyH_ready (rs := [12]) (by kernel_rfl) (by simp) ?_
                    refine AllReadyH.cons (o := ⟨_, _, _, _, _, _⟩) rfl (fun Kq hKq => ?_) AllReadyH.nil
                    go_simp
                    clear hHeld
                    (go_at_call 26; (with_reducible refine (HFS.out _ (wb_drew HQ.out)).mono ?_); rintro e10 w10 ⟨rfl, hb⟩; have B10 := Lib.hid hb; clear hb)
                    refine hKq.out _ _ ?_ (fun hHeld => ?_)
                    · (try dsimp only); exact ⟨HR1.out _ B10.out, HR2.out _ B10.out⟩
                    clear hKq Kq
                    try simp only [Act.put, List.setIfInBounds_toArray, List.set_cons_zero, List.set_cons_succ]
                    first | (refine wpAnyH_take (i := 13) (oi := ⟨_, _, _, _, _, _⟩) (v := ?_) rfl (by kernel_rfl) (by kernel_rfl) (by kernel_rfl) (fun _ _ _ h => h) (Or.inl ⟨by rfl, ?_⟩) (by assumption) ?_; rotate_left 1; · (intro w hSw; (try dsimp only at hSw); go_simp; all_goals with_reducible rfl)) | refine wpAnyH_take (i := 13) (oi := ⟨_, _, _, _, _, _⟩) (v := undef) rfl (by kernel_rfl) (by kernel_rfl) (by kernel_rfl) (fun _ _ _ h => h) (Or.inr ⟨by kernel_rfl, rfl⟩) (by assumption) ?_
                    try simp only [Act.put, List.setIfInBounds_toArray, List.set_cons_zero, List.set_cons_succ]
                    (refine wpAnyH_take (i := 14) (oi := ⟨_, _, _, _, _, _⟩) (v := ?_) rfl (by kernel_rfl) (by kernel_rfl) (by kernel_rfl) (fun _ _ _ h => h) (Or.inl ⟨by rfl, ?_⟩) (by assumption) ?_; rotate_left 1; · (intro w hSw; (try dsimp only at hSw); go_simp; all_goals with_reducible rfl))
                    try simp only [Act.put, List.setIfInBounds_toArray, List.set_cons_zero, List.set_cons_succ]
                    (refine wpAnyH_take (i := 15) (oi := ⟨_, _, _, _, _, _⟩) (v := ?_) rfl (by kernel_rfl) (by kernel_rfl) (by kernel_rfl) (fun _ _ _ h => h) (Or.inl ⟨by rfl, ?_⟩) (by assumption) ?_; rotate_left 1; · (intro w hSw; (try dsimp only at hSw); go_simp; all_goals with_reducible rfl))
                    try simp only [Act.put, List.setIfInBounds_toArray, List.set_cons_zero, List.set_cons_succ]
                    first | (refine wpAnyH_take (i := 16) (oi := ⟨_, _, _, _, _, _⟩) (v := ?_) rfl (by kernel_rfl) (by kernel_rfl) (by kernel_rfl) (fun _ _ _ h => h) (Or.inl ⟨by rfl, ?_⟩) (by assumption) ?_; rotate_left 1; · (intro w hSw; (try dsimp only at hSw); go_simp; all_goals with_reducible rfl)) | refine wpAnyH_take (i := 16) (oi := ⟨_, _, _, _, _, _⟩) (v := undef) rfl (by kernel_rfl) (by kernel_rfl) (by kernel_rfl) (fun _ _ _ h => h) (Or.inr ⟨by kernel_rfl, rfl⟩) (by assumption) ?_
                    try simp only [Act.put, List.setIfInBounds_toArray, List.set_cons_zero, List.set_cons_succ]
                    first | (refine wpAnyH_take (i := 17) (oi := ⟨_, _, _, _, _, _⟩) (v := ?_) rfl (by kernel_rfl) (by kernel_rfl) (by kernel_rfl) (fun _ _ _ h => h) (Or.inl ⟨by rfl, ?_⟩) (by assumption) ?_; rotate_left 1; · (intro w hSw; (try dsimp only at hSw); go_simp; all_goals with_reducible rfl)) | refine wpAnyH_take (i := 17) (oi := ⟨_, _, _, _, _, _⟩) (v := undef) rfl (by kernel_rfl) (by kernel_rfl) (by kernel_rfl) (fun _ _ _ h => h) (Or.inr ⟨by kernel_rfl, rfl⟩) (by assumption) ?_
                    try simp only [Act.put, List.setIfInBounds_toArray, List.set_cons_zero, List.set_cons_succ]
                    first | (refine wpAnyH_take (i := 18) (oi := ⟨_, _, _, _, _, _⟩) (v := ?_) rfl (by kernel_rfl) (by kernel_rfl) (by kernel_rfl) (fun _ _ _ h => h) (Or.inl ⟨by rfl, ?_⟩) (by assumption) ?_; rotate_left 1; · (intro w hSw; (try dsimp only at hSw); go_simp; all_goals with_reducible rfl)) | refine wpAnyH_take (i := 18) (oi := ⟨_, _, _, _, _, _⟩) (v := undef) rfl (by kernel_rfl) (by kernel_rfl) (by kernel_rfl) (fun _ _ _ h => h) (Or.inr ⟨by kernel_rfl, rfl⟩) (by assumption) ?_
                    try simp only [Act.put, List.setIfInBounds_toArray, List.set_cons_zero, List.set_cons_succ]
                    first | (refine wpAnyH_take (i := 19) (oi := ⟨_, _, _, _, _, _⟩) (v := ?_) rfl (by kernel_rfl) (by kernel_rfl) (by kernel_rfl) (fun _ _ _ h => h) (Or.inl ⟨by rfl, ?_⟩) (by assumption) ?_; rotate_left 1; · (intro w hSw; (try dsimp only at hSw); go_simp; all_goals with_reducible rfl)) | refine wpAnyH_take (i := 19) (oi := ⟨_, _, _, _, _, _⟩) (v := undef) rfl (by kernel_rfl) (by kernel_rfl) (by kernel_rfl) (fun _ _ _ h => h) (Or.inr ⟨by kernel_rfl, rfl⟩) (by assumption) ?_
                    try simp only [Act.put, List.setIfInBounds_toArray, List.set_cons_zero, List.set_cons_succ]
                    refine wpAnyH_take (i := 20) (oi := ⟨_, _, _, _, _, _⟩) (v := .agg (fc x)) rfl (by kernel_rfl) (by kernel_rfl) (by kernel_rfl) (fun _ _ _ h => h) (yieldsIf_loadAt rfl 32 (.tmp 135) rfl (.pointer (some (⟨g2, o2 + us.length * 14, none⟩ : Addr))) rfl (fun _ h => h.1)) (by assumption) ?_
                    try simp only [Act.put, List.setIfInBounds_toArray, List.set_cons_zero, List.set_cons_succ]
                    first | (refine wpAnyH_take (i := 21) (oi := ⟨_, _, _, _, _, _⟩) (v := ?_) rfl (by kernel_rfl) (by kernel_rfl) (by kernel_rfl) (fun _ _ _ h => h) (Or.inl ⟨by rfl, ?_⟩) (by assumption) ?_; rotate_left 1; · (intro w hSw; (try dsimp only at hSw); go_simp; all_goals with_reducible rfl)) | refine wpAnyH_take (i := 21) (oi := ⟨_, _, _, _, _, _⟩) (v := undef) rfl (by kernel_rfl) (by kernel_rfl) (by kernel_rfl) (fun _ _ _ h => h) (Or.inr ⟨by kernel_rfl, rfl⟩) (by assumption) ?_
                    try simp only [Act.put, List.setIfInBounds_toArray, List.set_cons_zero, List.set_cons_succ]
                    first | (refine wpAnyH_take (i := 22) (oi := ⟨_, _, _, _, _, _⟩) (v := ?_) rfl (by kernel_rfl) (by kernel_rfl) (by kernel_rfl) (fun _ _ _ h => h) (Or.inl ⟨by rfl, ?_⟩) (by assumption) ?_; rotate_left 1; · (intro w hSw; (try dsimp only at hSw); go_simp; all_goals with_reducible rfl)) | refine wpAnyH_take (i := 22) (oi := ⟨_, _, _, _, _, _⟩) (v := undef) rfl (by kernel_rfl) (by kernel_rfl) (by kernel_rfl) (fun _ _ _ h => h) (Or.inr ⟨by kernel_rfl, rfl⟩) (by assumption) ?_
                    try simp only [Act.put, List.setIfInBounds_toArray, List.set_cons_zero, List.set_cons_succ]
                    first | (refine wpAnyH_take (i := 23) (oi := ⟨_, _, _, _, _, _⟩) (v := ?_) rfl (by kernel_rfl) (by kernel_rfl) (by kernel_rfl) (fun _ _ _ h => h) (Or.inl ⟨by rfl, ?_⟩) (by assumption) ?_; rotate_left 1; · (intro w hSw; (try dsimp only at hSw); go_simp; all_goals with_reducible rfl)) | refine wpAnyH_take (i := 23) (oi := ⟨_, _, _, _, _, _⟩) (v := undef) rfl (by kernel_rfl) (by kernel_rfl) (by kernel_rfl) (fun _ _ _ h => h) (Or.inr ⟨by kernel_rfl, rfl⟩) (by assumption) ?_
                    try simp only [Act.put, List.setIfInBounds_toArray, List.set_cons_zero, List.set_cons_succ]
                    first | (refine wpAnyH_take (i := 24) (oi := ⟨_, _, _, _, _, _⟩) (v := ?_) rfl (by kernel_rfl) (by kernel_rfl) (by kernel_rfl) (fun _ _ _ h => h) (Or.inl ⟨by rfl, ?_⟩) (by assumption) ?_; rotate_left 1; · (intro w hSw; (try dsimp only at hSw); go_simp; all_goals with_reducible rfl)) | refine wpAnyH_take (i := 24) (oi := ⟨_, _, _, _, _, _⟩) (v := undef) rfl (by kernel_rfl) (by kernel_rfl) (by kernel_rfl) (fun _ _ _ h => h) (Or.inr ⟨by kernel_rfl, rfl⟩) (by assumption) ?_
                    try simp only [Act.put, List.setIfInBounds_toArray, List.set_cons_zero, List.set_cons_succ]
                    refine wpAnyH_take (i := 25) (oi := ⟨_, _, _, _, _, _⟩) (v := .agg (fc s)) rfl (by kernel_rfl) (by kernel_rfl) (by kernel_rfl) (fun _ _ _ h => h) (yieldsIf_loadAt rfl 32 (.tmp 140) rfl (.pointer (some (⟨(ad.add (i * 15)).block, (ad.add (i * 15)).off + 1, none⟩ : Addr))) rfl (fun _ h => h.2)) (by assumption) ?_
                    try simp only [Act.put, List.setIfInBounds_toArray, List.set_cons_zero, List.set_cons_succ]
                    refine wpAnyH_ready (rs := [26]) (by kernel_rfl) (by simp) ?_
                    refine AllReadyH.cons (o := ⟨_, _, _, _, _, _⟩) rfl (fun Kq hKq => ?_) AllReadyH.nil
                    go_simp
                    clear hHeld
                    (go_at_call 23; (with_reducible refine (HSM.out w10 B10.out).mono ?_); rintro e11 w11 ⟨rfl, hb⟩; have BE := Lib.hid hb; clear hb)
                    refine hKq.out _ _ ?_ (fun hHeld => ?_)
                    · (try dsimp only); exact ⟨HR1.out _ BE.out, HR2.out _ BE.out⟩
                    clear hKq Kq
                    try simp only [Act.put, List.setIfInBounds_toArray, List.set_cons_zero, List.set_cons_succ]
                    first | (refine wpAnyH_take (i := 27) (oi := ⟨_, _, _, _, _, _⟩) (v := ?_) rfl (by kernel_rfl) (by kernel_rfl) (by kernel_rfl) (fun _ _ _ h => h) (Or.inl ⟨by rfl, ?_⟩) (by assumption) ?_; rotate_left 1; · (intro w hSw; (try dsimp only at hSw); go_simp; all_goals with_reducible rfl)) | refine wpAnyH_take (i := 27) (oi := ⟨_, _, _, _, _, _⟩) (v := undef) rfl (by kernel_rfl) (by kernel_rfl) (by kernel_rfl) (fun _ _ _ h => h) (Or.inr ⟨by kernel_rfl, rfl⟩) (by assumption) ?_
                    try simp only [Act.put, List.setIfInBounds_toArray, List.set_cons_zero, List.set_cons_succ]
                    (refine wpAnyH_take (i := 28) (oi := ⟨_, _, _, _, _, _⟩) (v := ?_) rfl (by kernel_rfl) (by kernel_rfl) (by kernel_rfl) (fun _ _ _ h => h) (Or.inl ⟨by rfl, ?_⟩) (by assumption) ?_; rotate_left 1; · (intro w hSw; (try dsimp only at hSw); go_simp; all_goals with_reducible rfl))
                    try simp only [Act.put, List.setIfInBounds_toArray, List.set_cons_zero, List.set_cons_succ]
                    refine wpAnyH_done (by kernel_rfl) ?_ _
                    have HXE := Lib.hid (HX8.out.step BE.out)
                    have HWE := Lib.hid (below_after HW8.out BE.out (Nat.le_refl _))
                    clear HX8 HW8 GG HRO8 HRO2
                    go_wp2_with fail
                    go_roundw
                    case rel => exact ⟨i + 1, _, by omega, by go_num, HXE, HWE⟩
                    case measure => simp [intOf]; omega
                case inr.inl =>
                  as_aux_lemma =>
                    obtain rfl : z = true := HZ.out.symm.trans k3
                    have ez : ((us.length : Int) == mx) = true := by have := HUN.out; simp; omega
                    obtain rfl : f = -1 := hfd.trans k0
                    have HFS := Lib.hid (fun W (hW : Below w8.heap.size w8 W) => GG.out.frames hW (by rw [GG.out.e2, k2, HU.out]) (by omega))
                    have HR1 := Lib.hid (fun W (hW : Below w8.heap.size w8 W) => fb_run (fb_below GG.out.x hW))
                    have HR2 := Lib.hid (fun W (hW : Below w8.heap.size w8 W) => run_loadAt_recs (HC.out W (below_after HW8.out hW (Nat.le_refl _))))
                    have HSM := Lib.hid (fun W (hW : Below w8.heap.size w8 W) => same_pair hW GG.out.fq GG.out.fs (HO.out.trans k4) (by rw [HO.out, k4]; exact GG.out.ts))
                    clear k0 k1 k2 k3 k4 hfd
                    go_upto_region 29 with (fail)
                    refine wp_region_held_drew (S := fun W => (Instr.loadAt 32 (.pointer (some (⟨b9, 0, none⟩ : Addr)))).run Try.prog W = .ok (.agg (fc qo)) W ∧ (Instr.loadAt 32 (.pointer (some (⟨(ad.add (i * 15)).block, (ad.add (i * 15)).off + 1, none⟩ : Addr)))).run Try.prog W = .ok (.agg (fc s)) W) (by kernel_rfl) ?_ (fun hHeld => ?_)
                    · exact ⟨HR1.out _ (wb_drew HQ.out), HR2.out _ (wb_drew HQ.out)⟩
                    refine wpAnyH_take (i := 0) (oi := ⟨_, _, _, _, _, _⟩) (v := .agg (fc qo)) rfl (by kernel_rfl) (by kernel_rfl) (by kernel_rfl) (fun _ _ _ h => h) (yieldsIf_loadAt rfl 32 (.tmp 9) rfl (.pointer (some (⟨b9, 0, none⟩ : Addr))) rfl (fun _ h => h.1)) (by assumption) ?_
                    try simp only [Act.put, List.setIfInBounds_toArray, List.set_cons_zero, List.set_cons_succ]
                    (refine wpAnyH_take (i := 1) (oi := ⟨_, _, _, _, _, _⟩) (v := ?_) rfl (by kernel_rfl) (by kernel_rfl) (by kernel_rfl) (fun _ _ _ h => h) (Or.inl ⟨by rfl, ?_⟩) (by assumption) ?_; rotate_left 1; · (intro w hSw; (try dsimp only at hSw); go_simp; all_goals with_reducible rfl))
                    try simp only [Act.put, List.setIfInBounds_toArray, List.set_cons_zero, List.set_cons_succ]
                    (refine wpAnyH_take (i := 2) (oi := ⟨_, _, _, _, _, _⟩) (v := ?_) rfl (by kernel_rfl) (by kernel_rfl) (by kernel_rfl) (fun _ _ _ h => h) (Or.inl ⟨by rfl, ?_⟩) (by assumption) ?_; rotate_left 1; · (intro w hSw; (try dsimp only at hSw); go_simp; all_goals with_reducible rfl))
                    try simp only [Act.put, List.setIfInBounds_toArray, List.set_cons_zero, List.set_cons_succ]
                    (refine wpAnyH_take (i := 3) (oi := ⟨_, _, _, _, _, _⟩) (v := ?_) rfl (by kernel_rfl) (by kernel_rfl) (by kernel_rfl) (fun _ _ _ h => h) (Or.inl ⟨by rfl, ?_⟩) (by assumption) ?_; rotate_left 1; · (intro w hSw; (try dsimp only at hSw); go_simp; all_goals with_reducible rfl))
                    try simp only [Act.put, List.setIfInBounds_toArray, List.set_cons_zero, List.set_cons_succ]
                    (refine wpAnyH_take (i := 4) (oi := ⟨_, _, _, _, _, _⟩) (v := ?_) rfl (by kernel_rfl) (by kernel_rfl) (by kernel_rfl) (fun _ _ _ h => h) (Or.inl ⟨by rfl, ?_⟩) (by assumption) ?_; rotate_left 1; · (intro w hSw; (try dsimp only at hSw); go_simp; all_goals with_reducible rfl))
                    try simp only [Act.put, List.setIfInBounds_toArray, List.set_cons_zero, List.set_cons_succ]
                    refine wpAnyH_take (i := 5) (oi := ⟨_, _, _, _, _, _⟩) (v := .agg (fc s)) rfl (by kernel_rfl) (by kernel_rfl) (by kernel_rfl) (fun _ _ _ h => h) (yieldsIf_loadAt rfl 32 (.tmp 152) rfl (.pointer (some (⟨(ad.add (i * 15)).block, (ad.add (i * 15)).off + 1, none⟩ : Addr))) rfl (fun _ h => h.2)) (by assumption) ?_
                    try simp only [Act.put, List.setIfInBounds_toArray, List.set_cons_zero, List.set_cons_succ]
                    refine wpAnyH_ready (rs := [6]) (by kernel_rfl) (by simp) ?_
                    refine AllReadyH.cons (o := ⟨_, _, _, _, _, _⟩) rfl (fun Kq hKq => ?_) AllReadyH.nil
                    go_simp
                    clear hHeld
                    (go_at_call 23; (with_reducible refine (HSM.out _ (wb_drew HQ.out)).mono ?_); rintro e10 w10 ⟨rfl, hb⟩; have B10 := Lib.hid hb; clear hb)
                    refine hKq.out _ _ ?_ (fun hHeld => ?_)
                    · (try dsimp only); exact ⟨HR1.out _ B10.out, HR2.out _ B10.out⟩
                    clear hKq Kq
                    try simp only [Act.put, List.setIfInBounds_toArray, List.set_cons_zero, List.set_cons_succ]
                    (refine wpAnyH_take (i := 7) (oi := ⟨_, _, _, _, _, _⟩) (v := ?_) rfl (by kernel_rfl) (by kernel_rfl) (by kernel_rfl) (fun _ _ _ h => h) (Or.inl ⟨by rfl, ?_⟩) (by assumption) ?_; rotate_left 1; · (intro w hSw; (try dsimp only at hSw); go_simp; all_goals with_reducible rfl))
                    try simp only [Act.put, List.setIfInBounds_toArray, List.set_cons_zero, List.set_cons_succ]
                    (refine wpAnyH_take (i := 8) (oi := ⟨_, _, _, _, _, _⟩) (v := ?_) rfl (by kernel_rfl) (by kernel_rfl) (by kernel_rfl) (fun _ _ _ h => h) (Or.inl ⟨by rfl, ?_⟩) (by assumption) ?_; rotate_left 1; · (intro w hSw; (try dsimp only at hSw); go_simp; all_goals with_reducible rfl))
                    try simp only [Act.put, List.setIfInBounds_toArray, List.set_cons_zero, List.set_cons_succ]
                    first | (refine wpAnyH_take (i := 9) (oi := ⟨_, _, _, _, _, _⟩) (v := ?_) rfl (by kernel_rfl) (by kernel_rfl) (by kernel_rfl) (fun _ _ _ h => h) (Or.inl ⟨by rfl, ?_⟩) (by assumption) ?_; rotate_left 1; · (intro w hSw; (try dsimp only at hSw); go_simp; all_goals with_reducible rfl)) | refine wpAnyH_take (i := 9) (oi := ⟨_, _, _, _, _, _⟩) (v := undef) rfl (by kernel_rfl) (by kernel_rfl) (by kernel_rfl) (fun _ _ _ h => h) (Or.inr ⟨by kernel_rfl, rfl⟩) (by assumption) ?_
                    try simp only [Act.put, List.setIfInBounds_toArray, List.set_cons_zero, List.set_cons_succ]
                    first | (refine wpAnyH_take (i := 10) (oi := ⟨_, _, _, _, _, _⟩) (v := ?_) rfl (by kernel_rfl) (by kernel_rfl) (by kernel_rfl) (fun _ _ _ h => h) (Or.inl ⟨by rfl, ?_⟩) (by assumption) ?_; rotate_left 1; · (intro w hSw; (try dsimp only at hSw); go_simp; all_goals with_reducible rfl)) | refine wpAnyH_take (i := 10) (oi := ⟨_, _, _, _, _, _⟩) (v := undef) rfl (by kernel_rfl) (by kernel_rfl) (by kernel_rfl) (fun _ _ _ h => h) (Or.inr ⟨by kernel_rfl, rfl⟩) (by assumption) ?_
                    try simp only [Act.put, List.setIfInBounds_toArray, List.set_cons_zero, List.set_cons_succ]
                    refine wpAnyH_ready (rs := [11]) (by kernel_rfl) (by simp) ?_
                    refine AllReadyH.cons (o := ⟨_, _, _, _, _, _⟩) rfl (fun Kq hKq => ?_) AllReadyH.nil
                    go_simp
                    clear hHeld
                    (go_at_call 26; (with_reducible refine (HFS.out w10 B10.out).mono ?_); rintro e11 w11 ⟨rfl, hb⟩; have BE := Lib.hid hb; clear hb)
                    refine hKq.out _ _ ?_ (fun hHeld => ?_)
                    · (try dsimp only); exact ⟨HR1.out _ BE.out, HR2.out _ BE.out⟩
                    clear hKq Kq
                    try simp only [Act.put, List.setIfInBounds_toArray, List.set_cons_zero, List.set_cons_succ]
                    first | (refine wpAnyH_take (i := 12) (oi := ⟨_, _, _, _, _, _⟩) (v := ?_) rfl (by kernel_rfl) (by kernel_rfl) (by kernel_rfl) (fun _ _ _ h => h) (Or.inl ⟨by rfl, ?_⟩) (by assumption) ?_; rotate_left 1; · (intro w hSw; (try dsimp only at hSw); go_simp; all_goals with_reducible rfl)) | refine wpAnyH_take (i := 12) (oi := ⟨_, _, _, _, _, _⟩) (v := undef) rfl (by kernel_rfl) (by kernel_rfl) (by kernel_rfl) (fun _ _ _ h => h) (Or.inr ⟨by kernel_rfl, rfl⟩) (by assumption) ?_
                    try simp only [Act.put, List.setIfInBounds_toArray, List.set_cons_zero, List.set_cons_succ]
                    (refine wpAnyH_take (i := 13) (oi := ⟨_, _, _, _, _, _⟩) (v := ?_) rfl (by kernel_rfl) (by kernel_rfl) (by kernel_rfl) (fun _ _ _ h => h) (Or.inl ⟨by rfl, ?_⟩) (by assumption) ?_; rotate_left 1; · (intro w hSw; (try dsimp only at hSw); go_simp; all_goals with_reducible rfl))
                    try simp only [Act.put, List.setIfInBounds_toArray, List.set_cons_zero, List.set_cons_succ]
                    refine wpAnyH_done (by kernel_rfl) ?_ _
                    have HXE := Lib.hid (HX8.out.step BE.out)
                    have HWE := Lib.hid (below_after HW8.out BE.out (Nat.le_refl _))
                    clear HX8 HW8 GG HRO8 HRO2
                    go_wp2_with fail
                    go_roundw
                    case rel => exact ⟨i + 1, _, by omega, by go_num, HXE, HWE⟩
                    case measure => simp [intOf]; omega
                case inr.inr =>
                  as_aux_lemma =>
                    obtain rfl : z = true := HZ.out.symm.trans k3
                    have ez : ((us.length : Int) == mx) = true := by have := HUN.out; simp; omega
                    obtain rfl : f = (fn : Int) := hfd.trans k0
                    rename World => wq
                    have hf0 : decide ((fn : Int) < 0) = false := by simp
                    have k6 : fn ≤ us.length := by have := HUN.out; omega
                    have k7 : fn + 1 ≤ us.length := by have := HUN.out; omega
                    have hlt1 : fn < us.length := k7
                    obtain ⟨g1, o1, rfl⟩ : ∃ g o, A1 = some ⟨g, o, none⟩ := by
                      rcases HRO8.out with ⟨_, _, h⟩ | ⟨g, o, _, h, _⟩
                      · rw [h] at hlt1; exact absurd hlt1 (by simp)
                      · exact ⟨g, o, h⟩
                    have hcap : fn ≤ c1 := by
                      rcases HRO8.out with ⟨h, _⟩ | ⟨g, o, cur, h, _, _, h2, _⟩
                      · cases h
                      · omega
                    have S1 := fun W => sliced_h g1 o1 us.length c1 fn hcap W
                    have S2 := fun W => slicedAt_l ⟨g1, o1, none⟩ us.length c1 (fn + 1) k7 ((fn : Int) + 1) (by simp) W
                    obtain ⟨aS, haS⟩ : ∃ a, a = (if c1 = fn + 1 then (⟨g1, o1, none⟩ : Addr) else (⟨g1, o1, none⟩ : Addr).add ((fn + 1) * 14)) := ⟨_, rfl⟩
                    rw [← haS] at S2
                    have HS2 := Lib.hid S2
                    clear S2
                    have gw : IntKind.i64.wrap ((fn : Int) + 1) = (fn : Int) + 1 := IntWalk.i64_in _ ⟨by omega, by omega⟩
                    have HSL := Lib.hid (show Rcs encF 14 w8 (.slice (some aS) (us.length - (fn + 1)) (c1 - (fn + 1))) (us.drop (fn + 1)) by rw [haS]; exact rcs_sliced GG.out.r1 k7 (Nat.succ_pos _))
                    clear haS
                    have HR1 := Lib.hid (fun W (hW : Below w8.heap.size w8 W) => fb_run (fb_below GG.out.x hW))
                    have HR2 := Lib.hid (fun W (hW : Below w8.heap.size w8 W) => run_loadAt_recs (HC.out W (below_after HW8.out hW (Nat.le_refl _))))
                    have HR3 := Lib.hid (fun W (hW : Below w8.heap.size w8 W) => rcs_run_mid GG.out.r1 hW hlt1)
                    have hxe : qo.F = us[fn].F := by
                      have h1 := congrArg (fun l => l[fn]?) HU.out
                      simp [hlt1, k5] at h1
                      rw [HO.out, k4, h1]
                    have HSM := Lib.hid (fun W (hW : Below w8.heap.size w8 W) => same_any qo us[fn] W (GG.out.fq.below hW) ((GG.out.f1 _ (List.getElem_mem hlt1)).below hW) hxe (by rw [hxe]; exact GG.out.t1 _ (List.getElem_mem hlt1)))
                    have HE2 := Lib.hid (show us2.map (·.F) = (us.take fn ++ us.drop (fn + 1) ++ [s]).map (·.F) by rw [GG.out.e2, k2, ← HU.out]; simp [List.map_take, List.map_drop])
                    obtain ⟨x, hx⟩ : ∃ x, us[fn] = x := ⟨_, rfl⟩
                    rw [hx] at HR3 HSM
                    have n4 : (0 : Int) ≤ (fn : Int) := by omega
                    have n5 : (fn : Int) < (us.length : Int) := by omega
                    clear hx hxe hcap k0 k1 k2 k3 k4 k5 hfd
                    go_upto_region 20 with (fail)
                    go_cut [0, 15] (fun s0 s15 wx => s0 = .int .i64 mx ∧ ∃ vw, s15 = vw ∧ Hid (Rcs encF 14 wx vw (us.take fn ++ us.drop (fn + 1) ++ [s])) ∧ Hid (Below w8.heap.size w8 wx))
                    case first =>
                      refine wp_region_held_drew (S := fun W => (Instr.loadAt 32 (.pointer (some (⟨(ad.add (i * 15)).block, (ad.add (i * 15)).off + 1, none⟩ : Addr)))).run Try.prog W = .ok (.agg (fc s)) W) (by kernel_rfl) ?_ (fun hHeld => ?_)
                      · exact HR2.out _ (wb_drew HQ.out)
                      (refine wpAnyH_take (i := 1) (oi := ⟨_, _, _, _, _, _⟩) (v := ?_) rfl (by kernel_rfl) (by kernel_rfl) (by kernel_rfl) (fun _ _ _ h => h) (Or.inl ⟨by rfl, ?_⟩) (by assumption) ?_; rotate_left 1; · (intro w hSw; (try dsimp only at hSw); go_simp; all_goals with_reducible rfl))
                      try simp only [Act.put, List.setIfInBounds_toArray, List.set_cons_zero, List.set_cons_succ]
                      (refine wpAnyH_take (i := 2) (oi := ⟨_, _, _, _, _, _⟩) (v := ?_) rfl (by kernel_rfl) (by kernel_rfl) (by kernel_rfl) (fun _ _ _ h => h) (Or.inl ⟨by rfl, ?_⟩) (by assumption) ?_; rotate_left 1; · (intro w hSw; (try dsimp only at hSw); go_simp; all_goals with_reducible rfl))
                      try simp only [Act.put, List.setIfInBounds_toArray, List.set_cons_zero, List.set_cons_succ]
                      (refine wpAnyH_take (i := 3) (oi := ⟨_, _, _, _, _, _⟩) (v := ?_) rfl (by kernel_rfl) (by kernel_rfl) (by kernel_rfl) (fun _ _ _ h => h) (Or.inl ⟨by rfl, ?_⟩) (by assumption) ?_; rotate_left 1; · (intro w hSw; (try dsimp only at hSw); go_simp; all_goals with_reducible rfl))
                      try simp only [Act.put, List.setIfInBounds_toArray, List.set_cons_zero, List.set_cons_succ]
                      (refine wpAnyH_take (i := 5) (oi := ⟨_, _, _, _, _, _⟩) (v := ?_) rfl (by kernel_rfl) (by kernel_rfl) (by kernel_rfl) (fun _ _ _ h => h) (Or.inl ⟨by rfl, ?_⟩) (by assumption) ?_; rotate_left 1; · (intro w hSw; (try dsimp only at hSw); go_simp; all_goals with_reducible rfl))
                      try simp only [Act.put, List.setIfInBounds_toArray, List.set_cons_zero, List.set_cons_succ]
                      (refine wpAnyH_take (i := 6) (oi := ⟨_, _, _, _, _, _⟩) (v := ?_) rfl (by kernel_rfl) (by kernel_rfl) (by kernel_rfl) (fun _ _ _ h => h) (Or.inl ⟨by rfl, ?_⟩) (by assumption) ?_; rotate_left 1; · (intro w hSw; (try dsimp only at hSw); go_simp; all_goals with_reducible rfl))
                      try simp only [Act.put, List.setIfInBounds_toArray, List.set_cons_zero, List.set_cons_succ]
                      (refine wpAnyH_take (i := 7) (oi := ⟨_, _, _, _, _, _⟩) (v := ?_) rfl (by kernel_rfl) (by kernel_rfl) (by kernel_rfl) (fun _ _ _ h => h) (Or.inl ⟨by rfl, ?_⟩) (by assumption) ?_; rotate_left 1; · (intro w hSw; (try dsimp only at hSw); go_simp; all_goals with_reducible rfl))
                      try simp only [Act.put, List.setIfInBounds_toArray, List.set_cons_zero, List.set_cons_succ]
                      refine wpAnyH_take (i := 8) (oi := ⟨_, _, _, _, _, _⟩) (v := .slice (some aS) (us.length - (fn + 1)) (c1 - (fn + 1))) rfl (by kernel_rfl) (by kernel_rfl) (by kernel_rfl) (fun _ _ _ h => h) (yieldsIf_slice rfl 41 (.tmp 77) (.tmp 79) rfl (.slice (some ⟨g1, o1, none⟩) us.length c1) (.int .i64 ((fn : Int) + 1)) rfl rfl (fun w _ => HS2.out w)) (by assumption) ?_
                      try simp only [Act.put, List.setIfInBounds_toArray, List.set_cons_zero, List.set_cons_succ]
                      (refine wpAnyH_take (i := 10) (oi := ⟨_, _, _, _, _, _⟩) (v := ?_) rfl (by kernel_rfl) (by kernel_rfl) (by kernel_rfl) (fun _ _ _ h => h) (Or.inl ⟨by rfl, ?_⟩) (by assumption) ?_; rotate_left 1; · (intro w hSw; (try dsimp only at hSw); go_simp; all_goals with_reducible rfl))
                      try simp only [Act.put, List.setIfInBounds_toArray, List.set_cons_zero, List.set_cons_succ]
                      (refine wpAnyH_take (i := 11) (oi := ⟨_, _, _, _, _, _⟩) (v := ?_) rfl (by kernel_rfl) (by kernel_rfl) (by kernel_rfl) (fun _ _ _ h => h) (Or.inl ⟨by rfl, ?_⟩) (by assumption) ?_; rotate_left 1; · (intro w hSw; (try dsimp only at hSw); go_simp; all_goals with_reducible rfl))
                      try simp only [Act.put, List.setIfInBounds_toArray, List.set_cons_zero, List.set_cons_succ]
                      (refine wpAnyH_take (i := 12) (oi := ⟨_, _, _, _, _, _⟩) (v := ?_) rfl (by kernel_rfl) (by kernel_rfl) (by kernel_rfl) (fun _ _ _ h => h) (Or.inl ⟨by rfl, ?_⟩) (by assumption) ?_; rotate_left 1; · (intro w hSw; (try dsimp only at hSw); go_simp; all_goals with_reducible rfl))
                      try simp only [Act.put, List.setIfInBounds_toArray, List.set_cons_zero, List.set_cons_succ]
                      (refine wpAnyH_take (i := 13) (oi := ⟨_, _, _, _, _, _⟩) (v := ?_) rfl (by kernel_rfl) (by kernel_rfl) (by kernel_rfl) (fun _ _ _ h => h) (Or.inl ⟨by rfl, ?_⟩) (by assumption) ?_; rotate_left 1; · (intro w hSw; (try dsimp only at hSw); go_simp; all_goals with_reducible rfl))
                      try simp only [Act.put, List.setIfInBounds_toArray, List.set_cons_zero, List.set_cons_succ]
                      refine wpAnyH_take (i := 14) (oi := ⟨_, _, _, _, _, _⟩) (v := .agg (fc s)) rfl (by kernel_rfl) (by kernel_rfl) (by kernel_rfl) (fun _ _ _ h => h) (yieldsIf_loadAt rfl 32 (.tmp 85) rfl (.pointer (some (⟨(ad.add (i * 15)).block, (ad.add (i * 15)).off + 1, none⟩ : Addr))) rfl (fun _ h => h)) (by assumption) ?_
                      try simp only [Act.put, List.setIfInBounds_toArray, List.set_cons_zero, List.set_cons_succ]
                      refine wpAnyH_ready (rs := [0, 15]) (by kernel_rfl) (by simp) ?_
                      refine AllReadyH.cons (o := ⟨_, _, _, _, _, _⟩) rfl (fun Kq hKq => ?_) (AllReadyH.cons (o := ⟨_, _, _, _, _, _⟩) rfl (fun Kq hKq => ?_) (AllReadyH.nil))
                      · clear hHeld
                        refine step_build0 rfl rfl (wq.drew) ?_; have hq2 : Below (wq.drew).heap.size (wq.drew) ((wq.drew).alloc (.cells #[] 32)) := (below_one (wq.drew) _); have BB1 := Lib.hid (below_after (wb_drew HQ.out) hq2 (Nat.le_refl _)); have TR1 := Lib.hid (tr_new (wb_drew HQ.out)); generalize (wq.drew).alloc (.cells #[] 32) = v1 at *; generalize (wq.drew).heap.size = g0 at *; clear hq2
                        refine hKq.out _ _ ?_ (fun hHeld => ?_)
                        · (try dsimp only); exact HR2.out _ BB1.out
                        clear hKq Kq
                        try simp only [Act.put, List.setIfInBounds_toArray, List.set_cons_zero, List.set_cons_succ]
                        refine wpAnyH_ready (rs := [4, 15]) (by kernel_rfl) (by simp) ?_
                        refine AllReadyH.cons (o := ⟨_, _, _, _, _, _⟩) rfl (fun Kq hKq => ?_) (AllReadyH.cons (o := ⟨_, _, _, _, _, _⟩) rfl (fun Kq hKq => ?_) (AllReadyH.nil))
                        · clear hHeld
                          refine step_append_frames rfl (.tmp 72) (.tmp 75) rfl v1 rfl rfl rfl (by rw [List.length_take]; omega) TR1.out.row ((GG.out.r1.take k6).below BB1.out) (by simp; omega) ?_; intro A24 c24 v2 N4 hN h1 h2; have HN4 := Lib.hid hN; clear hN; have TR2 := Lib.hid (TR1.out.app h1 h2); have BB2 := Lib.hid TR2.out.b; clear h1 h2
                          refine hKq.out _ _ ?_ (fun hHeld => ?_)
                          · (try dsimp only); exact HR2.out _ BB2.out
                          clear hKq Kq
                          try simp only [Act.put, List.setIfInBounds_toArray, List.set_cons_zero, List.set_cons_succ]
                          refine wpAnyH_ready (rs := [9, 15]) (by kernel_rfl) (by simp) ?_
                          refine AllReadyH.cons (o := ⟨_, _, _, _, _, _⟩) rfl (fun Kq hKq => ?_) (AllReadyH.cons (o := ⟨_, _, _, _, _, _⟩) rfl (fun Kq hKq => ?_) (AllReadyH.nil))
                          · clear hHeld
                            refine step_append_frames rfl (.tmp 76) (.tmp 80) rfl v2 rfl rfl HN4.out (by simp) TR2.out.row (HSL.out.below BB2.out) (by simp; omega) ?_; intro A29 c29 v3 N9 hN h1 h2; have HN9 := Lib.hid hN; clear hN; have TR3 := Lib.hid (TR2.out.app h1 h2); have BB3 := Lib.hid TR3.out.b; clear h1 h2
                            refine hKq.out _ _ ?_ (fun hHeld => ?_)
                            · (try dsimp only); exact HR2.out _ BB3.out
                            clear hKq Kq
                            try simp only [Act.put, List.setIfInBounds_toArray, List.set_cons_zero, List.set_cons_succ]
                            refine wpAnyH_ready (rs := [15]) (by kernel_rfl) (by simp) ?_
                            refine AllReadyH.cons (o := ⟨_, _, _, _, _, _⟩) rfl (fun Kq hKq => ?_) (AllReadyH.nil)
                            clear hHeld
                            refine step_build1 rfl (.tmp 86) rfl (v3) s rfl ?_; have hq2 : Below (v3).heap.size (v3) ((v3).alloc (.cells (fc s) 32)) := (below_one (v3) (.cells (fc s) 32)); have BB4 := Lib.hid (below_after BB3.out hq2 (Nat.le_refl _)); have TR4 := Lib.hid (TR3.out.step hq2); have TI4 := Lib.hid (ti_new (s := s) TR3.out); generalize (v3).alloc (.cells (fc s) 32) = v4 at *; generalize (v3).heap.size = bl at *; clear hq2
                            refine hKq.out _ _ ?_ (fun hHeld => ?_)
                            · (try dsimp only); exact HR2.out _ BB4.out
                            clear hKq Kq
                            try simp only [Act.put, List.setIfInBounds_toArray, List.set_cons_zero, List.set_cons_succ]
                            refine wpAnyH_ready (rs := [16]) (by kernel_rfl) (by simp) ?_
                            refine AllReadyH.cons (o := ⟨_, _, _, _, _, _⟩) rfl (fun Kq hKq => ?_) (AllReadyH.nil)
                            clear hHeld
                            refine step_append_frames rfl (.tmp 81) (.tmp 87) rfl v4 rfl rfl HN9.out rfl TR4.out.row TI4.out.rcs (by simp; omega) ?_; intro A36 c36 v5 N16 hN h1 h2; have HN16 := Lib.hid hN; clear hN; have TR5 := Lib.hid (TR4.out.app h1 h2); have BB5 := Lib.hid TR5.out.b; have TI5 := Lib.hid (TI4.out.app h2); clear h1 h2
                            refine hKq.out _ _ ?_ (fun hHeld => ?_)
                            · (try dsimp only); exact HR2.out _ BB5.out
                            clear hKq Kq
                            try simp only [Act.put, List.setIfInBounds_toArray, List.set_cons_zero, List.set_cons_succ]
                            (refine wpAnyH_take (i := 17) (oi := ⟨_, _, _, _, _, _⟩) (v := ?_) rfl (by kernel_rfl) (by kernel_rfl) (by kernel_rfl) (fun _ _ _ h => h) (Or.inl ⟨by rfl, ?_⟩) (by assumption) ?_; rotate_left 1; · (intro w hSw; (try dsimp only at hSw); go_simp; all_goals with_reducible rfl))
                            try simp only [Act.put, List.setIfInBounds_toArray, List.set_cons_zero, List.set_cons_succ]
                            refine wpAnyH_done (by kernel_rfl) ?_ _
                            go_wp2_with fail
                            go_meet
                            exact ⟨rfl, _, rfl, Lib.hid (by have h9 := TR5.out.row.rcs; rw [← HN16.out, List.nil_append] at h9; exact h9), BB5⟩
                          · clear hHeld
                            refine step_build1 rfl (.tmp 86) rfl (v2) s rfl ?_; have hq2 : Below (v2).heap.size (v2) ((v2).alloc (.cells (fc s) 32)) := (below_one (v2) (.cells (fc s) 32)); have BB3 := Lib.hid (below_after BB2.out hq2 (Nat.le_refl _)); have TR3 := Lib.hid (TR2.out.step hq2); have TI3 := Lib.hid (ti_new (s := s) TR2.out); generalize (v2).alloc (.cells (fc s) 32) = v3 at *; generalize (v2).heap.size = bl at *; clear hq2
                            refine hKq.out _ _ ?_ (fun hHeld => ?_)
                            · (try dsimp only); exact HR2.out _ BB3.out
                            clear hKq Kq
                            try simp only [Act.put, List.setIfInBounds_toArray, List.set_cons_zero, List.set_cons_succ]
                            refine wpAnyH_ready (rs := [9]) (by kernel_rfl) (by simp) ?_
                            refine AllReadyH.cons (o := ⟨_, _, _, _, _, _⟩) rfl (fun Kq hKq => ?_) (AllReadyH.nil)
                            clear hHeld
                            refine step_append_frames rfl (.tmp 76) (.tmp 80) rfl v3 rfl rfl HN4.out (by simp) TR3.out.row (HSL.out.below BB3.out) (by simp; omega) ?_; intro A29 c29 v4 N9 hN h1 h2; have HN9 := Lib.hid hN; clear hN; have TR4 := Lib.hid (TR3.out.app h1 h2); have BB4 := Lib.hid TR4.out.b; have TI4 := Lib.hid (TI3.out.app h2); clear h1 h2
                            refine hKq.out _ _ ?_ (fun hHeld => ?_)
                            · (try dsimp only); exact HR2.out _ BB4.out
                            clear hKq Kq
                            try simp only [Act.put, List.setIfInBounds_toArray, List.set_cons_zero, List.set_cons_succ]
                            refine wpAnyH_ready (rs := [16]) (by kernel_rfl) (by simp) ?_
                            refine AllReadyH.cons (o := ⟨_, _, _, _, _, _⟩) rfl (fun Kq hKq => ?_) (AllReadyH.nil)
                            clear hHeld
                            refine step_append_frames rfl (.tmp 81) (.tmp 87) rfl v4 rfl rfl HN9.out rfl TR4.out.row TI4.out.rcs (by simp; omega) ?_; intro A36 c36 v5 N16 hN h1 h2; have HN16 := Lib.hid hN; clear hN; have TR5 := Lib.hid (TR4.out.app h1 h2); have BB5 := Lib.hid TR5.out.b; have TI5 := Lib.hid (TI4.out.app h2); clear h1 h2
                            refine hKq.out _ _ ?_ (fun hHeld => ?_)
                            · (try dsimp only); exact HR2.out _ BB5.out
                            clear hKq Kq
                            try simp only [Act.put, List.setIfInBounds_toArray, List.set_cons_zero, List.set_cons_succ]
                            (refine wpAnyH_take (i := 17) (oi := ⟨_, _, _, _, _, _⟩) (v := ?_) rfl (by kernel_rfl) (by kernel_rfl) (by kernel_rfl) (fun _ _ _ h => h) (Or.inl ⟨by rfl, ?_⟩) (by assumption) ?_; rotate_left 1; · (intro w hSw; (try dsimp only at hSw); go_simp; all_goals with_reducible rfl))
                            try simp only [Act.put, List.setIfInBounds_toArray, List.set_cons_zero, List.set_cons_succ]
                            refine wpAnyH_done (by kernel_rfl) ?_ _
                            go_wp2_with fail
                            go_meet
                            exact ⟨rfl, _, rfl, Lib.hid (by have h9 := TR5.out.row.rcs; rw [← HN16.out, List.nil_append] at h9; exact h9), BB5⟩
                        · clear hHeld
                          refine step_build1 rfl (.tmp 86) rfl (v1) s rfl ?_; have hq2 : Below (v1).heap.size (v1) ((v1).alloc (.cells (fc s) 32)) := (below_one (v1) (.cells (fc s) 32)); have BB2 := Lib.hid (below_after BB1.out hq2 (Nat.le_refl _)); have TR2 := Lib.hid (TR1.out.step hq2); have TI2 := Lib.hid (ti_new (s := s) TR1.out); generalize (v1).alloc (.cells (fc s) 32) = v2 at *; generalize (v1).heap.size = bl at *; clear hq2
                          refine hKq.out _ _ ?_ (fun hHeld => ?_)
                          · (try dsimp only); exact HR2.out _ BB2.out
                          clear hKq Kq
                          try simp only [Act.put, List.setIfInBounds_toArray, List.set_cons_zero, List.set_cons_succ]
                          refine wpAnyH_ready (rs := [4]) (by kernel_rfl) (by simp) ?_
                          refine AllReadyH.cons (o := ⟨_, _, _, _, _, _⟩) rfl (fun Kq hKq => ?_) (AllReadyH.nil)
                          clear hHeld
                          refine step_append_frames rfl (.tmp 72) (.tmp 75) rfl v2 rfl rfl rfl (by rw [List.length_take]; omega) TR2.out.row ((GG.out.r1.take k6).below BB2.out) (by simp; omega) ?_; intro A24 c24 v3 N4 hN h1 h2; have HN4 := Lib.hid hN; clear hN; have TR3 := Lib.hid (TR2.out.app h1 h2); have BB3 := Lib.hid TR3.out.b; have TI3 := Lib.hid (TI2.out.app h2); clear h1 h2
                          refine hKq.out _ _ ?_ (fun hHeld => ?_)
                          · (try dsimp only); exact HR2.out _ BB3.out
                          clear hKq Kq
                          try simp only [Act.put, List.setIfInBounds_toArray, List.set_cons_zero, List.set_cons_succ]
                          refine wpAnyH_ready (rs := [9]) (by kernel_rfl) (by simp) ?_
                          refine AllReadyH.cons (o := ⟨_, _, _, _, _, _⟩) rfl (fun Kq hKq => ?_) (AllReadyH.nil)
                          clear hHeld
                          refine step_append_frames rfl (.tmp 76) (.tmp 80) rfl v3 rfl rfl HN4.out (by simp) TR3.out.row (HSL.out.below BB3.out) (by simp; omega) ?_; intro A29 c29 v4 N9 hN h1 h2; have HN9 := Lib.hid hN; clear hN; have TR4 := Lib.hid (TR3.out.app h1 h2); have BB4 := Lib.hid TR4.out.b; have TI4 := Lib.hid (TI3.out.app h2); clear h1 h2
                          refine hKq.out _ _ ?_ (fun hHeld => ?_)
                          · (try dsimp only); exact HR2.out _ BB4.out
                          clear hKq Kq
                          try simp only [Act.put, List.setIfInBounds_toArray, List.set_cons_zero, List.set_cons_succ]
                          refine wpAnyH_ready (rs := [16]) (by kernel_rfl) (by simp) ?_
                          refine AllReadyH.cons (o := ⟨_, _, _, _, _, _⟩) rfl (fun Kq hKq => ?_) (AllReadyH.nil)
                          clear hHeld
                          refine step_append_frames rfl (.tmp 81) (.tmp 87) rfl v4 rfl rfl HN9.out rfl TR4.out.row TI4.out.rcs (by simp; omega) ?_; intro A36 c36 v5 N16 hN h1 h2; have HN16 := Lib.hid hN; clear hN; have TR5 := Lib.hid (TR4.out.app h1 h2); have BB5 := Lib.hid TR5.out.b; have TI5 := Lib.hid (TI4.out.app h2); clear h1 h2
                          refine hKq.out _ _ ?_ (fun hHeld => ?_)
                          · (try dsimp only); exact HR2.out _ BB5.out
                          clear hKq Kq
                          try simp only [Act.put, List.setIfInBounds_toArray, List.set_cons_zero, List.set_cons_succ]
                          (refine wpAnyH_take (i := 17) (oi := ⟨_, _, _, _, _, _⟩) (v := ?_) rfl (by kernel_rfl) (by kernel_rfl) (by kernel_rfl) (fun _ _ _ h => h) (Or.inl ⟨by rfl, ?_⟩) (by assumption) ?_; rotate_left 1; · (intro w hSw; (try dsimp only at hSw); go_simp; all_goals with_reducible rfl))
                          try simp only [Act.put, List.setIfInBounds_toArray, List.set_cons_zero, List.set_cons_succ]
                          refine wpAnyH_done (by kernel_rfl) ?_ _
                          go_wp2_with fail
                          go_meet
                          exact ⟨rfl, _, rfl, Lib.hid (by have h9 := TR5.out.row.rcs; rw [← HN16.out, List.nil_append] at h9; exact h9), BB5⟩
                      · clear hHeld
                        refine step_build1 rfl (.tmp 86) rfl (wq.drew) s rfl ?_; have hq2 : Below (wq.drew).heap.size (wq.drew) ((wq.drew).alloc (.cells (fc s) 32)) := (below_one (wq.drew) (.cells (fc s) 32)); have BB1 := Lib.hid (below_after (wb_drew HQ.out) hq2 (Nat.le_refl _)); have LT1 := Lib.hid (show FB ((wq.drew).alloc (.cells (fc s) 32)) (wq.drew).heap.size s from fb_new (wq.drew) s); generalize (wq.drew).alloc (.cells (fc s) 32) = v1 at *; generalize (wq.drew).heap.size = bl at *; clear hq2
                        refine hKq.out _ _ ?_ (fun hHeld => ?_)
                        · (try dsimp only); exact HR2.out _ BB1.out
                        clear hKq Kq
                        try simp only [Act.put, List.setIfInBounds_toArray, List.set_cons_zero, List.set_cons_succ]
                        refine wpAnyH_ready (rs := [0]) (by kernel_rfl) (by simp) ?_
                        refine AllReadyH.cons (o := ⟨_, _, _, _, _, _⟩) rfl (fun Kq hKq => ?_) (AllReadyH.nil)
                        clear hHeld
                        refine step_build0 rfl rfl (v1) ?_; have hq2 : Below (v1).heap.size (v1) ((v1).alloc (.cells #[] 32)) := (below_one (v1) _); have BB2 := Lib.hid (below_after BB1.out hq2 (Nat.le_refl _)); have TR2 := Lib.hid (tr_new BB1.out); have TI2 := Lib.hid (ti_new2 (w := w8) LT1.out); generalize (v1).alloc (.cells #[] 32) = v2 at *; generalize (v1).heap.size = g0 at *; clear hq2
                        refine hKq.out _ _ ?_ (fun hHeld => ?_)
                        · (try dsimp only); exact HR2.out _ BB2.out
                        clear hKq Kq
                        try simp only [Act.put, List.setIfInBounds_toArray, List.set_cons_zero, List.set_cons_succ]
                        refine wpAnyH_ready (rs := [4]) (by kernel_rfl) (by simp) ?_
                        refine AllReadyH.cons (o := ⟨_, _, _, _, _, _⟩) rfl (fun Kq hKq => ?_) (AllReadyH.nil)
                        clear hHeld
                        refine step_append_frames rfl (.tmp 72) (.tmp 75) rfl v2 rfl rfl rfl (by rw [List.length_take]; omega) TR2.out.row ((GG.out.r1.take k6).below BB2.out) (by simp; omega) ?_; intro A24 c24 v3 N4 hN h1 h2; have HN4 := Lib.hid hN; clear hN; have TR3 := Lib.hid (TR2.out.app h1 h2); have BB3 := Lib.hid TR3.out.b; have TI3 := Lib.hid (TI2.out.app h2); clear h1 h2
                        refine hKq.out _ _ ?_ (fun hHeld => ?_)
                        · (try dsimp only); exact HR2.out _ BB3.out
                        clear hKq Kq
                        try simp only [Act.put, List.setIfInBounds_toArray, List.set_cons_zero, List.set_cons_succ]
                        refine wpAnyH_ready (rs := [9]) (by kernel_rfl) (by simp) ?_
                        refine AllReadyH.cons (o := ⟨_, _, _, _, _, _⟩) rfl (fun Kq hKq => ?_) (AllReadyH.nil)
                        clear hHeld
                        refine step_append_frames rfl (.tmp 76) (.tmp 80) rfl v3 rfl rfl HN4.out (by simp) TR3.out.row (HSL.out.below BB3.out) (by simp; omega) ?_; intro A29 c29 v4 N9 hN h1 h2; have HN9 := Lib.hid hN; clear hN; have TR4 := Lib.hid (TR3.out.app h1 h2); have BB4 := Lib.hid TR4.out.b; have TI4 := Lib.hid (TI3.out.app h2); clear h1 h2
                        refine hKq.out _ _ ?_ (fun hHeld => ?_)
                        · (try dsimp only); exact HR2.out _ BB4.out
                        clear hKq Kq
                        try simp only [Act.put, List.setIfInBounds_toArray, List.set_cons_zero, List.set_cons_succ]
                        refine wpAnyH_ready (rs := [16]) (by kernel_rfl) (by simp) ?_
                        refine AllReadyH.cons (o := ⟨_, _, _, _, _, _⟩) rfl (fun Kq hKq => ?_) (AllReadyH.nil)
                        clear hHeld
                        refine step_append_frames rfl (.tmp 81) (.tmp 87) rfl v4 rfl rfl HN9.out rfl TR4.out.row TI4.out.rcs (by simp; omega) ?_; intro A36 c36 v5 N16 hN h1 h2; have HN16 := Lib.hid hN; clear hN; have TR5 := Lib.hid (TR4.out.app h1 h2); have BB5 := Lib.hid TR5.out.b; have TI5 := Lib.hid (TI4.out.app h2); clear h1 h2
                        refine hKq.out _ _ ?_ (fun hHeld => ?_)
                        · (try dsimp only); exact HR2.out _ BB5.out
                        clear hKq Kq
                        try simp only [Act.put, List.setIfInBounds_toArray, List.set_cons_zero, List.set_cons_succ]
                        (refine wpAnyH_take (i := 17) (oi := ⟨_, _, _, _, _, _⟩) (v := ?_) rfl (by kernel_rfl) (by kernel_rfl) (by kernel_rfl) (fun _ _ _ h => h) (Or.inl ⟨by rfl, ?_⟩) (by assumption) ?_; rotate_left 1; · (intro w hSw; (try dsimp only at hSw); go_simp; all_goals with_reducible rfl))
                        try simp only [Act.put, List.setIfInBounds_toArray, List.set_cons_zero, List.set_cons_succ]
                        refine wpAnyH_done (by kernel_rfl) ?_ _
                        go_wp2_with fail
                        go_meet
                        exact ⟨rfl, _, rfl, Lib.hid (by have h9 := TR5.out.row.rcs; rw [← HN16.out, List.nil_append] at h9; exact h9), BB5⟩
                    case rest =>
                      obtain ⟨rfl, vw, rfl, HVW, HQ2⟩ := hcut
                      rename World => wd
                      have HFS := Lib.hid (fun W (hW : Below wd.heap.size wd W) (hW2 : Below w8.heap.size w8 W) => frames_want GG.out hW hW2 HVW.out HE2.out (fun x hx => by
                        rcases List.mem_append.1 hx with h1 | h1
                        · rcases List.mem_append.1 h1 with h2 | h2
                          · exact .inl (List.mem_of_mem_take h2)
                          · exact .inl (List.mem_of_mem_drop h2)
                        · exact .inr (List.mem_singleton.1 h1)) (by omega))
                      go_upto_region 21 with (fail)
                      refine wp_region_held_drew (S := fun W => (Instr.loadAt 32 (.pointer (some (⟨b9, 0, none⟩ : Addr)))).run Try.prog W = .ok (.agg (fc qo)) W ∧ (Instr.loadAt 32 (.pointer (some (⟨g1, o1 + fn * 14, none⟩ : Addr)))).run Try.prog W = .ok (.agg (fc x)) W) (by kernel_rfl) ?_ (fun hHeld => ?_)
                      · exact ⟨HR1.out _ (wb_drew HQ2.out), HR3.out _ (wb_drew HQ2.out)⟩
                      refine wpAnyH_take (i := 0) (oi := ⟨_, _, _, _, _, _⟩) (v := .agg (fc qo)) rfl (by kernel_rfl) (by kernel_rfl) (by kernel_rfl) (fun _ _ _ h => h) (yieldsIf_loadAt rfl 32 (.tmp 9) rfl (.pointer (some (⟨b9, 0, none⟩ : Addr))) rfl (fun _ h => h.1)) (by assumption) ?_
                      try simp only [Act.put, List.setIfInBounds_toArray, List.set_cons_zero, List.set_cons_succ]
                      (refine wpAnyH_take (i := 1) (oi := ⟨_, _, _, _, _, _⟩) (v := ?_) rfl (by kernel_rfl) (by kernel_rfl) (by kernel_rfl) (fun _ _ _ h => h) (Or.inl ⟨by rfl, ?_⟩) (by assumption) ?_; rotate_left 1; · (intro w hSw; (try dsimp only at hSw); go_simp; all_goals with_reducible rfl))
                      try simp only [Act.put, List.setIfInBounds_toArray, List.set_cons_zero, List.set_cons_succ]
                      (refine wpAnyH_take (i := 2) (oi := ⟨_, _, _, _, _, _⟩) (v := ?_) rfl (by kernel_rfl) (by kernel_rfl) (by kernel_rfl) (fun _ _ _ h => h) (Or.inl ⟨by rfl, ?_⟩) (by assumption) ?_; rotate_left 1; · (intro w hSw; (try dsimp only at hSw); go_simp; all_goals with_reducible rfl))
                      try simp only [Act.put, List.setIfInBounds_toArray, List.set_cons_zero, List.set_cons_succ]
                      (refine wpAnyH_take (i := 3) (oi := ⟨_, _, _, _, _, _⟩) (v := ?_) rfl (by kernel_rfl) (by kernel_rfl) (by kernel_rfl) (fun _ _ _ h => h) (Or.inl ⟨by rfl, ?_⟩) (by assumption) ?_; rotate_left 1; · (intro w hSw; (try dsimp only at hSw); go_simp; all_goals with_reducible rfl))
                      try simp only [Act.put, List.setIfInBounds_toArray, List.set_cons_zero, List.set_cons_succ]
                      refine wpAnyH_take (i := 4) (oi := ⟨_, _, _, _, _, _⟩) (v := .agg (fc x)) rfl (by kernel_rfl) (by kernel_rfl) (by kernel_rfl) (fun _ _ _ h => h) (yieldsIf_loadAt rfl 32 (.tmp 92) rfl (.pointer (some (⟨g1, o1 + fn * 14, none⟩ : Addr))) rfl (fun _ h => h.2)) (by assumption) ?_
                      try simp only [Act.put, List.setIfInBounds_toArray, List.set_cons_zero, List.set_cons_succ]
                      refine wpAnyH_ready (rs := [5]) (by kernel_rfl) (by simp) ?_
                      refine AllReadyH.cons (o := ⟨_, _, _, _, _, _⟩) rfl (fun Kq hKq => ?_) AllReadyH.nil
                      go_simp
                      clear hHeld
                      (go_at_call 23; (with_reducible refine (HSM.out _ (wb_drew HQ2.out)).mono ?_); rintro e10 w10 ⟨rfl, hb⟩; have B10 := Lib.hid (below_after (wb_drew HQ2.out) hb (Nat.le_refl _)); have D10 := Lib.hid (below_after (wb_drew (Below.refl _ wd)) hb (Nat.le_refl _)); clear hb)
                      refine hKq.out _ _ ?_ (fun hHeld => ?_)
                      · (try dsimp only); exact ⟨HR1.out _ B10.out, HR3.out _ B10.out⟩
                      clear hKq Kq
                      try simp only [Act.put, List.setIfInBounds_toArray, List.set_cons_zero, List.set_cons_succ]
                      (refine wpAnyH_take (i := 6) (oi := ⟨_, _, _, _, _, _⟩) (v := ?_) rfl (by kernel_rfl) (by kernel_rfl) (by kernel_rfl) (fun _ _ _ h => h) (Or.inl ⟨by rfl, ?_⟩) (by assumption) ?_; rotate_left 1; · (intro w hSw; (try dsimp only at hSw); go_simp; all_goals with_reducible rfl))
                      try simp only [Act.put, List.setIfInBounds_toArray, List.set_cons_zero, List.set_cons_succ]
                      (refine wpAnyH_take (i := 7) (oi := ⟨_, _, _, _, _, _⟩) (v := ?_) rfl (by kernel_rfl) (by kernel_rfl) (by kernel_rfl) (fun _ _ _ h => h) (Or.inl ⟨by rfl, ?_⟩) (by assumption) ?_; rotate_left 1; · (intro w hSw; (try dsimp only at hSw); go_simp; all_goals with_reducible rfl))
                      try simp only [Act.put, List.setIfInBounds_toArray, List.set_cons_zero, List.set_cons_succ]
                      first | (refine wpAnyH_take (i := 8) (oi := ⟨_, _, _, _, _, _⟩) (v := ?_) rfl (by kernel_rfl) (by kernel_rfl) (by kernel_rfl) (fun _ _ _ h => h) (Or.inl ⟨by rfl, ?_⟩) (by assumption) ?_; rotate_left 1; · (intro w hSw; (try dsimp only at hSw); go_simp; all_goals with_reducible rfl)) | refine wpAnyH_take (i := 8) (oi := ⟨_, _, _, _, _, _⟩) (v := undef) rfl (by kernel_rfl) (by kernel_rfl) (by kernel_rfl) (fun _ _ _ h => h) (Or.inr ⟨by kernel_rfl, rfl⟩) (by assumption) ?_
                      try simp only [Act.put, List.setIfInBounds_toArray, List.set_cons_zero, List.set_cons_succ]
                      first | (refine wpAnyH_take (i := 9) (oi := ⟨_, _, _, _, _, _⟩) (v := ?_) rfl (by kernel_rfl) (by kernel_rfl) (by kernel_rfl) (fun _ _ _ h => h) (Or.inl ⟨by rfl, ?_⟩) (by assumption) ?_; rotate_left 1; · (intro w hSw; (try dsimp only at hSw); go_simp; all_goals with_reducible rfl)) | refine wpAnyH_take (i := 9) (oi := ⟨_, _, _, _, _, _⟩) (v := undef) rfl (by kernel_rfl) (by kernel_rfl) (by kernel_rfl) (fun _ _ _ h => h) (Or.inr ⟨by kernel_rfl, rfl⟩) (by assumption) ?_
                      try simp only [Act.put, List.setIfInBounds_toArray, List.set_cons_zero, List.set_cons_succ]
                      refine wpAnyH_ready (rs := [10]) (by kernel_rfl) (by simp) ?_
                      refine AllReadyH.cons (o := ⟨_, _, _, _, _, _⟩) rfl (fun Kq hKq => ?_) AllReadyH.nil
                      go_simp
                      clear hHeld
                      (go_at_call 26; (with_reducible refine (HFS.out w10 D10.out B10.out).mono ?_); rintro e11 w11 ⟨rfl, hb⟩; have BE := Lib.hid hb; clear hb)
                      refine hKq.out _ _ ?_ (fun hHeld => ?_)
                      · (try dsimp only); exact ⟨HR1.out _ BE.out, HR3.out _ BE.out⟩
                      clear hKq Kq
                      try simp only [Act.put, List.setIfInBounds_toArray, List.set_cons_zero, List.set_cons_succ]
                      first | (refine wpAnyH_take (i := 11) (oi := ⟨_, _, _, _, _, _⟩) (v := ?_) rfl (by kernel_rfl) (by kernel_rfl) (by kernel_rfl) (fun _ _ _ h => h) (Or.inl ⟨by rfl, ?_⟩) (by assumption) ?_; rotate_left 1; · (intro w hSw; (try dsimp only at hSw); go_simp; all_goals with_reducible rfl)) | refine wpAnyH_take (i := 11) (oi := ⟨_, _, _, _, _, _⟩) (v := undef) rfl (by kernel_rfl) (by kernel_rfl) (by kernel_rfl) (fun _ _ _ h => h) (Or.inr ⟨by kernel_rfl, rfl⟩) (by assumption) ?_
                      try simp only [Act.put, List.setIfInBounds_toArray, List.set_cons_zero, List.set_cons_succ]
                      (refine wpAnyH_take (i := 12) (oi := ⟨_, _, _, _, _, _⟩) (v := ?_) rfl (by kernel_rfl) (by kernel_rfl) (by kernel_rfl) (fun _ _ _ h => h) (Or.inl ⟨by rfl, ?_⟩) (by assumption) ?_; rotate_left 1; · (intro w hSw; (try dsimp only at hSw); go_simp; all_goals with_reducible rfl))
                      try simp only [Act.put, List.setIfInBounds_toArray, List.set_cons_zero, List.set_cons_succ]
                      refine wpAnyH_done (by kernel_rfl) ?_ _
                      have HXE := Lib.hid (HX8.out.step BE.out)
                      have HWE := Lib.hid (below_after HW8.out BE.out (Nat.le_refl _))
                      clear HX8 HW8 GG HRO8 HRO2
                      go_wp2_with fail
                      go_roundw
                      case rel => exact ⟨i + 1, _, by omega, by go_num, HXE, HWE⟩
                      case measure => simp [intOf]; omega
end Go.Proofs.Ytmgiglefabbmcaa
