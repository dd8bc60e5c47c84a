/-
  A walk over a statement: of times that do not fall, who is late, and who is not. No statement is proved in this text; it holds for every input that its premises let by.
-/
import Derived.Test.YtkoeplgkiogjlaaWchP
set_option maxRecDepth 20000
namespace Go.Proofs.Ytkoeplgkiogjlaa
open Go Go.RowKit Sets Go.Maps Go.ChangeMaps Go.MapKept
variable {S S2 S' : Nat → Prop} {W W' w0 w w' : World} {p m n base : Nat} {e : Dt} {K : List Id2} {D : Id2 → Dt} {T : Id2 → Int}
theorem OwnsR.mono2 {v : Value} {ts : List Sp} {b b2 : Nat} (h : OwnsR encT 5 38 w b v ts) (hb : b2 ≤ b) : OwnsR encT 5 38 w b2 v ts := World.ownsRow.mono h hb
theorem owns_fr {v : Value} {l : List Id2} (h : Owns w base v l) (k : Fr S w w') (hv : ∀ b, v.ownBlock = some b → ¬ S b) : Owns w' base v l := by
  obtain ⟨h1, h2⟩ := h
  refine ⟨h1, ?_⟩
  rcases h2 with h2 | ⟨g, cap, cur, rfl, k1, k2, k3⟩
  · exact .inl h2
  · exact .inr ⟨g, cap, cur, rfl, k1, (k.same g (row_lt k2) (hv g rfl)).trans k2, k3⟩
theorem ownsT_fr {v : Value} {l : List Sp} (h : OwnsR encT 5 38 w base v l) (k : Fr S w w') (hv : ∀ b, v.ownBlock = some b → ¬ S b) : OwnsR encT 5 38 w' base v l := by
  obtain ⟨h1, h2⟩ := h
  refine ⟨h1, ?_⟩
  rcases h2 with h2 | ⟨g, cap, cur, rfl, k1, k2, k3⟩
  · exact .inl h2
  · exact .inr ⟨g, cap, cur, rfl, k1, (k.same g (row_lt k2) (hv g rfl)).trans k2, k3⟩
theorem owns_ty {e : TypeId} {sz k : Nat} {v : Value} {xs : List Value} {g : Nat} (h : w.ownsRow base e sz v k xs) (hg : v.ownBlock = some g) : ∃ cs, w.heap[g]? = some (.cells cs e (0, 0)) := by
  rcases h.2 with ⟨rfl, _⟩ | ⟨g', cap, cur, rfl, _, h2, _⟩
  · cases hg
  · injection hg with hg
    subst hg
    exact ⟨cur, h2⟩
theorem ty_ne {t t' : TypeId} {g : Nat} {cs cs' : Array Value} (h : w.heap[g]? = some (.cells cs t (0, 0))) (k : w.heap[g]? = some (.cells cs' t' (0, 0))) : t = t' := by
  rw [h] at k
  injection k with k
  injection k
/-- A step in its box. -/
def SBox (w : World) (g : Nat) (s : Sp) : Prop := w.heap[g]? = some (.cells #[.bool s.h, .int .i64 s.q.1, .int .i64 s.q.2, .slice s.A s.l.length s.c, .int .i64 s.x] 38 (0, 0))
theorem SBox.cells {gb : Nat} {s : Sp} (h : SBox w gb s) : w.cell? ⟨gb, 0, none⟩ = some (.bool s.h) ∧ w.cell? ⟨gb, 1, none⟩ = some (.int .i64 s.q.1) ∧ w.cell? ⟨gb, 2, none⟩ = some (.int .i64 s.q.2) ∧ w.cell? ⟨gb, 3, none⟩ = some (.slice s.A s.l.length s.c) ∧ w.cell? ⟨gb, 4, none⟩ = some (.int .i64 s.x) := by
  unfold SBox at h
  refine ⟨?_, ?_, ?_, ?_, ?_⟩ <;> (rw [cell_of_row _ _ _ _ _ _ h]; rfl)
theorem SBox.lt {gb : Nat} {s : Sp} (h : SBox w gb s) : gb < w.heap.size := row_lt h
theorem SBox.keep {gb : Nat} {s : Sp} (h : SBox w gb s) (hb : Below w.heap.size w w') : SBox w' gb s := (hb.block _ h.lt).trans h
theorem SBox.fr {gb : Nat} {s : Sp} (h : SBox w gb s) (k : Fr S w w') (hg : ¬ S gb) : SBox w' gb s := (k.same _ h.lt hg).trans h
/-- All that stands between two steps. -/
structure TmG (w W : World) (S : Nat → Prop) (p m : Nat) (e : Dt) (K : List Id2) (D : Id2 → Dt) (T : Id2 → Int) (vr : Value) (ts : List Sp) (vw vl : Value) : Prop where
  sit : Sit w W S p m e K D
  rr : OwnsR encT 5 38 W w.heap.size vr ts
  nr : ∀ b, vr.ownBlock = some b → ¬ S b
  who : Owns W w.heap.size vw K
  nw : ∀ b, vw.ownBlock = some b → ¬ S b
  last : Gaps W w.heap.size vl (K.map T)
  nl : ∀ b, vl.ownBlock = some b → ¬ S b
variable {vr vw vl : Value} {ts : List Sp}
theorem TmG.keep (h : TmG w W S p m e K D T vr ts vw vl) (hb : Below W.heap.size W W') : TmG w W' S p m e K D T vr ts vw vl :=
  ⟨h.sit.keep hb, OwnsR.below h.rr hb, h.nr, h.who.below hb, h.nw, OwnsR.below h.last hb, h.nl⟩
theorem no_upd {v : Value} {e : TypeId} {sz k : Nat} {xs : List Value} (h : W.ownsRow base e sz v k xs) (hn : ∀ b, v.ownBlock = some b → ¬ S b) (u : Upd S W W' S') : ∀ b, v.ownBlock = some b → ¬ S' b := fun b hb hS => by
  obtain ⟨cs, hc⟩ := owns_ty h hb
  rcases u.sub b hS with x | x
  · exact hn b hb x
  · have := row_lt hc
    omega
/-- Something was done to the watch. -/
theorem TmG.upd {m' : Nat} {D' : Id2 → Dt} (h : TmG w W S p m e K D T vr ts vw vl) (k : Sit w W' S' p m' e K D') (u : Upd S W W' S') : TmG w W' S' p m' e K D' T vr ts vw vl :=
  ⟨k, ownsT_fr h.rr u.fr h.nr, no_upd h.rr h.nr u, owns_fr h.who u.fr h.nw, no_upd h.who h.nw u, gaps_fr h.last u.fr h.nl, no_upd h.last h.nl u⟩
/-- The times were written. -/
theorem TmG.stored {T' : Id2 → Int} (h : TmG w W S p m e K D T vr ts vw vl) (k : Fr (fun i => vl.ownBlock = some i) W W') (hl : Gaps W' w.heap.size vl (K.map T')) : TmG w W' S p m e K D T' vr ts vw vl := by
  have h3 : ∀ b, vl.ownBlock = some b → ∃ cs, W.heap[b]? = some (.cells cs 3 (0, 0)) := fun b hb => owns_ty h.last hb
  have hlo : ∀ b, vl.ownBlock = some b → w.heap.size ≤ b := fun b hb => (World.ownsRow.lt h.last b hb).1
  refine ⟨⟨h.sit.wat.frame k fun b hS hb => h.nl b hb hS, h.sit.lo, h.sit.below.trans (k.below h.sit.below.size hlo)⟩, ownsT_fr h.rr k fun b hb hc => ?_, h.nr, owns_fr h.who k fun b hb hc => ?_, h.nw, hl, h.nl⟩
  · obtain ⟨c1, h1⟩ := h3 b hc
    obtain ⟨c2, h2⟩ := owns_ty h.rr hb
    exact absurd (ty_ne h1 h2) (by decide)
  · obtain ⟨c1, h1⟩ := h3 b hc
    obtain ⟨c2, h2⟩ := owns_ty h.who hb
    exact absurd (ty_ne h1 h2) (by decide)
theorem slice_of {v : Value} {sz : Nat} {xs : List Value} {e : TypeId} {k : Nat} (h : w.ownsRow base e sz v k xs) : ∃ A c, v = .slice A k c := by
  rcases h.2 with ⟨rfl, rfl⟩ | ⟨g, cap, cur, rfl, _⟩
  · exact ⟨none, 0, rfl⟩
  · exact ⟨_, _, rfl⟩
theorem at_take {q : Id2} {k : Nat} (hk : k < K.length) {x : Int} : (if q ∈ K.take (k + 1) then T q else x) = if K[k] = q then T q else if q ∈ K.take k then T q else x := by
  rw [List.take_succ_eq_append_getElem hk]
  by_cases h1 : K[k] = q
  · rw [if_pos h1, if_pos (by simp [h1])]
  · rw [if_neg h1]
    by_cases h2 : q ∈ K.take k
    · rw [if_pos h2, if_pos (List.mem_append_left _ h2)]
    · rw [if_neg h2, if_neg]
      rintro h
      rcases List.mem_append.1 h with h | h
      · exact h2 h
      · exact h1 (List.mem_singleton.1 h).symm
set_option maxHeartbeats 4000000 in
theorem time_law (mn mx wi : Int) (v : Value) (ss : List Sp) (w : World) (_r0 : -9223372036854775808 ≤ mn ∧ mn ≤ 9223372036854775807) (_r1 : -9223372036854775808 ≤ mx ∧ mx ≤ 9223372036854775807) (_r2 : -9223372036854775808 ≤ wi ∧ wi ≤ 9223372036854775807) (I3 : Rcs encT 5 w v ss) (R3 : ∀ s ∈ ss, SpOk w s) :
    Calls Try.prog 5 #[.int .i64 mn, .int .i64 mx, .int .i64 wi, v] w fun en w' => en = .returned (.bool true) ∧ Below w.heap.size w w' := by
  have HI := Lib.hid I3
  have HS := Lib.hid R3
  obtain ⟨A, c, rfl, hz⟩ := I3
  clear hz _r0 _r1 _r2 R3
  cases hlg : longS ss
  case true =>
    have HG := Lib.hid hlg
    clear hlg
    go_enter Try.func5, Try.ntmps5
    go_wp2_with fail
    (with_reducible refine (long_any _ ss _ HI.out HS.out).mono ?_)
    rintro en w1 ⟨rfl, hb⟩
    have B := Lib.hid (hb)
    clear hb
    rw [HG.out]
    go_wp2_with fail
    (with_reducible refine (awake_any _).mono ?_)
    rintro en w2 ⟨rfl, hb⟩
    have B := Lib.hid (below_after B.out hb (Nat.le_refl _))
    clear hb
    go_wp2_with fail
    go_ret
    exact ⟨rfl, B.out⟩
  case false =>
    have HG := Lib.hid hlg
    clear hlg
    go_enter Try.func5, Try.ntmps5
    go_wp2_with fail
    (with_reducible refine (long_any _ ss _ HI.out HS.out).mono ?_)
    rintro en w1 ⟨rfl, hb⟩
    have B := Lib.hid (hb)
    clear hb
    rw [HG.out]
    have HL := Lib.hid (longS_no HG.out)
    go_wp2_with fail
    (with_reducible refine (awake_any _).mono ?_)
    rintro en w2 ⟨rfl, hb⟩
    have B := Lib.hid (below_after B.out hb (Nat.le_refl _))
    clear hb
    go_wp2_with fail
    cases hok : newOk mn mx wi
    case false =>
      (with_reducible refine (wnew_no mn mx wi hok _).mono ?_)
      rintro en w3 ⟨rfl, hb⟩
      have B := Lib.hid (below_after B.out hb (Nat.le_refl _))
      clear hb
      go_wp2_with fail
      go_ret
      exact ⟨rfl, B.out⟩
    case true =>
      have HOK := Lib.hid hok
      clear hok
      (with_reducible refine (Sit.new w _ B.out mn mx wi HOK.out).mono ?_)
      rintro en w3 ⟨p, S, rfl, h1, hlo, h3⟩
      have Q := Lib.hid h1
      skip
      clear h1 B hlo h3
      go_wp2_with fail
      (with_reducible refine (rising_any _ ss _ (HI.out.below Q.out.below) HL.out.1).mono ?_)
      rintro en w4 ⟨v', rfl, h1, hb⟩
      have RO := Lib.hid (OwnsR.mono2 h1 Q.out.below.size)
      have NR : Hid (∀ b, v'.ownBlock = some b → ¬ S b) := Lib.hid fun b hb hS => by
        have := (World.ownsRow.lt h1 b hb).1
        have := Q.out.wat.lt b hS
        omega
      have Q := Lib.hid (Q.out.keep hb)
      clear h1 hb
      obtain ⟨A4, c4, rfl⟩ := slice_of RO.out
      go_wp2_with fail
      have HT : Hid (∀ s ∈ risen 0 ss, (0 ≤ s.x ∧ s.x ≤ 4900) ∧ (s.l.length ≤ 30 ∧ Rises s.l) ∧ (∀ W, Below w.heap.size w W → Ids W s.v s.l) ∧ In2 s.q ∧ ∀ q ∈ s.l, In2 q) := Lib.hid fun s hs => by
        obtain ⟨h1, r, hr, e⟩ := risen_mem hs
        have h2 := nowOf_range ss 0
        have h3 := HL.out.1
        have h4 := HL.out.2 r hr
        have h5 := HS.out r hr
        rw [e]
        refine ⟨⟨h1.1, ?_⟩, h4, fun W hb => h5.ids.below hb, h5.q2, h5.l2⟩
        show s.x ≤ 4900
        omega
      have HLen : Hid ((risen 0 ss).length ≤ 100) := Lib.hid (by rw [risen_len]; exact HL.out.1)
      have HUp : Hid ((risen 0 ss).Pairwise fun a b => a.x ≤ b.x) := Lib.hid risen_up
      generalize risen 0 ss = ts at *
      have G0 : Hid (TmG w w4 S p 0 (Dt.new mn mx wi) [] (fun _ => Dt.new mn mx wi) (fun _ => 0) (.slice A4 ts.length c4) ts (.slice none 0 0) (.slice none 0 0)) := Lib.hid ⟨Q.out, RO.out, NR.out, owns_nil _ _, (fun b hb => by cases hb), OwnsR.nil _ _ _, (fun b hb => by cases hb)⟩
      clear Q RO NR HI
      go_loopw [11, 12, 13] (fun s11 s12 s13 wr => ∃ (k : Nat) (now : Int) (S' : Nat → Prop) (m : Nat) (K : List Id2) (D : Id2 → Dt) (T : Id2 → Int) (Aw : Option Addr) (cw : Nat) (Al : Option Addr) (cl : Nat), k ≤ ts.length ∧ s11 = .slice Aw K.length cw ∧ s12 = .slice Al K.length cl ∧ s13 = .int .i64 k ∧ Hid (TmG w wr S' p m (Dt.new mn mx wi) K D T (.slice A4 ts.length c4) ts (.slice Aw K.length cw) (.slice Al K.length cl)) ∧ Hid (Tie mn mx now K D T) ∧ Hid (∀ s ∈ ts.drop k, now ≤ s.x) ∧ Hid (m ≤ 30 * k) ∧ Hid (Rises K ∧ K.length ≤ 30)) (fun _ _ s13 _ => ts.length - (intOf s13).toNat)
      case atStart => exact ⟨0, 0, S, 0, [], _, _, none, 0, none, 0, by omega, rfl, rfl, rfl, G0, Lib.hid Tie.none, Lib.hid (fun s hs => (HT.out s hs).1.1), Lib.hid (by omega), Lib.hid ⟨rises_nil, by simp⟩⟩
      case round =>
        clear G0
        obtain ⟨k, now, S', m, K, D, T, Aw, cw, Al, cl, hkl, rfl, rfl, rfl, GG, TT, HX, HM, HR⟩ := hrel
        have hLen := HLen.out
        have hK30 := HR.out.2
        have i3 : (0 : Int) ≤ (k : Int) := by omega
        by_cases hlt : k < ts.length
        · have hd1 : decide ((k : Int) < (ts.length : Int)) = true := by simp; omega
          have i4 : (k : Int) < (ts.length : Int) := by omega
          have RC := Lib.hid (rcs_owns encT_len GG.out.rr)
          obtain ⟨ad, rfl⟩ := RC.out.addr (Nat.lt_of_le_of_lt (Nat.zero_le _) hlt)
          have c0 := RC.out.first (Below.refl _ _) hlt (u := .bool ts[k].h) rfl
          have c1 := RC.out.cell (Below.refl _ _) hlt 1 (by decide) (u := .int .i64 ts[k].q.1) rfl
          have c2 := RC.out.cell (Below.refl _ _) hlt 2 (by decide) (u := .int .i64 ts[k].q.2) rfl
          have c3 := RC.out.cell (Below.refl _ _) hlt 3 (by decide) (u := .slice ts[k].A ts[k].l.length ts[k].c) rfl
          have c4' := RC.out.cell (Below.refl _ _) hlt 4 (by decide) (u := .int .i64 ts[k].x) rfl
          have HK := Lib.hid (HT.out _ (List.getElem_mem hlt))
          have HXK := Lib.hid (HX.out ts[k] (by rw [List.drop_eq_getElem_cons hlt]; exact List.mem_cons_self))
          have HXN : Hid (∀ s ∈ ts.drop (k + 1), ts[k].x ≤ s.x) := Lib.hid fun s hs => by
            have h := HUp.out
            have h2 : ts = ts.take k ++ ts[k] :: ts.drop (k + 1) := by rw [← List.drop_eq_getElem_cons hlt, List.take_append_drop]
            rw [h2] at h
            exact (List.pairwise_cons.1 (List.pairwise_append.1 h).2.1).1 s hs
          generalize ts[k] = s at *
          obtain ⟨sh, ⟨sa, si⟩, sA, sc, sl, sx⟩ := s
          dsimp only at c0 c1 c2 c3 c4' HXK HXN
          clear HX RC
          go_upto_region 13 with fail
          have X1 : Hid (SBox (wr.alloc (.cells #[.bool sh, .int .i64 sa, .int .i64 si, .slice sA sl.length sc, .int .i64 sx] 38)) wr.heap.size ⟨sh, (sa, si), sA, sc, sl, sx⟩) := Lib.hid (heap_alloc_new wr (.cells #[.bool sh, .int .i64 sa, .int .i64 si, .slice sA sl.length sc, .int .i64 sx] 38))
          have N1 : Hid (¬ S' wr.heap.size) := Lib.hid fun h => by have := GG.out.sit.wat.lt _ h; omega
          have G1 := Lib.hid (GG.out.keep (below_one wr (.cells #[.bool sh, .int .i64 sa, .int .i64 si, .slice sA sl.length sc, .int .i64 sx] 38)))
          clear c0 c1 c2 c3 c4' GG
          generalize wr.alloc (.cells #[.bool sh, .int .i64 sa, .int .i64 si, .slice sA sl.length sc, .int .i64 sx] 38) = w1 at *
          generalize wr.heap.size = gb at *
          have I1 : Hid (Ids w1 (.slice sA sl.length sc) sl) := Lib.hid (HK.out.2.2.1 _ G1.out.sit.below)
          have hx0 : Hid (0 ≤ sx ∧ sx ≤ 4900) := Lib.hid HK.out.1
          cases sh with
          | true =>
            obtain ⟨b0, b1, b2, b3, b4⟩ := X1.out.cells
            dsimp only at b0 b1 b2 b3 b4
            go_wp2_with fail
            (with_reducible refine (G1.out.sit.heard sa si sx HK.out.2.2.2.1).mono ?_)
            rintro en w5 ⟨rfl, S5, h1, h2⟩
            have G5 := Lib.hid (G1.out.upd h1 h2)
            have X5 := Lib.hid (X1.out.fr h2.fr N1.out)
            have T5 := Lib.hid (TT.out.heard (sa, si) HXK.out hx0.out.2 hx0.out.1)
            clear h1 h2 b0 b1 b2 b3 b4 G1 X1 TT I1
            go_wp2_with fail
            go_loopw [15] (fun s15 wq => ∃ j : Nat, j ≤ K.length ∧ s15 = .int .i64 j ∧ Hid (Gaps wq w.heap.size (.slice Al K.length cl) ((K.take j).map (heardT T (sa, si) sx) ++ (K.drop j).map T)) ∧ Hid (Fr (fun i => (Value.slice Al K.length cl).ownBlock = some i) w5 wq)) (fun s15 _ => K.length - (intOf s15).toNat)
            case atStart => exact ⟨0, by omega, rfl, Lib.hid (by simpa using G5.out.last), Lib.hid (Fr.refl _ _)⟩
            case round =>
              obtain ⟨j, hj, rfl, HG, HF⟩ := hrel
              have j3 : (0 : Int) ≤ (j : Int) := by omega
              by_cases hjl : j < K.length
              · have hd2 : decide ((j : Int) < (K.length : Int)) = true := by simp; omega
                have j4 : (j : Int) < (K.length : Int) := by omega
                have hne : Hid (∀ (b : Nat) cs t, (Value.slice Al K.length cl).ownBlock = some b → w5.heap[b]? = some (.cells cs t (0, 0)) → t = 3) := Lib.hid fun b cs t hb hc => by
                  obtain ⟨c1, h1⟩ := owns_ty G5.out.last hb
                  exact ty_ne hc h1
                have XQ := Lib.hid (X5.out.fr HF.out fun h => absurd (hne.out _ _ _ h X5.out) (by decide))
                have WQ := Lib.hid (ids_of_owns (owns_fr G5.out.who HF.out fun b hb h => by
                  obtain ⟨cs, h1⟩ := owns_ty G5.out.who hb
                  exact absurd (hne.out _ _ _ h h1) (by decide)))
                obtain ⟨b0, b1, b2, b3, b4⟩ := XQ.out.cells
                dsimp only at b0 b1 b2 b3 b4
                have hll : ((K.take j).map (heardT T (sa, si) sx) ++ (K.drop j).map T).length = K.length := by simp; omega
                obtain ⟨aw, rfl, e1, e2⟩ := WQ.out.at_ (Below.refl _ _) hjl
                have hgs := gaps_some HG.out (by omega)
                obtain ⟨gl, cl2, hgl, -⟩ := hgs
                rw [hll] at hgl
                injection hgl with hgl1 hgl2 hgl3
                subst hgl1 hgl3
                have HC : Hid (∃ y, wr.cell? ⟨gl, j, none⟩ = some (.int .i64 y) ∧ wr.frozen? ⟨gl, j, none⟩ = false) := Lib.hid ⟨_, gaps_cell HG.out (k := j) (by omega)⟩
                obtain ⟨y0, hy1, hy2⟩ := HC.out
                have SM := Lib.hid (fun h => set_map (x := sx) (T := T) hjl (sa, si) h)
                have KM := Lib.hid (fun h => skip_map (x := sx) (T := T) hjl (sa, si) h)
                generalize hq : K[j] = q at *
                obtain ⟨qa, qi⟩ := q
                clear hq hne hll HC
                by_cases hab : qa = sa
                · subst hab
                  by_cases hij : qi = si
                  · subst hij
                    have SM2 := Lib.hid (SM.out rfl)
                    clear SM KM
                    go_upto_region 18 with fail
                    go_quiet (fail)
                    go_wp2_with fail
                    have HG2 : Hid (Gaps ((wr.drewN nq).setCell ⟨gl, j, none⟩ (.int .i64 sx)) w.heap.size (.slice (some ⟨gl, 0, none⟩) K.length cl) ((K.take (j + 1)).map (heardT T (qa, qi) sx) ++ (K.drop (j + 1)).map T)) := Lib.hid (by
                      rw [← SM2.out]
                      exact gaps_put (OwnsR.below HG.out (below_drewN (Below.refl _ _))))
                    have HF2 : Hid (Fr (fun i => (Value.slice (some ⟨gl, 0, none⟩) K.length cl).ownBlock = some i) w5 ((wr.drewN nq).setCell ⟨gl, j, none⟩ (.int .i64 sx))) := Lib.hid (by
                      exact (HF.out.step (.of_below (below_drewN (Below.refl _ _)))).step (.of_set _ _ rfl))
                    go_roundw
                    case rel => exact ⟨j + 1, by omega, by go_num, HG2, HF2⟩
                    case measure => simp [intOf]; omega
                  · have h2 : (qi == si) = false := by simpa using hij
                    have KM2 := Lib.hid (KM.out (fun h => hij (by injection h)))
                    clear SM KM
                    go_upto_region 18 with fail
                    go_quiet (fail)
                    go_wp2_with fail
                    go_roundw
                    case rel => exact ⟨j + 1, by omega, by go_num, Lib.hid (by rw [← KM2.out]; exact OwnsR.below HG.out (below_drewN (Below.refl _ _))), Lib.hid (HF.out.step (.of_below (below_drewN (Below.refl _ _))))⟩
                    case measure => simp [intOf]; omega
                · have h2 : (qa == sa) = false := by simpa using hab
                  have KM2 := Lib.hid (KM.out (fun h => hab (by injection h)))
                  clear SM KM
                  go_upto_region 18 with fail
                  go_quiet (fail)
                  go_wp2_with fail
                  go_roundw
                  case rel => exact ⟨j + 1, by omega, by go_num, Lib.hid (by rw [← KM2.out]; exact OwnsR.below HG.out (below_drewN (Below.refl _ _))), Lib.hid (HF.out.step (.of_below (below_drewN (Below.refl _ _))))⟩
                  case measure => simp [intOf]; omega
              · obtain rfl : j = K.length := by omega
                have hd2 : decide ((K.length : Int) < (K.length : Int)) = false := by simp
                have G6 := Lib.hid (G5.out.stored (T' := heardT T (sa, si) sx) HF.out (by have := HG.out; rwa [List.take_length, List.drop_length, List.map_nil, List.append_nil] at this))
                go_wp2_with fail
                go_roundw
                case rel => exact ⟨k + 1, sx, S5, m, K, _, _, _, cw, _, cl, by omega, rfl, rfl, by go_num, G6, T5, HXN, Lib.hid (by have := HM.out; omega), HR⟩
                case measure => simp [intOf]; omega
          | false =>
            obtain ⟨b0, b1, b2, b3, b4⟩ := X1.out.cells
            dsimp only at b0 b1 b2 b3 b4
            have HR2 := Lib.hid HK.out.2.1
            have HZ1 := Lib.hid G1.out.sit.below.size
            have HQ2 := Lib.hid HK.out.2.2.2.2
            have HIA : Hid (∀ W, Below w.heap.size w W → Ids W (.slice sA sl.length sc) sl) := Lib.hid HK.out.2.2.1
            have hs30 := HR2.out.1
            clear HK
            go_wp2_with fail
            clear b0 b1 b2 b3 b4
            go_loopw [16, 17] (fun s16 s17 wr => ∃ (n : Nat) (An : Option Addr) (cn : Nat), n ≤ sl.length ∧ s17 = .int .i64 n ∧ s16 = .slice An n cn ∧ Hid (Gaps wr w1.heap.size (.slice An n cn) ((sl.take n).map (lookT K T sx))) ∧ Hid (Below w1.heap.size w1 wr)) (fun _ s17 _ => sl.length - (intOf s17).toNat)
            case atStart => exact ⟨0, none, 0, by omega, rfl, rfl, Lib.hid (OwnsR.nil _ _ _), Lib.hid (Below.refl _ _)⟩
            case round =>
              obtain ⟨n, An, cn, hn, rfl, rfl, HN, HB⟩ := hrel
              rename World => w2
              have n3 : (0 : Int) ≤ (n : Int) := by omega
              have X2 := Lib.hid (X1.out.keep HB.out)
              obtain ⟨b0, b1, b2, b3, b4⟩ := X2.out.cells
              dsimp only at b0 b1 b2 b3 b4
              by_cases hnl : n < sl.length
              · have hd2 : decide ((n : Int) < (sl.length : Int)) = true := by simp; omega
                have n4 : (n : Int) < (sl.length : Int) := by omega
                obtain ⟨ai, rfl, -, -⟩ := I1.out.at_ HB.out hnl
                have IC := Lib.hid (fun W (hb : Below w1.heap.size w1 W) => And.intro (cell1 I1.out hb hnl) (cell2 I1.out hb hnl))
                have TS := Lib.hid (show (sl.take (n + 1)).map (lookT K T sx) = (sl.take n).map (lookT K T sx) ++ [lookT K T sx sl[n]] by rw [List.take_succ_eq_append_getElem hnl, List.map_append]; rfl)
                generalize sl[n] = q at *
                obtain ⟨na, ni⟩ := q
                go_wp2_with fail
                clear b0 b1 b2 b3 b4
                go_loopw [18, 19] (fun s18 s19 wr => ∃ j : Nat, j ≤ K.length ∧ s18 = .int .i64 (if (na, ni) ∈ K.take j then T (na, ni) else sx) ∧ s19 = .int .i64 j ∧ Hid (Below w2.heap.size w2 wr)) (fun _ s19 _ => K.length - (intOf s19).toNat)
                case atStart => exact ⟨0, by omega, by simp, rfl, Lib.hid (Below.refl _ _)⟩
                case round =>
                  obtain ⟨j, hj, rfl, rfl, HB3⟩ := hrel
                  have j3 : (0 : Int) ≤ (j : Int) := by omega
                  by_cases hjl : j < K.length
                  · have hd3 : decide ((j : Int) < (K.length : Int)) = true := by simp; omega
                    have j4 : (j : Int) < (K.length : Int) := by omega
                    have BW := Lib.hid (below_after HB.out HB3.out (Nat.le_refl _))
                    have GW := Lib.hid (G1.out.keep BW.out)
                    obtain ⟨b0, b1, b2, b3, b4⟩ := (X1.out.keep BW.out).cells
                    dsimp only at b0 b1 b2 b3 b4
                    obtain ⟨aw, rfl, e1, e2⟩ := (ids_of_owns GW.out.who).at_ (Below.refl _ _) hjl
                    obtain ⟨i1, i2⟩ := IC.out _ BW.out
                    obtain ⟨gl, cl2, hgl, -⟩ := gaps_some GW.out.last (by simp; omega)
                    rw [List.length_map] at hgl
                    injection hgl with hgl1 hgl2 hgl3
                    subst hgl1 hgl3
                    have AT := Lib.hid (at_take (q := (na, ni)) (T := T) (x := sx) hjl)
                    have HC := gaps_cell GW.out.last (k := j) (by simp; omega)
                    rw [List.getElem_map] at HC
                    obtain ⟨hy1, hy2⟩ := HC
                    generalize K[j] = r at *
                    obtain ⟨qa, qi⟩ := r
                    generalize (if (na, ni) ∈ K.take j then T (na, ni) else sx) = tt at *
                    by_cases hab : qa = na
                    · subst hab
                      by_cases hij : qi = ni
                      · subst hij
                        rw [if_pos rfl] at AT
                        go_upto_region 28 with fail
                        go_quiet (fail)
                        go_wp2_with fail
                        go_roundw
                        case rel => exact ⟨j + 1, by omega, by rw [AT.out], by go_num, Lib.hid (below_drewN HB3.out)⟩
                        case measure => simp [intOf]; omega
                      · have h2 : (qi == ni) = false := by simpa using hij
                        rw [if_neg (show ¬ ((qa, qi) : Id2) = (qa, ni) from fun h => hij (by injection h))] at AT
                        go_upto_region 28 with fail
                        go_quiet (fail)
                        go_wp2_with fail
                        go_roundw
                        case rel => exact ⟨j + 1, by omega, by rw [AT.out], by go_num, Lib.hid (below_drewN HB3.out)⟩
                        case measure => simp [intOf]; omega
                    · have h2 : (qa == na) = false := by simpa using hab
                      rw [if_neg (show ¬ ((qa, qi) : Id2) = (na, ni) from fun h => hab (by injection h))] at AT
                      go_upto_region 28 with fail
                      go_quiet (fail)
                      go_wp2_with fail
                      go_roundw
                      case rel => exact ⟨j + 1, by omega, by rw [AT.out], by go_num, Lib.hid (below_drewN HB3.out)⟩
                      case measure => simp [intOf]; omega
                  · obtain rfl : j = K.length := by omega
                    have hd3 : decide ((K.length : Int) < (K.length : Int)) = false := by simp
                    have ELT := Lib.hid (show (if (na, ni) ∈ K.take K.length then T (na, ni) else sx) = lookT K T sx (na, ni) by rw [List.take_length]; rfl)
                    rw [ELT.out]
                    generalize lookT K T sx (na, ni) = tt at *
                    have HNB := Lib.hid ((OwnsR.below HN.out HB3.out).below (below_oneX wr (.cells #[.int .i64 tt] 3)))
                    have LT := Lib.hid (rcs_lit encN_len wr [tt] #[.int .i64 tt] 3 rfl)
                    have B4 := Lib.hid (HB.out.trans ((HB3.out.trans ((below_oneX wr (.cells #[.int .i64 tt] 3)).mono HB3.out.size)).mono HB.out.size))
                    go_wp2_with (first | (at_builtin; refine wpList_append_recs (enc := encN) (sz := 1) 45 3 Try.underlying45 info3 rfl encN_len (by decide) encN_one (by decide) rfl (.tmp 106) (.tmp 108) rfl _ w1.heap.size _ _ _ _ rfl rfl HNB.out LT.out (by simp; omega) B4.out.size ?_; intro v5 w5 h4 h5; have O5 := Lib.hid h4; have B5 := Lib.hid (B4.out.trans (h5.mono (Nat.le_refl _))); obtain ⟨A5, c5, rfl⟩ := slice_of h4; clear h4 h5) | fail)
                    have hll : ((sl.take n).map (lookT K T sx) ++ [tt]).length = n + 1 := by simp; omega
                    rw [hll] at O5
                    go_roundw
                    case rel => exact ⟨n + 1, A5, c5, by omega, by go_num, rfl, Lib.hid (by rw [TS.out]; exact O5.out), B5⟩
                    case measure => simp [intOf]; omega
              · obtain rfl : n = sl.length := by omega
                have hd2 : decide ((sl.length : Int) < (sl.length : Int)) = false := by simp
                rw [List.take_length] at HN
                have G2 := Lib.hid (G1.out.keep HB.out)
                have I2 := Lib.hid ((I1.out.below HB.out).below (below_one w2 (.cells #[] 35)))
                have OM := Lib.hid (owns_made w2 w2.heap.size (Nat.le_refl _))
                have Z2 := Lib.hid HB.out.size
                obtain ⟨a0, a1, a2, a3, a4⟩ := (X2.out.keep (below_one w2 (.cells #[] 35))).cells
                dsimp only at a0 a1 a2 a3 a4
                have LS : Hid (∀ k, S' k → k < w1.heap.size) := Lib.hid G1.out.sit.wat.lt
                clear G1 I1 X1 HB
                go_wp2_with (first | (at_builtin; refine wpList_append_list rfl (.tmp 110) (.tmp 112) rfl _ w2.heap.size _ _ [] sl rfl rfl OM.out I2.out (by simp; omega) (by simp) ?_; intro v5 w5 h4 h5; have O5 : Hid (Owns w5 w2.heap.size v5 sl) := Lib.hid h4; have B5 := Lib.hid ((below_one w2 (.cells #[] 35)).trans h5); obtain ⟨A5, c5, rfl⟩ := slice_of h4; clear h4 h5; obtain ⟨d0, d1, d2, d3, d4⟩ := (X2.out.keep B5.out).cells; dsimp only at d0 d1 d2 d3 d4) | fail)
                have X5 := Lib.hid (X2.out.keep B5.out)
                have N5 := Lib.hid (OwnsR.below HN.out B5.out)
                have G5 := Lib.hid (G2.out.keep B5.out)
                have I5 : Hid (Ids w5 (.slice sA sl.length sc) sl) := Lib.hid (HIA.out _ G5.out.sit.below)
                have Z5 := Lib.hid B5.out.size
                clear X2 HN G2 I2 OM B5 b0 b1 b2 b3 b4 a0 a1 a2 a3 a4
                (with_reducible refine (G5.out.sit.look _ sl sx I5.out (by omega) HQ2.out (by have := HM.out; omega)).mono ?_)
                rw [setOf_self HR2.out.2]
                rintro en w6 ⟨S6, A6, c6, rfl, h1, h2, h3⟩
                have NW5 : ∀ b, (Value.slice A5 sl.length c5).ownBlock = some b → ¬ S' b := fun b hb hS => by
                  have h7 := LS.out b hS
                  have h8 := (World.ownsRow.lt O5.out b hb).1
                  have := Z2.out
                  omega
                have NL5 : ∀ b, (Value.slice An sl.length cn).ownBlock = some b → ¬ S' b := fun b hb hS => by
                  have h7 := LS.out b hS
                  have h8 := (World.ownsRow.lt N5.out b hb).1
                  omega
                have hb1 : w.heap.size ≤ w1.heap.size := HZ1.out
                have G6 : Hid (TmG w w6 S6 p (m + sl.length) (Dt.new mn mx wi) sl (withD (Dt.new mn mx wi) K D sx) (lookT K T sx) (.slice (some ad) ts.length c4) ts (.slice A5 sl.length c5) (.slice An sl.length cn)) := Lib.hid
                  ⟨h1, ownsT_fr G5.out.rr h2.fr G5.out.nr, no_upd G5.out.rr G5.out.nr h2, owns_fr (World.ownsRow.mono O5.out (Nat.le_trans hb1 Z2.out)) h2.fr NW5, no_upd O5.out NW5 h2, gaps_fr (World.ownsRow.mono N5.out hb1) h2.fr NL5, no_upd N5.out NL5 h2⟩
                have T6 := Lib.hid (TT.out.look (wi := wi) sl HXK.out hx0.out.2 hx0.out.1)
                have X6 := Lib.hid (X5.out.fr h2.fr (fun h => N1.out h))
                have L6 := Lib.hid h3
                have OK6 := Lib.hid h1.wat.ok
                clear h1 h2 h3 NW5 NL5 hb1 d0 d1 d2 d3 d4 X5 G5 I5 O5 N5 TT hs30
                generalize withD (Dt.new mn mx wi) K D sx = D6 at *
                generalize lookT K T sx = T6f at *
                have hlk : Hid (∀ q ∈ sl, hasB q (lateL D6 sx sl) = (D6 q).late sx) := Lib.hid fun q hq => by
                  unfold lateL
                  cases hz : (D6 q).late sx
                  · exact hasB_not fun h => by
                      have := (List.mem_filter.1 h).2
                      rw [hz] at this
                      cases this
                  · exact hasB_in (List.mem_filter.2 ⟨hq, hz⟩)
                have hll6 : Hid ((lateL D6 sx sl).length ≤ 100000) := Lib.hid (by have := lateL_le D6 sx sl; have := HR2.out.1; omega)
                have hs30 := HR2.out.1
                generalize lateL D6 sx sl = ll at *
                go_wp2_with fail
                go_loopw [21] (fun s21 wr => ∃ j : Nat, j ≤ sl.length ∧ s21 = .int .i64 j ∧ Hid (Below w6.heap.size w6 wr)) (fun s21 _ => sl.length - (intOf s21).toNat)
                case atStart => exact ⟨0, by omega, rfl, Lib.hid (Below.refl _ _)⟩
                case round =>
                  obtain ⟨j, hj, rfl, HB⟩ := hrel
                  have j3 : (0 : Int) ≤ (j : Int) := by omega
                  by_cases hjl : j < sl.length
                  · have hd3 : decide ((j : Int) < (sl.length : Int)) = true := by simp; omega
                    have j4 : (j : Int) < (sl.length : Int) := by omega
                    have GW := Lib.hid (G6.out.keep HB.out)
                    have LW := Lib.hid (L6.out.ids.below HB.out)
                    obtain ⟨aw, rfl, e1, e2⟩ := (ids_of_owns GW.out.who).at_ (Below.refl _ _) hjl
                    have HIN := Lib.hid (List.getElem_mem hjl)
                    obtain ⟨gl, cl2, hgl, -⟩ := gaps_some GW.out.last (by simp; omega)
                    rw [List.length_map] at hgl
                    injection hgl with hgl1 hgl2 hgl3
                    subst hgl1 hgl3
                    have HC := Lib.hid (fun W (hb : Below wr.heap.size wr W) => gaps_cell (GW.out.last.below hb) (k := j) (by simp; omega))
                    have HTL := Lib.hid (T6.out.late hx0.out.2 (List.getElem_mem hjl) (OK6.out _ (List.getElem_mem hjl)))
                    have HT0 := Lib.hid (T6.out.lo _ (List.getElem_mem hjl))
                    have HT1 := Lib.hid (T6.out.hi _ (List.getElem_mem hjl))
                    have HLK := Lib.hid (hlk.out _ (List.getElem_mem hjl))
                    have HCE : Hid (((sl.map T6f)[j]'(by simp; omega)) = T6f sl[j]) := Lib.hid (by rw [List.getElem_map])
                    rw [HCE.out] at HC
                    clear HCE
                    generalize sl[j] = q at *
                    obtain ⟨qa, qi⟩ := q
                    go_wp2_with fail
                    (with_reducible refine (refHas_any _ ll qa qi _ LW.out hll6.out).mono ?_)
                    rw [HLK.out]
                    rintro en w7 ⟨rfl, hb⟩
                    have B7 := Lib.hid (below_after HB.out hb (Nat.le_refl _))
                    obtain ⟨hy1, hy2⟩ := HC.out _ hb
                    obtain ⟨b0, b1, b2, b3, b4⟩ := (X6.out.keep B7.out).cells
                    dsimp only at b0 b1 b2 b3 b4
                    clear hb e1 e2
                    generalize T6f (qa, qi) = tq at *
                    generalize (D6 (qa, qi)).late sx = z at *
                    have t0 := HT0.out
                    have t1 := HT1.out
                    have hx1 := hx0.out.2
                    have hwx : IntKind.i64.wrap (sx - tq) = sx - tq := IntWalk.i64_in _ ⟨by omega, by omega⟩
                    cases z with
                    | true =>
                      have hmn := HTL.out.1 rfl
                      have hd5 : decide (sx - tq ≤ mn) = false := decide_eq_false (by omega)
                      have hd6 : ¬ (sx - tq ≤ mn) := by omega
                      go_wp2_with fail
                      refine wp_region_held_drew (S := fun W => W.cell? ⟨gb, 4, none⟩ = some (.int .i64 sx) ∧ W.cell? ⟨gl, j, none⟩ = some (.int .i64 tq) ∧ Hid (Below w7.heap.size w7 W)) (by kernel_rfl) ?_ (fun hHeld => ?_)
                      · exact ⟨b4, hy1, Lib.hid (below_drewN (n := 1) (Below.refl _ _))⟩
                      (refine wpAnyH_take (i := 0) (oi := ⟨_, _, _, _, _, _⟩) (v := ?_) rfl (by kernel_rfl) (by kernel_rfl) (by kernel_rfl) (fun _ _ _ h => h) (Or.inl ⟨by rfl, ?_⟩) (by assumption) ?_; rotate_left 1; · (intro w hSw; (try dsimp only at hSw); go_simp; all_goals with_reducible rfl))
                      try simp only [Act.put, List.setIfInBounds_toArray, List.set_cons_zero, List.set_cons_succ]
                      (refine wpAnyH_take (i := 1) (oi := ⟨_, _, _, _, _, _⟩) (v := ?_) rfl (by kernel_rfl) (by kernel_rfl) (by kernel_rfl) (fun _ _ _ h => h) (Or.inl ⟨by rfl, ?_⟩) (by assumption) ?_; rotate_left 1; · (intro w hSw; (try dsimp only at hSw); go_simp; all_goals with_reducible rfl))
                      try simp only [Act.put, List.setIfInBounds_toArray, List.set_cons_zero, List.set_cons_succ]
                      first | (refine wpAnyH_take (i := 2) (oi := ⟨_, _, _, _, _, _⟩) (v := ?_) rfl (by kernel_rfl) (by kernel_rfl) (by kernel_rfl) (fun _ _ _ h => h) (Or.inl ⟨by rfl, ?_⟩) (by assumption) ?_; rotate_left 1; · (intro w hSw; (try dsimp only at hSw); go_simp; all_goals with_reducible rfl)) | refine wpAnyH_take (i := 2) (oi := ⟨_, _, _, _, _, _⟩) (v := undef) rfl (by kernel_rfl) (by kernel_rfl) (by kernel_rfl) (fun _ _ _ h => h) (Or.inr ⟨by kernel_rfl, rfl⟩) (by assumption) ?_
                      try simp only [Act.put, List.setIfInBounds_toArray, List.set_cons_zero, List.set_cons_succ]
                      first | (refine wpAnyH_take (i := 3) (oi := ⟨_, _, _, _, _, _⟩) (v := ?_) rfl (by kernel_rfl) (by kernel_rfl) (by kernel_rfl) (fun _ _ _ h => h) (Or.inl ⟨by rfl, ?_⟩) (by assumption) ?_; rotate_left 1; · (intro w hSw; (try dsimp only at hSw); go_simp; all_goals with_reducible rfl)) | refine wpAnyH_take (i := 3) (oi := ⟨_, _, _, _, _, _⟩) (v := undef) rfl (by kernel_rfl) (by kernel_rfl) (by kernel_rfl) (fun _ _ _ h => h) (Or.inr ⟨by kernel_rfl, rfl⟩) (by assumption) ?_
                      try simp only [Act.put, List.setIfInBounds_toArray, List.set_cons_zero, List.set_cons_succ]
                      first | (refine wpAnyH_take (i := 4) (oi := ⟨_, _, _, _, _, _⟩) (v := ?_) rfl (by kernel_rfl) (by kernel_rfl) (by kernel_rfl) (fun _ _ _ h => h) (Or.inl ⟨by rfl, ?_⟩) (by assumption) ?_; rotate_left 1; · (intro w hSw; (try dsimp only at hSw); go_simp; all_goals with_reducible rfl)) | refine wpAnyH_take (i := 4) (oi := ⟨_, _, _, _, _, _⟩) (v := undef) rfl (by kernel_rfl) (by kernel_rfl) (by kernel_rfl) (fun _ _ _ h => h) (Or.inr ⟨by kernel_rfl, rfl⟩) (by assumption) ?_
                      try simp only [Act.put, List.setIfInBounds_toArray, List.set_cons_zero, List.set_cons_succ]
                      first | (refine wpAnyH_take (i := 5) (oi := ⟨_, _, _, _, _, _⟩) (v := ?_) rfl (by kernel_rfl) (by kernel_rfl) (by kernel_rfl) (fun _ _ _ h => h) (Or.inl ⟨by rfl, ?_⟩) (by assumption) ?_; rotate_left 1; · (intro w hSw; (try dsimp only at hSw); go_simp; all_goals with_reducible rfl)) | refine wpAnyH_take (i := 5) (oi := ⟨_, _, _, _, _, _⟩) (v := undef) rfl (by kernel_rfl) (by kernel_rfl) (by kernel_rfl) (fun _ _ _ h => h) (Or.inr ⟨by kernel_rfl, rfl⟩) (by assumption) ?_
                      try simp only [Act.put, List.setIfInBounds_toArray, List.set_cons_zero, List.set_cons_succ]
                      first | (refine wpAnyH_take (i := 6) (oi := ⟨_, _, _, _, _, _⟩) (v := ?_) rfl (by kernel_rfl) (by kernel_rfl) (by kernel_rfl) (fun _ _ _ h => h) (Or.inl ⟨by rfl, ?_⟩) (by assumption) ?_; rotate_left 1; · (intro w hSw; (try dsimp only at hSw); go_simp; all_goals with_reducible rfl)) | refine wpAnyH_take (i := 6) (oi := ⟨_, _, _, _, _, _⟩) (v := undef) rfl (by kernel_rfl) (by kernel_rfl) (by kernel_rfl) (fun _ _ _ h => h) (Or.inr ⟨by kernel_rfl, rfl⟩) (by assumption) ?_
                      try simp only [Act.put, List.setIfInBounds_toArray, List.set_cons_zero, List.set_cons_succ]
                      first | (refine wpAnyH_take (i := 7) (oi := ⟨_, _, _, _, _, _⟩) (v := ?_) rfl (by kernel_rfl) (by kernel_rfl) (by kernel_rfl) (fun _ _ _ h => h) (Or.inl ⟨by rfl, ?_⟩) (by assumption) ?_; rotate_left 1; · (intro w hSw; (try dsimp only at hSw); go_simp; all_goals with_reducible rfl)) | refine wpAnyH_take (i := 7) (oi := ⟨_, _, _, _, _, _⟩) (v := undef) rfl (by kernel_rfl) (by kernel_rfl) (by kernel_rfl) (fun _ _ _ h => h) (Or.inr ⟨by kernel_rfl, rfl⟩) (by assumption) ?_
                      try simp only [Act.put, List.setIfInBounds_toArray, List.set_cons_zero, List.set_cons_succ]
                      first | (refine wpAnyH_take (i := 8) (oi := ⟨_, _, _, _, _, _⟩) (v := ?_) rfl (by kernel_rfl) (by kernel_rfl) (by kernel_rfl) (fun _ _ _ h => h) (Or.inl ⟨by rfl, ?_⟩) (by assumption) ?_; rotate_left 1; · (intro w hSw; (try dsimp only at hSw); go_simp; all_goals with_reducible rfl)) | refine wpAnyH_take (i := 8) (oi := ⟨_, _, _, _, _, _⟩) (v := undef) rfl (by kernel_rfl) (by kernel_rfl) (by kernel_rfl) (fun _ _ _ h => h) (Or.inr ⟨by kernel_rfl, rfl⟩) (by assumption) ?_
                      try simp only [Act.put, List.setIfInBounds_toArray, List.set_cons_zero, List.set_cons_succ]
                      first | (refine wpAnyH_take (i := 9) (oi := ⟨_, _, _, _, _, _⟩) (v := ?_) rfl (by kernel_rfl) (by kernel_rfl) (by kernel_rfl) (fun _ _ _ h => h) (Or.inl ⟨by rfl, ?_⟩) (by assumption) ?_; rotate_left 1; · (intro w hSw; (try dsimp only at hSw); go_simp; all_goals with_reducible rfl)) | refine wpAnyH_take (i := 9) (oi := ⟨_, _, _, _, _, _⟩) (v := undef) rfl (by kernel_rfl) (by kernel_rfl) (by kernel_rfl) (fun _ _ _ h => h) (Or.inr ⟨by kernel_rfl, rfl⟩) (by assumption) ?_
                      try simp only [Act.put, List.setIfInBounds_toArray, List.set_cons_zero, List.set_cons_succ]
                      first | (refine wpAnyH_take (i := 10) (oi := ⟨_, _, _, _, _, _⟩) (v := ?_) rfl (by kernel_rfl) (by kernel_rfl) (by kernel_rfl) (fun _ _ _ h => h) (Or.inl ⟨by rfl, ?_⟩) (by assumption) ?_; rotate_left 1; · (intro w hSw; (try dsimp only at hSw); go_simp; all_goals with_reducible rfl)) | refine wpAnyH_take (i := 10) (oi := ⟨_, _, _, _, _, _⟩) (v := undef) rfl (by kernel_rfl) (by kernel_rfl) (by kernel_rfl) (fun _ _ _ h => h) (Or.inr ⟨by kernel_rfl, rfl⟩) (by assumption) ?_
                      try simp only [Act.put, List.setIfInBounds_toArray, List.set_cons_zero, List.set_cons_succ]
                      (refine wpAnyH_take (i := 11) (oi := ⟨_, _, _, _, _, _⟩) (v := ?_) rfl (by kernel_rfl) (by kernel_rfl) (by kernel_rfl) (fun _ _ _ h => h) (Or.inl ⟨by rfl, ?_⟩) (by assumption) ?_; rotate_left 1; · (intro w hSw; (try dsimp only at hSw); go_simp; all_goals with_reducible rfl))
                      try simp only [Act.put, List.setIfInBounds_toArray, List.set_cons_zero, List.set_cons_succ]
                      (refine wpAnyH_take (i := 12) (oi := ⟨_, _, _, _, _, _⟩) (v := ?_) rfl (by kernel_rfl) (by kernel_rfl) (by kernel_rfl) (fun _ _ _ h => h) (Or.inl ⟨by rfl, ?_⟩) (by assumption) ?_; rotate_left 1; · (intro w hSw; (try dsimp only at hSw); go_simp; all_goals with_reducible rfl))
                      try simp only [Act.put, List.setIfInBounds_toArray, List.set_cons_zero, List.set_cons_succ]
                      first | (refine wpAnyH_take (i := 13) (oi := ⟨_, _, _, _, _, _⟩) (v := ?_) rfl (by kernel_rfl) (by kernel_rfl) (by kernel_rfl) (fun _ _ _ h => h) (Or.inl ⟨by rfl, ?_⟩) (by assumption) ?_; rotate_left 1; · (intro w hSw; (try dsimp only at hSw); go_simp; all_goals with_reducible rfl)) | refine wpAnyH_take (i := 13) (oi := ⟨_, _, _, _, _, _⟩) (v := undef) rfl (by kernel_rfl) (by kernel_rfl) (by kernel_rfl) (fun _ _ _ h => h) (Or.inr ⟨by kernel_rfl, rfl⟩) (by assumption) ?_
                      try simp only [Act.put, List.setIfInBounds_toArray, List.set_cons_zero, List.set_cons_succ]
                      first | (refine wpAnyH_take (i := 14) (oi := ⟨_, _, _, _, _, _⟩) (v := ?_) rfl (by kernel_rfl) (by kernel_rfl) (by kernel_rfl) (fun _ _ _ h => h) (Or.inl ⟨by rfl, ?_⟩) (by assumption) ?_; rotate_left 1; · (intro w hSw; (try dsimp only at hSw); go_simp; all_goals with_reducible rfl)) | refine wpAnyH_take (i := 14) (oi := ⟨_, _, _, _, _, _⟩) (v := undef) rfl (by kernel_rfl) (by kernel_rfl) (by kernel_rfl) (fun _ _ _ h => h) (Or.inr ⟨by kernel_rfl, rfl⟩) (by assumption) ?_
                      try simp only [Act.put, List.setIfInBounds_toArray, List.set_cons_zero, List.set_cons_succ]
                      first | (refine wpAnyH_take (i := 15) (oi := ⟨_, _, _, _, _, _⟩) (v := ?_) rfl (by kernel_rfl) (by kernel_rfl) (by kernel_rfl) (fun _ _ _ h => h) (Or.inl ⟨by rfl, ?_⟩) (by assumption) ?_; rotate_left 1; · (intro w hSw; (try dsimp only at hSw); go_simp; all_goals with_reducible rfl)) | refine wpAnyH_take (i := 15) (oi := ⟨_, _, _, _, _, _⟩) (v := undef) rfl (by kernel_rfl) (by kernel_rfl) (by kernel_rfl) (fun _ _ _ h => h) (Or.inr ⟨by kernel_rfl, rfl⟩) (by assumption) ?_
                      try simp only [Act.put, List.setIfInBounds_toArray, List.set_cons_zero, List.set_cons_succ]
                      refine wpAnyH_take (i := 16) (oi := ⟨_, _, _, _, _, _⟩) (v := undef) rfl (by kernel_rfl) (by kernel_rfl) (by kernel_rfl) (fun _ _ _ h => h) (Or.inr ⟨by kernel_rfl, rfl⟩) (by assumption) ?_
                      try simp only [Act.put, List.setIfInBounds_toArray, List.set_cons_zero, List.set_cons_succ]
                      refine wpAnyH_take (i := 17) (oi := ⟨_, _, _, _, _, _⟩) (v := undef) rfl (by kernel_rfl) (by kernel_rfl) (by kernel_rfl) (fun _ _ _ h => h) (Or.inr ⟨by kernel_rfl, rfl⟩) (by assumption) ?_
                      try simp only [Act.put, List.setIfInBounds_toArray, List.set_cons_zero, List.set_cons_succ]
                      refine wpAnyH_take (i := 18) (oi := ⟨_, _, _, _, _, _⟩) (v := undef) rfl (by kernel_rfl) (by kernel_rfl) (by kernel_rfl) (fun _ _ _ h => h) (Or.inr ⟨by kernel_rfl, rfl⟩) (by assumption) ?_
                      try simp only [Act.put, List.setIfInBounds_toArray, List.set_cons_zero, List.set_cons_succ]
                      refine wpAnyH_take (i := 19) (oi := ⟨_, _, _, _, _, _⟩) (v := undef) rfl (by kernel_rfl) (by kernel_rfl) (by kernel_rfl) (fun _ _ _ h => h) (Or.inr ⟨by kernel_rfl, rfl⟩) (by assumption) ?_
                      try simp only [Act.put, List.setIfInBounds_toArray, List.set_cons_zero, List.set_cons_succ]
                      refine wpAnyH_take (i := 20) (oi := ⟨_, _, _, _, _, _⟩) (v := undef) rfl (by kernel_rfl) (by kernel_rfl) (by kernel_rfl) (fun _ _ _ h => h) (Or.inr ⟨by kernel_rfl, rfl⟩) (by assumption) ?_
                      try simp only [Act.put, List.setIfInBounds_toArray, List.set_cons_zero, List.set_cons_succ]
                      refine wpAnyH_take (i := 21) (oi := ⟨_, _, _, _, _, _⟩) (v := undef) rfl (by kernel_rfl) (by kernel_rfl) (by kernel_rfl) (fun _ _ _ h => h) (Or.inr ⟨by kernel_rfl, rfl⟩) (by assumption) ?_
                      try simp only [Act.put, List.setIfInBounds_toArray, List.set_cons_zero, List.set_cons_succ]
                      refine wpAnyH_take (i := 22) (oi := ⟨_, _, _, _, _, _⟩) (v := undef) rfl (by kernel_rfl) (by kernel_rfl) (by kernel_rfl) (fun _ _ _ h => h) (Or.inr ⟨by kernel_rfl, rfl⟩) (by assumption) ?_
                      try simp only [Act.put, List.setIfInBounds_toArray, List.set_cons_zero, List.set_cons_succ]
                      refine wpAnyH_take (i := 23) (oi := ⟨_, _, _, _, _, _⟩) (v := undef) rfl (by kernel_rfl) (by kernel_rfl) (by kernel_rfl) (fun _ _ _ h => h) (Or.inr ⟨by kernel_rfl, rfl⟩) (by assumption) ?_
                      try simp only [Act.put, List.setIfInBounds_toArray, List.set_cons_zero, List.set_cons_succ]
                      refine wpAnyH_take (i := 24) (oi := ⟨_, _, _, _, _, _⟩) (v := undef) rfl (by kernel_rfl) (by kernel_rfl) (by kernel_rfl) (fun _ _ _ h => h) (Or.inr ⟨by kernel_rfl, rfl⟩) (by assumption) ?_
                      try simp only [Act.put, List.setIfInBounds_toArray, List.set_cons_zero, List.set_cons_succ]
                      first | (refine wpAnyH_take (i := 25) (oi := ⟨_, _, _, _, _, _⟩) (v := ?_) rfl (by kernel_rfl) (by kernel_rfl) (by kernel_rfl) (fun _ _ _ h => h) (Or.inl ⟨by rfl, ?_⟩) (by assumption) ?_; rotate_left 1; · (intro w hSw; (try dsimp only at hSw); go_simp; all_goals with_reducible rfl)) | refine wpAnyH_take (i := 25) (oi := ⟨_, _, _, _, _, _⟩) (v := undef) rfl (by kernel_rfl) (by kernel_rfl) (by kernel_rfl) (fun _ _ _ h => h) (Or.inr ⟨by kernel_rfl, rfl⟩) (by assumption) ?_
                      try simp only [Act.put, List.setIfInBounds_toArray, List.set_cons_zero, List.set_cons_succ]
                      (refine wpAnyH_take (i := 26) (oi := ⟨_, _, _, _, _, _⟩) (v := ?_) rfl (by kernel_rfl) (by kernel_rfl) (by kernel_rfl) (fun _ _ _ h => h) (Or.inl ⟨by rfl, ?_⟩) (by assumption) ?_; rotate_left 1; · (intro w hSw; (try dsimp only at hSw); go_simp; all_goals with_reducible rfl))
                      try simp only [Act.put, List.setIfInBounds_toArray, List.set_cons_zero, List.set_cons_succ]
                      refine wpAnyH_done (by kernel_rfl) ?_ _
                      go_wp2_with fail
                      go_roundw
                      case rel => exact ⟨j + 1, by omega, by go_num, Lib.hid (B7.out.trans (hHeld.2.2.out.mono B7.out.size))⟩
                      case measure => simp [intOf]; omega
                    | false =>
                      have hmx := HTL.out.2 rfl
                      go_wp2_with fail
                      refine wp_region_held_drew (S := fun W => W.cell? ⟨gb, 4, none⟩ = some (.int .i64 sx) ∧ W.cell? ⟨gl, j, none⟩ = some (.int .i64 tq) ∧ Hid (Below w7.heap.size w7 W)) (by kernel_rfl) ?_ (fun hHeld => ?_)
                      · exact ⟨b4, hy1, Lib.hid (below_drewN (n := 1) (Below.refl _ _))⟩
                      (refine wpAnyH_take (i := 0) (oi := ⟨_, _, _, _, _, _⟩) (v := ?_) rfl (by kernel_rfl) (by kernel_rfl) (by kernel_rfl) (fun _ _ _ h => h) (Or.inl ⟨by rfl, ?_⟩) (by assumption) ?_; rotate_left 1; · (intro w hSw; (try dsimp only at hSw); go_simp; all_goals with_reducible rfl))
                      try simp only [Act.put, List.setIfInBounds_toArray, List.set_cons_zero, List.set_cons_succ]
                      (refine wpAnyH_take (i := 1) (oi := ⟨_, _, _, _, _, _⟩) (v := ?_) rfl (by kernel_rfl) (by kernel_rfl) (by kernel_rfl) (fun _ _ _ h => h) (Or.inl ⟨by rfl, ?_⟩) (by assumption) ?_; rotate_left 1; · (intro w hSw; (try dsimp only at hSw); go_simp; all_goals with_reducible rfl))
                      try simp only [Act.put, List.setIfInBounds_toArray, List.set_cons_zero, List.set_cons_succ]
                      refine wpAnyH_take (i := 2) (oi := ⟨_, _, _, _, _, _⟩) (v := undef) rfl (by kernel_rfl) (by kernel_rfl) (by kernel_rfl) (fun _ _ _ h => h) (Or.inr ⟨by kernel_rfl, rfl⟩) (by assumption) ?_
                      try simp only [Act.put, List.setIfInBounds_toArray, List.set_cons_zero, List.set_cons_succ]
                      refine wpAnyH_take (i := 3) (oi := ⟨_, _, _, _, _, _⟩) (v := undef) rfl (by kernel_rfl) (by kernel_rfl) (by kernel_rfl) (fun _ _ _ h => h) (Or.inr ⟨by kernel_rfl, rfl⟩) (by assumption) ?_
                      try simp only [Act.put, List.setIfInBounds_toArray, List.set_cons_zero, List.set_cons_succ]
                      refine wpAnyH_take (i := 4) (oi := ⟨_, _, _, _, _, _⟩) (v := undef) rfl (by kernel_rfl) (by kernel_rfl) (by kernel_rfl) (fun _ _ _ h => h) (Or.inr ⟨by kernel_rfl, rfl⟩) (by assumption) ?_
                      try simp only [Act.put, List.setIfInBounds_toArray, List.set_cons_zero, List.set_cons_succ]
                      refine wpAnyH_take (i := 5) (oi := ⟨_, _, _, _, _, _⟩) (v := undef) rfl (by kernel_rfl) (by kernel_rfl) (by kernel_rfl) (fun _ _ _ h => h) (Or.inr ⟨by kernel_rfl, rfl⟩) (by assumption) ?_
                      try simp only [Act.put, List.setIfInBounds_toArray, List.set_cons_zero, List.set_cons_succ]
                      refine wpAnyH_take (i := 6) (oi := ⟨_, _, _, _, _, _⟩) (v := undef) rfl (by kernel_rfl) (by kernel_rfl) (by kernel_rfl) (fun _ _ _ h => h) (Or.inr ⟨by kernel_rfl, rfl⟩) (by assumption) ?_
                      try simp only [Act.put, List.setIfInBounds_toArray, List.set_cons_zero, List.set_cons_succ]
                      refine wpAnyH_take (i := 7) (oi := ⟨_, _, _, _, _, _⟩) (v := undef) rfl (by kernel_rfl) (by kernel_rfl) (by kernel_rfl) (fun _ _ _ h => h) (Or.inr ⟨by kernel_rfl, rfl⟩) (by assumption) ?_
                      try simp only [Act.put, List.setIfInBounds_toArray, List.set_cons_zero, List.set_cons_succ]
                      refine wpAnyH_take (i := 8) (oi := ⟨_, _, _, _, _, _⟩) (v := undef) rfl (by kernel_rfl) (by kernel_rfl) (by kernel_rfl) (fun _ _ _ h => h) (Or.inr ⟨by kernel_rfl, rfl⟩) (by assumption) ?_
                      try simp only [Act.put, List.setIfInBounds_toArray, List.set_cons_zero, List.set_cons_succ]
                      refine wpAnyH_take (i := 9) (oi := ⟨_, _, _, _, _, _⟩) (v := undef) rfl (by kernel_rfl) (by kernel_rfl) (by kernel_rfl) (fun _ _ _ h => h) (Or.inr ⟨by kernel_rfl, rfl⟩) (by assumption) ?_
                      try simp only [Act.put, List.setIfInBounds_toArray, List.set_cons_zero, List.set_cons_succ]
                      refine wpAnyH_take (i := 10) (oi := ⟨_, _, _, _, _, _⟩) (v := undef) rfl (by kernel_rfl) (by kernel_rfl) (by kernel_rfl) (fun _ _ _ h => h) (Or.inr ⟨by kernel_rfl, rfl⟩) (by assumption) ?_
                      try simp only [Act.put, List.setIfInBounds_toArray, List.set_cons_zero, List.set_cons_succ]
                      (refine wpAnyH_take (i := 11) (oi := ⟨_, _, _, _, _, _⟩) (v := ?_) rfl (by kernel_rfl) (by kernel_rfl) (by kernel_rfl) (fun _ _ _ h => h) (Or.inl ⟨by rfl, ?_⟩) (by assumption) ?_; rotate_left 1; · (intro w hSw; (try dsimp only at hSw); go_simp; all_goals with_reducible rfl))
                      try simp only [Act.put, List.setIfInBounds_toArray, List.set_cons_zero, List.set_cons_succ]
                      (refine wpAnyH_take (i := 12) (oi := ⟨_, _, _, _, _, _⟩) (v := ?_) rfl (by kernel_rfl) (by kernel_rfl) (by kernel_rfl) (fun _ _ _ h => h) (Or.inl ⟨by rfl, ?_⟩) (by assumption) ?_; rotate_left 1; · (intro w hSw; (try dsimp only at hSw); go_simp; all_goals with_reducible rfl))
                      try simp only [Act.put, List.setIfInBounds_toArray, List.set_cons_zero, List.set_cons_succ]
                      first | (refine wpAnyH_take (i := 13) (oi := ⟨_, _, _, _, _, _⟩) (v := ?_) rfl (by kernel_rfl) (by kernel_rfl) (by kernel_rfl) (fun _ _ _ h => h) (Or.inl ⟨by rfl, ?_⟩) (by assumption) ?_; rotate_left 1; · (intro w hSw; (try dsimp only at hSw); go_simp; all_goals with_reducible rfl)) | refine wpAnyH_take (i := 13) (oi := ⟨_, _, _, _, _, _⟩) (v := undef) rfl (by kernel_rfl) (by kernel_rfl) (by kernel_rfl) (fun _ _ _ h => h) (Or.inr ⟨by kernel_rfl, rfl⟩) (by assumption) ?_
                      try simp only [Act.put, List.setIfInBounds_toArray, List.set_cons_zero, List.set_cons_succ]
                      first | (refine wpAnyH_take (i := 14) (oi := ⟨_, _, _, _, _, _⟩) (v := ?_) rfl (by kernel_rfl) (by kernel_rfl) (by kernel_rfl) (fun _ _ _ h => h) (Or.inl ⟨by rfl, ?_⟩) (by assumption) ?_; rotate_left 1; · (intro w hSw; (try dsimp only at hSw); go_simp; all_goals with_reducible rfl)) | refine wpAnyH_take (i := 14) (oi := ⟨_, _, _, _, _, _⟩) (v := undef) rfl (by kernel_rfl) (by kernel_rfl) (by kernel_rfl) (fun _ _ _ h => h) (Or.inr ⟨by kernel_rfl, rfl⟩) (by assumption) ?_
                      try simp only [Act.put, List.setIfInBounds_toArray, List.set_cons_zero, List.set_cons_succ]
                      first | (refine wpAnyH_take (i := 15) (oi := ⟨_, _, _, _, _, _⟩) (v := ?_) rfl (by kernel_rfl) (by kernel_rfl) (by kernel_rfl) (fun _ _ _ h => h) (Or.inl ⟨by rfl, ?_⟩) (by assumption) ?_; rotate_left 1; · (intro w hSw; (try dsimp only at hSw); go_simp; all_goals with_reducible rfl)) | refine wpAnyH_take (i := 15) (oi := ⟨_, _, _, _, _, _⟩) (v := undef) rfl (by kernel_rfl) (by kernel_rfl) (by kernel_rfl) (fun _ _ _ h => h) (Or.inr ⟨by kernel_rfl, rfl⟩) (by assumption) ?_
                      try simp only [Act.put, List.setIfInBounds_toArray, List.set_cons_zero, List.set_cons_succ]
                      first | (refine wpAnyH_take (i := 16) (oi := ⟨_, _, _, _, _, _⟩) (v := ?_) rfl (by kernel_rfl) (by kernel_rfl) (by kernel_rfl) (fun _ _ _ h => h) (Or.inl ⟨by rfl, ?_⟩) (by assumption) ?_; rotate_left 1; · (intro w hSw; (try dsimp only at hSw); go_simp; all_goals with_reducible rfl)) | refine wpAnyH_take (i := 16) (oi := ⟨_, _, _, _, _, _⟩) (v := undef) rfl (by kernel_rfl) (by kernel_rfl) (by kernel_rfl) (fun _ _ _ h => h) (Or.inr ⟨by kernel_rfl, rfl⟩) (by assumption) ?_
                      try simp only [Act.put, List.setIfInBounds_toArray, List.set_cons_zero, List.set_cons_succ]
                      first | (refine wpAnyH_take (i := 17) (oi := ⟨_, _, _, _, _, _⟩) (v := ?_) rfl (by kernel_rfl) (by kernel_rfl) (by kernel_rfl) (fun _ _ _ h => h) (Or.inl ⟨by rfl, ?_⟩) (by assumption) ?_; rotate_left 1; · (intro w hSw; (try dsimp only at hSw); go_simp; all_goals with_reducible rfl)) | refine wpAnyH_take (i := 17) (oi := ⟨_, _, _, _, _, _⟩) (v := undef) rfl (by kernel_rfl) (by kernel_rfl) (by kernel_rfl) (fun _ _ _ h => h) (Or.inr ⟨by kernel_rfl, rfl⟩) (by assumption) ?_
                      try simp only [Act.put, List.setIfInBounds_toArray, List.set_cons_zero, List.set_cons_succ]
                      first | (refine wpAnyH_take (i := 18) (oi := ⟨_, _, _, _, _, _⟩) (v := ?_) rfl (by kernel_rfl) (by kernel_rfl) (by kernel_rfl) (fun _ _ _ h => h) (Or.inl ⟨by rfl, ?_⟩) (by assumption) ?_; rotate_left 1; · (intro w hSw; (try dsimp only at hSw); go_simp; all_goals with_reducible rfl)) | refine wpAnyH_take (i := 18) (oi := ⟨_, _, _, _, _, _⟩) (v := undef) rfl (by kernel_rfl) (by kernel_rfl) (by kernel_rfl) (fun _ _ _ h => h) (Or.inr ⟨by kernel_rfl, rfl⟩) (by assumption) ?_
                      try simp only [Act.put, List.setIfInBounds_toArray, List.set_cons_zero, List.set_cons_succ]
                      first | (refine wpAnyH_take (i := 19) (oi := ⟨_, _, _, _, _, _⟩) (v := ?_) rfl (by kernel_rfl) (by kernel_rfl) (by kernel_rfl) (fun _ _ _ h => h) (Or.inl ⟨by rfl, ?_⟩) (by assumption) ?_; rotate_left 1; · (intro w hSw; (try dsimp only at hSw); go_simp; all_goals with_reducible rfl)) | refine wpAnyH_take (i := 19) (oi := ⟨_, _, _, _, _, _⟩) (v := undef) rfl (by kernel_rfl) (by kernel_rfl) (by kernel_rfl) (fun _ _ _ h => h) (Or.inr ⟨by kernel_rfl, rfl⟩) (by assumption) ?_
                      try simp only [Act.put, List.setIfInBounds_toArray, List.set_cons_zero, List.set_cons_succ]
                      first | (refine wpAnyH_take (i := 20) (oi := ⟨_, _, _, _, _, _⟩) (v := ?_) rfl (by kernel_rfl) (by kernel_rfl) (by kernel_rfl) (fun _ _ _ h => h) (Or.inl ⟨by rfl, ?_⟩) (by assumption) ?_; rotate_left 1; · (intro w hSw; (try dsimp only at hSw); go_simp; all_goals with_reducible rfl)) | refine wpAnyH_take (i := 20) (oi := ⟨_, _, _, _, _, _⟩) (v := undef) rfl (by kernel_rfl) (by kernel_rfl) (by kernel_rfl) (fun _ _ _ h => h) (Or.inr ⟨by kernel_rfl, rfl⟩) (by assumption) ?_
                      try simp only [Act.put, List.setIfInBounds_toArray, List.set_cons_zero, List.set_cons_succ]
                      first | (refine wpAnyH_take (i := 21) (oi := ⟨_, _, _, _, _, _⟩) (v := ?_) rfl (by kernel_rfl) (by kernel_rfl) (by kernel_rfl) (fun _ _ _ h => h) (Or.inl ⟨by rfl, ?_⟩) (by assumption) ?_; rotate_left 1; · (intro w hSw; (try dsimp only at hSw); go_simp; all_goals with_reducible rfl)) | refine wpAnyH_take (i := 21) (oi := ⟨_, _, _, _, _, _⟩) (v := undef) rfl (by kernel_rfl) (by kernel_rfl) (by kernel_rfl) (fun _ _ _ h => h) (Or.inr ⟨by kernel_rfl, rfl⟩) (by assumption) ?_
                      try simp only [Act.put, List.setIfInBounds_toArray, List.set_cons_zero, List.set_cons_succ]
                      first | (refine wpAnyH_take (i := 22) (oi := ⟨_, _, _, _, _, _⟩) (v := ?_) rfl (by kernel_rfl) (by kernel_rfl) (by kernel_rfl) (fun _ _ _ h => h) (Or.inl ⟨by rfl, ?_⟩) (by assumption) ?_; rotate_left 1; · (intro w hSw; (try dsimp only at hSw); go_simp; all_goals with_reducible rfl)) | refine wpAnyH_take (i := 22) (oi := ⟨_, _, _, _, _, _⟩) (v := undef) rfl (by kernel_rfl) (by kernel_rfl) (by kernel_rfl) (fun _ _ _ h => h) (Or.inr ⟨by kernel_rfl, rfl⟩) (by assumption) ?_
                      try simp only [Act.put, List.setIfInBounds_toArray, List.set_cons_zero, List.set_cons_succ]
                      first | (refine wpAnyH_take (i := 23) (oi := ⟨_, _, _, _, _, _⟩) (v := ?_) rfl (by kernel_rfl) (by kernel_rfl) (by kernel_rfl) (fun _ _ _ h => h) (Or.inl ⟨by rfl, ?_⟩) (by assumption) ?_; rotate_left 1; · (intro w hSw; (try dsimp only at hSw); go_simp; all_goals with_reducible rfl)) | refine wpAnyH_take (i := 23) (oi := ⟨_, _, _, _, _, _⟩) (v := undef) rfl (by kernel_rfl) (by kernel_rfl) (by kernel_rfl) (fun _ _ _ h => h) (Or.inr ⟨by kernel_rfl, rfl⟩) (by assumption) ?_
                      try simp only [Act.put, List.setIfInBounds_toArray, List.set_cons_zero, List.set_cons_succ]
                      first | (refine wpAnyH_take (i := 24) (oi := ⟨_, _, _, _, _, _⟩) (v := ?_) rfl (by kernel_rfl) (by kernel_rfl) (by kernel_rfl) (fun _ _ _ h => h) (Or.inl ⟨by rfl, ?_⟩) (by assumption) ?_; rotate_left 1; · (intro w hSw; (try dsimp only at hSw); go_simp; all_goals with_reducible rfl)) | refine wpAnyH_take (i := 24) (oi := ⟨_, _, _, _, _, _⟩) (v := undef) rfl (by kernel_rfl) (by kernel_rfl) (by kernel_rfl) (fun _ _ _ h => h) (Or.inr ⟨by kernel_rfl, rfl⟩) (by assumption) ?_
                      try simp only [Act.put, List.setIfInBounds_toArray, List.set_cons_zero, List.set_cons_succ]
                      first | (refine wpAnyH_take (i := 25) (oi := ⟨_, _, _, _, _, _⟩) (v := ?_) rfl (by kernel_rfl) (by kernel_rfl) (by kernel_rfl) (fun _ _ _ h => h) (Or.inl ⟨by rfl, ?_⟩) (by assumption) ?_; rotate_left 1; · (intro w hSw; (try dsimp only at hSw); go_simp; all_goals with_reducible rfl)) | refine wpAnyH_take (i := 25) (oi := ⟨_, _, _, _, _, _⟩) (v := undef) rfl (by kernel_rfl) (by kernel_rfl) (by kernel_rfl) (fun _ _ _ h => h) (Or.inr ⟨by kernel_rfl, rfl⟩) (by assumption) ?_
                      try simp only [Act.put, List.setIfInBounds_toArray, List.set_cons_zero, List.set_cons_succ]
                      (refine wpAnyH_take (i := 26) (oi := ⟨_, _, _, _, _, _⟩) (v := ?_) rfl (by kernel_rfl) (by kernel_rfl) (by kernel_rfl) (fun _ _ _ h => h) (Or.inl ⟨by rfl, ?_⟩) (by assumption) ?_; rotate_left 1; · (intro w hSw; (try dsimp only at hSw); go_simp; all_goals with_reducible rfl))
                      try simp only [Act.put, List.setIfInBounds_toArray, List.set_cons_zero, List.set_cons_succ]
                      refine wpAnyH_done (by kernel_rfl) ?_ _
                      go_wp2_with fail
                      go_roundw
                      case rel => exact ⟨j + 1, by omega, by go_num, Lib.hid (B7.out.trans (hHeld.2.2.out.mono B7.out.size))⟩
                      case measure => simp [intOf]; omega
                  · obtain rfl : j = sl.length := by omega
                    have hd3 : decide ((sl.length : Int) < (sl.length : Int)) = false := by simp
                    have G9 := Lib.hid (G6.out.keep HB.out)
                    go_wp2_with fail
                    go_roundw
                    case rel => exact ⟨k + 1, sx, S6, m + sl.length, sl, D6, T6f, A5, c5, An, cn, by omega, rfl, rfl, by go_num, G9, T6, HXN, Lib.hid (by have := HM.out; omega), Lib.hid ⟨HR2.out.2, HR2.out.1⟩⟩
                    case measure => simp [intOf]; omega
        · obtain rfl : k = ts.length := by omega
          have hd1 : decide ((ts.length : Int) < (ts.length : Int)) = false := by simp
          have HMM : Hid (m ≤ 3000) := Lib.hid (by have := HM.out; omega)
          go_wp2_with fail
          (with_reducible refine (GG.out.sit.watched (by have := HMM.out; omega) HR.out.1).mono ?_)
          rintro en w5 ⟨A5, c5, rfl, h1, hb⟩
          have I5 := Lib.hid h1.ids
          have G5 := Lib.hid (GG.out.keep hb)
          clear h1 hb
          go_wp2_with fail
          (with_reducible refine (refSame_any _ _ K K _ I5.out (ids_of_owns G5.out.who) (by omega) (by omega)).mono ?_)
          rw [sameB_self]
          rintro en w6 ⟨rfl, hb⟩
          have G6 := Lib.hid (G5.out.keep hb)
          clear hb
          go_wp2_with fail
          go_ret
          exact ⟨rfl, G6.out.sit.below⟩
end Go.Proofs.Ytkoeplgkiogjlaa
