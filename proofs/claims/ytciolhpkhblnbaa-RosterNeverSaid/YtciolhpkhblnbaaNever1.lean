/-
  Walked: who is gone is no member; no floor is lower. No statement is proved in this text.
-/
import Derived.Test.YtciolhpkhblnbaaLaws
import Derived.Test.YtciolhpkhblnbaaFinds
import Derived.Test.YtciolhpkhblnbaaOpen
import Derived.Test.YtciolhpkhblnbaaRosG
namespace Go.Proofs.Ytciolhpkhblnbaa
open Go Go.RowKit Ros
theorem lsBlock_below {w w' : World} {g : Nat} {ps : List (Value × Value)} (h : LsBlock w g ps) (hb : Below w.heap.size w w') : LsBlock w' g ps := (hb.block _ (row_lt h)).trans h
/-- A block of two lists. -/
def TwoL (W : World) (g : Nat) (la lb : Ls) : Prop := ∃ A c B d A' c' B' d', LsBlock W g [(.slice A la.1.length c, .slice B la.2.length d), (.slice A' lb.1.length c', .slice B' lb.2.length d')] ∧ (Ms W (.slice A la.1.length c) la.1 ∧ Ids W (.slice B la.2.length d) la.2) ∧ Ms W (.slice A' lb.1.length c') lb.1 ∧ Ids W (.slice B' lb.2.length d') lb.2
theorem TwoL.below {w w' : World} {g : Nat} {la lb : Ls} (h : TwoL w g la lb) (hb : Below w.heap.size w w') : TwoL w' g la lb := by
  obtain ⟨A, c, B, d, A', c', B', d', h0, ⟨h1, h2⟩, h3, h4⟩ := h
  exact ⟨A, c, B, d, A', c', B', d', lsBlock_below h0 hb, ⟨h1.below hb, h2.below hb⟩, h3.below hb, h4.below hb⟩
theorem twoL_at {W : World} {g : Nat} {la lb : Ls} (h : TwoL W g la lb) {k : Nat} (hk : k < 2) :
    ∃ (l : Ls) (A : Option Addr) (c : Nat) (B : Option Addr) (d : Nat), (l = la ∨ l = lb) ∧ W.cell? ⟨g, k * 2, none⟩ = some (.slice A l.1.length c) ∧ W.cell? ⟨g, k * 2 + 1, none⟩ = some (.slice B l.2.length d) ∧ Ms W (.slice A l.1.length c) l.1 ∧ Ids W (.slice B l.2.length d) l.2 := by
  obtain ⟨A, c, B, d, A', c', B', d', h0, ⟨h1, h2⟩, h3, h4⟩ := h
  match k, hk with
  | 0, _ =>
    obtain ⟨x1, x2⟩ := lsBlock_cell h0 (k := 0) (by simp)
    exact ⟨la, A, c, B, d, .inl rfl, x1, x2, h1, h2⟩
  | 1, _ =>
    obtain ⟨x1, x2⟩ := lsBlock_cell h0 (k := 1) (by simp)
    exact ⟨lb, A', c', B', d', .inr rfl, x1, x2, h3, h4⟩
/-- What stands of the world. -/
structure NvG (w : World) (GA GB GI : Nat) (la lb : Ls) (p q : Int) (W : World) : Prop where
  ha : HoldsL W GA la
  hb : HoldsL W GB lb
  hi : Box W GI p q
  below : Below w.heap.size w W
theorem NvG.step {w : World} {GA GB GI : Nat} {la lb : Ls} {p q : Int} {W W' : World} (h : NvG w GA GB GI la lb p q W) (hb : Below W.heap.size W W') : NvG w GA GB GI la lb p q W' := ⟨h.ha.below hb, h.hb.below hb, box_below h.hi hb, below_after h.below hb (Nat.le_refl _)⟩
structure NwG (w : World) (GA GB GI GX GN : Nat) (la lb J : Ls) (p q n1 n2 n3 n4 : Int) (W : World) : Prop where
  base : NvG w GA GB GI la lb p q W
  hx : HoldsL W GX J
  hn : MBox W GN n1 n2 n3 n4
theorem NwG.step {w : World} {GA GB GI GX GN : Nat} {la lb J : Ls} {p q n1 n2 n3 n4 : Int} {W W' : World} (h : NwG w GA GB GI GX GN la lb J p q n1 n2 n3 n4 W) (hb : Below W.heap.size W W') : NwG w GA GB GI GX GN la lb J p q n1 n2 n3 n4 W' := ⟨h.base.step hb, h.hx.below hb, mbox_below h.hn hb⟩
structure NyG (w : World) (GA GB GI GX GN GL GC : Nat) (la lb J l : Ls) (p q n1 n2 n3 n4 : Int) (A : Option Addr) (c : Nat) (B : Option Addr) (d : Nat) (W : World) : Prop where
  base : NwG w GA GB GI GX GN la lb J p q n1 n2 n3 n4 W
  two : TwoL W GL la lb
  hc : LBox W GC (.slice A l.1.length c) (.slice B l.2.length d)
  hm : Ms W (.slice A l.1.length c) l.1
  hi : Ids W (.slice B l.2.length d) l.2
theorem NyG.step {w : World} {GA GB GI GX GN GL GC : Nat} {la lb J l : Ls} {p q n1 n2 n3 n4 : Int} {A : Option Addr} {c : Nat} {B : Option Addr} {d : Nat} {W W' : World} (h : NyG w GA GB GI GX GN GL GC la lb J l p q n1 n2 n3 n4 A c B d W) (hb : Below W.heap.size W W') : NyG w GA GB GI GX GN GL GC la lb J l p q n1 n2 n3 n4 A c B d W' := ⟨h.base.step hb, h.two.below hb, lbox_below h.hc hb, h.hm.below hb, h.hi.below hb⟩
set_option maxHeartbeats 16000000 in
set_option maxRecDepth 100000 in
theorem rosterNever_any (v0 : Value) (la : Ls) (v1 : Value) (lb : Ls) (p q : Int) (w : World) (h0 : LsAt w v0 la) (h1 : LsAt w v1 lb) :
    Calls Try.prog 6 #[v0, v1, .agg #[.int .i64 p, .int .i64 q]] w fun e w' => e = .returned (.bool true) ∧ Below w.heap.size w w' := by
  obtain ⟨A0, c0, B0, d0, rfl, m0, i0⟩ := h0
  obtain ⟨A1, c1, B1, d1, rfl, m1, i1⟩ := h1
  have q0 := below_one w (.cells #[.slice A0 la.1.length c0, .slice B0 la.2.length d0] 27)
  have q1 := below_one (w.alloc (.cells #[.slice A0 la.1.length c0, .slice B0 la.2.length d0] 27)) (.cells #[.slice A1 lb.1.length c1, .slice B1 lb.2.length d1] 27)
  have q2 := below_one ((w.alloc (.cells #[.slice A0 la.1.length c0, .slice B0 la.2.length d0] 27)).alloc (.cells #[.slice A1 lb.1.length c1, .slice B1 lb.2.length d1] 27)) (.cells #[.int .i64 p, .int .i64 q] 30)
  have HG0 : Hid (HoldsL (((w.alloc (.cells #[.slice A0 la.1.length c0, .slice B0 la.2.length d0] 27)).alloc (.cells #[.slice A1 lb.1.length c1, .slice B1 lb.2.length d1] 27)).alloc (.cells #[.int .i64 p, .int .i64 q] 30)) w.heap.size la ∧ HoldsL (((w.alloc (.cells #[.slice A0 la.1.length c0, .slice B0 la.2.length d0] 27)).alloc (.cells #[.slice A1 lb.1.length c1, .slice B1 lb.2.length d1] 27)).alloc (.cells #[.int .i64 p, .int .i64 q] 30)) (w.heap.size + 1) lb ∧ Box (((w.alloc (.cells #[.slice A0 la.1.length c0, .slice B0 la.2.length d0] 27)).alloc (.cells #[.slice A1 lb.1.length c1, .slice B1 lb.2.length d1] 27)).alloc (.cells #[.int .i64 p, .int .i64 q] 30)) (w.heap.size + 1 + 1) p q) := Lib.hid ⟨((holdsL_new m0 i0).below q1).below q2, by simpa using (holdsL_new (m1.below q0) (i1.below q0)).below q2, by simpa using box_new ((w.alloc (.cells #[.slice A0 la.1.length c0, .slice B0 la.2.length d0] 27)).alloc (.cells #[.slice A1 lb.1.length c1, .slice B1 lb.2.length d1] 27)) p q⟩
  have QB := Lib.hid (below_after (below_after q0 q1 (Nat.le_refl _)) q2 (Nat.le_refl _))
  clear q0 q1 q2 m0 i0 m1 i1
  go_enter Try.func6, Try.ntmps6
  go_wp2_with fail
  generalize ((w.alloc (.cells #[.slice A0 la.1.length c0, .slice B0 la.2.length d0] 27)).alloc (.cells #[.slice A1 lb.1.length c1, .slice B1 lb.2.length d1] 27)).alloc (.cells #[.int .i64 p, .int .i64 q] 30) = w1 at *
  obtain ⟨GA, hGA⟩ : ∃ g, g = w.heap.size := ⟨_, rfl⟩
  obtain ⟨GB, hGB⟩ : ∃ g, g = w.heap.size + 1 := ⟨_, rfl⟩
  obtain ⟨GI, hGI⟩ : ∃ g, g = w.heap.size + 1 + 1 := ⟨_, rfl⟩
  rw [← hGI, ← hGB, ← hGA] at HG0
  rw [← hGI, ← hGB, ← hGA]
  have G0 : Hid (NvG w GA GB GI la lb p q w1) := Lib.hid ⟨HG0.out.1, HG0.out.2.1, HG0.out.2.2, QB.out⟩
  clear hGA hGB hGI HG0 QB
  refine (works_any _).mono ?_
  rintro e w2 ⟨rfl, hb⟩
  have G2 := Lib.hid (G0.out.step hb)
  clear hb G0
  obtain ⟨A0, c0, B0, d0, x0, -, -⟩ := id G2.out.ha
  obtain ⟨A1, c1, B1, d1, x1, -, -⟩ := id G2.out.hb
  obtain ⟨p0, r0⟩ := lbox_cells x0
  obtain ⟨p1, r1⟩ := lbox_cells x1
  clear x0 x1
  have HLg := Lib.hid fun W => large_two W A0 c0 B0 d0 la A1 c1 B1 d1 lb
  go_wp2_with fail
  (with_reducible refine (HLg.out _).mono ?_)
  rintro e w3 ⟨rfl, hb⟩
  have G3 := Lib.hid (G2.out.step hb)
  clear hb p0 r0 p1 r1 HLg G2
  rcases hbig : bigL la || bigL lb with _ | _
  · rw [Bool.or_eq_false_iff] at hbig
    have HA := Lib.hid (lenOk_of hbig.1)
    have HB := Lib.hid (lenOk_of hbig.2)
    clear hbig
    obtain ⟨A0, c0, B0, d0, x0, m0, i0⟩ := id G3.out.ha
    obtain ⟨A1, c1, B1, d1, x1, m1, i1⟩ := id G3.out.hb
    obtain ⟨p0, r0⟩ := lbox_cells x0
    obtain ⟨p1, r1⟩ := lbox_cells x1
    have L0 := Lib.hid (lsAt_of m0 i0)
    have L1 := Lib.hid (lsAt_of m1 i1)
    clear x0 x1 m0 i0 m1 i1
    go_wp2_with fail
    (with_reducible refine (join_ok _ _ la lb _ L0.out L1.out HA.out HB.out).mono ?_)
    rintro e w4 ⟨V4, rfl, hV, hb⟩
    obtain ⟨A4, c4, B4, d4, rfl, m4, i4⟩ := hV
    have q4 := below_one w4 (.cells #[.slice A4 (joinL la lb).1.length c4, .slice B4 (joinL la lb).2.length d4] 27)
    have HW4 := Lib.hid (holdsL_new (w := w4) m4 i4)
    have G4 := Lib.hid ((G3.out.step hb).step q4)
    obtain ⟨k1, k2⟩ := lbox_cells (lbox_new w4 (.slice none 0 0) (.slice none 0 0))
    obtain ⟨f1, f2⟩ := lbox_free (lbox_new w4 (.slice none 0 0) (.slice none 0 0))
    clear hb p0 r0 p1 r1 L0 L1 m4 i4 q4 G3
    go_upto_region 4 with fail
    clear k1 k2 f1 f2
    obtain ⟨GX, hGX⟩ : ∃ g, g = w4.heap.size := ⟨_, rfl⟩
    rw [← hGX] at HW4
    rw [← hGX]
    generalize w4.alloc (.cells #[.slice A4 (joinL la lb).1.length c4, .slice B4 (joinL la lb).2.length d4] 27) = w5 at *
    clear hGX
    have HLJ : Hid ((joinL la lb).1.length ≤ 100000 ∧ (joinL la lb).2.length ≤ 100000) := Lib.hid (lenJ _ _).wide
    have HFl := Lib.hid fun g (h : g ∈ la.2 ∨ g ∈ lb.2) hv => never_floor h hv
    have HMm := Lib.hid fun x (h : x ∈ la.1 ∨ x ∈ lb.1) hv => never_member h hv
    have HGn := Lib.hid fun y => never_got la lb y
    generalize (joinL la lb) = J at *
    obtain ⟨JM, JF⟩ := J
    obtain ⟨o, ho⟩ : ∃ o, Hid (getO JM (p, q) = o) := ⟨_, Lib.hid rfl⟩
    obtain ⟨⟨⟨n1, n2⟩, n3, n4⟩, hr⟩ : ∃ r, Hid (o.getD noneM = r) := ⟨_, Lib.hid rfl⟩
    obtain ⟨z, hz⟩ : ∃ z, Hid (o.isSome = z) := ⟨_, Lib.hid rfl⟩
    have HGt : Hid (∀ W v, Ms W v JM → Calls Try.prog 17 #[v, .agg #[.int .i64 p, .int .i64 q]] W fun e w' => e = .returned (.tuple #[.agg #[.int .i64 n1, .int .i64 n2, .int .u8 n3, .int .i64 n4], .bool z]) ∧ Below W.heap.size W w') := Lib.hid fun W v h => by
      have := get_any v JM p q W h HLJ.out.1
      rw [ho.out] at this
      rwa [show gotV o = .tuple #[.agg #[.int .i64 n1, .int .i64 n2, .int .u8 n3, .int .i64 n4], .bool z] by unfold gotV; rw [hr.out, hz.out]; rfl] at this
    have HGo : Hid (∀ W v, Ids W v JF → Calls Try.prog 19 #[v, .agg #[.int .i64 p, .int .i64 q]] W fun e w' => e = .returned (.bool (goneB JF (p, q))) ∧ Below W.heap.size W w') := Lib.hid fun W v h => gone_of v JF p q W h HLJ.out.2
    have HZ : Hid (z = true → goneB JF (p, q) = false) := Lib.hid fun h => by
      have hz := hz.out
      rw [h] at hz
      obtain ⟨y, hy⟩ := Option.isSome_iff_exists.1 hz
      exact HGn.out (p, q) y (ho.out.trans hy)
    have HMb : Hid (∀ x : Mm, (x ∈ la.1 ∨ x ∈ lb.1) → x.1.1 = p → x.1.2 = q → vid p q = true → 1 ≤ x.2.1 → x.2.1 ≤ 7 → (z = false ∧ goneB JF (p, q) = true) ∨ (z = true ∧ x.2.1 ≤ n3 ∧ (0 < x.2.2 → 0 < n4 ∧ n4 ≤ x.2.2))) := Lib.hid fun x hx e1 e2 hv h1 h2 => by
      have hc : cnt x = true := cnt_iff.2 ⟨by rw [e1, e2]; exact vid_iff.1 hv, h1, h2⟩
      have e : x.1 = (p, q) := Prod.ext e1 e2
      have hz := hz.out
      have hr := hr.out
      rcases HMm.out x hx hc with ⟨y1, y2⟩ | ⟨y, y1, y2, y3⟩
      · rw [e] at y1 y2
        left
        refine ⟨?_, y2⟩
        rw [← hz, ← ho.out, y1]
        rfl
      · rw [e] at y1
        right
        have ho := ho.out.symm.trans y1
        rw [ho] at hz hr
        have hr : y = ((n1, n2), n3, n4) := hr
        subst hr
        exact ⟨hz.symm, y2, y3⟩
    clear ho hr hz HMm HGn
    obtain ⟨A6, c6, B6, d6, x6, m6, i6⟩ := id HW4.out
    obtain ⟨u1, u2⟩ := lbox_cells x6
    have M6 := Lib.hid m6
    clear x6 m6 i6
    obtain ⟨b1, b2⟩ := box_cells G4.out.hi
    go_wp2_with fail
    (with_reducible refine (HGt.out _ _ M6.out).mono ?_)
    rintro e w6 ⟨rfl, hb⟩
    have qb := below_one w6 (.cells #[.int .i64 n1, .int .i64 n2, .int .u8 n3, .int .i64 n4] 32)
    obtain ⟨GN, hGN⟩ : ∃ g, g = w6.heap.size := ⟨_, rfl⟩
    have G7 : Hid (NwG w GA GB GI GX GN la lb (JM, JF) p q n1 n2 n3 n4 (w6.alloc (.cells #[.int .i64 n1, .int .i64 n2, .int .u8 n3, .int .i64 n4] 32))) := Lib.hid ⟨(G4.out.step hb).step qb, (HW4.out.below hb).below qb, hGN ▸ mbox_new w6 n1 n2 n3 n4⟩
    obtain ⟨k1, k2, k3, k4⟩ := mbox_cells (mbox_new w6 0 0 0 0)
    obtain ⟨l1, l2, l3, l4⟩ := mbox_free (mbox_new w6 0 0 0 0)
    clear hb qb u1 u2 b1 b2 M6 HW4 G4 HGt
    go_upto_region 5 with fail
    clear k1 k2 k3 k4 l1 l2 l3 l4
    rw [← hGN]
    generalize w6.alloc (.cells #[.int .i64 n1, .int .i64 n2, .int .u8 n3, .int .i64 n4] 32) = w7 at *
    clear hGN
    go_cut [40] (fun s40 wx => s40 = .bool false ∧ Hid (NwG w GA GB GI GX GN la lb (JM, JF) p q n1 n2 n3 n4 wx))
    case first =>
      cases z
      · go_wp2_with fail
        go_meet
        exact ⟨rfl, G7⟩
      · have hg := HZ.out rfl
        obtain ⟨A6, c6, B6, d6, x6, m6, i6⟩ := id G7.out.hx
        obtain ⟨u1, u2⟩ := lbox_cells x6
        have I6 := Lib.hid i6
        clear x6 m6 i6
        obtain ⟨b1, b2⟩ := box_cells G7.out.base.hi
        go_wp2_with fail
        (with_reducible refine (HGo.out _ _ I6.out).mono ?_)
        rintro e w8 ⟨rfl, hb⟩
        have G8 := Lib.hid (G7.out.step hb)
        rw [hg]
        clear hb u1 u2 b1 b2
        go_wp2_with fail
        go_meet
        exact ⟨rfl, G8⟩
    case rest =>
      obtain ⟨rfl, G8⟩ := hcut
      clear G7 HZ
      obtain ⟨A0, c0, B0, d0, x0, m0, i0⟩ := id G8.out.base.ha
      obtain ⟨A1, c1, B1, d1, x1, m1, i1⟩ := id G8.out.base.hb
      obtain ⟨p0, r0⟩ := lbox_cells x0
      obtain ⟨p1, r1⟩ := lbox_cells x1
      have qb := below_one wc (.cells #[.slice A0 la.1.length c0, .slice B0 la.2.length d0, .slice A1 lb.1.length c1, .slice B1 lb.2.length d1] 27)
      obtain ⟨GL, hGL⟩ : ∃ g, g = wc.heap.size := ⟨_, rfl⟩
      have G9 := Lib.hid (G8.out.step qb)
      have T9 : Hid (TwoL (wc.alloc (.cells #[.slice A0 la.1.length c0, .slice B0 la.2.length d0, .slice A1 lb.1.length c1, .slice B1 lb.2.length d1] 27)) GL la lb) := Lib.hid ⟨A0, c0, B0, d0, A1, c1, B1, d1, hGL ▸ heap_alloc_new wc _, ⟨m0.below qb, i0.below qb⟩, m1.below qb, i1.below qb⟩
      clear x0 x1 m0 i0 m1 i1 qb G8
      go_wp2_with fail
      clear p0 r0 p1 r1
      rw [← hGL]
      generalize wc.alloc (.cells #[.slice A0 la.1.length c0, .slice B0 la.2.length d0, .slice A1 lb.1.length c1, .slice B1 lb.2.length d1] 27) = w9 at *
      clear hGL
      go_loopw [45] (fun s45 wr => ∃ k : Nat, k ≤ 2 ∧ s45 = .int .i64 k ∧ Hid (NwG w GA GB GI GX GN la lb (JM, JF) p q n1 n2 n3 n4 wr) ∧ Hid (TwoL wr GL la lb)) (fun s45 _ => 2 - (intOf s45).toNat)
      case atStart => exact ⟨0, by omega, rfl, G9, T9⟩
      case round =>
        obtain ⟨k, hk2, rfl, GR, TR⟩ := hrel
        clear G9 T9
        have i3 : (0 : Int) ≤ (k : Int) := by omega
        by_cases hlt : k < 2
        · have hd : decide ((k : Int) < 2) = true := by simp; omega
          have i4 : (k : Int) < 2 := by omega
          obtain ⟨l, A, c, B, d, hl, y1, y2, ml, il⟩ := twoL_at TR.out hlt
          have hl1 : l.1.length ≤ 100000 := by
            have h1 := HA.out.1
            have h2 := HB.out.1
            rcases hl with e | e <;> rw [e] <;> omega
          have hl2 : l.2.length ≤ 100000 := by
            have h1 := HA.out.2
            have h2 := HB.out.2
            rcases hl with e | e <;> rw [e] <;> omega
          have HFm : Hid (∀ g ∈ l.2, vidP g = true → g.2 ≤ floorZ JF g.1) := Lib.hid fun g hg hv => HFl.out g (hl.elim (fun e => Or.inl (e ▸ hg)) (fun e => Or.inr (e ▸ hg))) hv
          have HMl : Hid (∀ x ∈ l.1, x.1.1 = p → x.1.2 = q → vid p q = true → 1 ≤ x.2.1 → x.2.1 ≤ 7 → (z = false ∧ goneB JF (p, q) = true) ∨ (z = true ∧ x.2.1 ≤ n3 ∧ (0 < x.2.2 → 0 < n4 ∧ n4 ≤ x.2.2))) := Lib.hid fun x hx => HMb.out x (hl.elim (fun e => Or.inl (e ▸ hx)) (fun e => Or.inr (e ▸ hx)))
          have qb := below_one wr (.cells #[.slice A l.1.length c, .slice B l.2.length d] 27)
          obtain ⟨GC, hGC⟩ : ∃ g, g = wr.heap.size := ⟨_, rfl⟩
          have G9 : Hid (NyG w GA GB GI GX GN GL GC la lb (JM, JF) l p q n1 n2 n3 n4 A c B d (wr.alloc (.cells #[.slice A l.1.length c, .slice B l.2.length d] 27))) := Lib.hid ⟨GR.out.step qb, TR.out.below qb, hGC ▸ lbox_new wr _ _, ml.below qb, il.below qb⟩
          obtain ⟨k1, k2⟩ := lbox_cells (lbox_new wr (.slice none 0 0) (.slice none 0 0))
          obtain ⟨f1, f2⟩ := lbox_free (lbox_new wr (.slice none 0 0) (.slice none 0 0))
          clear hl ml il qb GR TR
          go_wp2_with fail
          clear k1 k2 f1 f2 y1 y2
          rw [← hGC]
          generalize wr.alloc (.cells #[.slice A l.1.length c, .slice B l.2.length d] 27) = w10 at *
          clear hGC
          go_loopw [12] (fun s12 wr => ∃ j : Nat, j ≤ l.2.length ∧ s12 = .int .i64 j ∧ Hid (NyG w GA GB GI GX GN GL GC la lb (JM, JF) l p q n1 n2 n3 n4 A c B d wr)) (fun s12 _ => l.2.length - (intOf s12).toNat)
          case atStart => exact ⟨0, by omega, rfl, G9⟩
          case round =>
            obtain ⟨j, hjl, rfl, HY⟩ := hrel
            clear G9
            have j3 : (0 : Int) ≤ (j : Int) := by omega
            obtain ⟨p0, r0⟩ := lbox_cells HY.out.hc
            by_cases hjt : j < l.2.length
            · have hd2 : decide ((j : Int) < (l.2.length : Int)) = true := by simp; omega
              have j4 : (j : Int) < (l.2.length : Int) := by omega
              obtain ⟨AX, cX, BX, dX, xx, mx, ix⟩ := id HY.out.base.hx
              have XX := Lib.hid xx
              have IX := Lib.hid ix
              clear xx mx ix
              obtain ⟨ad, rfl, y1, y2⟩ := Ids.at_ HY.out.hi (Below.refl _ _) hjt
              have hfm := HFm.out _ (List.getElem_mem hjt)
              have HC := Lib.hid fun W (hb : Below wr.heap.size wr W) => And.intro (cell1 HY.out.hi hb hjt) (cell2 HY.out.hi hb hjt)
              have hpair : vidP l.2[j] = vid l.2[j].1 l.2[j].2 := rfl
              rw [hpair] at hfm
              clear hpair
              generalize l.2[j].1 = g1 at *
              generalize l.2[j].2 = g2 at *
              have HS := Lib.hid fun W (hb : Below wr.heap.size wr W) => And.intro (lbox_cells (lbox_below HY.out.hc hb)).2 (And.intro (lbox_cells (lbox_below XX.out hb)).2 (And.intro (HC.out W hb) (Lib.hid hb)))
              have HRel := Lib.hid fun W (hb : Below wr.heap.size wr W) => Lib.hid (HY.out.step hb)
              clear HC
              cases hv : vid g1 g2
              · have HMy : Hid (∀ W, Calls Try.prog 24 #[.agg #[.int .i64 g1, .int .i64 g2]] W fun e w' => e = .returned (.bool false) ∧ Below W.heap.size W w') := Lib.hid fun W => by
                  have := refMay_any g1 g2 W
                  rwa [hv] at this
                clear hfm hv
                go_wp2_with fail
                refine wp_region_held_drew (S := fun w' => w'.cell? ⟨GC, 1, none⟩ = some (.slice (some ad) l.2.length d) ∧ w'.cell? ⟨GX, 1, none⟩ = some (.slice BX JF.length dX) ∧ (w'.cell? (ad.add (j * 2)) = some (.int .i64 g1) ∧ w'.cell? ⟨(ad.add (j * 2)).block, (ad.add (j * 2)).off + 1, none⟩ = some (.int .i64 g2)) ∧ Hid (Below wr.heap.size wr w')) (by kernel_rfl) ?_ (fun hHeld => ?_)
                · exact HS.out _ (below_drewN (n := 1) (Below.refl _ _))
                (refine wpAnyH_take (i := 0) (oi := ⟨_, _, _, _, _, _⟩) (v := ?_) rfl (by kernel_rfl) (by kernel_rfl) (by kernel_rfl) (fun _ _ _ h => h) (Or.inl ⟨by rfl, ?_⟩) (by assumption) ?_; rotate_left 1; · (intro w hSw; (try dsimp only at hSw); go_simp; all_goals with_reducible rfl))
                try simp only [Act.put, List.setIfInBounds_toArray, List.set_cons_zero, List.set_cons_succ]
                (refine wpAnyH_take (i := 1) (oi := ⟨_, _, _, _, _, _⟩) (v := ?_) rfl (by kernel_rfl) (by kernel_rfl) (by kernel_rfl) (fun _ _ _ h => h) (Or.inl ⟨by rfl, ?_⟩) (by assumption) ?_; rotate_left 1; · (intro w hSw; (try dsimp only at hSw); go_simp; all_goals with_reducible rfl))
                try simp only [Act.put, List.setIfInBounds_toArray, List.set_cons_zero, List.set_cons_succ]
                (refine wpAnyH_take (i := 2) (oi := ⟨_, _, _, _, _, _⟩) (v := ?_) rfl (by kernel_rfl) (by kernel_rfl) (by kernel_rfl) (fun _ _ _ h => h) (Or.inl ⟨by rfl, ?_⟩) (by assumption) ?_; rotate_left 1; · (intro w hSw; (try dsimp only at hSw); go_simp; all_goals with_reducible rfl))
                try simp only [Act.put, List.setIfInBounds_toArray, List.set_cons_zero, List.set_cons_succ]
                (refine wpAnyH_take (i := 3) (oi := ⟨_, _, _, _, _, _⟩) (v := ?_) rfl (by kernel_rfl) (by kernel_rfl) (by kernel_rfl) (fun _ _ _ h => h) (Or.inl ⟨by rfl, ?_⟩) (by assumption) ?_; rotate_left 1; · (intro w hSw; (try dsimp only at hSw); go_simp; all_goals with_reducible rfl))
                try simp only [Act.put, List.setIfInBounds_toArray, List.set_cons_zero, List.set_cons_succ]
                (refine wpAnyH_take (i := 4) (oi := ⟨_, _, _, _, _, _⟩) (v := ?_) rfl (by kernel_rfl) (by kernel_rfl) (by kernel_rfl) (fun _ _ _ h => h) (Or.inl ⟨by rfl, ?_⟩) (by assumption) ?_; rotate_left 1; · (intro w hSw; (try dsimp only at hSw); go_simp; all_goals with_reducible rfl))
                try simp only [Act.put, List.setIfInBounds_toArray, List.set_cons_zero, List.set_cons_succ]
                refine wpAnyH_ready (rs := [5]) (by kernel_rfl) (by simp) ?_
                refine AllReadyH.cons (o := ⟨_, _, _, _, _, _⟩) rfl (fun Kq hKq => ?_) AllReadyH.nil
                go_simp
                clear hHeld
                (go_at_call 24; (with_reducible refine (HMy.out _).mono ?_); rintro e w' ⟨rfl, hb⟩; have HK := Lib.hid (show Below wr.heap.size wr w' from (below_drewN (n := 1) (Below.refl _ _)).trans hb); clear hb)
                refine hKq.out _ _ ?_ (fun hHeld => ?_)
                · (try dsimp only); exact HS.out _ HK.out
                clear hKq Kq
                try simp only [Act.put, List.setIfInBounds_toArray, List.set_cons_zero, List.set_cons_succ]
                (refine wpAnyH_take (i := 6) (oi := ⟨_, _, _, _, _, _⟩) (v := ?_) rfl (by kernel_rfl) (by kernel_rfl) (by kernel_rfl) (fun _ _ _ h => h) (Or.inl ⟨by rfl, ?_⟩) (by assumption) ?_; rotate_left 1; · (intro w hSw; (try dsimp only at hSw); go_simp; all_goals with_reducible rfl))
                try simp only [Act.put, List.setIfInBounds_toArray, List.set_cons_zero, List.set_cons_succ]
                refine wpAnyH_take (i := 7) (oi := ⟨_, _, _, _, _, _⟩) (v := undef) rfl (by kernel_rfl) (by kernel_rfl) (by kernel_rfl) (fun _ _ _ h => h) (Or.inr ⟨by kernel_rfl, rfl⟩) (by assumption) ?_
                try simp only [Act.put, List.setIfInBounds_toArray, List.set_cons_zero, List.set_cons_succ]
                refine wpAnyH_take (i := 8) (oi := ⟨_, _, _, _, _, _⟩) (v := undef) rfl (by kernel_rfl) (by kernel_rfl) (by kernel_rfl) (fun _ _ _ h => h) (Or.inr ⟨by kernel_rfl, rfl⟩) (by assumption) ?_
                try simp only [Act.put, List.setIfInBounds_toArray, List.set_cons_zero, List.set_cons_succ]
                refine wpAnyH_take (i := 9) (oi := ⟨_, _, _, _, _, _⟩) (v := undef) rfl (by kernel_rfl) (by kernel_rfl) (by kernel_rfl) (fun _ _ _ h => h) (Or.inr ⟨by kernel_rfl, rfl⟩) (by assumption) ?_
                try simp only [Act.put, List.setIfInBounds_toArray, List.set_cons_zero, List.set_cons_succ]
                refine wpAnyH_take (i := 10) (oi := ⟨_, _, _, _, _, _⟩) (v := undef) rfl (by kernel_rfl) (by kernel_rfl) (by kernel_rfl) (fun _ _ _ h => h) (Or.inr ⟨by kernel_rfl, rfl⟩) (by assumption) ?_
                try simp only [Act.put, List.setIfInBounds_toArray, List.set_cons_zero, List.set_cons_succ]
                refine wpAnyH_take (i := 11) (oi := ⟨_, _, _, _, _, _⟩) (v := undef) rfl (by kernel_rfl) (by kernel_rfl) (by kernel_rfl) (fun _ _ _ h => h) (Or.inr ⟨by kernel_rfl, rfl⟩) (by assumption) ?_
                try simp only [Act.put, List.setIfInBounds_toArray, List.set_cons_zero, List.set_cons_succ]
                refine wpAnyH_take (i := 12) (oi := ⟨_, _, _, _, _, _⟩) (v := undef) rfl (by kernel_rfl) (by kernel_rfl) (by kernel_rfl) (fun _ _ _ h => h) (Or.inr ⟨by kernel_rfl, rfl⟩) (by assumption) ?_
                try simp only [Act.put, List.setIfInBounds_toArray, List.set_cons_zero, List.set_cons_succ]
                refine wpAnyH_take (i := 13) (oi := ⟨_, _, _, _, _, _⟩) (v := undef) rfl (by kernel_rfl) (by kernel_rfl) (by kernel_rfl) (fun _ _ _ h => h) (Or.inr ⟨by kernel_rfl, rfl⟩) (by assumption) ?_
                try simp only [Act.put, List.setIfInBounds_toArray, List.set_cons_zero, List.set_cons_succ]
                refine wpAnyH_take (i := 14) (oi := ⟨_, _, _, _, _, _⟩) (v := undef) rfl (by kernel_rfl) (by kernel_rfl) (by kernel_rfl) (fun _ _ _ h => h) (Or.inr ⟨by kernel_rfl, rfl⟩) (by assumption) ?_
                try simp only [Act.put, List.setIfInBounds_toArray, List.set_cons_zero, List.set_cons_succ]
                refine wpAnyH_take (i := 15) (oi := ⟨_, _, _, _, _, _⟩) (v := undef) rfl (by kernel_rfl) (by kernel_rfl) (by kernel_rfl) (fun _ _ _ h => h) (Or.inr ⟨by kernel_rfl, rfl⟩) (by assumption) ?_
                try simp only [Act.put, List.setIfInBounds_toArray, List.set_cons_zero, List.set_cons_succ]
                refine wpAnyH_take (i := 16) (oi := ⟨_, _, _, _, _, _⟩) (v := undef) rfl (by kernel_rfl) (by kernel_rfl) (by kernel_rfl) (fun _ _ _ h => h) (Or.inr ⟨by kernel_rfl, rfl⟩) (by assumption) ?_
                try simp only [Act.put, List.setIfInBounds_toArray, List.set_cons_zero, List.set_cons_succ]
                refine wpAnyH_take (i := 17) (oi := ⟨_, _, _, _, _, _⟩) (v := undef) rfl (by kernel_rfl) (by kernel_rfl) (by kernel_rfl) (fun _ _ _ h => h) (Or.inr ⟨by kernel_rfl, rfl⟩) (by assumption) ?_
                try simp only [Act.put, List.setIfInBounds_toArray, List.set_cons_zero, List.set_cons_succ]
                refine wpAnyH_take (i := 18) (oi := ⟨_, _, _, _, _, _⟩) (v := undef) rfl (by kernel_rfl) (by kernel_rfl) (by kernel_rfl) (fun _ _ _ h => h) (Or.inr ⟨by kernel_rfl, rfl⟩) (by assumption) ?_
                try simp only [Act.put, List.setIfInBounds_toArray, List.set_cons_zero, List.set_cons_succ]
                refine wpAnyH_take (i := 19) (oi := ⟨_, _, _, _, _, _⟩) (v := undef) rfl (by kernel_rfl) (by kernel_rfl) (by kernel_rfl) (fun _ _ _ h => h) (Or.inr ⟨by kernel_rfl, rfl⟩) (by assumption) ?_
                try simp only [Act.put, List.setIfInBounds_toArray, List.set_cons_zero, List.set_cons_succ]
                refine wpAnyH_take (i := 20) (oi := ⟨_, _, _, _, _, _⟩) (v := undef) rfl (by kernel_rfl) (by kernel_rfl) (by kernel_rfl) (fun _ _ _ h => h) (Or.inr ⟨by kernel_rfl, rfl⟩) (by assumption) ?_
                try simp only [Act.put, List.setIfInBounds_toArray, List.set_cons_zero, List.set_cons_succ]
                refine wpAnyH_take (i := 21) (oi := ⟨_, _, _, _, _, _⟩) (v := undef) rfl (by kernel_rfl) (by kernel_rfl) (by kernel_rfl) (fun _ _ _ h => h) (Or.inr ⟨by kernel_rfl, rfl⟩) (by assumption) ?_
                try simp only [Act.put, List.setIfInBounds_toArray, List.set_cons_zero, List.set_cons_succ]
                refine wpAnyH_take (i := 22) (oi := ⟨_, _, _, _, _, _⟩) (v := undef) rfl (by kernel_rfl) (by kernel_rfl) (by kernel_rfl) (fun _ _ _ h => h) (Or.inr ⟨by kernel_rfl, rfl⟩) (by assumption) ?_
                try simp only [Act.put, List.setIfInBounds_toArray, List.set_cons_zero, List.set_cons_succ]
                (refine wpAnyH_take (i := 23) (oi := ⟨_, _, _, _, _, _⟩) (v := ?_) rfl (by kernel_rfl) (by kernel_rfl) (by kernel_rfl) (fun _ _ _ h => h) (Or.inl ⟨by rfl, ?_⟩) (by assumption) ?_; rotate_left 1; · (intro w hSw; (try dsimp only at hSw); go_simp; all_goals with_reducible rfl))
                try simp only [Act.put, List.setIfInBounds_toArray, List.set_cons_zero, List.set_cons_succ]
                refine wpAnyH_done (by kernel_rfl) ?_ _
                go_wp2_with fail
                go_roundw
                case rel => exact ⟨j + 1, by omega, by go_num, (HRel.out _ HK.out)⟩
                case measure => simp [intOf]; omega
              · have HMy : Hid (∀ W, Calls Try.prog 24 #[.agg #[.int .i64 g1, .int .i64 g2]] W fun e w' => e = .returned (.bool true) ∧ Below W.heap.size W w') := Lib.hid fun W => by
                  have := refMay_any g1 g2 W
                  rwa [hv] at this
                have hfl := hfm hv
                have HFx := Lib.hid fun W (hb : Below wr.heap.size wr W) => floor_any _ JF g1 W (IX.out.below hb) HLJ.out.2
                generalize floorZ JF g1 = fl at *
                have d1 : decide (fl < g2) = false := decide_eq_false (by omega)
                clear hfm hv hfl
                go_wp2_with fail
                refine wp_region_held_drew (S := fun w' => w'.cell? ⟨GC, 1, none⟩ = some (.slice (some ad) l.2.length d) ∧ w'.cell? ⟨GX, 1, none⟩ = some (.slice BX JF.length dX) ∧ (w'.cell? (ad.add (j * 2)) = some (.int .i64 g1) ∧ w'.cell? ⟨(ad.add (j * 2)).block, (ad.add (j * 2)).off + 1, none⟩ = some (.int .i64 g2)) ∧ Hid (Below wr.heap.size wr w')) (by kernel_rfl) ?_ (fun hHeld => ?_)
                · exact HS.out _ (below_drewN (n := 1) (Below.refl _ _))
                (refine wpAnyH_take (i := 0) (oi := ⟨_, _, _, _, _, _⟩) (v := ?_) rfl (by kernel_rfl) (by kernel_rfl) (by kernel_rfl) (fun _ _ _ h => h) (Or.inl ⟨by rfl, ?_⟩) (by assumption) ?_; rotate_left 1; · (intro w hSw; (try dsimp only at hSw); go_simp; all_goals with_reducible rfl))
                try simp only [Act.put, List.setIfInBounds_toArray, List.set_cons_zero, List.set_cons_succ]
                (refine wpAnyH_take (i := 1) (oi := ⟨_, _, _, _, _, _⟩) (v := ?_) rfl (by kernel_rfl) (by kernel_rfl) (by kernel_rfl) (fun _ _ _ h => h) (Or.inl ⟨by rfl, ?_⟩) (by assumption) ?_; rotate_left 1; · (intro w hSw; (try dsimp only at hSw); go_simp; all_goals with_reducible rfl))
                try simp only [Act.put, List.setIfInBounds_toArray, List.set_cons_zero, List.set_cons_succ]
                (refine wpAnyH_take (i := 2) (oi := ⟨_, _, _, _, _, _⟩) (v := ?_) rfl (by kernel_rfl) (by kernel_rfl) (by kernel_rfl) (fun _ _ _ h => h) (Or.inl ⟨by rfl, ?_⟩) (by assumption) ?_; rotate_left 1; · (intro w hSw; (try dsimp only at hSw); go_simp; all_goals with_reducible rfl))
                try simp only [Act.put, List.setIfInBounds_toArray, List.set_cons_zero, List.set_cons_succ]
                (refine wpAnyH_take (i := 3) (oi := ⟨_, _, _, _, _, _⟩) (v := ?_) rfl (by kernel_rfl) (by kernel_rfl) (by kernel_rfl) (fun _ _ _ h => h) (Or.inl ⟨by rfl, ?_⟩) (by assumption) ?_; rotate_left 1; · (intro w hSw; (try dsimp only at hSw); go_simp; all_goals with_reducible rfl))
                try simp only [Act.put, List.setIfInBounds_toArray, List.set_cons_zero, List.set_cons_succ]
                (refine wpAnyH_take (i := 4) (oi := ⟨_, _, _, _, _, _⟩) (v := ?_) rfl (by kernel_rfl) (by kernel_rfl) (by kernel_rfl) (fun _ _ _ h => h) (Or.inl ⟨by rfl, ?_⟩) (by assumption) ?_; rotate_left 1; · (intro w hSw; (try dsimp only at hSw); go_simp; all_goals with_reducible rfl))
                try simp only [Act.put, List.setIfInBounds_toArray, List.set_cons_zero, List.set_cons_succ]
                refine wpAnyH_ready (rs := [5]) (by kernel_rfl) (by simp) ?_
                refine AllReadyH.cons (o := ⟨_, _, _, _, _, _⟩) rfl (fun Kq hKq => ?_) AllReadyH.nil
                go_simp
                clear hHeld
                (go_at_call 24; (with_reducible refine (HMy.out _).mono ?_); rintro e w' ⟨rfl, hb⟩; have HK := Lib.hid (show Below wr.heap.size wr w' from (below_drewN (n := 1) (Below.refl _ _)).trans hb); clear hb)
                refine hKq.out _ _ ?_ (fun hHeld => ?_)
                · (try dsimp only); exact HS.out _ HK.out
                clear hKq Kq
                try simp only [Act.put, List.setIfInBounds_toArray, List.set_cons_zero, List.set_cons_succ]
                (refine wpAnyH_take (i := 6) (oi := ⟨_, _, _, _, _, _⟩) (v := ?_) rfl (by kernel_rfl) (by kernel_rfl) (by kernel_rfl) (fun _ _ _ h => h) (Or.inl ⟨by rfl, ?_⟩) (by assumption) ?_; rotate_left 1; · (intro w hSw; (try dsimp only at hSw); go_simp; all_goals with_reducible rfl))
                try simp only [Act.put, List.setIfInBounds_toArray, List.set_cons_zero, List.set_cons_succ]
                first | (refine wpAnyH_take (i := 7) (oi := ⟨_, _, _, _, _, _⟩) (v := ?_) rfl (by kernel_rfl) (by kernel_rfl) (by kernel_rfl) (fun _ _ _ h => h) (Or.inl ⟨by rfl, ?_⟩) (by assumption) ?_; rotate_left 1; · (intro w hSw; (try dsimp only at hSw); go_simp; all_goals with_reducible rfl)) | refine wpAnyH_take (i := 7) (oi := ⟨_, _, _, _, _, _⟩) (v := undef) rfl (by kernel_rfl) (by kernel_rfl) (by kernel_rfl) (fun _ _ _ h => h) (Or.inr ⟨by kernel_rfl, rfl⟩) (by assumption) ?_
                try simp only [Act.put, List.setIfInBounds_toArray, List.set_cons_zero, List.set_cons_succ]
                first | (refine wpAnyH_take (i := 8) (oi := ⟨_, _, _, _, _, _⟩) (v := ?_) rfl (by kernel_rfl) (by kernel_rfl) (by kernel_rfl) (fun _ _ _ h => h) (Or.inl ⟨by rfl, ?_⟩) (by assumption) ?_; rotate_left 1; · (intro w hSw; (try dsimp only at hSw); go_simp; all_goals with_reducible rfl)) | refine wpAnyH_take (i := 8) (oi := ⟨_, _, _, _, _, _⟩) (v := undef) rfl (by kernel_rfl) (by kernel_rfl) (by kernel_rfl) (fun _ _ _ h => h) (Or.inr ⟨by kernel_rfl, rfl⟩) (by assumption) ?_
                try simp only [Act.put, List.setIfInBounds_toArray, List.set_cons_zero, List.set_cons_succ]
                first | (refine wpAnyH_take (i := 9) (oi := ⟨_, _, _, _, _, _⟩) (v := ?_) rfl (by kernel_rfl) (by kernel_rfl) (by kernel_rfl) (fun _ _ _ h => h) (Or.inl ⟨by rfl, ?_⟩) (by assumption) ?_; rotate_left 1; · (intro w hSw; (try dsimp only at hSw); go_simp; all_goals with_reducible rfl)) | refine wpAnyH_take (i := 9) (oi := ⟨_, _, _, _, _, _⟩) (v := undef) rfl (by kernel_rfl) (by kernel_rfl) (by kernel_rfl) (fun _ _ _ h => h) (Or.inr ⟨by kernel_rfl, rfl⟩) (by assumption) ?_
                try simp only [Act.put, List.setIfInBounds_toArray, List.set_cons_zero, List.set_cons_succ]
                first | (refine wpAnyH_take (i := 10) (oi := ⟨_, _, _, _, _, _⟩) (v := ?_) rfl (by kernel_rfl) (by kernel_rfl) (by kernel_rfl) (fun _ _ _ h => h) (Or.inl ⟨by rfl, ?_⟩) (by assumption) ?_; rotate_left 1; · (intro w hSw; (try dsimp only at hSw); go_simp; all_goals with_reducible rfl)) | refine wpAnyH_take (i := 10) (oi := ⟨_, _, _, _, _, _⟩) (v := undef) rfl (by kernel_rfl) (by kernel_rfl) (by kernel_rfl) (fun _ _ _ h => h) (Or.inr ⟨by kernel_rfl, rfl⟩) (by assumption) ?_
                try simp only [Act.put, List.setIfInBounds_toArray, List.set_cons_zero, List.set_cons_succ]
                first | (refine wpAnyH_take (i := 11) (oi := ⟨_, _, _, _, _, _⟩) (v := ?_) rfl (by kernel_rfl) (by kernel_rfl) (by kernel_rfl) (fun _ _ _ h => h) (Or.inl ⟨by rfl, ?_⟩) (by assumption) ?_; rotate_left 1; · (intro w hSw; (try dsimp only at hSw); go_simp; all_goals with_reducible rfl)) | refine wpAnyH_take (i := 11) (oi := ⟨_, _, _, _, _, _⟩) (v := undef) rfl (by kernel_rfl) (by kernel_rfl) (by kernel_rfl) (fun _ _ _ h => h) (Or.inr ⟨by kernel_rfl, rfl⟩) (by assumption) ?_
                try simp only [Act.put, List.setIfInBounds_toArray, List.set_cons_zero, List.set_cons_succ]
                first | (refine wpAnyH_take (i := 12) (oi := ⟨_, _, _, _, _, _⟩) (v := ?_) rfl (by kernel_rfl) (by kernel_rfl) (by kernel_rfl) (fun _ _ _ h => h) (Or.inl ⟨by rfl, ?_⟩) (by assumption) ?_; rotate_left 1; · (intro w hSw; (try dsimp only at hSw); go_simp; all_goals with_reducible rfl)) | refine wpAnyH_take (i := 12) (oi := ⟨_, _, _, _, _, _⟩) (v := undef) rfl (by kernel_rfl) (by kernel_rfl) (by kernel_rfl) (fun _ _ _ h => h) (Or.inr ⟨by kernel_rfl, rfl⟩) (by assumption) ?_
                try simp only [Act.put, List.setIfInBounds_toArray, List.set_cons_zero, List.set_cons_succ]
                first | (refine wpAnyH_take (i := 13) (oi := ⟨_, _, _, _, _, _⟩) (v := ?_) rfl (by kernel_rfl) (by kernel_rfl) (by kernel_rfl) (fun _ _ _ h => h) (Or.inl ⟨by rfl, ?_⟩) (by assumption) ?_; rotate_left 1; · (intro w hSw; (try dsimp only at hSw); go_simp; all_goals with_reducible rfl)) | refine wpAnyH_take (i := 13) (oi := ⟨_, _, _, _, _, _⟩) (v := undef) rfl (by kernel_rfl) (by kernel_rfl) (by kernel_rfl) (fun _ _ _ h => h) (Or.inr ⟨by kernel_rfl, rfl⟩) (by assumption) ?_
                try simp only [Act.put, List.setIfInBounds_toArray, List.set_cons_zero, List.set_cons_succ]
                first | (refine wpAnyH_take (i := 14) (oi := ⟨_, _, _, _, _, _⟩) (v := ?_) rfl (by kernel_rfl) (by kernel_rfl) (by kernel_rfl) (fun _ _ _ h => h) (Or.inl ⟨by rfl, ?_⟩) (by assumption) ?_; rotate_left 1; · (intro w hSw; (try dsimp only at hSw); go_simp; all_goals with_reducible rfl)) | refine wpAnyH_take (i := 14) (oi := ⟨_, _, _, _, _, _⟩) (v := undef) rfl (by kernel_rfl) (by kernel_rfl) (by kernel_rfl) (fun _ _ _ h => h) (Or.inr ⟨by kernel_rfl, rfl⟩) (by assumption) ?_
                try simp only [Act.put, List.setIfInBounds_toArray, List.set_cons_zero, List.set_cons_succ]
                first | (refine wpAnyH_take (i := 16) (oi := ⟨_, _, _, _, _, _⟩) (v := ?_) rfl (by kernel_rfl) (by kernel_rfl) (by kernel_rfl) (fun _ _ _ h => h) (Or.inl ⟨by rfl, ?_⟩) (by assumption) ?_; rotate_left 1; · (intro w hSw; (try dsimp only at hSw); go_simp; all_goals with_reducible rfl)) | refine wpAnyH_take (i := 16) (oi := ⟨_, _, _, _, _, _⟩) (v := undef) rfl (by kernel_rfl) (by kernel_rfl) (by kernel_rfl) (fun _ _ _ h => h) (Or.inr ⟨by kernel_rfl, rfl⟩) (by assumption) ?_
                try simp only [Act.put, List.setIfInBounds_toArray, List.set_cons_zero, List.set_cons_succ]
                first | (refine wpAnyH_take (i := 17) (oi := ⟨_, _, _, _, _, _⟩) (v := ?_) rfl (by kernel_rfl) (by kernel_rfl) (by kernel_rfl) (fun _ _ _ h => h) (Or.inl ⟨by rfl, ?_⟩) (by assumption) ?_; rotate_left 1; · (intro w hSw; (try dsimp only at hSw); go_simp; all_goals with_reducible rfl)) | refine wpAnyH_take (i := 17) (oi := ⟨_, _, _, _, _, _⟩) (v := undef) rfl (by kernel_rfl) (by kernel_rfl) (by kernel_rfl) (fun _ _ _ h => h) (Or.inr ⟨by kernel_rfl, rfl⟩) (by assumption) ?_
                try simp only [Act.put, List.setIfInBounds_toArray, List.set_cons_zero, List.set_cons_succ]
                first | (refine wpAnyH_take (i := 18) (oi := ⟨_, _, _, _, _, _⟩) (v := ?_) rfl (by kernel_rfl) (by kernel_rfl) (by kernel_rfl) (fun _ _ _ h => h) (Or.inl ⟨by rfl, ?_⟩) (by assumption) ?_; rotate_left 1; · (intro w hSw; (try dsimp only at hSw); go_simp; all_goals with_reducible rfl)) | refine wpAnyH_take (i := 18) (oi := ⟨_, _, _, _, _, _⟩) (v := undef) rfl (by kernel_rfl) (by kernel_rfl) (by kernel_rfl) (fun _ _ _ h => h) (Or.inr ⟨by kernel_rfl, rfl⟩) (by assumption) ?_
                try simp only [Act.put, List.setIfInBounds_toArray, List.set_cons_zero, List.set_cons_succ]
                first | (refine wpAnyH_take (i := 19) (oi := ⟨_, _, _, _, _, _⟩) (v := ?_) rfl (by kernel_rfl) (by kernel_rfl) (by kernel_rfl) (fun _ _ _ h => h) (Or.inl ⟨by rfl, ?_⟩) (by assumption) ?_; rotate_left 1; · (intro w hSw; (try dsimp only at hSw); go_simp; all_goals with_reducible rfl)) | refine wpAnyH_take (i := 19) (oi := ⟨_, _, _, _, _, _⟩) (v := undef) rfl (by kernel_rfl) (by kernel_rfl) (by kernel_rfl) (fun _ _ _ h => h) (Or.inr ⟨by kernel_rfl, rfl⟩) (by assumption) ?_
                try simp only [Act.put, List.setIfInBounds_toArray, List.set_cons_zero, List.set_cons_succ]
                first | (refine wpAnyH_take (i := 20) (oi := ⟨_, _, _, _, _, _⟩) (v := ?_) rfl (by kernel_rfl) (by kernel_rfl) (by kernel_rfl) (fun _ _ _ h => h) (Or.inl ⟨by rfl, ?_⟩) (by assumption) ?_; rotate_left 1; · (intro w hSw; (try dsimp only at hSw); go_simp; all_goals with_reducible rfl)) | refine wpAnyH_take (i := 20) (oi := ⟨_, _, _, _, _, _⟩) (v := undef) rfl (by kernel_rfl) (by kernel_rfl) (by kernel_rfl) (fun _ _ _ h => h) (Or.inr ⟨by kernel_rfl, rfl⟩) (by assumption) ?_
                try simp only [Act.put, List.setIfInBounds_toArray, List.set_cons_zero, List.set_cons_succ]
                first | (refine wpAnyH_take (i := 21) (oi := ⟨_, _, _, _, _, _⟩) (v := ?_) rfl (by kernel_rfl) (by kernel_rfl) (by kernel_rfl) (fun _ _ _ h => h) (Or.inl ⟨by rfl, ?_⟩) (by assumption) ?_; rotate_left 1; · (intro w hSw; (try dsimp only at hSw); go_simp; all_goals with_reducible rfl)) | refine wpAnyH_take (i := 21) (oi := ⟨_, _, _, _, _, _⟩) (v := undef) rfl (by kernel_rfl) (by kernel_rfl) (by kernel_rfl) (fun _ _ _ h => h) (Or.inr ⟨by kernel_rfl, rfl⟩) (by assumption) ?_
                try simp only [Act.put, List.setIfInBounds_toArray, List.set_cons_zero, List.set_cons_succ]
                refine wpAnyH_ready (rs := [15]) (by kernel_rfl) (by simp) ?_
                refine AllReadyH.cons (o := ⟨_, _, _, _, _, _⟩) rfl (fun Kq hKq => ?_) AllReadyH.nil
                go_simp
                clear hHeld
                (go_at_call 20; (with_reducible refine (HFx.out _ HK.out).mono ?_); rintro e w2' ⟨rfl, hb⟩; have HK := Lib.hid (below_after HK.out hb (Nat.le_refl _)); clear hb)
                refine hKq.out _ _ ?_ (fun hHeld => ?_)
                · (try dsimp only); exact HS.out _ HK.out
                clear hKq Kq
                try simp only [Act.put, List.setIfInBounds_toArray, List.set_cons_zero, List.set_cons_succ]
                first | (refine wpAnyH_take (i := 22) (oi := ⟨_, _, _, _, _, _⟩) (v := ?_) rfl (by kernel_rfl) (by kernel_rfl) (by kernel_rfl) (fun _ _ _ h => h) (Or.inl ⟨by rfl, ?_⟩) (by assumption) ?_; rotate_left 1; · (intro w hSw; (try dsimp only at hSw); go_simp; all_goals with_reducible rfl)) | refine wpAnyH_take (i := 22) (oi := ⟨_, _, _, _, _, _⟩) (v := undef) rfl (by kernel_rfl) (by kernel_rfl) (by kernel_rfl) (fun _ _ _ h => h) (Or.inr ⟨by kernel_rfl, rfl⟩) (by assumption) ?_
                try simp only [Act.put, List.setIfInBounds_toArray, List.set_cons_zero, List.set_cons_succ]
                (refine wpAnyH_take (i := 23) (oi := ⟨_, _, _, _, _, _⟩) (v := ?_) rfl (by kernel_rfl) (by kernel_rfl) (by kernel_rfl) (fun _ _ _ h => h) (Or.inl ⟨by rfl, ?_⟩) (by assumption) ?_; rotate_left 1; · (intro w hSw; (try dsimp only at hSw); go_simp; all_goals with_reducible rfl))
                try simp only [Act.put, List.setIfInBounds_toArray, List.set_cons_zero, List.set_cons_succ]
                refine wpAnyH_done (by kernel_rfl) ?_ _
                go_wp2_with fail
                go_roundw
                case rel => exact ⟨j + 1, by omega, by go_num, (HRel.out _ HK.out)⟩
                case measure => simp [intOf]; omega
            · have hd2 : decide ((j : Int) < (l.2.length : Int)) = false := by simp; omega
              clear HFm
              go_wp2_with fail
              clear p0 r0 hd2
              go_loopw [13] (fun s13 wr => ∃ t : Nat, t ≤ l.1.length ∧ s13 = .int .i64 t ∧ Hid (NyG w GA GB GI GX GN GL GC la lb (JM, JF) l p q n1 n2 n3 n4 A c B d wr)) (fun s13 _ => l.1.length - (intOf s13).toNat)
              case atStart => exact ⟨0, by omega, rfl, HY⟩
              case round =>
                obtain ⟨t, htl, rfl, HZ⟩ := hrel
                clear HY
                have t3 : (0 : Int) ≤ (t : Int) := by omega
                obtain ⟨p0, r0⟩ := lbox_cells HZ.out.hc
                by_cases htt : t < l.1.length
                · have hd2 : decide ((t : Int) < (l.1.length : Int)) = true := by simp; omega
                  have t4 : (t : Int) < (l.1.length : Int) := by omega
                  obtain ⟨ad, rfl, y1, y2, y3, y4⟩ := Ms.at_ HZ.out.hm (Below.refl _ _) htt
                  have hmm := Lib.hid (HMl.out _ (List.getElem_mem htt))
                  generalize l.1[t].1.1 = x1 at *
                  generalize l.1[t].1.2 = x2 at *
                  generalize l.1[t].2.1 = x3 at *
                  generalize l.1[t].2.2 = x4 at *
                  have qb := below_one wr (.cells #[.int .i64 x1, .int .i64 x2, .int .u8 x3, .int .i64 x4] 32)
                  obtain ⟨GM, hGM⟩ : ∃ g, g = wr.heap.size := ⟨_, rfl⟩
                  have HY := Lib.hid (HZ.out.step qb)
                  have N1 : Hid (MBox (wr.alloc (.cells #[.int .i64 x1, .int .i64 x2, .int .u8 x3, .int .i64 x4] 32)) GM x1 x2 x3 x4) := Lib.hid (hGM ▸ mbox_new wr x1 x2 x3 x4)
                  obtain ⟨k1, k2, k3, k4⟩ := mbox_cells (mbox_new wr 0 0 0 0)
                  obtain ⟨l1, l2, l3, l4⟩ := mbox_free (mbox_new wr 0 0 0 0)
                  clear qb HZ
                  go_upto_region 19 with fail
                  clear k1 k2 k3 k4 l1 l2 l3 l4 y1 y2 y3 y4 p0 r0
                  rw [← hGM]
                  generalize wr.alloc (.cells #[.int .i64 x1, .int .i64 x2, .int .u8 x3, .int .i64 x4] 32) = w11 at *
                  clear hGM
                  obtain ⟨k1, k2, k3, k4⟩ := mbox_cells N1.out
                  obtain ⟨b1, b2⟩ := box_cells HY.out.base.base.hi
                  by_cases e1 : x1 = p
                  · have a1 : (x1 == p) = true := by simp [e1]
                    by_cases e2 : x2 = q
                    · have a2 : (x2 == q) = true := by simp [e2]
                      cases hv : vid p q
                      · have HMy : Hid (∀ W, Calls Try.prog 24 #[.agg #[.int .i64 p, .int .i64 q]] W fun e w' => e = .returned (.bool false) ∧ Below W.heap.size W w') := Lib.hid fun W => by
                          have := refMay_any p q W
                          rwa [hv] at this
                        clear hv hmm e1 e2
                        go_wp2_with fail
                        (with_reducible refine (HMy.out _).mono ?_)
                        rintro e w12 ⟨rfl, hb⟩
                        have HW := Lib.hid (HY.out.step hb)
                        have N2 := Lib.hid (mbox_below N1.out hb)
                        clear hb k1 k2 k3 k4 b1 b2
                        obtain ⟨k1, k2, k3, k4⟩ := mbox_cells N2.out
                        obtain ⟨b1, b2⟩ := box_cells HW.out.base.base.hi
                        go_wp2_with fail
                        go_roundw
                        case rel => exact ⟨t + 1, by omega, by go_num, HW⟩
                        case measure => simp [intOf]; omega
                      · have HMy : Hid (∀ W, Calls Try.prog 24 #[.agg #[.int .i64 p, .int .i64 q]] W fun e w' => e = .returned (.bool true) ∧ Below W.heap.size W w') := Lib.hid fun W => by
                          have := refMay_any p q W
                          rwa [hv] at this
                        by_cases h3 : 1 ≤ x3
                        · have d1 : decide (x3 < 1) = false := decide_eq_false (by omega)
                          by_cases h4 : x3 ≤ 7
                          · have d2 : decide (x3 > 7) = false := decide_eq_false (by omega)
                            have d3 : decide (7 < x3) = false := decide_eq_false (by omega)
                            have hmm := hmm.out e1 e2 hv h3 h4
                            rcases hmm with ⟨hz, hg⟩ | ⟨hz, hm3, hm4⟩
                            · subst hz
                              clear hv e1 e2 h3 h4
                              go_wp2_with fail
                              (with_reducible refine (HMy.out _).mono ?_)
                              rintro e w12 ⟨rfl, hb⟩
                              have HW := Lib.hid (HY.out.step hb)
                              have N2 := Lib.hid (mbox_below N1.out hb)
                              clear hb k1 k2 k3 k4 b1 b2
                              obtain ⟨k1, k2, k3, k4⟩ := mbox_cells N2.out
                              obtain ⟨b1, b2⟩ := box_cells HW.out.base.base.hi
                              obtain ⟨A6, c6, B6, d6, x6, m6, i6⟩ := id HW.out.base.hx
                              obtain ⟨u1, u2⟩ := lbox_cells x6
                              have I6 := Lib.hid i6
                              clear x6 m6 i6
                              go_wp2_with fail
                              (with_reducible refine (HGo.out _ _ I6.out).mono ?_)
                              rintro e w13 ⟨rfl, hb⟩
                              have HV := Lib.hid (HW.out.step hb)
                              rw [hg]
                              clear hb u1 u2 b1 b2 k1 k2 k3 k4 hg
                              go_wp2_with fail
                              go_roundw
                              case rel => exact ⟨t + 1, by omega, by go_num, HV⟩
                              case measure => simp [intOf]; omega
                            · subst hz
                              have d4 : decide (n3 < x3) = false := decide_eq_false (by omega)
                              by_cases h5 : 0 < x4
                              · have d5 : decide (x4 > 0) = true := decide_eq_true h5
                                have d6 : decide (0 < x4) = true := decide_eq_true h5
                                obtain ⟨h6, h7⟩ := hm4 h5
                                have d7 : decide (n4 > x4) = false := decide_eq_false (by omega)
                                have d8 : decide (x4 < n4) = false := decide_eq_false (by omega)
                                have d9 : (n4 == 0) = false := beq_eq_false_iff_ne.2 (by omega)
                                clear hv e1 e2 h3 h4 h5 h6 h7 hm3 hm4
                                go_wp2_with fail
                                (with_reducible refine (HMy.out _).mono ?_)
                                rintro e w12 ⟨rfl, hb⟩
                                have HW := Lib.hid (HY.out.step hb)
                                have N2 := Lib.hid (mbox_below N1.out hb)
                                clear hb k1 k2 k3 k4 b1 b2
                                obtain ⟨k1, k2, k3, k4⟩ := mbox_cells N2.out
                                obtain ⟨b1, b2⟩ := box_cells HW.out.base.base.hi
                                obtain ⟨o1, o2, o3, o4⟩ := mbox_cells HW.out.base.hn
                                go_wp2_with fail
                                go_roundw
                                case rel => exact ⟨t + 1, by omega, by go_num, HW⟩
                                case measure => simp [intOf]; omega
                              · have d5 : decide (x4 > 0) = false := decide_eq_false h5
                                have d6 : decide (0 < x4) = false := decide_eq_false h5
                                clear hv e1 e2 h3 h4 h5 hm3 hm4
                                go_wp2_with fail
                                (with_reducible refine (HMy.out _).mono ?_)
                                rintro e w12 ⟨rfl, hb⟩
                                have HW := Lib.hid (HY.out.step hb)
                                have N2 := Lib.hid (mbox_below N1.out hb)
                                clear hb k1 k2 k3 k4 b1 b2
                                obtain ⟨k1, k2, k3, k4⟩ := mbox_cells N2.out
                                obtain ⟨b1, b2⟩ := box_cells HW.out.base.base.hi
                                obtain ⟨o1, o2, o3, o4⟩ := mbox_cells HW.out.base.hn
                                go_wp2_with fail
                                go_roundw
                                case rel => exact ⟨t + 1, by omega, by go_num, HW⟩
                                case measure => simp [intOf]; omega
                          · have d2 : decide (x3 > 7) = true := decide_eq_true (by omega)
                            have d3 : decide (7 < x3) = true := decide_eq_true (by omega)
                            clear hv hmm e1 e2 h3 h4
                            go_wp2_with fail
                            (with_reducible refine (HMy.out _).mono ?_)
                            rintro e w12 ⟨rfl, hb⟩
                            have HW := Lib.hid (HY.out.step hb)
                            have N2 := Lib.hid (mbox_below N1.out hb)
                            clear hb k1 k2 k3 k4 b1 b2
                            obtain ⟨k1, k2, k3, k4⟩ := mbox_cells N2.out
                            obtain ⟨b1, b2⟩ := box_cells HW.out.base.base.hi
                            go_wp2_with fail
                            go_roundw
                            case rel => exact ⟨t + 1, by omega, by go_num, HW⟩
                            case measure => simp [intOf]; omega
                        · have d1 : decide (x3 < 1) = true := decide_eq_true (by omega)
                          clear hv hmm e1 e2 h3
                          go_wp2_with fail
                          (with_reducible refine (HMy.out _).mono ?_)
                          rintro e w12 ⟨rfl, hb⟩
                          have HW := Lib.hid (HY.out.step hb)
                          have N2 := Lib.hid (mbox_below N1.out hb)
                          clear hb k1 k2 k3 k4 b1 b2
                          obtain ⟨k1, k2, k3, k4⟩ := mbox_cells N2.out
                          obtain ⟨b1, b2⟩ := box_cells HW.out.base.base.hi
                          go_wp2_with fail
                          go_roundw
                          case rel => exact ⟨t + 1, by omega, by go_num, HW⟩
                          case measure => simp [intOf]; omega
                    · have a2 : (x2 == q) = false := beq_eq_false_iff_ne.2 e2
                      clear e1 e2 hmm
                      go_wp2_with fail
                      go_roundw
                      case rel => exact ⟨t + 1, by omega, by go_num, HY⟩
                      case measure => simp [intOf]; omega
                  · have a1 : (x1 == p) = false := beq_eq_false_iff_ne.2 e1
                    clear e1 hmm
                    go_wp2_with fail
                    go_roundw
                    case rel => exact ⟨t + 1, by omega, by go_num, HY⟩
                    case measure => simp [intOf]; omega
                · have hd2 : decide ((t : Int) < (l.1.length : Int)) = false := by simp; omega
                  go_wp2_with fail
                  go_roundw
                  case rel => exact ⟨k + 1, by omega, by go_num, Lib.hid HZ.out.base, Lib.hid HZ.out.two⟩
                  case measure => simp [intOf]; omega
        · have hd : decide ((k : Int) < 2) = false := by simp; omega
          go_wp2_with fail
          go_ret
          exact ⟨rfl, GR.out.base.below⟩
  · clear hbig
    go_wp2_with fail
    refine (works_any _).mono ?_
    rintro e w4 ⟨rfl, hb⟩
    have BZ := Lib.hid (below_after G3.out.below hb (Nat.le_refl _))
    clear hb
    go_wp2_with fail
    go_ret
    exact ⟨rfl, BZ.out⟩
end Go.Proofs.Ytciolhpkhblnbaa
