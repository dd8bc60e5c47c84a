/-
  The document's walk in memory: the next peer. No statement is proved in this text; it holds for every input that its premises let by.
-/
import Derived.Test.YtmgkbfhkipfimaaWlkG
set_option maxRecDepth 20000
namespace Go.Proofs.Ytmgkbfhkipfimaa
open Go Go.RowKit Sets
variable {T : TypeId} {S S2 S' : Nat → Prop} {W W' w w' : World} {p : Nat} {v u : Value} {l ps r : List Id2} {d : Nat}
/-- How long the slice is that stands at p. -/
def lenAt (w : World) (p : Nat) : Nat := match w.cell? ⟨p, 0, none⟩ with
  | some (.slice _ n _) => n
  | _ => 0
theorem lenAt_is (h : Wl T p l S W) : lenAt W p = l.length := by
  obtain ⟨v, h⟩ := h
  obtain ⟨A, c, rfl, _⟩ := id h.ids
  unfold lenAt
  rw [one_cell h.box]
theorem refNext_no (hu : Ids W u []) (p : Nat) (dr : Int) : Calls Try.prog 19 #[.pointer (some ⟨p, 0, none⟩), u, .int .u32 dr] W fun e w' => e = Idb (0, 0) false ∧ Below W.heap.size W w' := by
  obtain ⟨A, c, rfl, hz⟩ := id hu
  clear hz hu
  have HB := Lib.hid (below_one W (.cells #[.int .i64 0, .int .i64 0] 24))
  obtain ⟨q0, q1⟩ := box_cells (box_new W 0 0)
  obtain ⟨f0, f1⟩ := box_free (box_new W 0 0)
  go_enter Try.func19, Try.ntmps19
  go_wp2_with fail
  refine bodyPost_ret (v := .tuple #[.agg #[.int .i64 0, .int .i64 0], .bool false]) (by simp [results, Try.results19, go_sem, q0, q1]) rfl ?_
  exact ⟨rfl, HB.out⟩
/-- What stands while one is looked for: those ahead of what is left are no peers. -/
structure Ny (S : Nat → Prop) (W wr : World) (p g1 : Nat) (ps l m : List Id2) : Prop where
  wl : Wl 39 p m S wr
  bx : Box wr g1 0 0
  fr : Fr S W wr
  sk : skip ps l = skip ps m
set_option maxHeartbeats 2000000 in
theorem refNext_any {x : Id2} (h : Wl 39 p l S W) (hu : ∀ W', Fr S W W' → Ids W' u ps) (hps : ps ≠ []) (hpl : ps.length ≤ 40000) (hd : d < 4294967296) (hn : nx l ps d = x :: r) :
    Calls Try.prog 19 #[.pointer (some ⟨p, 0, none⟩), u, .int .u32 d] W fun e w' => e = Idb x true ∧ ∃ S', Wl 39 p r S' w' ∧ Upd S W w' S' := by
  have H := Lib.hid h
  have HU := Lib.hid hu
  have HN := Lib.hid hn
  have HPL := Lib.hid hpl
  have HLT : Hid (∀ k, S k → k < W.heap.size) := Lib.hid h.lt
  have HP : Hid (S p) := Lib.hid h.inp
  have hp0 : ((ps.length : Int) == 0) = false := by simp; exact hps
  obtain ⟨A, c, rfl, hz⟩ := hu W (.refl _ _)
  clear hz hu hn hpl h
  go_enter Try.func19, Try.ntmps19
  go_upto_region 1 with fail
  have X1 := Lib.hid (box_new W 0 0)
  have B1 := Lib.hid (below_one W (.cells #[.int .i64 0, .int .i64 0] 24))
  have H1 : Hid (Ny S W (W.alloc (.cells #[.int .i64 0, .int .i64 0] 24)) p W.heap.size ps l l) := Lib.hid ⟨H.out.keep B1.out, X1.out, .of_below B1.out, rfl⟩
  clear H X1 B1
  generalize hgg : W.heap.size = g1 at *
  generalize W.alloc (.cells #[.int .i64 0, .int .i64 0] 24) = W1 at *
  have HG := Lib.hid hgg
  clear hgg
  go_wp2_with fail
  go_loopw [7] (fun s7 wr => ∃ m : List Id2, s7 = .bool false ∧ Hid (Ny S W wr p g1 ps l m)) (fun _ wr => lenAt wr p)
  case atStart => exact ⟨l, rfl, H1⟩
  case round =>
    obtain ⟨m, rfl, HX⟩ := hrel
    have hpS := HLT.out _ HP.out
    cases m with
    | cons y m =>
      have HM := Lib.hid (lenAt_is HX.out.wl)
      obtain ⟨v, hv⟩ := HX.out.wl
      have HV := Lib.hid hv
      have c0 := one_cell hv.box
      have f0 := one_free hv.box
      obtain ⟨V, hV, hI, hO, B, dd, hBV⟩ := run_rest hv.ids
      obtain ⟨ad, c2, rfl, hh⟩ := hv.ids.head
      subst hBV
      have HI := Lib.hid hI
      have HO := Lib.hid hO
      obtain ⟨k1, k2⟩ := hh wr (Below.refl _ _)
      have HH := Lib.hid hh
      have hdd : decide ((0 : Int) < (m.length : Int) + 1) = true := decide_eq_true (by omega)
      clear hI hO hh hv
      go_upto_region 5 with fail
      have X3 := Lib.hid (box_new wr y.1 y.2)
      have B3 := Lib.hid (below_one wr (.cells #[.int .i64 y.1, .int .i64 y.2] 24))
      have L3 : Hid (wr.heap.size < (wr.alloc (.cells #[.int .i64 y.1, .int .i64 y.2] 24)).heap.size) := Lib.hid (box_lt X3.out)
      have GL : Hid (g1 < wr.heap.size) := Lib.hid (box_lt HX.out.bx)
      clear c0 f0 k1 k2
      generalize wr.alloc (.cells #[.int .i64 y.1, .int .i64 y.2] 24) = w2 at *
      have F2 : Hid (Fr S W w2) := Lib.hid (HX.out.fr.step (.of_below B3.out))
      have Y2 := Lib.hid (box_below HX.out.bx B3.out)
      have V2 := Lib.hid (HV.out.keep B3.out)
      have I2 := Lib.hid (HI.out.below B3.out)
      have SK := Lib.hid HX.out.sk
      have c0 := one_cell V2.out.box
      have f0 := one_free V2.out.box
      have PL : Hid (p < wr.heap.size) := Lib.hid (HV.out.lt _ HP.out)
      generalize hg2 : wr.heap.size = g2 at *
      clear HX HV HI B3 hg2
      go_upto_region 6 with fail
      have F3 : Hid (Fr (fun k => k = p) w2 (w2.setCell ⟨p, 0, none⟩ (.slice B m.length dd))) := Lib.hid (.of_set _ _ rfl)
      have V3 := Lib.hid (V2.out.tail I2.out HO.out)
      have X4 : Hid (Box (w2.setCell ⟨p, 0, none⟩ (.slice B m.length dd)) g2 y.1 y.2) := Lib.hid (Box.frame X3.out F3.out (fun (e : g2 = p) => by have := PL.out; omega))
      have Y4 : Hid (Box (w2.setCell ⟨p, 0, none⟩ (.slice B m.length dd)) g1 0 0) := Lib.hid (Box.frame Y2.out F3.out (fun (e : g1 = p) => by omega))
      have F4 : Hid (Fr S W (w2.setCell ⟨p, 0, none⟩ (.slice B m.length dd))) := Lib.hid (F2.out.step (F3.out.mono fun k e => e ▸ HP.out))
      clear c0 f0 hV X3 Y2 F2 V2 I2 F3
      generalize w2.setCell ⟨p, 0, none⟩ (.slice B m.length dd) = w3 at *
      obtain ⟨c3, c4⟩ := box_cells X4.out
      go_wp2_with fail
      refine (refHas_any _ ps y.1 y.2 _ (HU.out _ F4.out) (by have := HPL.out; omega)).mono ?_
      rintro e w4 ⟨rfl, hb⟩
      have X5 := Lib.hid (box_below X4.out hb)
      have Y5 := Lib.hid (box_below Y4.out hb)
      have F5 : Hid (Fr S W w4) := Lib.hid (F4.out.step (.of_below hb))
      have V5 := Lib.hid (V3.out.keep hb)
      clear hb c3 c4 X4 Y4 F4 V3
      cases hh : hasB (y.1, y.2) ps
      · have SK2 : Hid (skip ps l = skip ps m) := Lib.hid (by rw [SK.out, skip_cons hh])
        go_wp2_with fail
        go_roundw
        case rel => exact ⟨m, rfl, Lib.hid ⟨⟨_, V5.out⟩, Y5.out, F5.out, SK2.out⟩⟩
        case measure =>
          show lenAt w4 p < lenAt wr p
          rw [HM.out, lenAt_is ⟨_, V5.out⟩]
          simp
      · have e2 : y = x ∧ m = r := by
          have h5 := HN.out
          rw [nx_old (SK.out.trans (skip_here hh))] at h5
          injection h5 with h5 h6
          exact ⟨h5, h6⟩
        obtain ⟨rfl, rfl⟩ := e2
        obtain ⟨c3, c4⟩ := box_cells X5.out
        obtain ⟨d3, d4⟩ := box_cells Y5.out
        obtain ⟨f3, f4⟩ := box_free Y5.out
        have Z := Lib.hid (box_set Y5.out y.1 y.2)
        obtain ⟨q0, q1⟩ := box_cells Z.out
        have F6 : Hid (Fr (fun k => k = g1) w4 ((w4.setCell ⟨g1, 0, none⟩ (.int .i64 y.1)).setCell ⟨g1, 1, none⟩ (.int .i64 y.2))) := Lib.hid ((Fr.of_set (S := fun k => k = g1) _ _ rfl).step (.of_set (S := fun k => k = g1) _ _ rfl))
        go_wp2_with fail
        refine bodyPost_ret (v := .tuple #[.agg #[.int .i64 y.1, .int .i64 y.2], .bool true]) (by simp [results, Try.results19, go_sem, q0, q1]) rfl ?_
        refine ⟨rfl, S, ⟨_, V5.out.frame F6.out fun k hk e => by have := HLT.out k hk; omega⟩, .of_fr (F5.out.trans F6.out fun i e => .inr (by have := HG.out; omega))⟩
    | nil =>
      have HR : Hid (rowP ps d = x :: r) := Lib.hid (by
        have h5 := HN.out
        rwa [nx_new (HX.out.sk.trans rfl)] at h5)
      obtain ⟨v, hv⟩ := HX.out.wl
      have c0 := one_cell hv.box
      obtain ⟨B, c2, rfl, hz⟩ := id hv.ids
      clear hz hv
      go_wp2_with fail
      refine (refRow_any _ ps d _ (HU.out _ HX.out.fr) HPL.out hd).mono ?_
      rintro e w2 ⟨t, rfl, hv, hb⟩
      rw [HR.out] at hv
      have V2 := Lib.hid hv
      have X2 := Lib.hid (box_below HX.out.bx hb)
      have F2 : Hid (Fr S W w2) := Lib.hid (HX.out.fr.step (.of_below hb))
      obtain ⟨v2, W2⟩ := HX.out.wl.keep hb
      have LO := Lib.hid HX.out.fr.size
      have GB := Lib.hid (box_lt HX.out.bx)
      have LT := Lib.hid (HX.out.wl.lt)
      have WW := Lib.hid W2
      clear c0 hv hb HX W2 HN HR
      rcases V2.out with ⟨rfl, e0⟩ | ⟨g, c, rfl, hc, hg, hj⟩
      · cases e0
      · obtain ⟨V, hV, hI, hO, B2, dd, hBV⟩ := run_rest V2.out.ids
        have hpp := LT.out _ WW.out.inp
        subst hBV
        have hV : ∀ W, (Instr.slice 27 (.slice (some ⟨g, 0, none⟩) (r.length + 1) c) (some (.int .i64 1)) none none).run Try.prog W = .ok (.slice B2 r.length dd) W := hV
        have hgg : (Value.slice B2 r.length dd).ownBlock = some g := hO
        have P3 := Lib.hid (WW.out.put hI (fun b hb => by
          rw [hgg] at hb
          have e : g = b := Option.some.inj hb
          exact ⟨by omega, e ▸ hj.1⟩))
        have F3 : Hid (Fr (fun k => k = p) w2 (w2.setCell ⟨p, 0, none⟩ (.slice B2 r.length dd))) := Lib.hid (.of_set _ _ rfl)
        have I3 := Lib.hid (V2.out.ids.frame F3.out (fun b hb => by
          have e : g = b := Option.some.inj hb
          show ¬ b = p
          omega))
        have X3 : Hid (Box (w2.setCell ⟨p, 0, none⟩ (.slice B2 r.length dd)) g1 0 0) := Lib.hid (Box.frame X2.out F3.out (fun (e : g1 = p) => by omega))
        have HO := Lib.hid hg
        have SB : Hid (∀ i, (S i ∨ (Value.slice B2 r.length dd).ownBlock = some i) → S i ∨ W.heap.size ≤ i) := Lib.hid (fun i hi => hi.imp id fun e => by
          rw [hgg] at e
          have e : g = i := Option.some.inj e
          have := LO.out
          omega)
        have S1 : Hid (∀ i, (S i ∨ (Value.slice B2 r.length dd).ownBlock = some i) → i ≠ g1) := Lib.hid (fun i hi e1 => by
          rcases hi with hi | e
          · have := HLT.out i hi
            omega
          · rw [hgg] at e
            have e : g = i := Option.some.inj e
            have := GB.out
            omega)
        have c0 := one_cell WW.out.box
        have f0 := one_free WW.out.box
        clear hc hg hj V2 hO hgg hI
        go_upto_region 10 with fail
        clear c0 f0 hV
        generalize w2.setCell ⟨p, 0, none⟩ (.slice B2 r.length dd) = w3 at *
        obtain ⟨ad, c3, e3, hh⟩ := I3.out.head
        have e3 : some (⟨g, 0, none⟩ : Addr) = some ad := by injection e3
        have e3 : (⟨g, 0, none⟩ : Addr) = ad := Option.some.inj e3
        subst e3
        obtain ⟨k1, k2⟩ := hh w3 (Below.refl _ _)
        obtain ⟨d3, d4⟩ := box_cells X3.out
        obtain ⟨f3, f4⟩ := box_free X3.out
        have Z := Lib.hid (box_set X3.out x.1 x.2)
        obtain ⟨q0, q1⟩ := box_cells Z.out
        have F4 : Hid (Fr S W w3) := Lib.hid (F2.out.step (F3.out.mono fun k e => e ▸ WW.out.inp))
        have F5 : Hid (Fr (fun k => k = g1) w3 ((w3.setCell ⟨g1, 0, none⟩ (.int .i64 x.1)).setCell ⟨g1, 1, none⟩ (.int .i64 x.2))) := Lib.hid ((Fr.of_set (S := fun k => k = g1) _ _ rfl).step (.of_set (S := fun k => k = g1) _ _ rfl))
        clear hh
        go_wp2_with fail
        refine bodyPost_ret (v := .tuple #[.agg #[.int .i64 x.1, .int .i64 x.2], .bool true]) (by simp [results, Try.results19, go_sem, q0, q1]) rfl ?_
        refine ⟨rfl, _, ⟨_, P3.out.frame F5.out fun k hk e => S1.out k hk e⟩, SB.out, F4.out.trans F5.out fun i e => .inr (by have := HG.out; omega)⟩
end Go.Proofs.Ytmgkbfhkipfimaa
