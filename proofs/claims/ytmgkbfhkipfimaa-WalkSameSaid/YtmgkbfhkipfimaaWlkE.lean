/-
  A walk in memory: the next peer. No statement is proved in this text; it holds for every input that its premises let by.
-/
import Derived.Test.YtmgkbfhkipfimaaWlkD
set_option maxRecDepth 20000
namespace Go.Proofs.Ytmgkbfhkipfimaa
open Go Go.RowKit Sets
variable {T : TypeId} {S S2 S' : Nat → Prop} {W W' w w' : World} {p : Nat} {v u : Value} {l ps r : List Id2} {d : Nat}
/-- An ID and a bool are answered. -/
abbrev Idb (x : Id2) (b : Bool) : Ending := .returned (.tuple #[.agg #[.int .i64 x.1, .int .i64 x.2], .bool b])
theorem next_no (hu : Ids W u []) (p : Nat) (dr : Int) : Calls Try.prog 10 #[.pointer (some ⟨p, 0, none⟩), u, .int .u32 dr] W fun e w' => e = Idb (0, 0) false ∧ Below W.heap.size W w' := by
  obtain ⟨A, c, rfl, hz⟩ := id hu
  clear hz hu
  have HB := Lib.hid (below_one W (.cells #[.int .i64 0, .int .i64 0] 24))
  obtain ⟨q0, q1⟩ := box_cells (box_new W 0 0)
  obtain ⟨f0, f1⟩ := box_free (box_new W 0 0)
  go_enter Try.func10, Try.ntmps10
  go_wp2_with fail
  refine bodyPost_ret (v := .tuple #[.agg #[.int .i64 0, .int .i64 0], .bool false]) (by simp [results, Try.results10, go_sem, q0, q1]) rfl ?_
  exact ⟨rfl, HB.out⟩
theorem next_nil (dr : Int) : Calls Try.prog 10 #[.pointer none, u, .int .u32 dr] W fun e w' => e = Idb (0, 0) false ∧ Below W.heap.size W w' := by
  have HB := Lib.hid (below_one W (.cells #[.int .i64 0, .int .i64 0] 24))
  obtain ⟨q0, q1⟩ := box_cells (box_new W 0 0)
  obtain ⟨f0, f1⟩ := box_free (box_new W 0 0)
  go_enter Try.func10, Try.ntmps10
  go_wp2_with fail
  refine bodyPost_ret (v := .tuple #[.agg #[.int .i64 0, .int .i64 0], .bool false]) (by simp [results, Try.results10, go_sem, q0, q1]) rfl ?_
  exact ⟨rfl, HB.out⟩
theorem Box.frame {g : Nat} {a i : Int} (h : Box W g a i) (k : Fr S W W') (hg : ¬ S g) : Box W' g a i := (k.same g (box_lt h) hg).trans h
/-- What stands while one is looked for: the first k are no peers. -/
structure Nx (S : Nat → Prop) (W wr : World) (p g1 : Nat) (ps l : List Id2) (k : Nat) : Prop where
  wl : Wl 51 p (l.drop k) S wr
  bx : Box wr g1 0 0
  fr : Fr S W wr
  sk : skip ps l = skip ps (l.drop k)
set_option maxHeartbeats 2000000 in
theorem next_any {x : Id2} (h : Wl 51 p l S W) (hu : ∀ W', Fr S W W' → Ids W' u ps) (hps : ps ≠ []) (hpl : ps.length ≤ 40000) (hl : l.length ≤ 100000) (hd : d < 4294967296) (hn : nx l ps d = x :: r) :
    Calls Try.prog 10 #[.pointer (some ⟨p, 0, none⟩), u, .int .u32 d] W fun e w' => e = Idb x true ∧ ∃ S', Wl 51 p r S' w' ∧ Upd S W w' S' := by
  have H := Lib.hid h
  have HU := Lib.hid hu
  have HN := Lib.hid hn
  have HPL := Lib.hid hpl
  have HLT : Hid (∀ k, S k → k < W.heap.size) := Lib.hid h.lt
  have hp0 : ((ps.length : Int) == 0) = false := by simp; exact hps
  obtain ⟨A, c, rfl, hz⟩ := hu W (.refl _ _)
  obtain ⟨v, hv⟩ := h
  obtain ⟨B, c2, rfl, hz2⟩ := id hv.ids
  clear hz hz2 hu hn hpl
  go_enter Try.func10, Try.ntmps10
  go_upto_region 1 with fail
  have X1 := Lib.hid (box_new W 0 0)
  have B1 := Lib.hid (below_one W (.cells #[.int .i64 0, .int .i64 0] 24))
  have c0 := one_cell (hv.keep B1.out).box
  clear hv
  have H1 : Hid (Nx S W (W.alloc (.cells #[.int .i64 0, .int .i64 0] 24)) p W.heap.size ps l 0) := Lib.hid ⟨by rw [List.drop_zero]; exact H.out.keep B1.out, X1.out, .of_below B1.out, by rw [List.drop_zero]⟩
  clear H X1 B1
  generalize hgg : W.heap.size = g1 at *
  generalize W.alloc (.cells #[.int .i64 0, .int .i64 0] 24) = W1 at *
  have HG := Lib.hid hgg
  clear hgg
  go_wp2_with fail
  go_loopw [22] (fun s22 wr => ∃ k : Nat, s22 = .int .i64 k ∧ k ≤ l.length ∧ Hid (Nx S W wr p g1 ps l k)) (fun s22 _ => l.length - (intOf s22).toNat)
  case atStart => exact ⟨0, rfl, by omega, H1⟩
  case round =>
    obtain ⟨k, rfl, hk, HX⟩ := hrel
    clear c0
    by_cases hlt : k < l.length
    · have hdd : decide ((k : Int) < (l.length : Int)) = true := decide_eq_true (by omega)
      have i3 : IntKind.i64.wrap ((k : Int) + 1) = (k : Int) + 1 := IntWalk.i64_in _ ⟨by omega, by omega⟩
      obtain ⟨y, hy⟩ : ∃ y, y = l[k] := ⟨_, rfl⟩
      have HD := Lib.hid (List.drop_eq_getElem_cons hlt)
      rw [← hy] at HD
      clear hy
      have HW := Lib.hid (show Wl 51 p (y :: l.drop (k + 1)) S wr from HD.out ▸ HX.out.wl)
      go_wp2_with fail
      refine (take_any HW.out).mono ?_
      rintro e w2 ⟨rfl, hw2, hf2⟩
      have X2 : Hid (Box w2 g1 0 0) := Lib.hid (Box.frame HX.out.bx hf2 (fun e => by have := HLT.out _ e; omega))
      have F2 : Hid (Fr S W w2) := Lib.hid (HX.out.fr.step hf2)
      have W2 := Lib.hid hw2
      have SK : Hid (skip ps l = skip ps (y :: l.drop (k + 1))) := Lib.hid (HX.out.sk.trans (by rw [HD.out]))
      clear hw2 hf2 HX HW HD
      go_upto_region 6 with fail
      have X3 := Lib.hid (box_new w2 y.1 y.2)
      have B3 := Lib.hid (below_one w2 (.cells #[.int .i64 y.1, .int .i64 y.2] 24))
      have gl : Hid (g1 < w2.heap.size) := Lib.hid (box_lt X2.out)
      generalize w2.alloc (.cells #[.int .i64 y.1, .int .i64 y.2] 24) = w3 at *
      have F3 : Hid (Fr S W w3) := Lib.hid (F2.out.step (.of_below B3.out))
      have Y3 := Lib.hid (box_below X2.out B3.out)
      have W3 := Lib.hid (W2.out.keep B3.out)
      obtain ⟨c3, c4⟩ := box_cells X3.out
      generalize w2.heap.size = g2 at *
      clear X2 F2 W2 B3
      go_wp2_with fail
      refine (has_any _ ps y.1 y.2 _ (HU.out _ F3.out) (by have := HPL.out; omega)).mono ?_
      rintro e w4 ⟨rfl, hb⟩
      have X4 := Lib.hid (box_below X3.out hb)
      have Y4 := Lib.hid (box_below Y3.out hb)
      have F4 : Hid (Fr S W w4) := Lib.hid (F3.out.step (.of_below hb))
      have W4 := Lib.hid (W3.out.keep hb)
      clear hb c3 c4 X3 Y3 F3 W3
      cases hh : hasB (y.1, y.2) ps
      · have SK2 : Hid (skip ps l = skip ps (l.drop (k + 1))) := Lib.hid (by rw [SK.out, skip_cons hh])
        go_wp2_with fail
        go_roundw
        case rel => exact ⟨k + 1, rfl, by omega, Lib.hid ⟨W4.out, Y4.out, F4.out, SK2.out⟩⟩
        case measure => simp [intOf]; omega
      · have e2 : y = x ∧ l.drop (k + 1) = r := by
          have h5 := HN.out
          rw [nx_old (SK.out.trans (skip_here hh))] at h5
          injection h5 with h5 h6
          exact ⟨h5, h6⟩
        obtain ⟨rfl, e3⟩ := e2
        have W5 := Lib.hid (show Wl 51 p r S w4 from e3 ▸ W4.out)
        obtain ⟨c3, c4⟩ := box_cells X4.out
        obtain ⟨d3, d4⟩ := box_cells Y4.out
        obtain ⟨f3, f4⟩ := box_free Y4.out
        have Z := Lib.hid (box_set Y4.out y.1 y.2)
        obtain ⟨q0, q1⟩ := box_cells Z.out
        have F5 : Hid (Fr (fun k => k = g1) w4 ((w4.setCell ⟨g1, 0, none⟩ (.int .i64 y.1)).setCell ⟨g1, 1, none⟩ (.int .i64 y.2))) := Lib.hid ((Fr.of_set (S := fun k => k = g1) _ _ rfl).step (.of_set (S := fun k => k = g1) _ _ rfl))
        clear e3
        go_wp2_with fail
        refine bodyPost_ret (v := .tuple #[.agg #[.int .i64 y.1, .int .i64 y.2], .bool true]) (by simp [results, Try.results10, go_sem, q0, q1]) rfl ?_
        refine ⟨rfl, S, W5.out.frame F5.out fun k hk e => by have := HLT.out k hk; omega, .of_fr (F4.out.trans F5.out fun i e => .inr (by have := HG.out; omega))⟩
    · have hdd : decide ((k : Int) < (l.length : Int)) = false := decide_eq_false (by omega)
      have hk2 : l.drop k = [] := List.drop_eq_nil_of_le (by omega)
      have HR : Hid (rowP ps d = x :: r) := Lib.hid (by
        have h5 := HN.out
        rwa [nx_new (HX.out.sk.trans (by rw [hk2]; rfl))] at h5)
      go_wp2_with fail
      refine (row_any _ ps d _ (HU.out _ HX.out.fr) HPL.out hd).mono ?_
      rintro e w2 ⟨t, rfl, hv, hb⟩
      rw [HR.out] at hv
      have V2 := Lib.hid hv
      have X2 := Lib.hid (box_below HX.out.bx hb)
      have F2 : Hid (Fr S W w2) := Lib.hid (HX.out.fr.step (.of_below hb))
      obtain ⟨v2, W2⟩ := HX.out.wl.keep hb
      have LO := Lib.hid HX.out.fr.size
      have GB := Lib.hid (box_lt HX.out.bx)
      have LT := Lib.hid (HX.out.wl.lt)
      have WW := Lib.hid W2
      have c2 := one_cell W2.box
      have f2 := one_free W2.box
      clear hv hb HX W2 HN HR
      rcases V2.out with ⟨rfl, e0⟩ | ⟨g, c, rfl, hc, hg, hj⟩
      · cases e0
      · have hpp := LT.out _ WW.out.inp
        have P3 := Lib.hid (WW.out.put V2.out.ids (fun b hb => by have := V2.out.own hb; exact ⟨by omega, this.2⟩))
        have F3 : Hid (Fr (fun k => k = p) w2 (w2.setCell ⟨p, 0, none⟩ (.slice (some ⟨g, 0, none⟩) (x :: r).length c))) := Lib.hid (.of_set _ _ rfl)
        have hpS := HLT.out _ WW.out.inp
        have X3 : Hid (Box (w2.setCell ⟨p, 0, none⟩ (.slice (some ⟨g, 0, none⟩) (x :: r).length c)) g1 0 0) := Lib.hid (Box.frame X2.out F3.out (fun (e : g1 = p) => by omega))
        have HO := Lib.hid hg
        clear hc hg hj V2
        go_upto_region 10 with fail
        clear c2 f2
        generalize w2.setCell ⟨p, 0, none⟩ (.slice (some ⟨g, 0, none⟩) (x :: r).length c) = w3 at *
        go_wp2_with fail
        refine (take_any (x := x) ⟨_, P3.out⟩).mono ?_
        rintro e w4 ⟨rfl, hw4, hf4⟩
        have SB : Hid (∀ i, (S i ∨ (Value.slice (some ⟨g, 0, none⟩) (x :: r).length c).ownBlock = some i) → S i ∨ W.heap.size ≤ i) := Lib.hid (fun i hi => hi.imp id fun e => by
          have e : g = i := Option.some.inj e
          have := HO.out
          have := LO.out
          omega)
        have S1 : Hid (∀ i, (S i ∨ (Value.slice (some ⟨g, 0, none⟩) (x :: r).length c).ownBlock = some i) → i ≠ g1) := Lib.hid (fun i hi e1 => by
          rcases hi with hi | e
          · have := HLT.out i hi
            omega
          · have e : g = i := Option.some.inj e
            have := HO.out
            have := GB.out
            omega)
        have X4 : Hid (Box w4 g1 0 0) := Lib.hid (Box.frame X3.out hf4 (fun e => S1.out g1 e rfl))
        have W4 := Lib.hid hw4
        have F4 : Hid (Fr S W w4) := Lib.hid ((F2.out.step (F3.out.mono fun k e => e ▸ WW.out.inp)).trans hf4 SB.out)
        clear hw4 hf4 X3 P3 F3 F2
        obtain ⟨d3, d4⟩ := box_cells X4.out
        obtain ⟨f3, f4⟩ := box_free X4.out
        have Z := Lib.hid (box_set X4.out x.1 x.2)
        obtain ⟨q0, q1⟩ := box_cells Z.out
        have F5 : Hid (Fr (fun k => k = g1) w4 ((w4.setCell ⟨g1, 0, none⟩ (.int .i64 x.1)).setCell ⟨g1, 1, none⟩ (.int .i64 x.2))) := Lib.hid ((Fr.of_set (S := fun k => k = g1) _ _ rfl).step (.of_set (S := fun k => k = g1) _ _ rfl))
        go_wp2_with fail
        refine bodyPost_ret (v := .tuple #[.agg #[.int .i64 x.1, .int .i64 x.2], .bool true]) (by simp [results, Try.results10, go_sem, q0, q1]) rfl ?_
        refine ⟨rfl, _, W4.out.frame F5.out fun k hk e => S1.out k hk e, SB.out, F4.out.trans F5.out fun i e => .inr (by have := HG.out; omega)⟩
end Go.Proofs.Ytmgkbfhkipfimaa
