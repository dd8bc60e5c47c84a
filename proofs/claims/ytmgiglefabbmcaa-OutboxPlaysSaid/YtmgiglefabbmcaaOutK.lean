/-
  Walks over a box: all that wait are told; a copy. No statement is proved in this text.
-/
import Derived.Test.YtmgiglefabbmcaaOutJ
set_option maxRecDepth 20000
namespace Go.Proofs.Ytmgiglefabbmcaa
open Go Go.RowKit
/-- What stands while frames are copied, one by one. -/
structure AlG (w : World) (A : Option Addr) (c : Nat) (qs us : List Fq) (W : World) : Prop where
  r : Row14 W A c (us ++ qs.drop us.length)
  a : ∀ k, AB A k → w.heap.size ≤ k
  f : Frs W (fun k => w.heap.size ≤ k ∧ k < W.heap.size ∧ ¬ AB A k) us
  b : Below w.heap.size w W
  e : us.map (·.F) = (qs.take us.length).map (·.F)
theorem AlG.below {w W W' : World} {A : Option Addr} {c : Nat} {qs us : List Fq} (h : AlG w A c qs us W) (hb : Below W.heap.size W W') : AlG w A c qs us W' :=
  ⟨h.r.on (Below.on hb h.r.lt), h.a, (h.f.on (Below.on hb fun _ hk => hk.2.1)).mono fun _ hk => ⟨hk.1, Nat.lt_of_lt_of_le hk.2.1 hb.size, hk.2.2⟩, below_after h.b hb (Nat.le_refl _), h.e⟩
set_option maxHeartbeats 1000000 in
theorem AlG.next {w W W1 : World} {g o c : Nat} {qs us : List Fq} {u : Fq} (h : AlG w (some ⟨g, o, none⟩) c qs us W) (hk : us.length < qs.length) (hb : Below W.heap.size W W1) (hu : FO (fun k => W.heap.size ≤ k) W1 u) (he : u.F = qs[us.length].F) :
    AlG w (some ⟨g, o, none⟩) c qs (us ++ [u]) (W1.setCells g (o + us.length * 14) (fc u).toList) := by
  rcases h.r with ⟨e, _⟩ | ⟨g2, o2, cur, e, hg, hs, hc, hx⟩
  · cases e
  injection e with e
  injection e with e1 e2
  subst e1 e2
  have hgW : g < W.heap.size := row_lt hg
  have hg1 : W1.heap[g]? = some (.cells cur 32 (0, 0)) := (hb.block g hgW).trans hg
  obtain ⟨c4, g4, z4⟩ := shape_setCells g 32 (fc u).toList (o + us.length * 14) W1 cur hg1
  have hsz : (W1.setCells g (o + us.length * 14) (fc u).toList).heap.size = W1.heap.size := size_setCells _ _ _ _
  have hne : ∀ k, k ≠ g → (W1.setCells g (o + us.length * 14) (fc u).toList).heap[k]? = W1.heap[k]? := fun k hk => heap_setCells g _ _ _ k hk
  have hlen : (us ++ qs.drop us.length).length = qs.length := by simp; omega
  have hlen2 : ((us ++ [u]) ++ qs.drop (us ++ [u]).length).length = qs.length := by simp; omega
  have key : ∀ (j : Nat) (v : Value), (flatR encF ((us ++ [u]) ++ qs.drop (us ++ [u]).length))[j]? = some v → (W1.setCells g (o + us.length * 14) (fc u).toList).cell? ⟨g, o + j, none⟩ = some v := fun j v hv => by
    rw [List.append_assoc, flatR_append, flatR_append] at hv
    have hul : (flatR encF us).length = us.length * 14 := flat_len us
    have hu1 : (flatR encF [u]).length = 14 := flat_len [u]
    have hfl : (fc u).toList.length = 14 := rfl
    have hroom : us.length * 14 + 14 ≤ c * 14 := by rw [hlen] at hc; have : (us.length + 1) * 14 ≤ c * 14 := Nat.mul_le_mul_right _ (by omega); omega
    have hold : ∀ i x, (flatR encF (us ++ qs.drop us.length))[i]? = some x → W1.cell? ⟨g, o + i, none⟩ = some x := fun i x hi => by
      rw [cell_of_row _ _ _ _ _ _ hg1]
      exact hx i x hi
    rcases Nat.lt_or_ge j (us.length * 14) with hj | hj
    · rw [List.getElem?_append_left (by omega)] at hv
      rw [World.cell?_setCells_out g _ _ _ ⟨g, o + j, none⟩ (fun _ _ => .inl (by show o + j < _; omega))]
      exact hold j v (by rw [flatR_append, List.getElem?_append_left (by omega)]; exact hv)
    · rw [List.getElem?_append_right (by omega), hul] at hv
      rcases Nat.lt_or_ge (j - us.length * 14) 14 with hj2 | hj2
      · rw [List.getElem?_append_left (by omega)] at hv
        have hv2 : (fc u).toList[j - us.length * 14]? = some v := by
          have : flatR encF [u] = (fc u).toList := by simp [flatR, fc]
          rw [← this]
          exact hv
        obtain ⟨h1, h2⟩ := List.getElem?_eq_some_iff.1 hv2
        have := World.cell?_setCells_in g (fc u).toList (o + us.length * 14) W1 (fun i hi => by
          rw [cell_of_row _ _ _ _ _ _ hg1, Array.getElem?_eq_getElem (by omega)]; rfl) _ h1
        rw [show o + us.length * 14 + (j - us.length * 14) = o + j by omega, h2] at this
        exact this
      · rw [List.getElem?_append_right (by omega), hu1] at hv
        rw [World.cell?_setCells_out g _ _ _ ⟨g, o + j, none⟩ (fun _ _ => .inr (by show _ ≤ o + j; omega))]
        refine hold j v ?_
        rw [flatR_append, List.getElem?_append_right (by omega), hul, List.drop_eq_getElem_cons hk]
        have hc1 : flatR encF (qs[us.length] :: qs.drop (us.length + 1)) = encF qs[us.length] ++ flatR encF (qs.drop (us.length + 1)) := List.flatMap_cons
        rw [hc1, List.getElem?_append_right (by rw [encF_len]; omega), encF_len]
        simpa using hv
  have o4 : Only (fun k => k = g) W1 (W1.setCells g (o + us.length * 14) (fc u).toList) := only_setCells W1 g _ _
  generalize W1.setCells g (o + us.length * 14) (fc u).toList = W2 at *
  have hA : ∀ k, AB (some ⟨g, o, none⟩) k ↔ k = g := fun k => ⟨fun ⟨ad, e, hk⟩ => (by injection e with e; rw [← hk, ← e]), fun e => ⟨_, rfl, e.symm⟩⟩
  have hbw := below_after h.b hb (Nat.le_refl _)
  have hgw := h.a g ((hA g).2 rfl)
  have hws := h.b.size
  have hbs := hb.size
  refine ⟨.inr ⟨g, o, c4, rfl, g4, by rw [z4]; exact hs, by rw [hlen2]; rw [hlen] at hc; exact hc, fun j v hv => ?_⟩, h.a, ?_, hbw.trans (o4.below (by omega) fun k hk => by rw [hk]; exact hgw), ?_⟩
  · have := key j v hv
    rwa [cell_of_row _ _ _ _ _ _ g4] at this
  · have f1 : Frs W2 (fun k => w.heap.size ≤ k ∧ k < W.heap.size ∧ ¬ AB (some ⟨g, o, none⟩) k) us := (Frs.on (w' := W1) h.f (Below.on hb fun _ hk => hk.2.1)).on fun k hk => hne k fun e => hk.2.2 ((hA k).2 e)
    have f2 : FO (fun k => W.heap.size ≤ k ∧ k < W1.heap.size) W2 u := hu.bound.on fun k hk => hne k (by have := hk.1; omega)
    refine (Frs.snoc f2 f1 fun k hk e => by have := hk.1; have := e.2.1; omega).mono fun k hk => ?_
    rw [hsz]
    rcases hk with hk | hk
    · exact ⟨hk.1, by have := hk.2.1; omega, hk.2.2⟩
    · exact ⟨by have := hk.1; omega, hk.2, fun e => by have := (hA k).1 e; have := hk.1; omega⟩
  · rw [List.map_append, h.e, List.length_append, List.length_singleton, List.take_succ_eq_append_getElem hk, List.map_append]
    simp [he]
/-- What is told is a list of its own. -/
theorem AlG.out {w W : World} {A : Option Addr} {c : Nat} {qs us : List Fq} (h : AlG w A c qs us W) (hl : us.length = qs.length) : FL (fun k => w.heap.size ≤ k ∧ k < W.heap.size) W (.slice A qs.length c) us ∧ us.map (·.F) = qs.map (·.F) := by
  have hr := h.r
  rw [hl, List.drop_length, List.append_nil] at hr
  refine ⟨⟨A, c, by rw [hl], hr, fun k hk => ⟨h.a k hk, hr.lt k hk⟩, h.f.mono fun k hk => ⟨⟨hk.1, hk.2.1⟩, hk.2.2⟩⟩, ?_⟩
  have := h.e
  rwa [hl, List.take_length] at this
set_option maxHeartbeats 8000000 in
theorem all_any (T : Nat → Prop) (w : World) (p : Nat) (mx : Int) (qs : List Fq) (h : BoxAt T w p mx qs) (hF : ∀ q ∈ qs, Fit 20000 q.F.v) :
    Calls Try.prog 15 #[.pointer (some ⟨p, 0, none⟩)] w fun e w' => ∃ us v, e = .returned v ∧ us.map (·.F) = qs.map (·.F) ∧ FL (fun k => w.heap.size ≤ k ∧ k < w'.heap.size) w' v us ∧ Below w.heap.size w w' := by
  obtain ⟨A0, c0, x0, x1, -, hr⟩ := h.cells
  have HR := Lib.hid hr
  have HFR := Lib.hid (show ∀ q ∈ qs, FR w q by obtain ⟨_, _, _, _, _, hf⟩ := h.box; exact hf.each)
  have HF := Lib.hid hF
  have HL := Lib.hid h.few
  have hfew := h.few
  clear h hr hF
  go_enter Try.func15, Try.ntmps15
  go_wp2_with fail
  (with_reducible refine (copiedF_any _ qs _ HR.out (Nat.le_trans HL.out (by decide))).mono ?_)
  rintro e1 w1 ⟨X, rfl, ho, hb⟩
  obtain ⟨A, c, rfl, -, hrow, ha⟩ := row14_own ho
  have G1 : Hid (AlG w A c qs [] w1) := Lib.hid ⟨hrow, ha, trivial, hb, rfl⟩
  clear ho hb hrow ha x0 x1
  go_wp2_with fail
  go_loopw [4, 5, 15] (fun s4 s5 s15 wr => ∃ (k : Nat) (us : List Fq), k ≤ qs.length ∧ s15 = .int .i64 k ∧ us.length = k ∧ Hid (AlG w A c qs us wr)) (fun _ _ s15 _ => qs.length - (intOf s15).toNat)
  case atStart => exact ⟨0, [], by omega, rfl, rfl, G1⟩
  case round =>
    obtain ⟨k, us, hkl, rfl, hn, G2⟩ := hrel
    have i3 : (0 : Int) ≤ (k : Int) := by omega
    by_cases hlt : k < qs.length
    · have hd : decide ((k : Int) < (qs.length : Int)) = true := by simp; omega
      have i4 : (k : Int) < (qs.length : Int) := by omega
      subst hn
      obtain ⟨g, o, hA, HRA⟩ : ∃ g o, A = some ⟨g, o, none⟩ ∧ wr.rangeAt g (o + us.length * 14) (encF qs[us.length]) := by
        rcases G2.out.r with ⟨_, _, e⟩ | ⟨g, o, cur, e, hg, _, _, hx⟩
        · exfalso
          have := congrArg List.length e
          simp at this
          omega
        · refine ⟨g, o, e, fun j v hv => ?_⟩
          rw [Nat.add_assoc, cell_of_row _ _ _ _ _ _ hg]
          refine hx _ _ ?_
          have hm : us.length < (us ++ qs.drop us.length).length := by simp; omega
          refine flatR_at encF_len _ us.length hm j v ?_
          have : (us ++ qs.drop us.length)[us.length] = qs[us.length] := by
            rw [List.getElem_append_right (Nat.le_refl _)]
            simp
          rw [this]
          exact hv
      subst hA
      have HT : Hid (∀ W, Below wr.heap.size wr W → W.there g (o + us.length * 14) 14) := Lib.hid fun W hW j hj => by
        rcases G2.out.r with ⟨e, _⟩ | ⟨g', o', cur, e, hg, hs, hc, _⟩
        · cases e
        · injection e with e
          injection e with e1 e2
          subst e1 e2
          have hg1 := (hW.block g (row_lt hg)).trans hg
          have hl : (us ++ qs.drop us.length).length = qs.length := by simp; omega
          rw [hl] at hc
          have : (us.length + 1) * 14 ≤ c * 14 := Nat.mul_le_mul_right _ (by omega)
          exact ⟨by rw [cell_of_row _ _ _ _ _ _ hg1, Array.getElem?_eq_getElem (by omega)]; rfl, frozen_of_row _ _ _ _ _ hg1⟩
      have RA := Lib.hid HRA
      clear HRA
      have HQF := Lib.hid (HFR.out _ (List.getElem_mem hlt))
      have HQV := Lib.hid (HF.out _ (List.getElem_mem hlt))
      have L32 : Hid ((Try.prog.info? 32).map (·.size) = some (encF qs[us.length]).length) := Lib.hid (by rw [encF_len]; kernel_rfl)
      obtain ⟨q, hq⟩ : ∃ q, qs[us.length] = q := ⟨_, rfl⟩
      rw [hq] at RA HQF HQV L32
      have HQ := Lib.hid hq
      clear hq
      have SQ := Lib.hid (size32 q)
      have B3 : Hid (Below wr.heap.size wr ((wr.alloc (.cells #[.int .u8 0, .int .i64 0, .int .i64 0, .int .i64 0, .int .i64 0, .int .i64 0, .int .i64 0, .int .i64 0, .int .i64 0, .slice none 0 0, .slice none 0 0, .slice none 0 0, .slice none 0 0, .slice none 0 0] 32)).setRow wr.heap.size (fc q))) := Lib.hid (below_setRow (below_one wr (.cells #[.int .u8 0, .int .i64 0, .int .i64 0, .int .i64 0, .int .i64 0, .int .i64 0, .int .i64 0, .int .i64 0, .int .i64 0, .slice none 0 0, .slice none 0 0, .slice none 0 0, .slice none 0 0, .slice none 0 0] 32)) (Nat.le_refl _) _)
      have X3 : Hid (FB ((wr.alloc (.cells #[.int .u8 0, .int .i64 0, .int .i64 0, .int .i64 0, .int .i64 0, .int .i64 0, .int .i64 0, .int .i64 0, .int .i64 0, .slice none 0 0, .slice none 0 0, .slice none 0 0, .slice none 0 0, .slice none 0 0] 32)).setRow wr.heap.size (fc q)) wr.heap.size q) := Lib.hid (setRow_set (heap_alloc_new wr (.cells #[.int .u8 0, .int .i64 0, .int .i64 0, .int .i64 0, .int .i64 0, .int .i64 0, .int .i64 0, .int .i64 0, .int .i64 0, .slice none 0 0, .slice none 0 0, .slice none 0 0, .slice none 0 0, .slice none 0 0] 32)))
      have ZZ := Lib.hid (heap_alloc_new wr (.cells #[.int .u8 0, .int .i64 0, .int .i64 0, .int .i64 0, .int .i64 0, .int .i64 0, .int .i64 0, .int .i64 0, .int .i64 0, .slice none 0 0, .slice none 0 0, .slice none 0 0, .slice none 0 0, .slice none 0 0] 32))
      go_upto_region 7 with first
        | (refine wpList_load_mid rfl 32 (.tmp 18) rfl g (o + us.length * 14) rfl (encF q) _ RA.out Try.underlying32 rfl L32.out ?_)
        | (refine wpList_store_row rfl 32 (.tmp 5) (.tmp 19) rfl wr.heap.size (fc q) rfl rfl 32 #[.int .u8 0, .int .i64 0, .int .i64 0, .int .i64 0, .int .i64 0, .int .i64 0, .int .i64 0, .int .i64 0, .int .i64 0, .slice none 0 0, .slice none 0 0, .slice none 0 0, .slice none 0 0, .slice none 0 0] ZZ.out SQ.out rfl (fc_one _) ?_)
      generalize (wr.alloc (.cells #[.int .u8 0, .int .i64 0, .int .i64 0, .int .i64 0, .int .i64 0, .int .i64 0, .int .i64 0, .int .i64 0, .int .i64 0, .slice none 0 0, .slice none 0 0, .slice none 0 0, .slice none 0 0, .slice none 0 0] 32)).setRow wr.heap.size (fc q) = w3 at *
      clear ZZ RA
      go_wp2_with (refine wpList_load_row rfl 32 (.tmp 5) rfl wr.heap.size rfl 32 (fc q) (0, 0) _ X3.out Try.underlying32 rfl SQ.out ?_)
      have HQ3 := Lib.hid (HQF.out.below (below_after G2.out.b B3.out (Nat.le_refl _)))
      (with_reducible refine (apart_any q _ HQ3.out HQV.out).mono ?_)
      rintro e4 w4 ⟨u, rfl, hu, ho, hb⟩
      have B4 := Lib.hid (below_after B3.out hb (Nat.le_refl _))
      have G5 := Lib.hid (G2.out.next hlt B4.out (ho.mono fun k hk => Nat.le_trans B3.out.size hk) (by rw [HQ.out]; exact hu))
      have SU := Lib.hid (size32 u)
      have HT4 := Lib.hid (HT.out _ B4.out)
      clear hu ho hb G2 X3 B3 HQ3
      go_upto_region 8 with (refine wpList_store_mid rfl 32 (.tmp 24) (.tmp 23) rfl g (o + us.length * 14) (fc u) rfl rfl HT4.out SU.out (fc_one u) ?_)
      generalize w4.setCells g (o + us.length * 14) (fc u).toList = w5 at *
      go_wp2_with fail
      go_roundw
      case rel => exact ⟨us.length + 1, _, by omega, by go_num, by simp, G5⟩
      case measure => simp [intOf]; omega
    · obtain rfl : k = qs.length := by omega
      have hd : decide ((qs.length : Int) < (qs.length : Int)) = false := by simp
      have D := Lib.hid (G2.out.out hn)
      have B := Lib.hid G2.out.b
      clear G2
      go_wp2_with fail
      go_ret
      exact ⟨us, _, rfl, D.out.2, D.out.1, B.out⟩
theorem all_nil (w : World) : Calls Try.prog 15 #[.pointer none] w fun e w' => e = .returned (.slice none 0 0) ∧ w = w' := by
  go_enter Try.func15, Try.ntmps15
  go_wp2_with fail
  go_ret
  exact ⟨rfl, rfl⟩
theorem copy_nil (w : World) : Calls Try.prog 16 #[.pointer none] w fun e w' => e = .returned (.pointer none) ∧ w = w' := by
  go_enter Try.func16, Try.ntmps16
  go_wp2_with fail
  go_ret
  exact ⟨rfl, rfl⟩
theorem FL.on {S : Nat → Prop} {w w' : World} {v : Value} {qs : List Fq} (h : FL S w v qs) (ho : On S w w') : FL S w' v qs := by
  obtain ⟨A, c, h1, h2, h3, h4⟩ := h
  exact ⟨A, c, h1, h2.on (ho.mono h3), h3, h4.on (ho.mono fun _ hk => hk.1)⟩
theorem FL.mono {S T : Nat → Prop} {w : World} {v : Value} {qs : List Fq} (h : FL S w v qs) (hS : ∀ k, S k → T k) : FL T w v qs := by
  obtain ⟨A, c, h1, h2, h3, h4⟩ := h
  exact ⟨A, c, h1, h2, fun k hk => hS k (h3 k hk), h4.mono fun k hk => ⟨hS k hk.1, hk.2⟩⟩
theorem FL.rcs {S : Nat → Prop} {w : World} {v : Value} {qs : List Fq} (h : FL S w v qs) : Rcs encF 14 w v qs := by
  obtain ⟨A, c, h1, h2, _⟩ := h
  rw [h1]
  exact h2.rcs
theorem FL.each {S : Nat → Prop} {w : World} {v : Value} {qs : List Fq} (h : FL S w v qs) : ∀ q ∈ qs, FR w q := by
  obtain ⟨A, c, h1, h2, h3, h4⟩ := h
  exact h4.each
/-- A box made of such a list. -/
theorem FL.boxed {w w1 : World} {A : Option Addr} {n c : Nat} {us : List Fq} {mx : Int} (h : FL (fun k => w.heap.size ≤ k ∧ k < w1.heap.size) w1 (.slice A n c) us) (hs : w.heap.size ≤ w1.heap.size) (hm : 1 ≤ mx ∧ mx ≤ 4096) (hl : (us.length : Int) ≤ mx) :
    BoxAt (fun k => w.heap.size ≤ k ∧ k < w1.heap.size + 1) (w1.alloc (.cells #[.int .i64 mx, .slice A n c] 71)) w1.heap.size mx us := by
  obtain ⟨A', c', e, h2, h3, h4⟩ := h
  injection e with e1 e2 e3
  subst e1 e2 e3
  have hb := below_one w1 (.cells #[.int .i64 mx, .slice A us.length c] 71)
  refine ⟨⟨A, c, heap_alloc_new w1 _, h2.on (Below.on hb h2.lt), fun k hk => ⟨(h3 k hk).1, by have := (h3 k hk).2; omega⟩, (h4.on (Below.on hb fun _ hk => hk.1.2)).mono fun k hk => ⟨⟨hk.1.1, by have := hk.1.2; omega⟩, by have := hk.1.2; omega, hk.2⟩⟩, ⟨hs, by omega⟩, fun k hk => by have := hk.2; simpa using this, hm, hl⟩
set_option maxHeartbeats 4000000 in
theorem copy_any (T : Nat → Prop) (w : World) (p : Nat) (mx : Int) (qs : List Fq) (h : BoxAt T w p mx qs) (hF : ∀ q ∈ qs, Fit 20000 q.F.v) :
    Calls Try.prog 16 #[.pointer (some ⟨p, 0, none⟩)] w fun e w' => ∃ (us : List Fq) (p' : Nat) (T' : Nat → Prop), e = .returned (.pointer (some ⟨p', 0, none⟩)) ∧ us.map (·.F) = qs.map (·.F) ∧ BoxAt T' w' p' mx us ∧ (∀ k, T' k → w.heap.size ≤ k) ∧ Below w.heap.size w w' := by
  obtain ⟨A0, c0, x0, -, -, -⟩ := h.cells
  have HM := Lib.hid h.hm
  have HLN := Lib.hid h.len
  have HA := Lib.hid (all_any T w.drew p mx qs (h.below (below_drewN (n := 1) (Below.refl _ _))) hF)
  have X0 := Lib.hid x0
  clear h hF
  go_enter Try.func16, Try.ntmps16
  go_wp2_with fail
  refine wp_region_held_drew (S := fun W => W.cell? ⟨p, 0, none⟩ = some (.int .i64 mx)) (by kernel_rfl) ?_ (fun hHeld => ?_)
  · exact X0.out
  (refine wpAnyH_take (i := 0) (oi := ⟨_, _, _, _, _, _⟩) (v := ?_) rfl (by kernel_rfl) (by kernel_rfl) (by kernel_rfl) (fun _ _ _ h => h) (Or.inl ⟨by rfl, ?_⟩) (by assumption) ?_; rotate_left 1; · (intro w hSw; (try dsimp only at hSw); go_simp; all_goals with_reducible rfl))
  try simp only [Act.put, List.setIfInBounds_toArray, List.set_cons_zero, List.set_cons_succ]
  (refine wpAnyH_take (i := 1) (oi := ⟨_, _, _, _, _, _⟩) (v := ?_) rfl (by kernel_rfl) (by kernel_rfl) (by kernel_rfl) (fun _ _ _ h => h) (Or.inl ⟨by rfl, ?_⟩) (by assumption) ?_; rotate_left 1; · (intro w hSw; (try dsimp only at hSw); go_simp; all_goals with_reducible rfl))
  try simp only [Act.put, List.setIfInBounds_toArray, List.set_cons_zero, List.set_cons_succ]
  (refine wpAnyH_take (i := 2) (oi := ⟨_, _, _, _, _, _⟩) (v := ?_) rfl (by kernel_rfl) (by kernel_rfl) (by kernel_rfl) (fun _ _ _ h => h) (Or.inl ⟨by rfl, ?_⟩) (by assumption) ?_; rotate_left 1; · (intro w hSw; (try dsimp only at hSw); go_simp; all_goals with_reducible rfl))
  try simp only [Act.put, List.setIfInBounds_toArray, List.set_cons_zero, List.set_cons_succ]
  (refine wpAnyH_take (i := 3) (oi := ⟨_, _, _, _, _, _⟩) (v := ?_) rfl (by kernel_rfl) (by kernel_rfl) (by kernel_rfl) (fun _ _ _ h => h) (Or.inl ⟨by rfl, ?_⟩) (by assumption) ?_; rotate_left 1; · (intro w hSw; (try dsimp only at hSw); go_simp; all_goals with_reducible rfl))
  try simp only [Act.put, List.setIfInBounds_toArray, List.set_cons_zero, List.set_cons_succ]
  (refine wpAnyH_take (i := 4) (oi := ⟨_, _, _, _, _, _⟩) (v := ?_) rfl (by kernel_rfl) (by kernel_rfl) (by kernel_rfl) (fun _ _ _ h => h) (Or.inl ⟨by rfl, ?_⟩) (by assumption) ?_; rotate_left 1; · (intro w hSw; (try dsimp only at hSw); go_simp; all_goals with_reducible rfl))
  try simp only [Act.put, List.setIfInBounds_toArray, List.set_cons_zero, List.set_cons_succ]
  refine wpAnyH_ready (rs := [5]) (by kernel_rfl) (by simp) ?_
  refine AllReadyH.cons (o := ⟨_, _, _, _, _, _⟩) rfl (fun Kq hKq => ?_) AllReadyH.nil
  go_simp
  clear hHeld
  (go_at_call 15; (with_reducible refine HA.out.mono ?_); rintro e1 w1 ⟨us, v, rfl, he, hl, hb⟩; have HE := Lib.hid he; obtain ⟨A, c, hv, hrest⟩ := id hl; subst hv; clear hrest; have HL := Lib.hid hl; have HB := Lib.hid (show Below w.heap.size w w1 from ⟨hb.os, hb.tape, hb.output, hb.size, hb.block⟩); clear he hl hb)
  refine hKq.out _ _ ?_ (fun hHeld => ?_)
  · (try dsimp only); exact cell_below HB.out X0.out
  clear hKq Kq
  try simp only [Act.put, List.setIfInBounds_toArray, List.set_cons_zero, List.set_cons_succ]
  (refine wpAnyH_take (i := 6) (oi := ⟨_, _, _, _, _, _⟩) (v := ?_) rfl (by kernel_rfl) (by kernel_rfl) (by kernel_rfl) (fun _ _ _ h => h) (Or.inl ⟨by rfl, ?_⟩) (by assumption) ?_; rotate_left 1; · (intro w hSw; (try dsimp only at hSw); go_simp; all_goals with_reducible rfl))
  try simp only [Act.put, List.setIfInBounds_toArray, List.set_cons_zero, List.set_cons_succ]
  refine wpAnyH_ready (rs := [7]) (by kernel_rfl) (by simp) ?_
  refine AllReadyH.cons (o := ⟨_, _, _, _, _, _⟩) rfl (fun Kq hKq => ?_) AllReadyH.nil
  go_simp
  clear hHeld
  (have BX := Lib.hid (FL.boxed (w := w) (mx := mx) HL.out HB.out.size HM.out (by have := congrArg List.length HE.out; have := HLN.out; simp at *; omega)); have BF := Lib.hid (below_after HB.out (below_one w1 (.cells #[.int .i64 mx, .slice A us.length c] 71)) (Nat.le_refl _)))
  refine hKq.out _ _ ?_ (fun hHeld => ?_)
  · (try dsimp only); exact cell_below BF.out X0.out
  clear hKq Kq
  try simp only [Act.put, List.setIfInBounds_toArray, List.set_cons_zero, List.set_cons_succ]
  (refine wpAnyH_take (i := 8) (oi := ⟨_, _, _, _, _, _⟩) (v := ?_) rfl (by kernel_rfl) (by kernel_rfl) (by kernel_rfl) (fun _ _ _ h => h) (Or.inl ⟨by rfl, ?_⟩) (by assumption) ?_; rotate_left 1; · (intro w hSw; (try dsimp only at hSw); go_simp; all_goals with_reducible rfl))
  try simp only [Act.put, List.setIfInBounds_toArray, List.set_cons_zero, List.set_cons_succ]
  refine wpAnyH_done (by kernel_rfl) ?_ _
  go_wp2_with fail
  go_ret
  exact ⟨us, _, _, rfl, HE.out, BX.out, fun k hk => hk.1, BF.out⟩
end Go.Proofs.Ytmgiglefabbmcaa
