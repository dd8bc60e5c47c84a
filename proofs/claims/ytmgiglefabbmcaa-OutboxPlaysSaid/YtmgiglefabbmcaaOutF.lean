/-
  Walks over what asks little: which frames are replaceable, the first such one, a new box, how many wait. No statement is proved in this text.
-/
import Derived.Test.YtmgiglefabbmcaaOutE
set_option maxRecDepth 20000
namespace Go.Proofs.Ytmgiglefabbmcaa
open Go Go.RowKit
/-- Is a frame replaceable? -/
def kn (F : Fr) : Bool := F.k == 3 || F.k == 4
/-- The first that is. -/
def fi : List Fr → Nat
  | [] => 0
  | F :: L => if kn F = true then 0 else fi L + 1
theorem fi_le : ∀ L : List Fr, fi L ≤ L.length
  | [] => Nat.le_refl _
  | F :: L => by unfold fi; split <;> simp <;> have := fi_le L <;> omega
theorem fi_hit : ∀ {L : List Fr} {k : Nat} (hk : k < L.length), kn L[k] = true → (∀ (j : Nat) (h : j < k), kn (L[j]'(Nat.lt_trans h hk)) = false) → fi L = k
  | [], _, hk, _, _ => absurd hk (by simp)
  | F :: L, 0, _, h, _ => by unfold fi; exact if_pos h
  | F :: L, k + 1, hk, h, hb => by
    have h0 := hb 0 (by omega)
    simp only [List.getElem_cons_zero] at h0
    unfold fi
    rw [if_neg (by rw [h0]; simp), fi_hit (k := k) (by simpa using hk) (by simpa using h) fun j hj => by have := hb (j + 1) (by omega); simpa using this]
theorem fi_none : ∀ {L : List Fr}, (∀ (j : Nat) (h : j < L.length), kn L[j] = false) → fi L = L.length
  | [], _ => rfl
  | F :: L, hb => by
    have h0 := hb 0 (by simp)
    simp only [List.getElem_cons_zero] at h0
    unfold fi
    rw [if_neg (by rw [h0]; simp), fi_none fun j hj => by have := hb (j + 1) (by simpa using hj); simpa using this]
    rfl
theorem fi_is : ∀ {L : List Fr} (h : fi L < L.length), kn L[fi L] = true ∧ ∀ (j : Nat) (hj : j < fi L), kn (L[j]'(Nat.lt_trans hj h)) = false
  | [], h => absurd h (by simp [fi])
  | F :: L, h => by
    by_cases hF : kn F = true
    · have e : fi (F :: L) = 0 := by unfold fi; exact if_pos hF
      refine ⟨?_, fun j hj => by omega⟩
      simp only [e, List.getElem_cons_zero]
      exact hF
    · have e : fi (F :: L) = fi L + 1 := by rw [fi]; exact if_neg hF
      have h2 : fi L < L.length := by rw [e] at h; simpa using h
      obtain ⟨k1, k2⟩ := fi_is h2
      refine ⟨?_, fun j hj => ?_⟩
      · simp only [e, List.getElem_cons_succ]
        exact k1
      · cases j with
        | zero => simpa using hF
        | succ j => simp only [List.getElem_cons_succ]; exact k2 j (by omega)
/-- Its place, or -1. -/
def dz (L : List Fr) : Int := if fi L < L.length then (fi L : Int) else -1
theorem addr_twice (a : Addr) (j k : Nat) : (a.add j).add k = a.add (j + k) := by
  rcases Nat.eq_zero_or_pos j with rfl | h
  · rw [Nat.zero_add]
    congr 1
  · exact addr_add_add a j k h
/-- A struct is loaded, wherever it lies. -/
theorem wpList_load_recs {P : Program} {ops : Array Oper} {rest : List Oper} {op : Oper} {a : Act} {w : World} {Q : Exit → Act → World → Prop} (hgd : op.guard = none) (ty : TypeId) (x : Operand) (ho : op.op = .load ty x)
    (ad : Addr) (hx : a.eval x = .pointer (some ad)) (cs : Array Value) (d : TypeDesc) (hc : ∀ j v, cs[j]? = some v → w.cell? (ad.add j) = some v)
    (hu : P.underlying ty = some d) (hd : d.isRow = true) (hi : (P.info? ty).map (·.size) = some cs.size)
    (h : wpList P ops Q rest (a.put op.dst (.agg cs)) w) : wpList P ops Q (op :: rest) a w := by
  refine wpList_plain hgd fun _ hK => ?_
  have hl : (loadCells ad cs.toList.length).run P w = .ok cs.toList.toArray w := run_loadCells_list (P := P) w ad cs.toList (fun j v hv => hc j v (by simpa using hv))
  have hv : (loadVar ty ad).run P w = .ok (.agg cs) w := by
    cases hq : P.info? ty with
    | none => simp [hq] at hi
    | some i =>
      have hs : i.size = cs.size := by simpa [hq] using hi
      have hagg : (isAgg ty).run P w = .ok true w := by
        unfold isAgg
        rw [Sem.run_bind, run_underlying hu w]
        cases d <;> simp_all
      simp only [Array.length_toList, Array.toArray_toList] at hl
      simp [loadVar, Sem.run_bind, hagg, sizeOf, typeInfo, hq, hs, hl]
  unfold Oper.wp execOp
  simp only [ho, hx, Instr.loadAt, Instr.sureAddr, Sem.run_bind, Sem.run_pure, Result.andThen_ok, hv]
  exact hK _ _ h
/-- A frame of a list, as the walk meets it. -/
theorem rcs_frame {w w' : World} {ad : Addr} {n c : Nat} {qs : List Fq} (h : Rcs encF 14 w (.slice (some ad) n c) qs) (hb : Below w.heap.size w w') {k : Nat} (hk : k < qs.length) : ∀ j v, (fc qs[k])[j]? = some v → w'.cell? ((ad.add (k * 14)).add j) = some v := by
  obtain ⟨A, c', hv, _, _, hx⟩ := h.below hb
  injection hv with e1 _ _
  subst e1
  obtain ⟨ad', e, _, h3⟩ := hx k hk
  injection e with e
  subst e
  intro j v hj
  rw [addr_twice]
  exact h3 j v (by unfold fc at hj; simpa using hj)
set_option maxHeartbeats 1000000 in
theorem closure_any (q : Fq) (w : World) : Calls Try.prog 41 #[.agg (fc q)] w fun e w' => e = .returned (.bool (kn q.F)) ∧ Below w.heap.size w w' := by
  obtain ⟨p0, -⟩ := fb_cells (fb_new w q)
  have B := Lib.hid (below_one w (.cells (fc q) 32))
  have HK : Hid (kn q.F = ((q.F.k == 3) || (q.F.k == 4))) := Lib.hid rfl
  generalize kn q.F = z at *
  rcases hb : (q.F.k == 3) with _ | _
  · have HB := Lib.hid hb
    go_enter Try.func41, Try.ntmps41
    go_wp2_with fail
    go_ret
    exact ⟨ret_bool (by rw [HK.out, HB.out]; rfl), B.out⟩
  · have HB := Lib.hid hb
    go_enter Try.func41, Try.ntmps41
    go_wp2_with fail
    go_ret
    exact ⟨ret_bool (by rw [HK.out, HB.out]; rfl), B.out⟩
set_option maxHeartbeats 1000000 in
theorem known_any (q : Fq) (w : World) : Calls Try.prog 27 #[.agg (fc q)] w fun e w' => e = .returned (.bool (kn q.F)) ∧ Below w.heap.size w w' := by
  obtain ⟨p0, -⟩ := fb_cells (fb_new w q)
  have B := Lib.hid (below_one w (.cells (fc q) 32))
  have HK : Hid (kn q.F = ((q.F.k == 3) || (q.F.k == 4))) := Lib.hid rfl
  generalize kn q.F = z at *
  rcases hb : (q.F.k == 3) with _ | _
  · have HB := Lib.hid hb
    go_enter Try.func27, Try.ntmps27
    go_wp2_with fail
    go_ret
    exact ⟨ret_bool (by rw [HK.out, HB.out]; rfl), B.out⟩
  · have HB := Lib.hid hb
    go_enter Try.func27, Try.ntmps27
    go_wp2_with fail
    go_ret
    exact ⟨ret_bool (by rw [HK.out, HB.out]; rfl), B.out⟩
set_option maxHeartbeats 4000000 in
theorem index_any (v : Value) (qs : List Fq) (w : World) (h : Rcs encF 14 w v qs) (hl : qs.length ≤ 100000) :
    Calls Try.prog 40 #[v, .func (.func 41) #[] #[]] w fun e w' => e = .returned (.int .i64 (dz (qs.map (·.F)))) ∧ Below w.heap.size w w' := by
  have HI := Lib.hid h
  obtain ⟨A, c, rfl, hz⟩ := h
  clear hz
  have HD : Hid (dz (qs.map (·.F)) = if fi (qs.map (·.F)) < (qs.map (·.F)).length then (fi (qs.map (·.F)) : Int) else -1) := Lib.hid rfl
  generalize dz (qs.map (·.F)) = z at *
  go_enter Try.func40, Try.ntmps40
  go_wp2_with fail
  go_loopw [5, 8] (fun s5 s8 wr => ∃ k : Nat, k ≤ qs.length ∧ s8 = .int .i64 k ∧ Hid (∀ (j : Nat) (h : j < qs.length), j < k → kn qs[j].F = false) ∧ Hid (Below w.heap.size w wr)) (fun _ s8 _ => qs.length - (intOf s8).toNat)
  case atStart => exact ⟨0, by omega, rfl, Lib.hid (fun j _ h => absurd h (by omega)), Lib.hid (Below.refl _ _)⟩
  case round =>
    obtain ⟨k, hkl, rfl, HK, HW⟩ := hrel
    have i3 : (0 : Int) ≤ (k : Int) := by omega
    by_cases hlt : k < qs.length
    · have hd : decide ((k : Int) < (qs.length : Int)) = true := by simp; omega
      have i4 : (k : Int) < (qs.length : Int) := by omega
      obtain ⟨ad, rfl⟩ := HI.out.addr (Nat.lt_of_le_of_lt (Nat.zero_le _) hlt)
      have HC := Lib.hid (rcs_frame HI.out HW.out hlt)
      go_wp2_with (refine wpList_load_recs rfl 32 (.tmp 14) rfl _ rfl (fc qs[k]) _ HC.out Try.underlying32 rfl (size32 _) ?_)
      (with_reducible refine (closure_any _ _).mono ?_)
      rintro e1 w1 ⟨rfl, hb⟩
      have B1 := Lib.hid (below_after HW.out hb (Nat.le_refl _))
      clear hb
      rcases hkn : kn qs[k].F with _ | _
      · have HN := Lib.hid hkn
        go_wp2_with fail
        go_roundw
        case rel => exact ⟨k + 1, by omega, by go_num, Lib.hid (fun j h hj => by
          rcases Nat.lt_or_ge j k with h2 | h2
          · exact HK.out j h h2
          · obtain rfl : j = k := by omega
            exact HN.out), B1⟩
        case measure => simp [intOf]; omega
      · have HN := Lib.hid hkn
        clear hkn
        have hf : fi (qs.map (·.F)) = k := fi_hit (by simpa using hlt) (by simpa using HN.out) (fun j hj => by have := HK.out j (by omega) hj; simpa using this)
        have HZ := Lib.hid (show z = (k : Int) by rw [HD.out, hf, if_pos (by simpa using hlt)])
        clear hf
        have hn2 := HN.out
        go_wp2_with fail
        go_ret
        exact ⟨ret_int HZ.out.symm, B1.out⟩
    · obtain rfl : k = qs.length := by omega
      have hd : decide ((qs.length : Int) < (qs.length : Int)) = false := by simp
      have hf : fi (qs.map (·.F)) = (qs.map (·.F)).length := fi_none (fun j hj => by have := HK.out j (by simpa using hj) (by simpa using hj); simpa using this)
      have HZ := Lib.hid (show z = -1 by rw [HD.out, hf, if_neg (by omega)])
      clear hf
      go_wp2_with fail
      go_ret
      exact ⟨ret_int HZ.out.symm, HW.out⟩
/-- A box's cells. -/
theorem BoxAt.cells {T : Nat → Prop} {w : World} {p : Nat} {mx : Int} {qs : List Fq} (h : BoxAt T w p mx qs) : ∃ (A : Option Addr) (c : Nat), w.cell? ⟨p, 0, none⟩ = some (.int .i64 mx) ∧ w.cell? ⟨p, 1, none⟩ = some (.slice A qs.length c) ∧ w.frozen? ⟨p, 1, none⟩ = false ∧ Rcs encF 14 w (.slice A qs.length c) qs := by
  obtain ⟨A, c, h1, h2, _⟩ := h.box
  exact ⟨A, c, by rw [cell_of_row _ _ _ _ _ _ h1]; rfl, by rw [cell_of_row _ _ _ _ _ _ h1]; rfl, by simp [World.frozen?, h1], h2.rcs⟩
theorem BoxAt.few {T : Nat → Prop} {w : World} {p : Nat} {mx : Int} {qs : List Fq} (h : BoxAt T w p mx qs) : qs.length ≤ 4096 := by have := h.hm; have := h.len; omega
theorem displaced_any (T : Nat → Prop) (w : World) (p : Nat) (mx : Int) (qs : List Fq) (h : BoxAt T w p mx qs) :
    Calls Try.prog 30 #[.pointer (some ⟨p, 0, none⟩)] w fun e w' => e = .returned (.int .i64 (dz (qs.map (·.F)))) ∧ Below w.heap.size w w' := by
  obtain ⟨A, c, c0, c1, -, hr⟩ := h.cells
  have HR := Lib.hid hr
  have HF := Lib.hid h.few
  clear hr h
  go_enter Try.func30, Try.ntmps30
  go_wp2_with fail
  (with_reducible refine (index_any _ qs _ HR.out (Nat.le_trans HF.out (by decide))).mono ?_)
  rintro e1 w1 ⟨rfl, hb⟩
  have B := Lib.hid hb
  clear hb
  go_wp2_with fail
  go_ret
  exact ⟨rfl, B.out⟩
theorem len_any (T : Nat → Prop) (w : World) (p : Nat) (mx : Int) (qs : List Fq) (h : BoxAt T w p mx qs) :
    Calls Try.prog 14 #[.pointer (some ⟨p, 0, none⟩)] w fun e w' => e = .returned (.int .i64 qs.length) ∧ w = w' := by
  obtain ⟨A, c, c0, c1, -, -⟩ := h.cells
  clear h
  go_enter Try.func14, Try.ntmps14
  go_wp2_with fail
  go_ret
  exact ⟨rfl, rfl⟩
theorem len_nil (w : World) : Calls Try.prog 14 #[.pointer none] w fun e w' => e = .returned (.int .i64 0) ∧ w = w' := by
  go_enter Try.func14, Try.ntmps14
  go_wp2_with fail
  go_ret
  exact ⟨rfl, rfl⟩
/-- All frames are let go. -/
theorem BoxAt.cleared {T : Nat → Prop} {w : World} {p : Nat} {mx : Int} {qs : List Fq} (h : BoxAt T w p mx qs) : BoxAt T (w.setCell ⟨p, 1, none⟩ (.slice none 0 0)) p mx [] ∧ Only T w (w.setCell ⟨p, 1, none⟩ (.slice none 0 0)) := by
  obtain ⟨A, c, h1, h2, _⟩ := h.box
  refine ⟨⟨⟨none, 0, ?_, .inl ⟨rfl, rfl, rfl⟩, fun k ⟨_, e, _⟩ => (by cases e), trivial⟩, h.p, fun k hk => by have := h.lt k hk; simpa [World.setCell] using this, h.hm, by have := h.hm; simp; omega⟩, rfl, rfl, rfl, by simp [World.setCell], fun k hk hn => Below.heap_setCell _ _ _ _ fun e => hn (by rw [e]; exact h.p)⟩
  rw [heap_setCell_same w p 1 _ _ _ h1]
  rfl
theorem clear_any (T : Nat → Prop) (w : World) (p : Nat) (mx : Int) (qs : List Fq) (h : BoxAt T w p mx qs) :
    Calls Try.prog 12 #[.pointer (some ⟨p, 0, none⟩)] w fun e w' => e = .returned (.tuple #[]) ∧ BoxAt T w' p mx [] ∧ Only T w w' := by
  obtain ⟨A, c, c0, c1, f1, -⟩ := h.cells
  have H := Lib.hid h.cleared
  clear h
  go_enter Try.func12, Try.ntmps12
  go_wp2_with fail
  go_end0
  exact ⟨rfl, H.out⟩
theorem clear_nil (w : World) : Calls Try.prog 12 #[.pointer none] w fun e w' => e = .returned (.tuple #[]) ∧ w = w' := by
  go_enter Try.func12, Try.ntmps12
  go_wp2_with fail
  go_end0
  exact ⟨rfl, rfl⟩
/-- A new box. -/
theorem BoxAt.fresh (w : World) {mx : Int} (hm : 1 ≤ mx ∧ mx ≤ 4096) : BoxAt (fun k => k = w.heap.size) (w.alloc (.cells #[.int .i64 mx, .slice none 0 0] 71)) w.heap.size mx [] :=
  ⟨⟨none, 0, heap_alloc_new w _, .inl ⟨rfl, rfl, rfl⟩, fun k ⟨_, e, _⟩ => (by cases e), trivial⟩, rfl, fun k hk => by subst hk; simp, hm, by have := hm; simp; omega⟩
theorem new_any (mx : Int) (w : World) (hm : 1 ≤ mx ∧ mx ≤ 4096) :
    Calls Try.prog 17 #[.int .i64 mx] w fun e w' => e = .returned (.tuple #[.pointer (some ⟨w.heap.size, 0, none⟩), .int .i64 0]) ∧ BoxAt (fun k => k = w.heap.size) w' w.heap.size mx [] ∧ Below w.heap.size w w' := by
  have H := Lib.hid (BoxAt.fresh w hm)
  have B := Lib.hid (below_one w (.cells #[.int .i64 mx, .slice none 0 0] 71))
  have d1 : decide (mx < 1) = false := by simp; omega
  have d2 : decide (4096 < mx) = false := by simp; omega
  obtain ⟨h1, h2⟩ := hm
  go_enter Try.func17, Try.ntmps17
  go_wp2_with fail
  go_ret2
  exact ⟨rfl, H.out, B.out⟩
theorem new_no (mx : Int) (w : World) (hm : ¬ (1 ≤ mx ∧ mx ≤ 4096)) :
    Calls Try.prog 17 #[.int .i64 mx] w fun e w' => e = .returned (.tuple #[.pointer none, .int .i64 1]) ∧ w = w' := by
  by_cases h1 : mx < 1
  · clear hm
    go_enter Try.func17, Try.ntmps17
    go_wp2_with fail
    go_ret2
    exact ⟨rfl, rfl⟩
  · have h2 : 4096 < mx := by omega
    clear hm
    go_enter Try.func17, Try.ntmps17
    go_wp2_with fail
    go_ret2
    exact ⟨rfl, rfl⟩
theorem of_any (k n : Int) (w : World) : Calls Try.prog 10 #[.int .u8 k, .int .i64 n] w fun e w' => e = .returned (.agg (fc (bare k n))) ∧ Below w.heap.size w w' := by
  have B := Lib.hid (below_one w (.cells (fc (bare k n)) 32))
  have X := Lib.hid (fb_new w (bare k n))
  rw [fc_is] at B X
  go_enter Try.func10, Try.ntmps10
  go_wp2_with fail
  refine bodyPost_ret (results_cell_row Try.results10 _ _ w.heap.size 32 _ (0, 0) _ rfl X.out Try.underlying32 rfl (size32 _)) rfl ?_
  exact ⟨rfl, B.out⟩
end Go.Proofs.Ytmgiglefabbmcaa
