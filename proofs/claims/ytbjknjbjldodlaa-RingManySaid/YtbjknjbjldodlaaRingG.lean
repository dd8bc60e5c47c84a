/-
  A walk over the law of the ring of the next one. It holds for every input that its premises let by.
-/
import Derived.Test.YtbjknjbjldodlaaRingF
import Derived.Test.YtbjknjbjldodlaaRingM
import Derived.Test.YtbjknjbjldodlaaIdeOf
namespace Go.Proofs.Ytbjknjbjldodlaa
open Go.RowKit Sets
theorem good_rises {l : List Id2} (h : good l = true) : l.length ≤ 100 ∧ Rises l := by
  unfold good at h
  simp only [Bool.and_eq_true, decide_eq_true_eq] at h
  exact ⟨h.1, (risesB_iff l).1 h.2⟩
theorem lots_one (w : World) (v : Value) : Lots (w.alloc (.cells #[v] 25)) w.heap.size [v] := heap_alloc_new w _
theorem lots_two (w : World) (v u : Value) : Lots (w.alloc (.cells #[v, u] 25)) w.heap.size [v, u] := heap_alloc_new w _
theorem rises_one (v : Value) (l : List Id2) (w : World) (h : Ids w v l) :
    Calls Try.prog 13 #[.slice (some ⟨w.heap.size, 0, none⟩) 1 1] (w.alloc (.cells #[v] 25)) fun e w' => e = .returned (.bool (good l)) ∧ Below w.heap.size w w' :=
  (rises_any w.heap.size [v] [l] _ (lots_one w v) rfl (fun k h1 h2 => by
    match k, h1, h2 with
    | 0, _, _ => exact h.below (below_one w _)) (by simp)).mono fun e w' ⟨he, hb⟩ => ⟨he.trans (ret_bool (by simp)), below_boxed (Below.refl _ _) hb (Nat.le_refl _)⟩
theorem rises_two (v u : Value) (l m : List Id2) (w : World) (h : Ids w v l) (h2 : Ids w u m) :
    Calls Try.prog 13 #[.slice (some ⟨w.heap.size, 0, none⟩) 2 2] (w.alloc (.cells #[v, u] 25)) fun e w' => e = .returned (.bool (good l && good m)) ∧ Below w.heap.size w w' :=
  (rises_any w.heap.size [v, u] [l, m] _ (lots_two w v u) rfl (fun k h1 h2 => by
    match k, h1, h2 with
    | 0, _, _ => exact h.below (below_one w _)
    | 1, _, _ => exact Ids.below ‹Ids w u m› (below_one w _)) (by simp)).mono fun e w' ⟨he, hb⟩ => ⟨he.trans (ret_bool (by simp)), below_boxed (Below.refl _ _) hb (Nat.le_refl _)⟩
theorem run_buildI0 (W : World) : (Instr.buildSlice 25 0 #[]).run Try.prog W = .ok (.slice (some ⟨W.heap.size, 0, none⟩) 0 0) (W.alloc (.cells #[] 23)) := by kernel_rfl
theorem run_buildI1 (W : World) (a i : Int) : (Instr.buildSlice 25 1 #[(0, .agg #[.int .i64 a, .int .i64 i])]).run Try.prog W = .ok (.slice (some ⟨W.heap.size, 0, none⟩) 1 1) (W.alloc (.cells #[.int .i64 a, .int .i64 i] 23)) := by kernel_rfl
theorem step_build0 {ops : Array Oper} {o : Oper} {a : Act} {K : Act → World → Prop} {Q : Exit → Act → World → Prop} {E : Prop} (hgd : o.guard = none) (ho : o.op = .buildSlice 25 0 #[]) (W : World)
    (h : K (a.put o.dst (.slice (some ⟨W.heap.size, 0, none⟩) 0 0)) (W.alloc (.cells #[] 23))) :
    if Region.wanted o (yielded ops a.tmps) = true then Oper.wp Try.prog o a W K Q else E := by
  have hw : Region.wanted o (yielded ops a.tmps) = true := by simp [Region.wanted, hgd]
  rw [if_pos hw]
  unfold Oper.wp execOp
  simp only [ho, Sem.run_bind, Sem.run_pure, Result.andThen_ok, List.map_toArray, List.map_nil, run_buildI0]
  exact h
theorem step_build1 {ops : Array Oper} {o : Oper} {a : Act} {K : Act → World → Prop} {Q : Exit → Act → World → Prop} {E : Prop} (hgd : o.guard = none) (x : Operand) (ho : o.op = .buildSlice 25 1 #[(0, x)]) (W : World) (p q : Int) (hx : a.eval x = .agg #[.int .i64 p, .int .i64 q])
    (h : K (a.put o.dst (.slice (some ⟨W.heap.size, 0, none⟩) 1 1)) (W.alloc (.cells #[.int .i64 p, .int .i64 q] 23))) :
    if Region.wanted o (yielded ops a.tmps) = true then Oper.wp Try.prog o a W K Q else E := by
  have hw : Region.wanted o (yielded ops a.tmps) = true := by simp [Region.wanted, hgd]
  rw [if_pos hw]
  unfold Oper.wp execOp
  simp only [ho, Sem.run_bind, Sem.run_pure, Result.andThen_ok, List.map_toArray, List.map_cons, List.map_nil, hx, run_buildI1]
  exact h
theorem step_append_ids {ops : Array Oper} {o : Oper} {a : Act} {K : Act → World → Prop} {Q : Exit → Act → World → Prop} {E : Prop} (hgd : o.guard = none) (s x : Operand)
    (ho : o.op = .call { callee := .builtin .append, args := #[s, x], argTypes := #[25, 25] })
    (wr : World) (base : Nat) (v u : Value) (d l : List (Int × Int)) (hs : a.eval s = v) (hx : a.eval x = u)
    (hown : Owns wr base v d) (hI : Ids wr u l) (hl : d.length + l.length ≤ 100000) (hb : base ≤ wr.heap.size)
    (h : ∀ v' w', Owns w' base v' (d ++ l) → wr.grownBy w' v.ownBlock → K (a.put o.dst v') w') :
    if Region.wanted o (yielded ops a.tmps) = true then Oper.wp Try.prog o a wr K Q else E := by
  have hw : Region.wanted o (yielded ops a.tmps) = true := by simp [Region.wanted, hgd]
  rw [if_pos hw]
  obtain ⟨i0, hi, hz0, hz1, hz2⟩ := info_parts info25
  obtain ⟨A, c, rfl, h0, hc, hk⟩ := hI
  cases A with
  | none =>
    obtain rfl := h0 rfl
    have hn : l = [] := List.eq_nil_of_length_eq_zero (by omega)
    subst hn
    have hrun := run_append_owned_none (P := Try.prog) (w := wr) base 25 o.type 23 i0 2 Try.underlying25 hi v d.length (flat d) hown
    unfold Oper.wp execOp
    simp only [ho, resolve, invoke, builtin, Sem.run_bind, Sem.run_pure, Result.andThen_ok, List.map_toArray, List.map_cons, List.map_nil, hs, hx, hrun, List.length_nil]
    exact h _ _ (by rw [List.append_nil]; exact hown) (World.grownBy.refl _ _)
  | some ad =>
    refine wp_append_own _ s x 25 ho base 23 i0 (.agg #[.int .i64 0, .int .i64 0]) 2 16 Try.underlying25 hi hz0 hz1 hz2 rfl (by decide) v d.length (flat d) hs hown ad l.length c (flat l) hx (flat_len l)
      (fun j u hu => ?_) (flat_one l) (by unfold maxLen; omega) (by omega) hb ?_
    · obtain ⟨k, hlt, hj⟩ := flat_split hu
      obtain ⟨ad', e, h1, h2, h3⟩ := hk k hlt
      injection e with e
      subst e
      rcases hj with ⟨rfl, rfl⟩ | ⟨rfl, rfl⟩
      · exact h2
      · rw [add_odd]
        exact h3
    · intro v' w' h1 h2 _
      refine h v' w' ?_ h2
      unfold Owns
      rw [flat_append, List.length_append]
      exact h1
theorem yieldsIf_slice {P : Program} {ops : Array Oper} {S : World → Prop} {op : Oper} {a : Act} {v : Value} (hw : Region.wanted op (yielded ops a.tmps) = true) (ty : TypeId) (x lo : Operand) (ho : op.op = .slice ty x (some lo) none none)
    (z l : Value) (hx : a.eval x = z) (hl : a.eval lo = l) (hS : ∀ w, S w → (Instr.sliceAt ty z (some l) none none).run P w = .ok v w) : YieldsIf P ops S op v a :=
  .inl ⟨hw, fun w hw' => by
    unfold execOp
    simp only [ho, hx, hl, Option.map_some, Option.map_none, Sem.run_bind, Sem.run_pure, Result.andThen_ok, hS w hw']⟩
theorem put_setOf (l : List Id2) (x : Id2) : put (setOf l) x = ins x (setOf l) := by rw [put_ins, setOf_setOf]
theorem sameB_true {l m : List Id2} (h : ∀ z, z ∈ l ↔ z ∈ m) : sameB (setOf l) (setOf m) = true := by
  unfold sameB
  exact decide_eq_true (setOf_ext h)
set_option maxHeartbeats 8000000 in
theorem round_any (v : Value) (l : List Id2) (a i : Int) (w : World) (h : Ids w v l) :
    Calls Try.prog 4 #[v, .agg #[.int .i64 a, .int .i64 i]] w fun e w' => e = .returned (.bool true) ∧ Below w.heap.size w w' := by
  obtain ⟨A, c, rfl, hz⟩ := id h
  clear hz
  have HX := Lib.hid (box_new w a i)
  have B1 := Lib.hid (below_one w (.cells #[.int .i64 a, .int .i64 i] 23))
  have HI := Lib.hid (h.below B1.out)
  clear h
  go_enter Try.func4, Try.ntmps4
  go_upto_region 1 with fail
  generalize w.alloc (.cells #[.int .i64 a, .int .i64 i] 23) = w0 at *
  go_wp2_with fail
  refine (rises_one _ l w0 HI.out).mono ?_
  rintro e w1 ⟨rfl, hb⟩
  have I1 := Lib.hid (HI.out.below hb)
  have X1 := Lib.hid (box_below HX.out hb)
  have B2 := Lib.hid (below_after B1.out hb (Nat.le_refl _))
  clear hb HI HX
  cases hg : good l with
  | false =>
    go_wp2_with fail
    refine (awake_any _).mono ?_
    rintro e w2 ⟨rfl, hb⟩
    have B3 := Lib.hid (below_after B2.out hb (Nat.le_refl _))
    clear hb
    go_wp2_with fail
    go_ret
    exact ⟨rfl, B3.out⟩
  | true =>
    have hlen := (good_rises hg).1
    have HR := Lib.hid (good_rises hg).2
    clear hg
    go_wp2_with fail
    refine (awake_any _).mono ?_
    rintro e w2 ⟨rfl, hb⟩
    have I2 := Lib.hid (I1.out.below hb)
    have X2 := Lib.hid (box_below X1.out hb)
    have B3 := Lib.hid (below_after B2.out hb (Nat.le_refl _))
    obtain ⟨x1, x2⟩ := box_cells X2.out
    clear hb I1 X1 B2
    go_wp2_with fail
    refine (order_any _ l a i _ I2.out (by omega)).mono ?_
    rintro e w3 ⟨vo, rfl, ho, hb⟩
    have I3 := Lib.hid (I2.out.below hb)
    have X3 := Lib.hid (box_below X2.out hb)
    have B4 := Lib.hid (below_after B3.out hb (Nat.le_refl _))
    have O3 := Lib.hid ho
    have HOL := Lib.hid (Nat.le_trans (rg_short HR.out (a, i)) hlen)
    have HOM := Lib.hid fun z => mem_rg (a, i) z l
    have HON := Lib.hid (setOf_len_new (nodup_rg HR.out (a, i)))
    have HNX := Lib.hid fun o t hm h => ring_next HR.out (me := (a, i)) (o := o) (t := t) hm h
    generalize rg l (a, i) = O at *
    have hol := HOL.out
    obtain ⟨Ao, co, rfl, hz⟩ := ho
    clear hz hb x1 x2 I2 X2 B3
    go_wp2_with fail
    go_loopw [6, 7] (fun s6 s7 wr => ∃ k : Nat, k ≤ O.length ∧ s7 = .int .i64 k ∧ Ids wr s6 (setOf (O.take k)) ∧ Box wr w.heap.size a i ∧ Below w3.heap.size w3 wr) (fun _ s7 _ => O.length - (intOf s7).toNat)
    case atStart => exact ⟨0, by omega, rfl, Ids.nil _, X3.out, Below.refl _ _⟩
    case round =>
      obtain ⟨k, hkl, rfl, ht, hx, hw⟩ := hrel
      have HW := Lib.hid hw
      have HT := Lib.hid ht
      have HY := Lib.hid hx
      clear hw ht hx
      have i3 : (0 : Int) ≤ (k : Int) := by omega
      by_cases hlt : k < O.length
      · have hd : decide ((k : Int) < (O.length : Int)) = true := by simp; omega
        have i4 : (k : Int) < (O.length : Int) := by omega
        obtain ⟨ad, rfl, c1, c2⟩ := O3.out.at_ HW.out hlt
        obtain ⟨c3, c4⟩ := box_cells HY.out
        have HP := Lib.hid (show put (setOf (O.take k)) (O[k].1, O[k].2) = setOf (O.take (k + 1)) by rw [put_setOf, setOf_snoc hlt])
        have HM := Lib.hid ((HOM.out O[k]).1 (List.getElem_mem hlt)).2
        have HE := Lib.hid (show ¬ (O[k].1 = a ∧ O[k].2 = i) from fun e => HM.out (Prod.ext e.1 e.2))
        generalize O[k].1 = x at *
        generalize O[k].2 = y at *
        by_cases hab : x = a
        · have h2 : (y == i) = false := by simpa using fun e => HE.out ⟨hab, e⟩
          have hab' := hab.symm
          subst hab'
          go_wp2_with fail
          go_quiet (fail)
          go_wp2_with fail
          refine (docPut_any u6 (setOf (O.take k)) _ _ _ (HT.out.drewN _) (Nat.le_trans (setOf_take_len O k) (by have := HOL.out; omega))).mono ?_
          rw [HP.out]
          rintro e w5 ⟨r5, rfl, hi, hb⟩
          have T5 := Lib.hid hi
          have Y5 := Lib.hid (box_below (box_drewN HY.out) hb)
          have B5 := Lib.hid (below_after (below_drewN HW.out) hb (Nat.le_refl _))
          clear hi hb c1 c2 c3 c4
          go_wp2_with fail
          go_roundw
          case rel => exact ⟨k + 1, by omega, by go_num, T5.out, Y5.out, B5.out⟩
          case measure => simp [intOf]; omega
        · have h2 : (x == a) = false := by simpa using hab
          go_wp2_with fail
          go_quiet (fail)
          go_wp2_with fail
          refine (docPut_any u6 (setOf (O.take k)) _ _ _ (HT.out.drewN _) (Nat.le_trans (setOf_take_len O k) (by have := HOL.out; omega))).mono ?_
          rw [HP.out]
          rintro e w5 ⟨r5, rfl, hi, hb⟩
          have T5 := Lib.hid hi
          have Y5 := Lib.hid (box_below (box_drewN HY.out) hb)
          have B5 := Lib.hid (below_after (below_drewN HW.out) hb (Nat.le_refl _))
          clear hi hb c1 c2 c3 c4
          go_wp2_with fail
          go_roundw
          case rel => exact ⟨k + 1, by omega, by go_num, T5.out, Y5.out, B5.out⟩
          case measure => simp [intOf]; omega
      · have hd : decide ((k : Int) < (O.length : Int)) = false := by simp; omega
        have HE := Lib.hid (show Ids wr u6 (setOf O) by have := HT.out; rwa [List.take_of_length_le (by omega)] at this)
        obtain ⟨A6, c6, h6, hz⟩ := HE.out
        rw [HON.out] at h6
        subst h6
        clear hz
        have I4 := Lib.hid (I3.out.below HW.out)
        have O4 := Lib.hid (O3.out.below HW.out)
        have B5 := Lib.hid (below_after B4.out HW.out (Nat.le_refl _))
        obtain ⟨x1, x2⟩ := box_cells HY.out
        clear HT
        go_wp2_with fail
        refine (docDel_any _ l a i _ I4.out (by omega)).mono ?_
        rintro e w5 ⟨vd, rfl, hi, hb⟩
        have D5 := Lib.hid hi
        have E5 := Lib.hid (HE.out.below hb)
        have Y5 := Lib.hid (box_below HY.out hb)
        have I5 := Lib.hid (I4.out.below hb)
        have O5 := Lib.hid (O4.out.below hb)
        have B6 := Lib.hid (below_after B5.out hb (Nat.le_refl _))
        have HS1 := Lib.hid (show sameB (setOf (setOf O)) (setOf (del l (a, i))) = true from sameB_true fun z => by rw [mem_setOf, HOM.out, mem_del])
        clear hi hb x1 x2
        go_wp2_with fail
        refine (refSame_any _ _ (setOf O) (del l (a, i)) _ E5.out D5.out (by rw [HON.out]; have := HOL.out; omega) (Nat.le_trans (len_del _ _) (by omega))).mono ?_
        rw [HS1.out]
        rintro e w6 ⟨rfl, hb⟩
        have Y6 := Lib.hid (box_below Y5.out hb)
        have I6 := Lib.hid (I5.out.below hb)
        have O6 := Lib.hid (O5.out.below hb)
        have B7 := Lib.hid (below_after B6.out hb (Nat.le_refl _))
        obtain ⟨x1, x2⟩ := box_cells Y6.out
        clear hb
        by_cases hnil : O.length = 0
        · have h0 : (((O.length : Nat) : Int) == 0) = true := by simp [hnil]
          go_wp2_with fail
          go_ret
          exact ⟨rfl, B7.out⟩
        have h0 : (((O.length : Nat) : Int) == 0) = false := by rw [beq_eq_false_iff_ne]; omega
        go_wp2_with fail
        refine (refHas_any _ l a i _ I6.out (by omega)).mono ?_
        rintro e w7 ⟨rfl, hb⟩
        have Y7 := Lib.hid (box_below Y6.out hb)
        have I7 := Lib.hid (I6.out.below hb)
        have O7 := Lib.hid (O6.out.below hb)
        have B8 := Lib.hid (below_after B7.out hb (Nat.le_refl _))
        clear hb x1 x2
        cases hh : hasB (a, i) l with
        | false =>
          go_wp2_with fail
          go_ret
          exact ⟨rfl, B8.out⟩
        | true =>
        have HM := Lib.hid (show (a, i) ∈ l by simpa [hasB] using hh)
        clear hh
        obtain ⟨ad, rfl, c1, c2⟩ := O7.out.at_ (Below.refl _ _) (show 0 < O.length by omega)
        have HC := Lib.hid (show O = (O[0].1, O[0].2) :: O.tail by
          cases O with
          | nil => exact (hnil rfl).elim
          | cons o t => rfl)
        generalize O[0].1 = ox at *
        generalize O[0].2 = oy at *
        obtain ⟨o0, ho0⟩ : ∃ o0 : Id2, o0 = (ox, oy) := ⟨_, rfl⟩
        have HSAME := Lib.hid (show sameB (setOf (rg l o0)) (setOf ([] ++ O.tail ++ [(a, i)])) = true from sameB_true fun z => by rw [ho0]; exact HNX.out _ _ HM.out HC.out z)
        have HNL := Lib.hid (Nat.le_trans (rg_short HR.out o0) hlen)
        simp only [Nat.zero_mul, add_zero'] at c1 c2
        have i5 : (0 : Int) < (O.length : Int) := by omega
        go_wp2_with fail
        refine (order_any _ l ox oy _ I7.out (by omega)).mono ?_
        rw [← ho0]
        rintro e w11 ⟨vn, rfl, hi, hb⟩
        have NX := Lib.hid hi
        have Y11 := Lib.hid (box_below Y7.out hb)
        have O11 := Lib.hid (O7.out.below hb)
        have B11 := Lib.hid (below_after B8.out hb (Nat.le_refl _))
        clear hi hb c1 c2
        obtain ⟨V, hv, VV0⟩ := run_from O11.out 1 (by omega)
        have VV := Lib.hid (show Ids w11 V O.tail by rw [← List.drop_one]; exact VV0)
        have HV := Lib.hid fun W => (run_sliceAt_slice (w := W) (P := Try.prog) 25 _ _ _ _ under29).trans (hv W)
        clear VV0 hv
        have HS := Lib.hid fun w' (hb : Below w11.heap.size w11 w') => box_cells (box_below Y11.out hb)
        have KB := Lib.hid (show Below w11.heap.size w11 w11.drew from (Below.refl _ _).drew)
        go_wp2_with fail
        refine wp_region_held_drew (S := (fun w' : World => w'.cell? ⟨w.heap.size, 0, none⟩ = some (.int .i64 a) ∧ w'.cell? ⟨w.heap.size, 1, none⟩ = some (.int .i64 i))) (by kernel_rfl) ?_ (fun hHeld => ?_)
        · exact HS.out _ (Below.refl _ _).drew
        (refine wpAnyH_take (i := 0) (oi := ⟨_, _, _, _, _, _⟩) (v := ?_) rfl (by kernel_rfl) (by kernel_rfl) (by kernel_rfl) (fun _ _ _ h => h) (Or.inl ⟨by rfl, ?_⟩) (by assumption) ?_; rotate_left 1; · (intro w hSw; (try dsimp only at hSw); go_simp; all_goals with_reducible rfl))
        try simp only [Act.put, List.setIfInBounds_toArray, List.set_cons_zero, List.set_cons_succ]
        (refine wpAnyH_take (i := 2) (oi := ⟨_, _, _, _, _, _⟩) (v := ?_) rfl (by kernel_rfl) (by kernel_rfl) (by kernel_rfl) (fun _ _ _ h => h) (Or.inl ⟨by rfl, ?_⟩) (by assumption) ?_; rotate_left 1; · (intro w hSw; (try dsimp only at hSw); go_simp; all_goals with_reducible rfl))
        try simp only [Act.put, List.setIfInBounds_toArray, List.set_cons_zero, List.set_cons_succ]
        refine wpAnyH_take (i := 3) (oi := ⟨_, _, _, _, _, _⟩) (v := V) rfl (by kernel_rfl) (by kernel_rfl) (by kernel_rfl) (fun _ _ _ h => h) (yieldsIf_slice rfl 25 (.tmp 68) (.const (.int .i64 1)) rfl _ (.int .i64 1) rfl rfl (fun w _ => HV.out w)) (by assumption) ?_
        try simp only [Act.put, List.setIfInBounds_toArray, List.set_cons_zero, List.set_cons_succ]
        (refine wpAnyH_take (i := 5) (oi := ⟨_, _, _, _, _, _⟩) (v := ?_) rfl (by kernel_rfl) (by kernel_rfl) (by kernel_rfl) (fun _ _ _ h => h) (Or.inl ⟨by rfl, ?_⟩) (by assumption) ?_; rotate_left 1; · (intro w hSw; (try dsimp only at hSw); go_simp; all_goals with_reducible rfl))
        try simp only [Act.put, List.setIfInBounds_toArray, List.set_cons_zero, List.set_cons_succ]
        refine wpAnyH_ready (rs := [1, 6]) (by kernel_rfl) (by simp) ?_
        refine AllReadyH.cons (o := ⟨_, _, _, _, _, _⟩) rfl (fun Kq hKq => ?_) (AllReadyH.cons (o := ⟨_, _, _, _, _, _⟩) rfl (fun Kq hKq => ?_) (AllReadyH.nil))
        · clear hHeld
          refine step_build0 rfl rfl _ ?_; have hb := below_one w11.drew (.cells #[] 23); have OW := Lib.hid (owns_made w11.drew w11.heap.size KB.out.size); have KB := Lib.hid (KB.out.trans (hb.mono KB.out.size)); clear hb
          refine hKq.out _ _ ?_ (fun hHeld => ?_)
          · (try dsimp only); exact HS.out _ KB.out
          clear hKq Kq
          try simp only [Act.put, List.setIfInBounds_toArray, List.set_cons_zero, List.set_cons_succ]
          refine wpAnyH_ready (rs := [4, 6]) (by kernel_rfl) (by simp) ?_
          refine AllReadyH.cons (o := ⟨_, _, _, _, _, _⟩) rfl (fun Kq hKq => ?_) (AllReadyH.cons (o := ⟨_, _, _, _, _, _⟩) rfl (fun Kq hKq => ?_) (AllReadyH.nil))
          · have OX := Lib.hid OW.out
            clear hHeld
            refine step_append_ids rfl (.tmp 67) (.tmp 69) rfl (w11.drew.alloc (.cells #[] 23)) w11.heap.size _ V [] O.tail rfl rfl OW.out (VV.out.below KB.out) (by have := HOL.out; simp; omega) KB.out.size ?_; intro v12 w12 h1 h2; have OW := Lib.hid h1; have KB := Lib.hid (KB.out.grown h2 KB.out.size (fun k e => (World.ownsRow.lt OX.out k e).1)); clear h1 h2
            refine hKq.out _ _ ?_ (fun hHeld => ?_)
            · (try dsimp only); exact HS.out _ KB.out
            clear hKq Kq
            try simp only [Act.put, List.setIfInBounds_toArray, List.set_cons_zero, List.set_cons_succ]
            refine wpAnyH_ready (rs := [6]) (by kernel_rfl) (by simp) ?_
            refine AllReadyH.cons (o := ⟨_, _, _, _, _, _⟩) rfl (fun Kq hKq => ?_) (AllReadyH.nil)
            clear hHeld
            refine step_build1 rfl (.tmp 71) rfl _ a i rfl ?_; have hb := below_one w12 (.cells #[.int .i64 a, .int .i64 i] 23); have BL := Lib.hid (box_new w12 a i); have OW := Lib.hid (OW.out.below hb); have KB := Lib.hid (KB.out.trans (hb.mono KB.out.size)); clear hb
            refine hKq.out _ _ ?_ (fun hHeld => ?_)
            · (try dsimp only); exact HS.out _ KB.out
            clear hKq Kq
            try simp only [Act.put, List.setIfInBounds_toArray, List.set_cons_zero, List.set_cons_succ]
            refine wpAnyH_ready (rs := [7]) (by kernel_rfl) (by simp) ?_
            refine AllReadyH.cons (o := ⟨_, _, _, _, _, _⟩) rfl (fun Kq hKq => ?_) (AllReadyH.nil)
            clear hHeld
            refine step_append_one rfl (.tmp 70) (.tmp 72) rfl _ w11.heap.size v12 _ a i _ rfl rfl OW.out BL.out (by have := HOL.out; simp; omega) KB.out.size ?_; intro v13 w13 h1 h2; have OW := Lib.hid h1; have KB := Lib.hid (KB.out.trans h2); clear h1 h2
            refine hKq.out _ _ ?_ (fun hHeld => ?_)
            · (try dsimp only); exact HS.out _ KB.out
            clear hKq Kq
            try simp only [Act.put, List.setIfInBounds_toArray, List.set_cons_zero, List.set_cons_succ]
            refine wpAnyH_ready (rs := [8]) (by kernel_rfl) (by simp) ?_
            refine AllReadyH.cons (o := ⟨_, _, _, _, _, _⟩) rfl (fun Kq hKq => ?_) (AllReadyH.nil)
            go_simp
            clear hHeld
            go_at_call 15; (with_reducible refine (refSame_any _ _ (rg l o0) ([] ++ O.tail ++ [(a, i)]) _ (NX.out.below KB.out) (ids_of_owns OW.out) (by have := HNL.out; omega) (by have := HOL.out; simp; omega)).mono ?_); rw [HSAME.out]; rintro e w14 ⟨rfl, hb⟩; have KB := Lib.hid (KB.out.trans (hb.mono KB.out.size)); clear hb
            refine hKq.out _ _ ?_ (fun hHeld => ?_)
            · (try dsimp only); exact HS.out _ KB.out
            clear hKq Kq
            try simp only [Act.put, List.setIfInBounds_toArray, List.set_cons_zero, List.set_cons_succ]
            (refine wpAnyH_take (i := 9) (oi := ⟨_, _, _, _, _, _⟩) (v := ?_) rfl (by kernel_rfl) (by kernel_rfl) (by kernel_rfl) (fun _ _ _ h => h) (Or.inl ⟨by rfl, ?_⟩) (by assumption) ?_; rotate_left 1; · (intro w hSw; (try dsimp only at hSw); go_simp; all_goals with_reducible rfl))
            try simp only [Act.put, List.setIfInBounds_toArray, List.set_cons_zero, List.set_cons_succ]
            refine wpAnyH_done (by kernel_rfl) ?_ _
            go_wp2_with fail
            go_ret
            exact ⟨rfl, below_after B11.out KB.out (Nat.le_refl _)⟩
          · clear hHeld
            refine step_build1 rfl (.tmp 71) rfl _ a i rfl ?_; have hb := below_one (w11.drew.alloc (.cells #[] 23)) (.cells #[.int .i64 a, .int .i64 i] 23); have BL := Lib.hid (box_new (w11.drew.alloc (.cells #[] 23)) a i); have OW := Lib.hid (OW.out.below hb); have KB := Lib.hid (KB.out.trans (hb.mono KB.out.size)); clear hb
            refine hKq.out _ _ ?_ (fun hHeld => ?_)
            · (try dsimp only); exact HS.out _ KB.out
            clear hKq Kq
            try simp only [Act.put, List.setIfInBounds_toArray, List.set_cons_zero, List.set_cons_succ]
            refine wpAnyH_ready (rs := [4]) (by kernel_rfl) (by simp) ?_
            refine AllReadyH.cons (o := ⟨_, _, _, _, _, _⟩) rfl (fun Kq hKq => ?_) (AllReadyH.nil)
            have OX := Lib.hid OW.out
            clear hHeld
            have OB := Lib.hid (show ¬ ((Value.slice (some ⟨w11.drew.heap.size, 0, none⟩) 0 0 : Value).ownBlock = some (w11.drew.alloc (.cells #[] 23)).heap.size) from by intro e; injection e with e; simp at e); refine step_append_ids rfl (.tmp 67) (.tmp 69) rfl ((w11.drew.alloc (.cells #[] 23)).alloc (.cells #[.int .i64 a, .int .i64 i] 23)) w11.heap.size _ V [] O.tail rfl rfl OW.out (VV.out.below KB.out) (by have := HOL.out; simp; omega) KB.out.size ?_; intro v12 w12 h1 h2; have BL := Lib.hid (Box.grown BL.out h2 (fun e => OB.out e)); have OW := Lib.hid h1; have KB := Lib.hid (KB.out.grown h2 KB.out.size (fun k e => (World.ownsRow.lt OX.out k e).1)); clear h1 h2
            refine hKq.out _ _ ?_ (fun hHeld => ?_)
            · (try dsimp only); exact HS.out _ KB.out
            clear hKq Kq
            try simp only [Act.put, List.setIfInBounds_toArray, List.set_cons_zero, List.set_cons_succ]
            refine wpAnyH_ready (rs := [7]) (by kernel_rfl) (by simp) ?_
            refine AllReadyH.cons (o := ⟨_, _, _, _, _, _⟩) rfl (fun Kq hKq => ?_) (AllReadyH.nil)
            clear hHeld
            refine step_append_one rfl (.tmp 70) (.tmp 72) rfl _ w11.heap.size v12 _ a i _ rfl rfl OW.out BL.out (by have := HOL.out; simp; omega) KB.out.size ?_; intro v13 w13 h1 h2; have OW := Lib.hid h1; have KB := Lib.hid (KB.out.trans h2); clear h1 h2
            refine hKq.out _ _ ?_ (fun hHeld => ?_)
            · (try dsimp only); exact HS.out _ KB.out
            clear hKq Kq
            try simp only [Act.put, List.setIfInBounds_toArray, List.set_cons_zero, List.set_cons_succ]
            refine wpAnyH_ready (rs := [8]) (by kernel_rfl) (by simp) ?_
            refine AllReadyH.cons (o := ⟨_, _, _, _, _, _⟩) rfl (fun Kq hKq => ?_) (AllReadyH.nil)
            go_simp
            clear hHeld
            go_at_call 15; (with_reducible refine (refSame_any _ _ (rg l o0) ([] ++ O.tail ++ [(a, i)]) _ (NX.out.below KB.out) (ids_of_owns OW.out) (by have := HNL.out; omega) (by have := HOL.out; simp; omega)).mono ?_); rw [HSAME.out]; rintro e w14 ⟨rfl, hb⟩; have KB := Lib.hid (KB.out.trans (hb.mono KB.out.size)); clear hb
            refine hKq.out _ _ ?_ (fun hHeld => ?_)
            · (try dsimp only); exact HS.out _ KB.out
            clear hKq Kq
            try simp only [Act.put, List.setIfInBounds_toArray, List.set_cons_zero, List.set_cons_succ]
            (refine wpAnyH_take (i := 9) (oi := ⟨_, _, _, _, _, _⟩) (v := ?_) rfl (by kernel_rfl) (by kernel_rfl) (by kernel_rfl) (fun _ _ _ h => h) (Or.inl ⟨by rfl, ?_⟩) (by assumption) ?_; rotate_left 1; · (intro w hSw; (try dsimp only at hSw); go_simp; all_goals with_reducible rfl))
            try simp only [Act.put, List.setIfInBounds_toArray, List.set_cons_zero, List.set_cons_succ]
            refine wpAnyH_done (by kernel_rfl) ?_ _
            go_wp2_with fail
            go_ret
            exact ⟨rfl, below_after B11.out KB.out (Nat.le_refl _)⟩
        · clear hHeld
          refine step_build1 rfl (.tmp 71) rfl _ a i rfl ?_; have hb := below_one w11.drew (.cells #[.int .i64 a, .int .i64 i] 23); have BL := Lib.hid (box_new w11.drew a i); have KB := Lib.hid (KB.out.trans (hb.mono KB.out.size)); clear hb
          refine hKq.out _ _ ?_ (fun hHeld => ?_)
          · (try dsimp only); exact HS.out _ KB.out
          clear hKq Kq
          try simp only [Act.put, List.setIfInBounds_toArray, List.set_cons_zero, List.set_cons_succ]
          refine wpAnyH_ready (rs := [1]) (by kernel_rfl) (by simp) ?_
          refine AllReadyH.cons (o := ⟨_, _, _, _, _, _⟩) rfl (fun Kq hKq => ?_) (AllReadyH.nil)
          clear hHeld
          refine step_build0 rfl rfl _ ?_; have hb := below_one (w11.drew.alloc (.cells #[.int .i64 a, .int .i64 i] 23)) (.cells #[] 23); have OW := Lib.hid (owns_made (w11.drew.alloc (.cells #[.int .i64 a, .int .i64 i] 23)) w11.heap.size KB.out.size); have BL := Lib.hid (box_below BL.out hb); have KB := Lib.hid (KB.out.trans (hb.mono KB.out.size)); clear hb
          refine hKq.out _ _ ?_ (fun hHeld => ?_)
          · (try dsimp only); exact HS.out _ KB.out
          clear hKq Kq
          try simp only [Act.put, List.setIfInBounds_toArray, List.set_cons_zero, List.set_cons_succ]
          refine wpAnyH_ready (rs := [4]) (by kernel_rfl) (by simp) ?_
          refine AllReadyH.cons (o := ⟨_, _, _, _, _, _⟩) rfl (fun Kq hKq => ?_) (AllReadyH.nil)
          have OX := Lib.hid OW.out
          clear hHeld
          have OB := Lib.hid (show ¬ ((Value.slice (some ⟨(w11.drew.alloc (.cells #[.int .i64 a, .int .i64 i] 23)).heap.size, 0, none⟩) 0 0 : Value).ownBlock = some w11.drew.heap.size) from by intro e; injection e with e; simp at e); refine step_append_ids rfl (.tmp 67) (.tmp 69) rfl ((w11.drew.alloc (.cells #[.int .i64 a, .int .i64 i] 23)).alloc (.cells #[] 23)) w11.heap.size _ V [] O.tail rfl rfl OW.out (VV.out.below KB.out) (by have := HOL.out; simp; omega) KB.out.size ?_; intro v12 w12 h1 h2; have BL := Lib.hid (Box.grown BL.out h2 (fun e => OB.out e)); have OW := Lib.hid h1; have KB := Lib.hid (KB.out.grown h2 KB.out.size (fun k e => (World.ownsRow.lt OX.out k e).1)); clear h1 h2
          refine hKq.out _ _ ?_ (fun hHeld => ?_)
          · (try dsimp only); exact HS.out _ KB.out
          clear hKq Kq
          try simp only [Act.put, List.setIfInBounds_toArray, List.set_cons_zero, List.set_cons_succ]
          refine wpAnyH_ready (rs := [7]) (by kernel_rfl) (by simp) ?_
          refine AllReadyH.cons (o := ⟨_, _, _, _, _, _⟩) rfl (fun Kq hKq => ?_) (AllReadyH.nil)
          clear hHeld
          refine step_append_one rfl (.tmp 70) (.tmp 72) rfl _ w11.heap.size v12 _ a i _ rfl rfl OW.out BL.out (by have := HOL.out; simp; omega) KB.out.size ?_; intro v13 w13 h1 h2; have OW := Lib.hid h1; have KB := Lib.hid (KB.out.trans h2); clear h1 h2
          refine hKq.out _ _ ?_ (fun hHeld => ?_)
          · (try dsimp only); exact HS.out _ KB.out
          clear hKq Kq
          try simp only [Act.put, List.setIfInBounds_toArray, List.set_cons_zero, List.set_cons_succ]
          refine wpAnyH_ready (rs := [8]) (by kernel_rfl) (by simp) ?_
          refine AllReadyH.cons (o := ⟨_, _, _, _, _, _⟩) rfl (fun Kq hKq => ?_) (AllReadyH.nil)
          go_simp
          clear hHeld
          go_at_call 15; (with_reducible refine (refSame_any _ _ (rg l o0) ([] ++ O.tail ++ [(a, i)]) _ (NX.out.below KB.out) (ids_of_owns OW.out) (by have := HNL.out; omega) (by have := HOL.out; simp; omega)).mono ?_); rw [HSAME.out]; rintro e w14 ⟨rfl, hb⟩; have KB := Lib.hid (KB.out.trans (hb.mono KB.out.size)); clear hb
          refine hKq.out _ _ ?_ (fun hHeld => ?_)
          · (try dsimp only); exact HS.out _ KB.out
          clear hKq Kq
          try simp only [Act.put, List.setIfInBounds_toArray, List.set_cons_zero, List.set_cons_succ]
          (refine wpAnyH_take (i := 9) (oi := ⟨_, _, _, _, _, _⟩) (v := ?_) rfl (by kernel_rfl) (by kernel_rfl) (by kernel_rfl) (fun _ _ _ h => h) (Or.inl ⟨by rfl, ?_⟩) (by assumption) ?_; rotate_left 1; · (intro w hSw; (try dsimp only at hSw); go_simp; all_goals with_reducible rfl))
          try simp only [Act.put, List.setIfInBounds_toArray, List.set_cons_zero, List.set_cons_succ]
          refine wpAnyH_done (by kernel_rfl) ?_ _
          go_wp2_with fail
          go_ret
          exact ⟨rfl, below_after B11.out KB.out (Nat.le_refl _)⟩
end Go.Proofs.Ytbjknjbjldodlaa
