/-
  Walks over the program's watch: those that are not in a set are forgotten, while the map is gone through. No statement is proved in this text; it holds for every input that its premises let by.
-/
import Derived.Test.YtkoeplgkiogjlaaWchC
set_option maxRecDepth 20000
namespace Go.Proofs.Ytkoeplgkiogjlaa
open Go Go.RowKit Sets Go.Maps Go.ChangeMaps Go.MapKept
variable {S S2 : Nat → Prop} {W W' : World} {p f n : Nat} {mb : Option Nat} {e : Dt} {K : List Id2} {D : Id2 → Dt} {L : Id2 → Nat}
theorem step_drops {V : Type} {E : El V} {b n r cnt : Nat} {M : Int × Int → Option V} {left : Int × Int → Bool} {T e : TypeId} {ops : Array Oper} {o : Oper} {a : Act} {K : Act → World → Prop} {Q : Exit → Act → World → Prop} {F : Prop} (hgd : o.guard = none) (m x : Operand)
    (hop : o.op = Op.call { callee := Callee.builtin Builtin.delete, args := #[m, x], argTypes := #[T, 35] }) (ht : Try.prog.underlying T = some (.map 35 e)) (w : World) (h : RngI E w b r n M left cnt) {p : Int × Int} (hp : In2 p) (hm : a.eval m = .map (some b)) (hx : a.eval x = idv p)
    (hK : ∀ w' c, RngI E w' b r n (putI M p none) (offI left p) c → c ≤ cnt → w.mapTurned w' b → K (a.put o.dst (.tuple #[])) w') :
    if Region.wanted o (yielded ops a.tmps) = true then Oper.wp Try.prog o a w K Q else F := by
  have hw : Region.wanted o (yielded ops a.tmps) = true := by simp [Region.wanted, hgd]
  rw [if_pos hw]
  obtain ⟨w', c, hrun, r1, r2, r3⟩ := h.drop ht hp o.type
  unfold Oper.wp execOp
  simp only [hop, resolve, invoke, builtin, Sem.run_bind, Sem.run_pure, Result.andThen_ok, List.map_toArray, List.map_cons, List.map_nil, hm, hx, hrun]
  exact hK w' c r1 r2 r3
theorem step_puts {V : Type} {E : El V} {b n : Nat} {M : Int × Int → Option V} {T e : TypeId} {ops : Array Oper} {o : Oper} {a : Act} {K : Act → World → Prop} {Q : Exit → Act → World → Prop} {F : Prop} (hgd : o.guard = none) (m x v : Operand) (hop : o.op = Op.mapUpdate T m x v)
    (ht : Try.prog.underlying T = some (.map 35 e)) (w : World) (h : MapI E w b n M) (hn : n < maxLen) {p : Int × Int} (hp : In2 p) (c : V) (hm : a.eval m = .map (some b)) (hx : a.eval x = idv p) (hv : a.eval v = E.v c)
    (hK : ∀ w', MapI E w' b (n + 1) (putI M p (some c)) → w.mapTurned w' b → K (a.put o.dst undef) w') :
    if Region.wanted o (yielded ops a.tmps) = true then Oper.wp Try.prog o a w K Q else F := by
  have hw : Region.wanted o (yielded ops a.tmps) = true := by simp [Region.wanted, hgd]
  rw [if_pos hw]
  obtain ⟨w', hrun, r1, r2⟩ := h.put ht hn hp c
  unfold Oper.wp execOp
  simp only [hop, Sem.run_bind, Sem.run_pure, Result.andThen_ok, hm, hx, hv, hrun]
  exact hK w' r1 r2
/-- Those that are still to come, and those that stay. -/
def StillM (K l : List Id2) (L : Id2 → Nat) (left : Int × Int → Bool) (M : Int × Int → Option (Option Nat)) : Prop := ∀ q, M q = if q ∈ K ∧ (left q = true ∨ q ∈ l) then some (some (L q)) else none
theorem StillM.stays {K l : List Id2} {L : Id2 → Nat} {left : Int × Int → Bool} {M : Int × Int → Option (Option Nat)} (h : StillM K l L left M) {q : Id2} (hq : q ∈ l) : StillM K l L (offI left q) M := by
  intro r
  rw [h r]
  unfold offI
  by_cases e : r = q
  · subst e
    simp [hq]
  · simp [e]
theorem StillM.goes {K l : List Id2} {L : Id2 → Nat} {left : Int × Int → Bool} {M : Int × Int → Option (Option Nat)} (h : StillM K l L left M) {q : Id2} (hq : ¬ q ∈ l) : StillM K l L (offI (offI left q) q) (putI M q none) := by
  intro r
  unfold offI putI
  by_cases e : r = q
  · subst e
    simp [hq]
  · simp [e, h r]
theorem StillM.none {K l : List Id2} {L : Id2 → Nat} {left : Int × Int → Bool} {M : Int × Int → Option (Option Nat)} (h : StillM K l L left M) (hl : ∀ q, q ∈ K → left q = false) : M = mapOf (K.filter fun q => decide (q ∈ l)) L := by
  funext q
  rw [h q]
  unfold mapOf
  by_cases hk : q ∈ K
  · by_cases h2 : q ∈ l <;> simp [hk, h2, hl q hk]
  · simp [hk]
theorem StillM.all (K l : List Id2) (L : Id2 → Nat) : StillM K l L (fun p => (mapOf K L p).isSome) (mapOf K L) := by
  intro q
  unfold mapOf
  by_cases hk : q ∈ K <;> simp [hk]
/-- An ID's box, whatever block was written besides. -/
theorem Box.fr {S : Nat → Prop} {w w' : World} {g : Nat} {a i : Int} (h : Box w g a i) (k : Fr S w w') (hg : ¬ S g) : Box w' g a i := (k.same g (box_lt h) hg).trans h
set_option maxHeartbeats 2000000 in
theorem keep_any (h : Inn S W p f mb n e K D L) (v : Value) (l : List Id2) (hv : Ids W v l) (hr : Rises l) (hl : l.length ≤ 40000) (hvS : ∀ g, v.ownBlock = some g → ¬ S g) :
    Calls Try.prog 34 #[.pointer (some ⟨p, 0, none⟩), v] W fun en W' => en = .returned (.tuple #[]) ∧ Inn S W' p f mb n e (K.filter fun q => decide (q ∈ l)) D L ∧ Fr S W W' := by
  have H := Lib.hid h
  have HI := Lib.hid hv
  have HR := Lib.hid hr
  have HV := Lib.hid hvS
  obtain ⟨c0, c1⟩ := h.cells
  cases mb with
  | none =>
    have hK : Hid (K = []) := Lib.hid h.map
    have hrg : ∀ wx : World, (Instr.range 55 (.map none)).run Try.prog wx = _ := fun wx => run_range_nilMap wx 55 35 52 Try.underlying55
    have hnx : ∀ ty, (Instr.next (.pointer (some ⟨W.heap.size, 0, none⟩)) false ty).run Try.prog (W.alloc (.mapIter none 0 #[] 0)) = .ok (.tuple #[.bool false]) (W.alloc (.mapIter none 0 #[] 0)) := fun ty => run_next_nilMap W ty 0 0 #[]
    have B1 := Lib.hid (below_one W (.mapIter none 0 #[] 0))
    clear h hv hr hvS
    go_enter Try.func34, Try.ntmps34
    go_wp2_with fail

    go_loopw [12] (fun _ wr => wr = W.alloc (.mapIter none 0 #[] 0)) (fun _ _ => 0)
    case atStart => rfl
    case round =>
      subst hrel
      go_wp2_with fail
      go_end0
      rw [hK.out]
      have H2 := H.out.keep B1.out
      rw [hK.out] at H2
      exact ⟨rfl, H2, .of_below B1.out⟩
  | some b =>
    have hown := h.map.2
    have hSb := Lib.hid h.map.1
    have hin2 := Lib.hid h.in2
    have hbp : Hid (p ≠ b) := Lib.hid fun e => h.map.2.cells_not _ _ _ (e ▸ h.box)
    have hbl : Hid (b < W.heap.size) := Lib.hid h.map.2.lt
    clear h hv hr hvS
    go_enter Try.func34, Try.ntmps34
    go_wp2_with (first | (at_range; refine wpList_range_id _ rfl _ rfl Try.underlying55 hown rfl ?_; intro w0 k0 hrg0 hc0 hg0 hs0) | fail)
    have HM0 := Lib.hid (StillM.all K l L)
    have HR0 := Lib.hid hrg0
    have HF0 : Hid (Fr (fun i => i = b) W w0) := Lib.hid (.of_grown hg0 (fun g e => by cases e))
    have HZ0 : Hid (W.heap.size + 1 ≤ w0.heap.size) := Lib.hid (by omega)
    clear hrg0 hg0 hs0 hc0 c0 c1 hown
    go_frame
    go_loopw [12] (fun _ wr => ∃ (M : Int × Int → Option (Option Nat)) (left : Int × Int → Bool) (cnt : Nat), Hid (RngI ElP wr b W.heap.size n M left cnt) ∧ Hid (StillM K l L left M) ∧ Hid (Fr (fun i => i = b) W wr) ∧ Hid (W.heap.size + 1 ≤ wr.heap.size)) (fun _ wr => wr.rangeLeft b W.heap.size)
    case atStart => exact ⟨_, _, _, HR0, HM0, HF0, HZ0⟩
    case round =>
      obtain ⟨M, left, cnt, hrg, HM, HF, HZ⟩ := hrel
      have hrg2 := hrg.out
      go_wp2_with (first | (at_next; refine wpList_next_id _ rfl _ rfl hrg2 rfl ?_ ?_) | fail)
      · intro hc0 hl0
        have HL := Lib.hid hl0
        clear hl0
        go_wp2_with fail
        go_end0
        have hm := hrg.out.map
        rw [HM.out.none (fun q hq => HL.out q.1 q.2 (hin2.out q hq))] at hm
        refine ⟨rfl, H.out.turned HF.out (fun q hq => (List.mem_filter.1 hq).1) hm, HF.out.mono fun k e => ?_⟩
        rw [e]
        exact hSb.out
      · intro p1 p2 c w2 cnt2 hp hlk hMs hrg3 hlt hg2 hs2 hen
        have H3 := Lib.hid hrg3
        have HP := Lib.hid hp
        have HLT := Lib.hid hlt
        have HF2 : Hid (Fr (fun i => i = b) W w2) := Lib.hid (HF.out.trans (.of_grown (S := fun i => i = W.heap.size) hg2 (fun g e => by injection e with e; exact e.symm)) (fun i e => by right; have e2 : i = W.heap.size := e; omega))
        have HZ2 : Hid (W.heap.size + 1 ≤ w2.heap.size) := Lib.hid (by have := HZ.out; omega)
        simp only [idv] at hen
        clear hrg2 hrg3 hp hlt hg2 hs2 hlk hMs
        go_upto_region 3 with fail
        have B3 := Lib.hid (below_one w2 (.cells #[.int .i64 p1, .int .i64 p2] 35))
        have X3 := Lib.hid (box_new w2 p1 p2)
        have H4 := Lib.hid (H3.out.kept (grown_below B3.out none) (by simp) (by simp))
        have HF3 : Hid (Fr (fun i => i = b) W _) := Lib.hid (HF2.out.step (.of_below B3.out))
        have hgb : Hid (w2.heap.size ≠ b) := Lib.hid (by have := HZ2.out; have := hbl.out; omega)
        have HZ3 : Hid (W.heap.size + 1 ≤ (w2.alloc (.cells #[.int .i64 p1, .int .i64 p2] 35)).heap.size) := Lib.hid (Nat.le_trans HZ2.out B3.out.size)
        clear HF2 HZ2 H3 B3 HF HZ hen
        generalize w2.alloc (.cells #[.int .i64 p1, .int .i64 p2] 35) = w3 at *
        generalize w2.heap.size = gb at *
        have I3 := Lib.hid (HI.out.frame (HF3.out.mono (fun k e => (show S k by rw [e]; exact hSb.out))) HV.out)
        obtain ⟨q0, q1⟩ := box_cells X3.out
        go_wp2_with fail
        (with_reducible refine (bin_any v l p1 p2 _ I3.out HR.out (by omega)).mono ?_)
        rintro en w4 ⟨kk, rfl, -, hb⟩
        have B4 := Lib.hid hb
        clear hb q0 q1
        have H5 := Lib.hid (H4.out.kept (grown_below B4.out none) (by simp) (by simp))
        have HF5 := Lib.hid (HF3.out.step (.of_below B4.out))
        have X5 := Lib.hid (box_below X3.out B4.out)
        have HZ5 : Hid (W.heap.size + 1 ≤ w4.heap.size) := Lib.hid (Nat.le_trans HZ3.out B4.out.size)
        clear H4 HF3 X3 HZ3 I3 B4
        by_cases hst : (p1, p2) ∈ l
        · rw [hasB_in hst]
          have HM2 := Lib.hid (HM.out.stays hst)
          clear hst
          go_wp2_with fail
          go_roundw
          case rel => exact ⟨_, _, _, H5, HM2, HF5, HZ5⟩
          case measure => rw [H5.out.left_eq, hrg.out.left_eq]; exact HLT.out
        · rw [hasB_not hst]
          have HM2 := Lib.hid (HM.out.goes hst)
          clear hst
          have HS : Hid (∀ w', Fr (fun i => i = b) w4 w' → (w'.cell? ⟨gb, 0, none⟩ = some (.int .i64 p1) ∧ w'.cell? ⟨gb, 1, none⟩ = some (.int .i64 p2) ∧ w'.cell? ⟨p, 1, none⟩ = some (.map (some b)))) := Lib.hid fun w' hf => by
            obtain ⟨c0, c1⟩ := box_cells (X5.out.fr hf hgb.out)
            have h1 := ((HF5.out.step hf).same _ (H.out.lt _ H.out.inp) hbp.out).trans H.out.box
            exact ⟨c0, c1, by rw [cell_of_row _ _ 1 _ _ _ h1]; rfl⟩
          go_upto_region 5 with fail
          refine wp_region_held_drew (S := fun w' => w'.cell? ⟨gb, 0, none⟩ = some (.int .i64 p1) ∧ w'.cell? ⟨gb, 1, none⟩ = some (.int .i64 p2) ∧ w'.cell? ⟨p, 1, none⟩ = some (.map (some b))) (by kernel_rfl) ?_ (fun hHeld => ?_)
          · exact HS.out _ (.of_below (Below.refl _ _).drew)
          (refine wpAnyH_take (i := 0) (oi := ⟨_, _, _, _, _, _⟩) (v := ?_) rfl (by kernel_rfl) (by kernel_rfl) (by kernel_rfl) (fun _ _ _ h => h) (Or.inl ⟨by rfl, ?_⟩) (by assumption) ?_; rotate_left 1; · (intro w hSw; (try dsimp only at hSw); go_simp; all_goals with_reducible rfl))
          try simp only [Act.put, List.setIfInBounds_toArray, List.set_cons_zero, List.set_cons_succ]
          (refine wpAnyH_take (i := 1) (oi := ⟨_, _, _, _, _, _⟩) (v := ?_) rfl (by kernel_rfl) (by kernel_rfl) (by kernel_rfl) (fun _ _ _ h => h) (Or.inl ⟨by rfl, ?_⟩) (by assumption) ?_; rotate_left 1; · (intro w hSw; (try dsimp only at hSw); go_simp; all_goals with_reducible rfl))
          try simp only [Act.put, List.setIfInBounds_toArray, List.set_cons_zero, List.set_cons_succ]
          (refine wpAnyH_take (i := 2) (oi := ⟨_, _, _, _, _, _⟩) (v := ?_) rfl (by kernel_rfl) (by kernel_rfl) (by kernel_rfl) (fun _ _ _ h => h) (Or.inl ⟨by rfl, ?_⟩) (by assumption) ?_; rotate_left 1; · (intro w hSw; (try dsimp only at hSw); go_simp; all_goals with_reducible rfl))
          try simp only [Act.put, List.setIfInBounds_toArray, List.set_cons_zero, List.set_cons_succ]
          (refine wpAnyH_take (i := 3) (oi := ⟨_, _, _, _, _, _⟩) (v := ?_) rfl (by kernel_rfl) (by kernel_rfl) (by kernel_rfl) (fun _ _ _ h => h) (Or.inl ⟨by rfl, ?_⟩) (by assumption) ?_; rotate_left 1; · (intro w hSw; (try dsimp only at hSw); go_simp; all_goals with_reducible rfl))
          try simp only [Act.put, List.setIfInBounds_toArray, List.set_cons_zero, List.set_cons_succ]
          (refine wpAnyH_take (i := 4) (oi := ⟨_, _, _, _, _, _⟩) (v := ?_) rfl (by kernel_rfl) (by kernel_rfl) (by kernel_rfl) (fun _ _ _ h => h) (Or.inl ⟨by rfl, ?_⟩) (by assumption) ?_; rotate_left 1; · (intro w hSw; (try dsimp only at hSw); go_simp; all_goals with_reducible rfl))
          try simp only [Act.put, List.setIfInBounds_toArray, List.set_cons_zero, List.set_cons_succ]
          refine wpAnyH_ready (rs := [5]) (by kernel_rfl) (by simp) ?_
          refine AllReadyH.cons (o := ⟨_, _, _, _, _, _⟩) rfl (fun Kq hKq => ?_) (AllReadyH.nil)
          clear hHeld
          refine step_drops (by rfl) (.tmp 27) (.tmp 28) (by rfl) Try.underlying55 _ (H5.out.kept (grown_below (Below.refl _ _).drew none) (by simp) (by simp)) HP.out (by rfl) (by rfl) ?_; intro w6 k6 hr6 hk6 ht6; have H6 := Lib.hid hr6; have HF6 : Hid (Fr (fun i => i = b) w4 w6) := Lib.hid ((Fr.of_below (Below.refl _ _).drew).step (.of_turned ht6 rfl)); clear hr6 ht6
          refine hKq.out _ _ ?_ (fun hHeld => ?_)
          · (try dsimp only); exact HS.out _ HF6.out
          clear hKq Kq
          try simp only [Act.put]
          refine wpAnyH_done (by kernel_rfl) ?_ _
          clear hHeld
          have HF7 := Lib.hid (HF5.out.step HF6.out)
          have HZ7 : Hid (W.heap.size + 1 ≤ w6.heap.size) := Lib.hid (Nat.le_trans HZ5.out HF6.out.size)
          clear HS HF6 HF5 HZ5 X5
          go_wp2_with fail
          go_roundw
          case rel => exact ⟨_, _, _, H6, HM2, HF7, HZ7⟩
          case measure => rw [H6.out.left_eq, hrg.out.left_eq]; exact Nat.lt_of_le_of_lt hk6 HLT.out
end Go.Proofs.Ytkoeplgkiogjlaa
