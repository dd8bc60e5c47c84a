/-
  A walk over lists of frames that are compared, where both are the same. No statement is proved in this text.
-/
import Derived.Test.YtmgiglefabbmcaaOutK
set_option maxRecDepth 20000
namespace Go.Proofs.Ytmgiglefabbmcaa
open Go Go.RowKit
/-- A struct that is loaded, wherever it lies: its run. -/
theorem run_loadAt_recs {w : World} {ad : Addr} {q : Fq} (hc : ∀ j v, (fc q)[j]? = some v → w.cell? (ad.add j) = some v) : (Instr.loadAt 32 (.pointer (some ad))).run Try.prog w = .ok (.agg (fc q)) w := by
  have hl : (loadCells ad (fc q).toList.length).run Try.prog w = .ok (fc q).toList.toArray w := run_loadCells_list (P := Try.prog) w ad (fc q).toList (fun j v hv => hc j v (by simpa using hv))
  have hi := size32 q
  cases hq : Try.prog.info? 32 with
  | none => simp [hq] at hi
  | some i =>
    have hs : i.size = (fc q).size := by simpa [hq] using hi
    have hagg : (isAgg 32).run Try.prog w = .ok true w := by
      unfold isAgg
      rw [Sem.run_bind, run_underlying Try.underlying32 w]
      rfl
    simp only [Array.length_toList, Array.toArray_toList] at hl
    simp only [Instr.loadAt, Instr.sureAddr, Sem.run_bind, Sem.run_pure, Result.andThen_ok]
    simp [loadVar, Sem.run_bind, hagg, sizeOf, typeInfo, hq, hs, hl]
theorem rcs_run {w w' : World} {ad : Addr} {n c : Nat} {qs : List Fq} (h : Rcs encF 14 w (.slice (some ad) n c) qs) (hb : Below w.heap.size w w') {k : Nat} (hk : k < qs.length) : (Instr.loadAt 32 (.pointer (some (ad.add (k * 14))))).run Try.prog w' = .ok (.agg (fc qs[k])) w' := run_loadAt_recs (rcs_frame h hb hk)
/-- A load, in a region that draws its order, by what S says of its run. -/
theorem yieldsIf_loadAt {P : Program} {ops : Array Oper} {S : World → Prop} {op : Oper} {a : Act} {v : Value} (hw : Region.wanted op (yielded ops a.tmps) = true) (ty : TypeId) (x : Operand) (ho : op.op = .load ty x)
    (z : Value) (hx : a.eval x = z) (hS : ∀ w, S w → (Instr.loadAt ty z).run P w = .ok v w) : YieldsIf P ops S op v a :=
  .inl ⟨hw, fun w hw' => by
    unfold execOp
    simp only [ho, hx, Sem.run_bind, Sem.run_pure, Result.andThen_ok, hS w hw']⟩
set_option maxHeartbeats 4000000 in
theorem frames_same (v u : Value) (qs us : List Fq) (w : World) (h : Rcs encF 14 w v qs) (h2 : Rcs encF 14 w u us) (hq : ∀ q ∈ qs, FR w q) (hu : ∀ q ∈ us, FR w q) (he : qs.map (·.F) = us.map (·.F)) (hF : ∀ q ∈ qs, Fit 20000 q.F.v) (hl : qs.length ≤ 5000) :
    Calls Try.prog 26 #[v, u] w fun e w' => e = .returned (.bool true) ∧ Below w.heap.size w w' := by
  have hlen : us.length = qs.length := by have := congrArg List.length he; simp at this; omega
  have HI := Lib.hid h
  have HJ := Lib.hid h2
  obtain ⟨A, c, rfl, hz⟩ := h
  obtain ⟨B, d, rfl, hy⟩ := h2
  clear hz hy
  have HQ := Lib.hid hq
  have HU := Lib.hid hu
  have HE := Lib.hid (fun k (h1 : k < qs.length) (h2 : k < us.length) => (show qs[k].F = us[k].F by
    have := congrArg (fun l => l[k]?) he
    simpa [h1, h2] using this))
  have HF := Lib.hid hF
  have HLN := Lib.hid hlen
  rw [hlen] at HJ
  rw [hlen]
  clear hq hu he hF hlen
  have hne : ((qs.length : Int) != (qs.length : Int)) = false := by simp
  go_enter Try.func26, Try.ntmps26
  go_wp2_with fail
  go_loopw [5] (fun s5 wr => ∃ k : Nat, k ≤ qs.length ∧ s5 = .int .i64 k ∧ Hid (Below w.heap.size w wr)) (fun s5 _ => qs.length - (intOf s5).toNat)
  case atStart => exact ⟨0, by omega, rfl, Lib.hid (Below.refl _ _)⟩
  case round =>
    obtain ⟨k, hkl, rfl, HW⟩ := hrel
    have i3 : (0 : Int) ≤ (k : Int) := by omega
    by_cases hlt : k < qs.length
    · have hd : decide ((k : Int) < (qs.length : Int)) = true := by simp; omega
      have i4 : (k : Int) < (qs.length : Int) := by omega
      have hlu : k < us.length := by rw [HLN.out]; exact hlt
      obtain ⟨ad, rfl⟩ := HI.out.addr (Nat.lt_of_le_of_lt (Nat.zero_le _) hlt)
      obtain ⟨ae, rfl⟩ := HJ.out.addr (Nat.lt_of_le_of_lt (Nat.zero_le _) hlu)
      have R1 := Lib.hid (fun W (hb : Below w.heap.size w W) => rcs_run HI.out hb hlt)
      have R2 := Lib.hid (fun W (hb : Below w.heap.size w W) => rcs_run HJ.out hb hlu)
      have F1 := Lib.hid (HQ.out _ (List.getElem_mem hlt))
      have F2 := Lib.hid (HU.out _ (List.getElem_mem hlu))
      have E1 := Lib.hid (HE.out k hlt hlu)
      have V1 := Lib.hid (HF.out _ (List.getElem_mem hlt))
      generalize qs[k] = q at *
      generalize us[k] = x at *
      have HS := Lib.hid (fun W (hb : Below w.heap.size w W) => same_any q x W (F1.out.below hb) (F2.out.below hb) E1.out V1.out)
      go_upto_region 6 with (fail)
      refine wp_region_held_drew (S := fun W => (Instr.loadAt 32 (.pointer (some (ad.add (k * 14))))).run Try.prog W = .ok (.agg (fc q)) W ∧ (Instr.loadAt 32 (.pointer (some (ae.add (k * 14))))).run Try.prog W = .ok (.agg (fc x)) W) (by kernel_rfl) ?_ (fun hHeld => ?_)
      · exact ⟨R1.out _ (HW.out.trans (show Below w.heap.size wr wr.drew from ⟨rfl, rfl, rfl, Nat.le_refl _, fun _ _ => rfl⟩)), R2.out _ (HW.out.trans (show Below w.heap.size wr wr.drew from ⟨rfl, rfl, rfl, Nat.le_refl _, fun _ _ => rfl⟩))⟩
      (refine wpAnyH_take (i := 0) (oi := ⟨_, _, _, _, _, _⟩) (v := ?_) rfl (by kernel_rfl) (by kernel_rfl) (by kernel_rfl) (fun _ _ _ h => h) (Or.inl ⟨by rfl, ?_⟩) (by assumption) ?_; rotate_left 1; · (intro w hSw; (try dsimp only at hSw); go_simp; all_goals with_reducible rfl))
      try simp only [Act.put, List.setIfInBounds_toArray, List.set_cons_zero, List.set_cons_succ]
      (refine wpAnyH_take (i := 1) (oi := ⟨_, _, _, _, _, _⟩) (v := ?_) rfl (by kernel_rfl) (by kernel_rfl) (by kernel_rfl) (fun _ _ _ h => h) (Or.inl ⟨by rfl, ?_⟩) (by assumption) ?_; rotate_left 1; · (intro w hSw; (try dsimp only at hSw); go_simp; all_goals with_reducible rfl))
      try simp only [Act.put, List.setIfInBounds_toArray, List.set_cons_zero, List.set_cons_succ]
      (refine wpAnyH_take (i := 2) (oi := ⟨_, _, _, _, _, _⟩) (v := ?_) rfl (by kernel_rfl) (by kernel_rfl) (by kernel_rfl) (fun _ _ _ h => h) (Or.inl ⟨by rfl, ?_⟩) (by assumption) ?_; rotate_left 1; · (intro w hSw; (try dsimp only at hSw); go_simp; all_goals with_reducible rfl))
      try simp only [Act.put, List.setIfInBounds_toArray, List.set_cons_zero, List.set_cons_succ]
      refine wpAnyH_take (i := 3) (oi := ⟨_, _, _, _, _, _⟩) (v := .agg (fc q)) rfl (by kernel_rfl) (by kernel_rfl) (by kernel_rfl) (fun _ _ _ h => h) (yieldsIf_loadAt rfl 32 (.tmp 19) rfl (.pointer (some (ad.add (k * 14)))) rfl (fun _ h => h.1)) (by assumption) ?_
      try simp only [Act.put, List.setIfInBounds_toArray, List.set_cons_zero, List.set_cons_succ]
      (refine wpAnyH_take (i := 4) (oi := ⟨_, _, _, _, _, _⟩) (v := ?_) rfl (by kernel_rfl) (by kernel_rfl) (by kernel_rfl) (fun _ _ _ h => h) (Or.inl ⟨by rfl, ?_⟩) (by assumption) ?_; rotate_left 1; · (intro w hSw; (try dsimp only at hSw); go_simp; all_goals with_reducible rfl))
      try simp only [Act.put, List.setIfInBounds_toArray, List.set_cons_zero, List.set_cons_succ]
      (refine wpAnyH_take (i := 5) (oi := ⟨_, _, _, _, _, _⟩) (v := ?_) rfl (by kernel_rfl) (by kernel_rfl) (by kernel_rfl) (fun _ _ _ h => h) (Or.inl ⟨by rfl, ?_⟩) (by assumption) ?_; rotate_left 1; · (intro w hSw; (try dsimp only at hSw); go_simp; all_goals with_reducible rfl))
      try simp only [Act.put, List.setIfInBounds_toArray, List.set_cons_zero, List.set_cons_succ]
      (refine wpAnyH_take (i := 6) (oi := ⟨_, _, _, _, _, _⟩) (v := ?_) rfl (by kernel_rfl) (by kernel_rfl) (by kernel_rfl) (fun _ _ _ h => h) (Or.inl ⟨by rfl, ?_⟩) (by assumption) ?_; rotate_left 1; · (intro w hSw; (try dsimp only at hSw); go_simp; all_goals with_reducible rfl))
      try simp only [Act.put, List.setIfInBounds_toArray, List.set_cons_zero, List.set_cons_succ]
      refine wpAnyH_take (i := 7) (oi := ⟨_, _, _, _, _, _⟩) (v := .agg (fc x)) rfl (by kernel_rfl) (by kernel_rfl) (by kernel_rfl) (fun _ _ _ h => h) (yieldsIf_loadAt rfl 32 (.tmp 23) rfl (.pointer (some (ae.add (k * 14)))) rfl (fun _ h => h.2)) (by assumption) ?_
      try simp only [Act.put, List.setIfInBounds_toArray, List.set_cons_zero, List.set_cons_succ]
      refine wpAnyH_ready (rs := [8]) (by kernel_rfl) (by simp) ?_
      refine AllReadyH.cons (o := ⟨_, _, _, _, _, _⟩) rfl (fun Kq hKq => ?_) AllReadyH.nil
      go_simp
      clear hHeld
      (go_at_call 23; (with_reducible refine (HS.out wr.drew (HW.out.trans (show Below w.heap.size wr wr.drew from ⟨rfl, rfl, rfl, Nat.le_refl _, fun _ _ => rfl⟩))).mono ?_); rintro e1 w1 ⟨rfl, hb⟩; have B1 := Lib.hid (below_after HW.out (show Below wr.heap.size wr w1 from ⟨hb.os, hb.tape, hb.output, hb.size, hb.block⟩) (Nat.le_refl _)); clear hb)
      refine hKq.out _ _ ?_ (fun hHeld => ?_)
      · (try dsimp only); exact ⟨R1.out _ B1.out, R2.out _ B1.out⟩
      clear hKq Kq
      try simp only [Act.put, List.setIfInBounds_toArray, List.set_cons_zero, List.set_cons_succ]
      (refine wpAnyH_take (i := 9) (oi := ⟨_, _, _, _, _, _⟩) (v := ?_) rfl (by kernel_rfl) (by kernel_rfl) (by kernel_rfl) (fun _ _ _ h => h) (Or.inl ⟨by rfl, ?_⟩) (by assumption) ?_; rotate_left 1; · (intro w hSw; (try dsimp only at hSw); go_simp; all_goals with_reducible rfl))
      try simp only [Act.put, List.setIfInBounds_toArray, List.set_cons_zero, List.set_cons_succ]
      refine wpAnyH_done (by kernel_rfl) ?_ _
      go_wp2_with fail
      go_roundw
      case rel => exact ⟨k + 1, by omega, by go_num, B1⟩
      case measure => simp [intOf]; omega
    · obtain rfl : k = qs.length := by omega
      have hd : decide ((qs.length : Int) < (qs.length : Int)) = false := by simp
      go_wp2_with fail
      go_ret
      exact ⟨rfl, HW.out⟩
end Go.Proofs.Ytmgiglefabbmcaa
