/-
  Carried over and put together: contracts of this program's functions, and plain facts. No statement is proved in this text.
-/
import Derived.Test.YtgphiggbajbmhaaGreatDoorE38
set_option maxRecDepth 100000
namespace Go.Proofs.YtgphiggbajbmhaaGreatDoor
open Go Go.RowKit
theorem fit_em : FitVIE 100 emV := ⟨by decide, by decide, by decide, by decide, by decide, fun r hr => by cases hr⟩
theorem fit_one : FitVIE 100 exOne := by rw [ex_one]; exact ⟨by decide, by decide, by decide, by decide, by decide, fun r hr => by cases hr⟩
theorem fit_two : FitVIE 100 exTwo := by rw [ex_two]; exact ⟨by decide, by decide, by decide, by decide, by decide, fun r hr => by cases hr⟩
theorem fit_up : FitVIE 100 exUp := by rw [ex_up]; exact ⟨by decide, by decide, by decide, by decide, by decide, fun r hr => by cases hr⟩
theorem fit_far : FitVIE 100 exFar := by rw [ex_far]; exact ⟨by decide, by decide, by decide, by decide, by decide, fun r hr => by cases hr⟩
theorem fit_seen : FitVIE 100 exSeen := by rw [ex_seen]; exact ⟨by decide, by decide, by decide, by decide, by decide, fun r hr => by cases hr⟩
theorem in_two (x : Ros.Mm) (h : x = (z1, 3, 1) ∨ x = (z2, 1, 0) ∨ x = (z2, 3, 2) ∨ x = (z2, 3, 3)) : In2 x.1 := by
 rcases h with rfl | rfl | rfl | rfl <;> exact ⟨by decide, by decide⟩
theorem in_em : ∀ x ∈ emV.m, In2 x.1 := fun x hx => by cases hx
theorem in_one : ∀ x ∈ exOne.m, In2 x.1 := fun x hx => by rw [ex_one] at hx; simp at hx; exact in_two x (by simp [hx])
theorem in_two2 : ∀ x ∈ exTwo.m, In2 x.1 := fun x hx => by rw [ex_two] at hx; simp at hx; rcases hx with rfl | rfl <;> exact in_two _ (by simp)
theorem in_up : ∀ x ∈ exUp.m, In2 x.1 := fun x hx => by rw [ex_up] at hx; simp at hx; rcases hx with rfl | rfl <;> exact in_two _ (by simp)
theorem in_far : ∀ x ∈ exFar.m, In2 x.1 := fun x hx => by rw [ex_far] at hx; simp at hx; rcases hx with rfl | rfl <;> exact in_two _ (by simp)
theorem in_seen : ∀ x ∈ exSeen.m, In2 x.1 := fun x hx => by rw [ex_seen] at hx; simp at hx; rcases hx with rfl | rfl <;> exact in_two _ (by simp)
theorem bool_is {K : Nat} {args : Array Value} {W : World} {x y : Bool} (h : Calls Tryz.prog K args W fun e w' => e = .returned (.bool x) ∧ Below W.heap.size W w') (e : x = y) : Calls Tryz.prog K args W fun e w' => e = .returned (.bool y) ∧ Below W.heap.size W w' := e ▸ h
set_option maxHeartbeats 4000000 in
theorem kd_one (a b c d e a' b' c' d' e' : SL) (w : World) (hrv : RV w a b c d e emV) (hru : RV w a' b' c' d' e' exOne) (htab : TabE w) (hrk : Tabs w) :
  Calls Tryz.prog 7 #[.agg #[.int .i64 1, .int .i64 1], .agg #[.slice a.1 a.2.1 a.2.2, .slice b.1 b.2.1 b.2.2, .slice c.1 c.2.1 c.2.2, .slice d.1 d.2.1 d.2.2, .slice e.1 e.2.1 e.2.2], .agg #[.slice a'.1 a'.2.1 a'.2.2, .slice b'.1 b'.2.1 b'.2.2, .slice c'.1 c'.2.1 c'.2.2, .slice d'.1 d'.2.1 d'.2.2, .slice e'.1 e'.2.1 e'.2.2], .pointer none] w fun e w' => e = .returned (.int .u8 5) ∧ Below w.heap.size w w' :=
 kind_any 1 1 a b c d e a' b' c' d' e' none emV exOne none w hrv hru (.inl ⟨rfl, rfl⟩) htab hrk fit_em fit_one (by kernel_rfl) (by kernel_rfl) (by decide) in_em in_one (by rw [turns_one]; decide) (by rw [turns_one]; decide)
  (fun i => i == 4) 4
  (fun i hi h8 t W h => by
   rw [turns_one] at h
   match i, hi, h8 with
   | 0, _, _ => exact bool_is (ch_still 1 1 a b c d e a' b' c' d' e' none t emV exOne none [(noneM, (z1, 3, 1))] W h) (same_ex.1)
   | 1, _, _ => exact bool_is (ch_heard 1 1 a b c d e a' b' c' d' e' none t emV exOne none [(noneM, (z1, 3, 1))] W h (fun Z hZ => by cases hZ)) (rfl)
   | 2, _, _ => exact bool_is (ch_said 1 1 a b c d e a' b' c' d' e' none t emV exOne none [(noneM, (z1, 3, 1))] W h) (rfl)
   | 3, _, _ => exact bool_is (ch_let0 1 1 a b c d e a' b' c' d' e' none t emV exOne none [(noneM, (z1, 3, 1))] W h (by rw [show (hostV emV (1, 1)).2.1 = 0 from host_ex.1]; decide) (by rw [show (hostV emV (1, 1)).2.1 = 0 from host_ex.1]; decide)) (rfl)
   | 4, _, _ => exact bool_is (ch_began 1 1 a b c d e a' b' c' d' e' none t emV exOne none [(noneM, (z1, 3, 1))] W h) (by kernel_rfl)
   | i + 5, hi, _ => exact absurd hi (by omega)) (by decide) (fun i hi => by simp; omega) (fun _ => by decide)
set_option maxHeartbeats 4000000 in
theorem kd_two (a b c d e a' b' c' d' e' : SL) (w : World) (hrv : RV w a b c d e exOne) (hru : RV w a' b' c' d' e' exTwo) (htab : TabE w) (hrk : Tabs w) :
  Calls Tryz.prog 7 #[.agg #[.int .i64 1, .int .i64 1], .agg #[.slice a.1 a.2.1 a.2.2, .slice b.1 b.2.1 b.2.2, .slice c.1 c.2.1 c.2.2, .slice d.1 d.2.1 d.2.2, .slice e.1 e.2.1 e.2.2], .agg #[.slice a'.1 a'.2.1 a'.2.2, .slice b'.1 b'.2.1 b'.2.2, .slice c'.1 c'.2.1 c'.2.2, .slice d'.1 d'.2.1 d'.2.2, .slice e'.1 e'.2.1 e'.2.2], .pointer none] w fun e w' => e = .returned (.int .u8 4) ∧ Below w.heap.size w w' :=
 kind_any 1 1 a b c d e a' b' c' d' e' none exOne exTwo none w hrv hru (.inl ⟨rfl, rfl⟩) htab hrk fit_one fit_two (by kernel_rfl) (by kernel_rfl) (by rw [ex_one]; decide) in_one in_two2 (by rw [turns_two]; decide) (by rw [turns_two]; decide)
  (fun i => i == 3) 3
  (fun i hi h8 t W h => by
   rw [turns_two] at h
   match i, hi, h8 with
   | 0, _, _ => exact bool_is (ch_still 1 1 a b c d e a' b' c' d' e' none t exOne exTwo none [(noneM, (z2, 1, 0))] W h) (same_ex.2.1)
   | 1, _, _ => exact bool_is (ch_heard 1 1 a b c d e a' b' c' d' e' none t exOne exTwo none [(noneM, (z2, 1, 0))] W h (fun Z hZ => by cases hZ)) (rfl)
   | 2, _, _ => exact bool_is (ch_said 1 1 a b c d e a' b' c' d' e' none t exOne exTwo none [(noneM, (z2, 1, 0))] W h) (rfl)
   | 3, _, _ => exact bool_is (ch_let1 1 1 a b c d e a' b' c' d' e' none t exOne exTwo none [(noneM, (z2, 1, 0))] W h (show (hostV exOne (1, 1)).2.1 = 3 from host_ex.2.1) rfl (by decide)) (puts_two)
   | i + 4, hi, _ => exact absurd hi (by omega)) (by decide) (fun i hi => by simp; omega) (fun _ => by decide)
set_option maxHeartbeats 4000000 in
theorem kd_heard (a b c d e a' b' c' d' e' : SL) (w : World) (gT : Nat) (hT : HoldsV w gT exTwo) (hrv : RV w a b c d e exTwo) (hru : RV w a' b' c' d' e' exSeen) (htab : TabE w) (hrk : Tabs w) :
  Calls Tryz.prog 7 #[.agg #[.int .i64 2, .int .i64 1], .agg #[.slice a.1 a.2.1 a.2.2, .slice b.1 b.2.1 b.2.2, .slice c.1 c.2.1 c.2.2, .slice d.1 d.2.1 d.2.2, .slice e.1 e.2.1 e.2.2], .agg #[.slice a'.1 a'.2.1 a'.2.2, .slice b'.1 b'.2.1 b'.2.2, .slice c'.1 c'.2.1 c'.2.2, .slice d'.1 d'.2.1 d'.2.2, .slice e'.1 e'.2.1 e'.2.2], .pointer (some ⟨gT, 0, none⟩)] w fun e w' => e = .returned (.int .u8 2) ∧ Below w.heap.size w w' :=
 kind_any 2 1 a b c d e a' b' c' d' e' (some ⟨gT, 0, none⟩) exTwo exSeen (some exTwo) w hrv hru (.inr ⟨gT, exTwo, rfl, rfl, hT, fit_two, by kernel_rfl⟩) htab hrk fit_two fit_seen (by kernel_rfl) (by kernel_rfl) (by rw [ex_two]; decide) in_two2 in_seen (by rw [turns_seen]; decide) (by rw [turns_seen]; decide)
  (fun i => i == 1) 1
  (fun i hi h8 t W h => by
   rw [turns_seen] at h
   match i, hi, h8 with
   | 0, _, _ => exact bool_is (ch_still 2 1 a b c d e a' b' c' d' e' (some ⟨gT, 0, none⟩) t exTwo exSeen (some exTwo) [] W h) (same_ex.2.2.1)
   | 1, _, _ => exact bool_is (ch_heard 2 1 a b c d e a' b' c' d' e' (some ⟨gT, 0, none⟩) t exTwo exSeen (some exTwo) [] W h (fun Z hZ => by injection hZ with hZ; subst hZ; exact fit_seen.mono (by decide))) (heard_ex)
   | i + 2, hi, _ => exact absurd hi (by omega)) (by decide) (fun i hi => by simp; omega) (fun _ => by decide)
set_option maxHeartbeats 4000000 in
theorem kd_seen (a b c d e a' b' c' d' e' : SL) (w : World) (hrv : RV w a b c d e exTwo) (hru : RV w a' b' c' d' e' exSeen) (htab : TabE w) (hrk : Tabs w) :
  Calls Tryz.prog 7 #[.agg #[.int .i64 2, .int .i64 1], .agg #[.slice a.1 a.2.1 a.2.2, .slice b.1 b.2.1 b.2.2, .slice c.1 c.2.1 c.2.2, .slice d.1 d.2.1 d.2.2, .slice e.1 e.2.1 e.2.2], .agg #[.slice a'.1 a'.2.1 a'.2.2, .slice b'.1 b'.2.1 b'.2.2, .slice c'.1 c'.2.1 c'.2.2, .slice d'.1 d'.2.1 d'.2.2, .slice e'.1 e'.2.1 e'.2.2], .pointer none] w fun e w' => e = .returned (.int .u8 0) ∧ Below w.heap.size w w' :=
 kind_any 2 1 a b c d e a' b' c' d' e' none exTwo exSeen none w hrv hru (.inl ⟨rfl, rfl⟩) htab hrk fit_two fit_seen (by kernel_rfl) (by kernel_rfl) (by rw [ex_two]; decide) in_two2 in_seen (by rw [turns_seen]; decide) (by rw [turns_seen]; decide)
  (fun i => i == 8) 8
  (fun i hi h8 t W h => by
   rw [turns_seen] at h
   match i, hi, h8 with
   | 0, _, _ => exact bool_is (ch_still 2 1 a b c d e a' b' c' d' e' none t exTwo exSeen none [] W h) (same_ex.2.2.1)
   | 1, _, _ => exact bool_is (ch_heard 2 1 a b c d e a' b' c' d' e' none t exTwo exSeen none [] W h (fun Z hZ => by cases hZ)) (rfl)
   | 2, _, _ => exact bool_is (ch_said 2 1 a b c d e a' b' c' d' e' none t exTwo exSeen none [] W h) (rfl)
   | 3, _, _ => exact bool_is (ch_let0 2 1 a b c d e a' b' c' d' e' none t exTwo exSeen none [] W h (by rw [show (hostV exTwo (2, 1)).2.1 = 1 from host_ex.2.2.1]; decide) (by rw [show (hostV exTwo (2, 1)).2.1 = 1 from host_ex.2.2.1]; decide)) (rfl)
   | 4, _, _ => exact bool_is (ch_began 2 1 a b c d e a' b' c' d' e' none t exTwo exSeen none [] W h) (by kernel_rfl)
   | 5, _, _ => exact bool_is (ch_left 2 1 a b c d e a' b' c' d' e' none t exTwo exSeen none [] W h (fun x hx => by cases hx)) (rfl)
   | 6, _, _ => exact bool_is (ch_led0 2 1 a b c d e a' b' c' d' e' none t exTwo exSeen none [] W h (by rw [lead_ex.1]; decide)) (rfl)
   | 7, _, _ => exact bool_is (ch_felled0 2 1 a b c d e a' b' c' d' e' none t exTwo exSeen none [] W h rfl) (same_ex.2.2.1)
   | i + 8, _, h8 => exact absurd h8 (by omega)) (by decide) (fun i hi => by simp; omega) (fun h => absurd h (by decide))
set_option maxHeartbeats 4000000 in
theorem kd_up (a b c d e a' b' c' d' e' : SL) (w : World) (hrv : RV w a b c d e exTwo) (hru : RV w a' b' c' d' e' exUp) (htab : TabE w) (hrk : Tabs w) :
  Calls Tryz.prog 7 #[.agg #[.int .i64 1, .int .i64 1], .agg #[.slice a.1 a.2.1 a.2.2, .slice b.1 b.2.1 b.2.2, .slice c.1 c.2.1 c.2.2, .slice d.1 d.2.1 d.2.2, .slice e.1 e.2.1 e.2.2], .agg #[.slice a'.1 a'.2.1 a'.2.2, .slice b'.1 b'.2.1 b'.2.2, .slice c'.1 c'.2.1 c'.2.2, .slice d'.1 d'.2.1 d'.2.2, .slice e'.1 e'.2.1 e'.2.2], .pointer none] w fun e w' => e = .returned (.int .u8 7) ∧ Below w.heap.size w w' :=
 kind_any 1 1 a b c d e a' b' c' d' e' none exTwo exUp none w hrv hru (.inl ⟨rfl, rfl⟩) htab hrk fit_two fit_up (by kernel_rfl) (by kernel_rfl) (by rw [ex_two]; decide) in_two2 in_up (by rw [turns_up]; decide) (by rw [turns_up]; decide)
  (fun i => i == 6) 6
  (fun i hi h8 t W h => by
   rw [turns_up] at h
   match i, hi, h8 with
   | 0, _, _ => exact bool_is (ch_still 1 1 a b c d e a' b' c' d' e' none t exTwo exUp none [((z2, 1, 0), (z2, 3, 2))] W h) (same_ex.2.2.2.1)
   | 1, _, _ => exact bool_is (ch_heard 1 1 a b c d e a' b' c' d' e' none t exTwo exUp none [((z2, 1, 0), (z2, 3, 2))] W h (fun Z hZ => by cases hZ)) (rfl)
   | 2, _, _ => exact bool_is (ch_said 1 1 a b c d e a' b' c' d' e' none t exTwo exUp none [((z2, 1, 0), (z2, 3, 2))] W h) (rfl)
   | 3, _, _ => exact bool_is (ch_let2 1 1 a b c d e a' b' c' d' e' none t exTwo exUp none [((z2, 1, 0), (z2, 3, 2))] W h (show (hostV exTwo (1, 1)).2.1 = 3 from host_ex.2.2.2) rfl (by decide) (by decide)) (rfl)
   | 4, _, _ => exact bool_is (ch_began 1 1 a b c d e a' b' c' d' e' none t exTwo exUp none [((z2, 1, 0), (z2, 3, 2))] W h) (by kernel_rfl)
   | 5, _, _ => exact bool_is (ch_left 1 1 a b c d e a' b' c' d' e' none t exTwo exUp none [((z2, 1, 0), (z2, 3, 2))] W h (fun x hx => by simp at hx; subst hx; decide)) (rfl)
   | 6, _, _ => exact bool_is (ch_led1 1 1 a b c d e a' b' c' d' e' none t exTwo exUp none [((z2, 1, 0), (z2, 3, 2))] W h lead_ex.1 rfl rfl (by show (([((z2, 1, 0), (z2, 3, 2))] : List Tn).all (byB 2)) = true; kernel_rfl) lead_ex.2.1 (by rw [lead_ex.2.2]; decide)) (by rw [lead_ex.2.2, show putsB exTwo exUp (1, 1) [((z2, 1, 0), (z2, 3, 2))] = true from puts_up]; decide)
   | i + 7, hi, _ => exact absurd hi (by omega)) (by decide) (fun i hi => by simp; omega) (fun _ => by decide)
set_option maxHeartbeats 4000000 in
theorem kd_far (a b c d e a' b' c' d' e' : SL) (w : World) (hrv : RV w a b c d e exTwo) (hru : RV w a' b' c' d' e' exFar) (htab : TabE w) (hrk : Tabs w) :
  Calls Tryz.prog 7 #[.agg #[.int .i64 1, .int .i64 1], .agg #[.slice a.1 a.2.1 a.2.2, .slice b.1 b.2.1 b.2.2, .slice c.1 c.2.1 c.2.2, .slice d.1 d.2.1 d.2.2, .slice e.1 e.2.1 e.2.2], .agg #[.slice a'.1 a'.2.1 a'.2.2, .slice b'.1 b'.2.1 b'.2.2, .slice c'.1 c'.2.1 c'.2.2, .slice d'.1 d'.2.1 d'.2.2, .slice e'.1 e'.2.1 e'.2.2], .pointer none] w fun e w' => e = .returned (.int .u8 0) ∧ Below w.heap.size w w' :=
 kind_any 1 1 a b c d e a' b' c' d' e' none exTwo exFar none w hrv hru (.inl ⟨rfl, rfl⟩) htab hrk fit_two fit_far (by kernel_rfl) (by kernel_rfl) (by rw [ex_two]; decide) in_two2 in_far (by rw [turns_far]; decide) (by rw [turns_far]; decide)
  (fun i => i == 8) 8
  (fun i hi h8 t W h => by
   rw [turns_far] at h
   match i, hi, h8 with
   | 0, _, _ => exact bool_is (ch_still 1 1 a b c d e a' b' c' d' e' none t exTwo exFar none [((z2, 1, 0), (z2, 3, 3))] W h) (same_ex.2.2.2.2.1)
   | 1, _, _ => exact bool_is (ch_heard 1 1 a b c d e a' b' c' d' e' none t exTwo exFar none [((z2, 1, 0), (z2, 3, 3))] W h (fun Z hZ => by cases hZ)) (rfl)
   | 2, _, _ => exact bool_is (ch_said 1 1 a b c d e a' b' c' d' e' none t exTwo exFar none [((z2, 1, 0), (z2, 3, 3))] W h) (rfl)
   | 3, _, _ => exact bool_is (ch_let2 1 1 a b c d e a' b' c' d' e' none t exTwo exFar none [((z2, 1, 0), (z2, 3, 3))] W h (show (hostV exTwo (1, 1)).2.1 = 3 from host_ex.2.2.2) rfl (by decide) (by decide)) (rfl)
   | 4, _, _ => exact bool_is (ch_began 1 1 a b c d e a' b' c' d' e' none t exTwo exFar none [((z2, 1, 0), (z2, 3, 3))] W h) (by kernel_rfl)
   | 5, _, _ => exact bool_is (ch_left 1 1 a b c d e a' b' c' d' e' none t exTwo exFar none [((z2, 1, 0), (z2, 3, 3))] W h (fun x hx => by simp at hx; subst hx; decide)) (rfl)
   | 6, _, _ => exact bool_is (ch_led1 1 1 a b c d e a' b' c' d' e' none t exTwo exFar none [((z2, 1, 0), (z2, 3, 3))] W h lead_ex.1 rfl rfl (by show (([((z2, 1, 0), (z2, 3, 3))] : List Tn).all (byB 2)) = true; kernel_rfl) lead_ex.2.1 (by rw [lead_ex.2.2]; decide)) (by rw [lead_ex.2.2]; rfl)
   | 7, _, _ => exact bool_is (ch_felled1 1 1 a b c d e a' b' c' d' e' none t exTwo exFar none [((z2, 1, 0), (z2, 3, 3))] W h (by kernel_rfl)) (rfl)
   | i + 8, _, h8 => exact absurd h8 (by omega)) (by decide) (fun i hi => by simp; omega) (fun h => absurd h (by decide))
set_option maxHeartbeats 4000000 in
theorem kd_em (a b c d e a' b' c' d' e' : SL) (w : World) (hrv : RV w a b c d e emV) (hru : RV w a' b' c' d' e' emV) (htab : TabE w) (hrk : Tabs w) :
  Calls Tryz.prog 7 #[.agg #[.int .i64 0, .int .i64 0], .agg #[.slice a.1 a.2.1 a.2.2, .slice b.1 b.2.1 b.2.2, .slice c.1 c.2.1 c.2.2, .slice d.1 d.2.1 d.2.2, .slice e.1 e.2.1 e.2.2], .agg #[.slice a'.1 a'.2.1 a'.2.2, .slice b'.1 b'.2.1 b'.2.2, .slice c'.1 c'.2.1 c'.2.2, .slice d'.1 d'.2.1 d'.2.2, .slice e'.1 e'.2.1 e'.2.2], .pointer none] w fun e w' => e = .returned (.int .u8 1) ∧ Below w.heap.size w w' :=
 kind_any 0 0 a b c d e a' b' c' d' e' none emV emV none w hrv hru (.inl ⟨rfl, rfl⟩) htab hrk fit_em fit_em (by kernel_rfl) (by kernel_rfl) (by decide) in_em in_em (by rw [turns_em]; decide) (by rw [turns_em]; decide)
  (fun i => i == 0) 0
  (fun i hi h8 t W h => by
   rw [turns_em] at h
   match i, hi, h8 with
   | 0, _, _ => exact bool_is (ch_still 0 0 a b c d e a' b' c' d' e' none t emV emV none [] W h) (same_ex.2.2.2.2.2)
   | i + 1, hi, _ => exact absurd hi (by omega)) (by decide) (fun i hi => by simp; omega) (fun _ => by decide)
end Go.Proofs.YtgphiggbajbmhaaGreatDoor
