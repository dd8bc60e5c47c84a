/-
  Walks over copies of lists, and over lists that are compared, where both are the same. No statement is proved in this text.
-/
import Derived.Test.YtmgiglefabbmcaaOutA
set_option maxRecDepth 20000
namespace Go.Proofs.Ytmgiglefabbmcaa
open Go Go.RowKit
theorem info79 : (Try.prog.info? 79).map (fun i => (i.zero, i.size, i.bytes)) = some (some (.agg #[.int .i64 0, .int .i64 0, .int .u8 0, .int .i64 0]), 4, 32) := by kernel_rfl
set_option maxHeartbeats 4000000 in
theorem copiedM_any (v : Value) (l : List _) (w : World) (h : Rcs encM 4 w v l) (hl : l.length ≤ 100000) :
    Calls Try.prog 36 #[v] w fun e w' => ∃ X, e = .returned X ∧ OwnsR encM 4 79 w' w.heap.size X l ∧ Below w.heap.size w w' := by
  have q25 : ∀ (w : World) (a : Option Addr) (n c n' c' : Nat), (binOp .eql 25 (.slice a n c) (.slice none n' c')).run Try.prog w = .ok (.bool a.isNone) w := fun w a n c n' c' => Lib.run_eql_slice_nil w _ _ a n c n' c' Try.underlying25
  have HI := Lib.hid h
  obtain ⟨A, c, rfl, hz, hc, hy⟩ := h
  clear hy
  cases A with
  | none =>
    obtain rfl := hz rfl
    have hn : l = [] := List.eq_nil_of_length_eq_zero (by omega)
    subst hn
    clear hz hc
    go_enter Try.func36, Try.ntmps36
    go_wp2_with fail
    go_ret
    exact ⟨_, rfl, OwnsR.nil _ _ _, Below.refl _ _⟩
  | some ad =>
    clear hz hc
    go_enter Try.func36, Try.ntmps36
    go_wp2_with first
      | (at_make; (refine wpList_make_recs (enc := encM) 25 79 Try.underlying25 info79 (by decide) _ rfl (.tmp 6) rfl _ rfl (by omega) (by omega) ?_); intro v2 w2 h1 h2; have HO := Lib.hid h1; have H2 := Lib.hid h2; have HK := Lib.hid (HI.out.below h2); have HZ := Lib.hid h2.size; clear h1 h2)
      | (at_builtin; refine wpList_append_recs 25 79 Try.underlying25 info79 rfl encM_len (by decide) encM_one (by decide) rfl (.tmp 7) (.tmp 8) rfl _ w.heap.size v2 _ [] l rfl rfl HO.out HK.out (by simp; omega) HZ.out ?_; intro v3 w3 h1 h2; have HP := Lib.hid h1; have H3 := Lib.hid (H2.out.trans h2); clear h1 h2)
    go_ret
    exact ⟨_, rfl, HP.out, H3.out⟩
theorem info24 : (Try.prog.info? 24).map (fun i => (i.zero, i.size, i.bytes)) = some (some (.agg #[.int .i64 0, .int .i64 0]), 2, 16) := by kernel_rfl
set_option maxHeartbeats 4000000 in
theorem copiedI_any (v : Value) (l : List _) (w : World) (h : Rcs encI 2 w v l) (hl : l.length ≤ 100000) :
    Calls Try.prog 37 #[v] w fun e w' => ∃ X, e = .returned X ∧ OwnsR encI 2 24 w' w.heap.size X l ∧ Below w.heap.size w w' := by
  have q26 : ∀ (w : World) (a : Option Addr) (n c n' c' : Nat), (binOp .eql 26 (.slice a n c) (.slice none n' c')).run Try.prog w = .ok (.bool a.isNone) w := fun w a n c n' c' => Lib.run_eql_slice_nil w _ _ a n c n' c' Try.underlying26
  have HI := Lib.hid h
  obtain ⟨A, c, rfl, hz, hc, hy⟩ := h
  clear hy
  cases A with
  | none =>
    obtain rfl := hz rfl
    have hn : l = [] := List.eq_nil_of_length_eq_zero (by omega)
    subst hn
    clear hz hc
    go_enter Try.func37, Try.ntmps37
    go_wp2_with fail
    go_ret
    exact ⟨_, rfl, OwnsR.nil _ _ _, Below.refl _ _⟩
  | some ad =>
    clear hz hc
    go_enter Try.func37, Try.ntmps37
    go_wp2_with first
      | (at_make; (refine wpList_make_recs (enc := encI) 26 24 Try.underlying26 info24 (by decide) _ rfl (.tmp 6) rfl _ rfl (by omega) (by omega) ?_); intro v2 w2 h1 h2; have HO := Lib.hid h1; have H2 := Lib.hid h2; have HK := Lib.hid (HI.out.below h2); have HZ := Lib.hid h2.size; clear h1 h2)
      | (at_builtin; refine wpList_append_recs 26 24 Try.underlying26 info24 rfl encI_len (by decide) encI_one (by decide) rfl (.tmp 7) (.tmp 8) rfl _ w.heap.size v2 _ [] l rfl rfl HO.out HK.out (by simp; omega) HZ.out ?_; intro v3 w3 h1 h2; have HP := Lib.hid h1; have H3 := Lib.hid (H2.out.trans h2); clear h1 h2)
    go_ret
    exact ⟨_, rfl, HP.out, H3.out⟩
theorem info76 : (Try.prog.info? 76).map (fun i => (i.zero, i.size, i.bytes)) = some (some (.agg #[.int .i64 0, .int .i64 0, .int .i64 0, .slice none 0 0]), 4, 48) := by kernel_rfl
set_option maxHeartbeats 4000000 in
theorem copiedW_any (v : Value) (l : List _) (w : World) (h : Rcs encW 4 w v l) (hl : l.length ≤ 100000) :
    Calls Try.prog 38 #[v] w fun e w' => ∃ X, e = .returned X ∧ OwnsR encW 4 76 w' w.heap.size X l ∧ Below w.heap.size w w' := by
  have q27 : ∀ (w : World) (a : Option Addr) (n c n' c' : Nat), (binOp .eql 27 (.slice a n c) (.slice none n' c')).run Try.prog w = .ok (.bool a.isNone) w := fun w a n c n' c' => Lib.run_eql_slice_nil w _ _ a n c n' c' Try.underlying27
  have HI := Lib.hid h
  obtain ⟨A, c, rfl, hz, hc, hy⟩ := h
  clear hy
  cases A with
  | none =>
    obtain rfl := hz rfl
    have hn : l = [] := List.eq_nil_of_length_eq_zero (by omega)
    subst hn
    clear hz hc
    go_enter Try.func38, Try.ntmps38
    go_wp2_with fail
    go_ret
    exact ⟨_, rfl, OwnsR.nil _ _ _, Below.refl _ _⟩
  | some ad =>
    clear hz hc
    go_enter Try.func38, Try.ntmps38
    go_wp2_with first
      | (at_make; (refine wpList_make_recs (enc := encW) 27 76 Try.underlying27 info76 (by decide) _ rfl (.tmp 6) rfl _ rfl (by omega) (by omega) ?_); intro v2 w2 h1 h2; have HO := Lib.hid h1; have H2 := Lib.hid h2; have HK := Lib.hid (HI.out.below h2); have HZ := Lib.hid h2.size; clear h1 h2)
      | (at_builtin; refine wpList_append_recs 27 76 Try.underlying27 info76 rfl encW_len (by decide) encW_one (by decide) rfl (.tmp 7) (.tmp 8) rfl _ w.heap.size v2 _ [] l rfl rfl HO.out HK.out (by simp; omega) HZ.out ?_; intro v3 w3 h1 h2; have HP := Lib.hid h1; have H3 := Lib.hid (H2.out.trans h2); clear h1 h2)
    go_ret
    exact ⟨_, rfl, HP.out, H3.out⟩
theorem info81 : (Try.prog.info? 81).map (fun i => (i.zero, i.size, i.bytes)) = some (some (.agg #[.int .i64 0, .int .i64 0, .int .i64 0]), 3, 24) := by kernel_rfl
set_option maxHeartbeats 4000000 in
theorem copiedT_any (v : Value) (l : List _) (w : World) (h : Rcs encT 3 w v l) (hl : l.length ≤ 100000) :
    Calls Try.prog 39 #[v] w fun e w' => ∃ X, e = .returned X ∧ OwnsR encT 3 81 w' w.heap.size X l ∧ Below w.heap.size w w' := by
  have q28 : ∀ (w : World) (a : Option Addr) (n c n' c' : Nat), (binOp .eql 28 (.slice a n c) (.slice none n' c')).run Try.prog w = .ok (.bool a.isNone) w := fun w a n c n' c' => Lib.run_eql_slice_nil w _ _ a n c n' c' Try.underlying28
  have HI := Lib.hid h
  obtain ⟨A, c, rfl, hz, hc, hy⟩ := h
  clear hy
  cases A with
  | none =>
    obtain rfl := hz rfl
    have hn : l = [] := List.eq_nil_of_length_eq_zero (by omega)
    subst hn
    clear hz hc
    go_enter Try.func39, Try.ntmps39
    go_wp2_with fail
    go_ret
    exact ⟨_, rfl, OwnsR.nil _ _ _, Below.refl _ _⟩
  | some ad =>
    clear hz hc
    go_enter Try.func39, Try.ntmps39
    go_wp2_with first
      | (at_make; (refine wpList_make_recs (enc := encT) 28 81 Try.underlying28 info81 (by decide) _ rfl (.tmp 6) rfl _ rfl (by omega) (by omega) ?_); intro v2 w2 h1 h2; have HO := Lib.hid h1; have H2 := Lib.hid h2; have HK := Lib.hid (HI.out.below h2); have HZ := Lib.hid h2.size; clear h1 h2)
      | (at_builtin; refine wpList_append_recs 28 81 Try.underlying28 info81 rfl encT_len (by decide) encT_one (by decide) rfl (.tmp 7) (.tmp 8) rfl _ w.heap.size v2 _ [] l rfl rfl HO.out HK.out (by simp; omega) HZ.out ?_; intro v3 w3 h1 h2; have HP := Lib.hid h1; have H3 := Lib.hid (H2.out.trans h2); clear h1 h2)
    go_ret
    exact ⟨_, rfl, HP.out, H3.out⟩
theorem info32 : (Try.prog.info? 32).map (fun i => (i.zero, i.size, i.bytes)) = some (some (.agg #[.int .u8 0, .int .i64 0, .int .i64 0, .int .i64 0, .int .i64 0, .int .i64 0, .int .i64 0, .int .i64 0, .int .i64 0, .slice none 0 0, .slice none 0 0, .slice none 0 0, .slice none 0 0, .slice none 0 0]), 14, 192) := by kernel_rfl
set_option maxHeartbeats 4000000 in
theorem copiedF_any (v : Value) (l : List _) (w : World) (h : Rcs encF 14 w v l) (hl : l.length ≤ 100000) :
    Calls Try.prog 32 #[v] w fun e w' => ∃ X, e = .returned X ∧ OwnsR encF 14 32 w' w.heap.size X l ∧ Below w.heap.size w w' := by
  have q41 : ∀ (w : World) (a : Option Addr) (n c n' c' : Nat), (binOp .eql 41 (.slice a n c) (.slice none n' c')).run Try.prog w = .ok (.bool a.isNone) w := fun w a n c n' c' => Lib.run_eql_slice_nil w _ _ a n c n' c' Try.underlying41
  have HI := Lib.hid h
  obtain ⟨A, c, rfl, hz, hc, hy⟩ := h
  clear hy
  cases A with
  | none =>
    obtain rfl := hz rfl
    have hn : l = [] := List.eq_nil_of_length_eq_zero (by omega)
    subst hn
    clear hz hc
    go_enter Try.func32, Try.ntmps32
    go_wp2_with fail
    go_ret
    exact ⟨_, rfl, OwnsR.nil _ _ _, Below.refl _ _⟩
  | some ad =>
    clear hz hc
    go_enter Try.func32, Try.ntmps32
    go_wp2_with first
      | (at_make; (refine wpList_make_recs (enc := encF) 41 32 Try.underlying41 info32 (by decide) _ rfl (.tmp 6) rfl _ rfl (by omega) (by omega) ?_); intro v2 w2 h1 h2; have HO := Lib.hid h1; have H2 := Lib.hid h2; have HK := Lib.hid (HI.out.below h2); have HZ := Lib.hid h2.size; clear h1 h2)
      | (at_builtin; refine wpList_append_recs 41 32 Try.underlying41 info32 rfl encF_len (by decide) encF_one (by decide) rfl (.tmp 7) (.tmp 8) rfl _ w.heap.size v2 _ [] l rfl rfl HO.out HK.out (by simp; omega) HZ.out ?_; intro v3 w3 h1 h2; have HP := Lib.hid h1; have H3 := Lib.hid (H2.out.trans h2); clear h1 h2)
    go_ret
    exact ⟨_, rfl, HP.out, H3.out⟩
set_option maxHeartbeats 4000000 in
theorem sameM_self (v u : Value) (l : List _) (w : World) (h : Rcs encM 4 w v l) (h2 : Rcs encM 4 w u l) (hl : l.length ≤ 100000) :
    Calls Try.prog 43 #[v, u] w fun e w' => e = .returned (.bool true) ∧ Below w.heap.size w w' := by
  have HI := Lib.hid h
  have HJ := Lib.hid h2
  obtain ⟨A, c, rfl, hz⟩ := h
  obtain ⟨B, d, rfl, hy⟩ := h2
  clear hz hy
  have hne : ((l.length : Int) != (l.length : Int)) = false := by simp
  go_enter Try.func43, Try.ntmps43
  go_wp2_with fail
  go_loopw [5] (fun s5 wr => ∃ k : Nat, k ≤ l.length ∧ s5 = .int .i64 k ∧ Hid (Below w.heap.size w wr)) (fun s5 _ => l.length - (intOf s5).toNat)
  case atStart => exact ⟨0, by omega, rfl, Lib.hid (Below.refl _ _)⟩
  case round =>
    obtain ⟨k, hkl, rfl, HW⟩ := hrel
    have i3 : (0 : Int) ≤ (k : Int) := by omega
    by_cases hlt : k < l.length
    · have hd : decide ((k : Int) < (l.length : Int)) = true := by simp; omega
      have i4 : (k : Int) < (l.length : Int) := by omega
      obtain ⟨ad, rfl⟩ := HI.out.addr (Nat.lt_of_le_of_lt (Nat.zero_le _) hlt)
      obtain ⟨ae, rfl⟩ := HJ.out.addr (Nat.lt_of_le_of_lt (Nat.zero_le _) hlt)
      have c0 := HI.out.first HW.out hlt (u := .int .i64 l[k].1.1) rfl
      have c1 := HI.out.cell HW.out hlt 1 (by decide) (u := .int .i64 l[k].1.2) rfl
      have c2 := HI.out.cell HW.out hlt 2 (by decide) (u := .int .u8 l[k].2.1) rfl
      have c3 := HI.out.cell HW.out hlt 3 (by decide) (u := .int .i64 l[k].2.2) rfl
      have d0 := HJ.out.first HW.out hlt (u := .int .i64 l[k].1.1) rfl
      have d1 := HJ.out.cell HW.out hlt 1 (by decide) (u := .int .i64 l[k].1.2) rfl
      have d2 := HJ.out.cell HW.out hlt 2 (by decide) (u := .int .u8 l[k].2.1) rfl
      have d3 := HJ.out.cell HW.out hlt 3 (by decide) (u := .int .i64 l[k].2.2) rfl
      generalize (l[k]).1.1 = p0 at *
      generalize (l[k]).1.2 = p1 at *
      generalize (l[k]).2.1 = p2 at *
      generalize (l[k]).2.2 = p3 at *
      go_wp2_with fail
      go_quiet (fail)
      go_wp2_with fail
      go_roundw
      case rel => exact ⟨k + 1, by omega, by go_num, Lib.hid (below_drewN HW.out)⟩
      case measure => simp [intOf]; omega
    · obtain rfl : k = l.length := by omega
      have hd : decide ((l.length : Int) < (l.length : Int)) = false := by simp
      go_wp2_with fail
      go_ret
      exact ⟨rfl, HW.out⟩
set_option maxHeartbeats 4000000 in
theorem sameI_self (v u : Value) (l : List _) (w : World) (h : Rcs encI 2 w v l) (h2 : Rcs encI 2 w u l) (hl : l.length ≤ 100000) :
    Calls Try.prog 44 #[v, u] w fun e w' => e = .returned (.bool true) ∧ Below w.heap.size w w' := by
  have HI := Lib.hid h
  have HJ := Lib.hid h2
  obtain ⟨A, c, rfl, hz⟩ := h
  obtain ⟨B, d, rfl, hy⟩ := h2
  clear hz hy
  have hne : ((l.length : Int) != (l.length : Int)) = false := by simp
  go_enter Try.func44, Try.ntmps44
  go_wp2_with fail
  go_loopw [5] (fun s5 wr => ∃ k : Nat, k ≤ l.length ∧ s5 = .int .i64 k ∧ Hid (Below w.heap.size w wr)) (fun s5 _ => l.length - (intOf s5).toNat)
  case atStart => exact ⟨0, by omega, rfl, Lib.hid (Below.refl _ _)⟩
  case round =>
    obtain ⟨k, hkl, rfl, HW⟩ := hrel
    have i3 : (0 : Int) ≤ (k : Int) := by omega
    by_cases hlt : k < l.length
    · have hd : decide ((k : Int) < (l.length : Int)) = true := by simp; omega
      have i4 : (k : Int) < (l.length : Int) := by omega
      obtain ⟨ad, rfl⟩ := HI.out.addr (Nat.lt_of_le_of_lt (Nat.zero_le _) hlt)
      obtain ⟨ae, rfl⟩ := HJ.out.addr (Nat.lt_of_le_of_lt (Nat.zero_le _) hlt)
      have c0 := HI.out.first HW.out hlt (u := .int .i64 l[k].1) rfl
      have c1 := HI.out.cell HW.out hlt 1 (by decide) (u := .int .i64 l[k].2) rfl
      have d0 := HJ.out.first HW.out hlt (u := .int .i64 l[k].1) rfl
      have d1 := HJ.out.cell HW.out hlt 1 (by decide) (u := .int .i64 l[k].2) rfl
      generalize (l[k]).1 = p0 at *
      generalize (l[k]).2 = p1 at *
      go_wp2_with fail
      go_quiet (fail)
      go_wp2_with fail
      go_roundw
      case rel => exact ⟨k + 1, by omega, by go_num, Lib.hid (below_drewN HW.out)⟩
      case measure => simp [intOf]; omega
    · obtain rfl : k = l.length := by omega
      have hd : decide ((l.length : Int) < (l.length : Int)) = false := by simp
      go_wp2_with fail
      go_ret
      exact ⟨rfl, HW.out⟩
set_option maxHeartbeats 4000000 in
theorem sameT_self (v u : Value) (l : List _) (w : World) (h : Rcs encT 3 w v l) (h2 : Rcs encT 3 w u l) (hl : l.length ≤ 100000) :
    Calls Try.prog 45 #[v, u] w fun e w' => e = .returned (.bool true) ∧ Below w.heap.size w w' := by
  have HI := Lib.hid h
  have HJ := Lib.hid h2
  obtain ⟨A, c, rfl, hz⟩ := h
  obtain ⟨B, d, rfl, hy⟩ := h2
  clear hz hy
  have hne : ((l.length : Int) != (l.length : Int)) = false := by simp
  go_enter Try.func45, Try.ntmps45
  go_wp2_with fail
  go_loopw [5] (fun s5 wr => ∃ k : Nat, k ≤ l.length ∧ s5 = .int .i64 k ∧ Hid (Below w.heap.size w wr)) (fun s5 _ => l.length - (intOf s5).toNat)
  case atStart => exact ⟨0, by omega, rfl, Lib.hid (Below.refl _ _)⟩
  case round =>
    obtain ⟨k, hkl, rfl, HW⟩ := hrel
    have i3 : (0 : Int) ≤ (k : Int) := by omega
    by_cases hlt : k < l.length
    · have hd : decide ((k : Int) < (l.length : Int)) = true := by simp; omega
      have i4 : (k : Int) < (l.length : Int) := by omega
      obtain ⟨ad, rfl⟩ := HI.out.addr (Nat.lt_of_le_of_lt (Nat.zero_le _) hlt)
      obtain ⟨ae, rfl⟩ := HJ.out.addr (Nat.lt_of_le_of_lt (Nat.zero_le _) hlt)
      have c0 := HI.out.first HW.out hlt (u := .int .i64 l[k].1.1) rfl
      have c1 := HI.out.cell HW.out hlt 1 (by decide) (u := .int .i64 l[k].1.2) rfl
      have c2 := HI.out.cell HW.out hlt 2 (by decide) (u := .int .i64 l[k].2) rfl
      have d0 := HJ.out.first HW.out hlt (u := .int .i64 l[k].1.1) rfl
      have d1 := HJ.out.cell HW.out hlt 1 (by decide) (u := .int .i64 l[k].1.2) rfl
      have d2 := HJ.out.cell HW.out hlt 2 (by decide) (u := .int .i64 l[k].2) rfl
      generalize (l[k]).1.1 = p0 at *
      generalize (l[k]).1.2 = p1 at *
      generalize (l[k]).2 = p2 at *
      go_wp2_with fail
      go_quiet (fail)
      go_wp2_with fail
      go_roundw
      case rel => exact ⟨k + 1, by omega, by go_num, Lib.hid (below_drewN HW.out)⟩
      case measure => simp [intOf]; omega
    · obtain rfl : k = l.length := by omega
      have hd : decide ((l.length : Int) < (l.length : Int)) = false := by simp
      go_wp2_with fail
      go_ret
      exact ⟨rfl, HW.out⟩
end Go.Proofs.Ytmgiglefabbmcaa
