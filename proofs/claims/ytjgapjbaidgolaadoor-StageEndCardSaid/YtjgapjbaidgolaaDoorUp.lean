/-
  PROVED HERE: for any number of one byte StageUp of package coveylaw04 returns true and leaves its argument as it was: each way to Leaving goes through Up, or begins there or at Leaving; no edge of a leader begins at none; who is a voter is Up or Leaving, and alive. Condition: the two tables of package stage hold what the program's text lays in them; that is tied to the text.
-/
import Derived.Test.YtjgapjbaidgolaaDoorAwake
namespace Go.Proofs.YtjgapjbaidgolaaDoor
open Go.RowKit
/-- One of a list of slices, and where its bytes lie. -/
theorem ls_at {w : World} {g c : Nat} {n : Nat} {vs : List Value} {L : List (List Nat)} (hl : vs.length = L.length) (h1 : Holds w 0 (.slice (some ⟨g, 0, none⟩) n c) vs) (h2 : Each w 0 (fun _ => False) vs L) {i : Nat} (hi : i < L.length) :
    ∃ B d, w.cell? ⟨g, i, none⟩ = some (.slice B L[i].length d) ∧ Owns w 0 (.slice B L[i].length d) L[i] := by
  have hi2 : i < vs.length := by omega
  have h3 := h2.at_ i hi2 hi
  have h4 := holds_cell h1 (g := g) rfl hi2
  rcases owns_split h3 with ⟨e, hn⟩ | ⟨gb, cap, e, _⟩
  · rw [e] at h3 h4
    exact ⟨none, 0, by rw [hn]; exact h4, by rw [hn]; exact h3⟩
  · rw [e] at h3 h4
    exact ⟨_, cap, h4, h3⟩
theorem holds_addr {w : World} {A : Option Addr} {base n c : Nat} {vs : List Value} (h1 : Holds w base (.slice A n c) vs) (hn : 0 < vs.length) : ∃ g, A = some ⟨g, 0, none⟩ := by
  rcases owns_split h1 with ⟨_, e⟩ | ⟨g, cap, e, _⟩
  · omega
  · injection e with e _ _
    exact ⟨g, e⟩
theorem owns_addr {w : World} {A : Option Addr} {base n c : Nat} {l : List Nat} (h1 : Owns w base (.slice A n c) l) (hn : 0 < l.length) : ∃ g, A = some ⟨g, 0, none⟩ := by
  rcases owns_split h1 with ⟨_, e⟩ | ⟨g, cap, e, _⟩
  · omega
  · injection e with e _ _
    exact ⟨g, e⟩
/-- Has a way gone through Up? -/
def thr (b : Bool) (l : List Nat) : Bool := b || l.any fun x => x == 3
theorem thr_yes {b : Bool} {l : List Nat} {k : Nat} (hk : k < l.length) (h : thr b (l.take k) = true) : thr b (l.take (k + 1)) = true := by
  unfold thr at *
  rw [List.take_succ_eq_append_getElem hk, List.any_append, ← Bool.or_assoc, h]
  rfl
theorem thr_hit {b : Bool} {l : List Nat} {k : Nat} (hk : k < l.length) (h : l[k] = 3) : thr b (l.take (k + 1)) = true := by
  unfold thr
  rw [List.take_succ_eq_append_getElem hk, List.any_append]
  simp [h]
theorem thr_not {b : Bool} {l : List Nat} {k : Nat} (hk : k < l.length) (h : thr b (l.take k) = false) (h2 : l[k] ≠ 3) : thr b (l.take (k + 1)) = false := by
  unfold thr at *
  rw [List.take_succ_eq_append_getElem hk, List.any_append, ← Bool.or_assoc, h]
  simp [h2]
theorem up_all (f : Nat) {l : List Nat} (hl : l ∈ ways f 4) : thr (decide (f = 3 ∨ f = 4)) l = true := by
  have := ways_all (p := fun a t L => decide (t = 4 → L.all (fun l => thr (decide (a = 3 ∨ a = 4)) l) = true)) (by kernel_rfl) (fun a => by simp [thr]; omega) (fun _ _ _ _ => by simp) f 4
  exact List.all_eq_true.1 (of_decide_eq_true this rfl) l hl
theorem edge_lit (a b : Nat) (z : Int) (h : (edg a b : Int) = z) (w : World) (ha : a < 256) (hb : b < 256) (ht : Tabs w) : Calls Tryd.prog 13 #[.int .u8 a, .int .u8 b] w fun e w' => e = .returned (.int .u8 z) ∧ w = w' := by
  rw [← h]
  exact edge_any a b w ha hb ht
theorem voter_lit (a : Nat) (b : Bool) (h : voterB a = b) (w : World) : Calls Tryd.prog 17 #[.int .u8 a] w fun e w' => e = .returned (.bool b) ∧ w = w' := h ▸ voter_any a w
theorem alive_lit (a : Nat) (b : Bool) (h : aliveB a = b) (w : World) : Calls Tryd.prog 18 #[.int .u8 a] w fun e w' => e = .returned (.bool b) ∧ w = w' := h ▸ alive_any a w
theorem edg_none {f : Nat} (h1 : f ≠ 1) (h3 : f ≠ 3) : (edg 0 f : Int) = 0 := by
  rcases Nat.lt_or_ge f 8 with h | h
  · have := two_all (p := fun a b => decide (a = 0 → b ≠ 1 → b ≠ 3 → edg a b = 0)) (by kernel_rfl) (show 0 < 8 by omega) h
    rw [of_decide_eq_true this rfl h1 h3]
    rfl
  · rw [edg_out (by omega)]
    rfl
set_option maxHeartbeats 4000000 in
theorem up_three (f : Nat) (w : World) (hf : f < 256) (ht : Tabs w) (hb : decide (f = 3 ∨ f = 4) = true) (d3 : ((f : Int) == 3) = true) (hv : voterB f = true) (ha : aliveB f = true ∨ voterB f = false) (hz : (edg 0 f : Int) = 4) : Calls Tryd.prog 7 #[.int .u8 f] w fun e w' => e = .returned (.bool true) ∧ Below w.heap.size w w' := by
  have HT := Lib.hid fun w' (hb : Below w.heap.size w w') => tabs_below ht hb
  have HU := Lib.hid fun l => up_all f (l := l)
  rw [hb] at HU
  have HV := Lib.hid hv
  have HZ := Lib.hid hz
  have HA := Lib.hid ha
  have H0 := Lib.hid (ways_few f 4)
  have HS := Lib.hid fun l => ways_short f 4 (l := l)
  clear ht hv hz ha hb
  go_enter Tryd.func7, Tryd.ntmps7
  go_wp2_with (go_at_call 12; refine (awake_any _ (HT.out _ (Below.refl _ _))).mono ?_; rintro e w1 ⟨rfl, h1⟩; have B1 := Lib.hid h1; clear h1)
  refine (ways_any f 4 _ hf (HT.out _ B1.out)).mono ?_
  rintro e w2 ⟨A, c, vs, rfl, hl, h1, h2, h3⟩
  have B2 := Lib.hid (B1.out.trans (h3.mono B1.out.size))
  have V2 := Lib.hid (And.intro hl (And.intro (show Holds w2 0 (.slice A (ways f 4).length c) vs from row_mono h1 (Nat.zero_le _)) (show Each w2 0 (fun _ => False) vs (ways f 4) from h2.turn fun _ _ ho hn => ⟨ho.mono (Nat.zero_le _), hn⟩)))
  clear hl h1 h2 h3
  generalize ways f 4 = L at *
  have i0 := H0.out
  go_wp2_with fail
  go_loop [4] (fun s4 => ∃ i : Nat, i ≤ L.length ∧ s4 = .int .i64 i) (fun s4 => L.length - (intOf s4).toNat)
  case atStart => exact ⟨0, Nat.zero_le _, rfl⟩
  case round =>
    obtain ⟨i, hi, rfl⟩ := hrel
    have i3 : (0 : Int) ≤ (i : Int) := by omega
    by_cases hlt : i < L.length
    · have hlt2 : decide ((i : Int) < (L.length : Int)) = true := by simp; omega
      have i4 : (i : Int) < (L.length : Int) := by omega
      obtain ⟨g, rfl⟩ := holds_addr V2.out.2.1 (by rw [V2.out.1]; omega)
      obtain ⟨D, d, hc, ho⟩ := ls_at V2.out.1 V2.out.2.1 V2.out.2.2 hlt
      have HO := Lib.hid ho
      have HY := Lib.hid (HU.out _ (List.getElem_mem hlt))
      have i5 := (HS.out _ (List.getElem_mem hlt)).1
      generalize L[i] = l at *
      clear ho hi
      go_wp2_with fail
      go_loop [5, 6] (fun s5 s6 => ∃ k : Nat, k ≤ l.length ∧ s6 = .int .i64 k ∧ s5 = .bool (thr true (l.take k))) (fun _ s6 => l.length - (intOf s6).toNat)
      case atStart => exact ⟨0, Nat.zero_le _, rfl, rfl⟩
      case round =>
        obtain ⟨k, hk, rfl, rfl⟩ := hrel
        have j3 : (0 : Int) ≤ (k : Int) := by omega
        by_cases hkt : k < l.length
        · have hkt2 : decide ((k : Int) < (l.length : Int)) = true := by simp; omega
          have j4 : (k : Int) < (l.length : Int) := by omega
          obtain ⟨gl, rfl⟩ := owns_addr HO.out (by omega)
          have cl := owns_cell HO.out (g := gl) rfl hkt
          rcases hth : thr true (l.take k) with _ | _
          · by_cases he : l[k] = 3
            · have HN := Lib.hid (thr_hit (b := true) hkt he)
              have he2 : ((l[k] : Int) == 3) = true := by simp [he]
              generalize l[k] = x at *
              clear he hth hk
              go_wp2_with fail
              go_round
              case rel => exact ⟨k + 1, by omega, by go_num, by rw [HN.out]⟩
              case measure => simp [intOf]; omega
            · have HN := Lib.hid (thr_not (b := true) hkt hth he)
              have he2 : ((l[k] : Int) == 3) = false := by simp; omega
              generalize l[k] = x at *
              clear he hth hk
              go_wp2_with fail
              go_round
              case rel => exact ⟨k + 1, by omega, by go_num, by rw [HN.out]⟩
              case measure => simp [intOf]; omega
          · have HN := Lib.hid (thr_yes (b := true) hkt hth)
            clear hth hk
            go_wp2_with fail
            go_round
            case rel => exact ⟨k + 1, by omega, by go_num, by rw [HN.out]⟩
            case measure => simp [intOf]; omega
        · have hkt2 : decide ((k : Int) < (l.length : Int)) = false := by simp; omega
          have hth : thr true (l.take k) = true := by have := HY.out; rwa [List.take_of_length_le (by omega)]
          rw [hth]
          clear hk hth
          go_wp2_with fail
          go_round
          case rel => exact ⟨i + 1, by omega, by go_num⟩
          case measure => simp [intOf]; omega
    · have hlt2 : decide ((i : Int) < (L.length : Int)) = false := by simp; omega
      clear hi
      go_wp2_with (first | (go_at_call 13; refine (edge_lit 0 f _ HZ.out _ (by omega) hf (HT.out _ B2.out)).mono ?_; rintro e w' ⟨rfl, rfl⟩) | (go_at_call 17; refine (voter_lit f _ HV.out _).mono ?_; rintro e w' ⟨rfl, rfl⟩) | (go_at_call 18; refine (alive_lit f true (by rcases HA.out with h | h; exact h; rw [HV.out] at h; cases h) _).mono ?_; rintro e w' ⟨rfl, rfl⟩))
      go_ret
      exact ⟨rfl, B2.out⟩
set_option maxHeartbeats 4000000 in
theorem up_four (f : Nat) (w : World) (hf : f < 256) (ht : Tabs w) (hb : decide (f = 3 ∨ f = 4) = true) (d3 : ((f : Int) == 3) = false) (d4 : ((f : Int) == 4) = true) (hv : voterB f = true) (ha : aliveB f = true ∨ voterB f = false) (hz : (edg 0 f : Int) = 0) : Calls Tryd.prog 7 #[.int .u8 f] w fun e w' => e = .returned (.bool true) ∧ Below w.heap.size w w' := by
  have HT := Lib.hid fun w' (hb : Below w.heap.size w w') => tabs_below ht hb
  have HU := Lib.hid fun l => up_all f (l := l)
  rw [hb] at HU
  have HV := Lib.hid hv
  have HZ := Lib.hid hz
  have HA := Lib.hid ha
  have H0 := Lib.hid (ways_few f 4)
  have HS := Lib.hid fun l => ways_short f 4 (l := l)
  clear ht hv hz ha hb
  go_enter Tryd.func7, Tryd.ntmps7
  go_wp2_with (go_at_call 12; refine (awake_any _ (HT.out _ (Below.refl _ _))).mono ?_; rintro e w1 ⟨rfl, h1⟩; have B1 := Lib.hid h1; clear h1)
  refine (ways_any f 4 _ hf (HT.out _ B1.out)).mono ?_
  rintro e w2 ⟨A, c, vs, rfl, hl, h1, h2, h3⟩
  have B2 := Lib.hid (B1.out.trans (h3.mono B1.out.size))
  have V2 := Lib.hid (And.intro hl (And.intro (show Holds w2 0 (.slice A (ways f 4).length c) vs from row_mono h1 (Nat.zero_le _)) (show Each w2 0 (fun _ => False) vs (ways f 4) from h2.turn fun _ _ ho hn => ⟨ho.mono (Nat.zero_le _), hn⟩)))
  clear hl h1 h2 h3
  generalize ways f 4 = L at *
  have i0 := H0.out
  go_wp2_with fail
  go_loop [4] (fun s4 => ∃ i : Nat, i ≤ L.length ∧ s4 = .int .i64 i) (fun s4 => L.length - (intOf s4).toNat)
  case atStart => exact ⟨0, Nat.zero_le _, rfl⟩
  case round =>
    obtain ⟨i, hi, rfl⟩ := hrel
    have i3 : (0 : Int) ≤ (i : Int) := by omega
    by_cases hlt : i < L.length
    · have hlt2 : decide ((i : Int) < (L.length : Int)) = true := by simp; omega
      have i4 : (i : Int) < (L.length : Int) := by omega
      obtain ⟨g, rfl⟩ := holds_addr V2.out.2.1 (by rw [V2.out.1]; omega)
      obtain ⟨D, d, hc, ho⟩ := ls_at V2.out.1 V2.out.2.1 V2.out.2.2 hlt
      have HO := Lib.hid ho
      have HY := Lib.hid (HU.out _ (List.getElem_mem hlt))
      have i5 := (HS.out _ (List.getElem_mem hlt)).1
      generalize L[i] = l at *
      clear ho hi
      go_wp2_with fail
      go_loop [5, 6] (fun s5 s6 => ∃ k : Nat, k ≤ l.length ∧ s6 = .int .i64 k ∧ s5 = .bool (thr true (l.take k))) (fun _ s6 => l.length - (intOf s6).toNat)
      case atStart => exact ⟨0, Nat.zero_le _, rfl, rfl⟩
      case round =>
        obtain ⟨k, hk, rfl, rfl⟩ := hrel
        have j3 : (0 : Int) ≤ (k : Int) := by omega
        by_cases hkt : k < l.length
        · have hkt2 : decide ((k : Int) < (l.length : Int)) = true := by simp; omega
          have j4 : (k : Int) < (l.length : Int) := by omega
          obtain ⟨gl, rfl⟩ := owns_addr HO.out (by omega)
          have cl := owns_cell HO.out (g := gl) rfl hkt
          rcases hth : thr true (l.take k) with _ | _
          · by_cases he : l[k] = 3
            · have HN := Lib.hid (thr_hit (b := true) hkt he)
              have he2 : ((l[k] : Int) == 3) = true := by simp [he]
              generalize l[k] = x at *
              clear he hth hk
              go_wp2_with fail
              go_round
              case rel => exact ⟨k + 1, by omega, by go_num, by rw [HN.out]⟩
              case measure => simp [intOf]; omega
            · have HN := Lib.hid (thr_not (b := true) hkt hth he)
              have he2 : ((l[k] : Int) == 3) = false := by simp; omega
              generalize l[k] = x at *
              clear he hth hk
              go_wp2_with fail
              go_round
              case rel => exact ⟨k + 1, by omega, by go_num, by rw [HN.out]⟩
              case measure => simp [intOf]; omega
          · have HN := Lib.hid (thr_yes (b := true) hkt hth)
            clear hth hk
            go_wp2_with fail
            go_round
            case rel => exact ⟨k + 1, by omega, by go_num, by rw [HN.out]⟩
            case measure => simp [intOf]; omega
        · have hkt2 : decide ((k : Int) < (l.length : Int)) = false := by simp; omega
          have hth : thr true (l.take k) = true := by have := HY.out; rwa [List.take_of_length_le (by omega)]
          rw [hth]
          clear hk hth
          go_wp2_with fail
          go_round
          case rel => exact ⟨i + 1, by omega, by go_num⟩
          case measure => simp [intOf]; omega
    · have hlt2 : decide ((i : Int) < (L.length : Int)) = false := by simp; omega
      clear hi
      go_wp2_with (first | (go_at_call 13; refine (edge_lit 0 f _ HZ.out _ (by omega) hf (HT.out _ B2.out)).mono ?_; rintro e w' ⟨rfl, rfl⟩) | (go_at_call 17; refine (voter_lit f _ HV.out _).mono ?_; rintro e w' ⟨rfl, rfl⟩) | (go_at_call 18; refine (alive_lit f true (by rcases HA.out with h | h; exact h; rw [HV.out] at h; cases h) _).mono ?_; rintro e w' ⟨rfl, rfl⟩))
      go_ret
      exact ⟨rfl, B2.out⟩
set_option maxHeartbeats 4000000 in
theorem up_one (f : Nat) (w : World) (hf : f < 256) (ht : Tabs w) (hb : decide (f = 3 ∨ f = 4) = false) (d3 : ((f : Int) == 3) = false) (d4 : ((f : Int) == 4) = false) (hv : voterB f = false) (ha : aliveB f = true ∨ voterB f = false) (hz : (edg 0 f : Int) = 1) : Calls Tryd.prog 7 #[.int .u8 f] w fun e w' => e = .returned (.bool true) ∧ Below w.heap.size w w' := by
  have HT := Lib.hid fun w' (hb : Below w.heap.size w w') => tabs_below ht hb
  have HU := Lib.hid fun l => up_all f (l := l)
  rw [hb] at HU
  have HV := Lib.hid hv
  have HZ := Lib.hid hz
  have HA := Lib.hid ha
  have H0 := Lib.hid (ways_few f 4)
  have HS := Lib.hid fun l => ways_short f 4 (l := l)
  clear ht hv hz ha hb
  go_enter Tryd.func7, Tryd.ntmps7
  go_wp2_with (go_at_call 12; refine (awake_any _ (HT.out _ (Below.refl _ _))).mono ?_; rintro e w1 ⟨rfl, h1⟩; have B1 := Lib.hid h1; clear h1)
  refine (ways_any f 4 _ hf (HT.out _ B1.out)).mono ?_
  rintro e w2 ⟨A, c, vs, rfl, hl, h1, h2, h3⟩
  have B2 := Lib.hid (B1.out.trans (h3.mono B1.out.size))
  have V2 := Lib.hid (And.intro hl (And.intro (show Holds w2 0 (.slice A (ways f 4).length c) vs from row_mono h1 (Nat.zero_le _)) (show Each w2 0 (fun _ => False) vs (ways f 4) from h2.turn fun _ _ ho hn => ⟨ho.mono (Nat.zero_le _), hn⟩)))
  clear hl h1 h2 h3
  generalize ways f 4 = L at *
  have i0 := H0.out
  go_wp2_with fail
  go_loop [4] (fun s4 => ∃ i : Nat, i ≤ L.length ∧ s4 = .int .i64 i) (fun s4 => L.length - (intOf s4).toNat)
  case atStart => exact ⟨0, Nat.zero_le _, rfl⟩
  case round =>
    obtain ⟨i, hi, rfl⟩ := hrel
    have i3 : (0 : Int) ≤ (i : Int) := by omega
    by_cases hlt : i < L.length
    · have hlt2 : decide ((i : Int) < (L.length : Int)) = true := by simp; omega
      have i4 : (i : Int) < (L.length : Int) := by omega
      obtain ⟨g, rfl⟩ := holds_addr V2.out.2.1 (by rw [V2.out.1]; omega)
      obtain ⟨D, d, hc, ho⟩ := ls_at V2.out.1 V2.out.2.1 V2.out.2.2 hlt
      have HO := Lib.hid ho
      have HY := Lib.hid (HU.out _ (List.getElem_mem hlt))
      have i5 := (HS.out _ (List.getElem_mem hlt)).1
      generalize L[i] = l at *
      clear ho hi
      go_wp2_with fail
      go_loop [5, 6] (fun s5 s6 => ∃ k : Nat, k ≤ l.length ∧ s6 = .int .i64 k ∧ s5 = .bool (thr false (l.take k))) (fun _ s6 => l.length - (intOf s6).toNat)
      case atStart => exact ⟨0, Nat.zero_le _, rfl, rfl⟩
      case round =>
        obtain ⟨k, hk, rfl, rfl⟩ := hrel
        have j3 : (0 : Int) ≤ (k : Int) := by omega
        by_cases hkt : k < l.length
        · have hkt2 : decide ((k : Int) < (l.length : Int)) = true := by simp; omega
          have j4 : (k : Int) < (l.length : Int) := by omega
          obtain ⟨gl, rfl⟩ := owns_addr HO.out (by omega)
          have cl := owns_cell HO.out (g := gl) rfl hkt
          rcases hth : thr false (l.take k) with _ | _
          · by_cases he : l[k] = 3
            · have HN := Lib.hid (thr_hit (b := false) hkt he)
              have he2 : ((l[k] : Int) == 3) = true := by simp [he]
              generalize l[k] = x at *
              clear he hth hk
              go_wp2_with fail
              go_round
              case rel => exact ⟨k + 1, by omega, by go_num, by rw [HN.out]⟩
              case measure => simp [intOf]; omega
            · have HN := Lib.hid (thr_not (b := false) hkt hth he)
              have he2 : ((l[k] : Int) == 3) = false := by simp; omega
              generalize l[k] = x at *
              clear he hth hk
              go_wp2_with fail
              go_round
              case rel => exact ⟨k + 1, by omega, by go_num, by rw [HN.out]⟩
              case measure => simp [intOf]; omega
          · have HN := Lib.hid (thr_yes (b := false) hkt hth)
            clear hth hk
            go_wp2_with fail
            go_round
            case rel => exact ⟨k + 1, by omega, by go_num, by rw [HN.out]⟩
            case measure => simp [intOf]; omega
        · have hkt2 : decide ((k : Int) < (l.length : Int)) = false := by simp; omega
          have hth : thr false (l.take k) = true := by have := HY.out; rwa [List.take_of_length_le (by omega)]
          rw [hth]
          clear hk hth
          go_wp2_with fail
          go_round
          case rel => exact ⟨i + 1, by omega, by go_num⟩
          case measure => simp [intOf]; omega
    · have hlt2 : decide ((i : Int) < (L.length : Int)) = false := by simp; omega
      clear hi
      go_wp2_with (first | (go_at_call 13; refine (edge_lit 0 f _ HZ.out _ (by omega) hf (HT.out _ B2.out)).mono ?_; rintro e w' ⟨rfl, rfl⟩) | (go_at_call 17; refine (voter_lit f _ HV.out _).mono ?_; rintro e w' ⟨rfl, rfl⟩))
      go_ret
      exact ⟨rfl, B2.out⟩
set_option maxHeartbeats 4000000 in
theorem up_none (f : Nat) (w : World) (hf : f < 256) (ht : Tabs w) (hb : decide (f = 3 ∨ f = 4) = false) (d3 : ((f : Int) == 3) = false) (d4 : ((f : Int) == 4) = false) (hv : voterB f = false) (ha : aliveB f = true ∨ voterB f = false) (hz : (edg 0 f : Int) = 0) : Calls Tryd.prog 7 #[.int .u8 f] w fun e w' => e = .returned (.bool true) ∧ Below w.heap.size w w' := by
  have HT := Lib.hid fun w' (hb : Below w.heap.size w w') => tabs_below ht hb
  have HU := Lib.hid fun l => up_all f (l := l)
  rw [hb] at HU
  have HV := Lib.hid hv
  have HZ := Lib.hid hz
  have HA := Lib.hid ha
  have H0 := Lib.hid (ways_few f 4)
  have HS := Lib.hid fun l => ways_short f 4 (l := l)
  clear ht hv hz ha hb
  go_enter Tryd.func7, Tryd.ntmps7
  go_wp2_with (go_at_call 12; refine (awake_any _ (HT.out _ (Below.refl _ _))).mono ?_; rintro e w1 ⟨rfl, h1⟩; have B1 := Lib.hid h1; clear h1)
  refine (ways_any f 4 _ hf (HT.out _ B1.out)).mono ?_
  rintro e w2 ⟨A, c, vs, rfl, hl, h1, h2, h3⟩
  have B2 := Lib.hid (B1.out.trans (h3.mono B1.out.size))
  have V2 := Lib.hid (And.intro hl (And.intro (show Holds w2 0 (.slice A (ways f 4).length c) vs from row_mono h1 (Nat.zero_le _)) (show Each w2 0 (fun _ => False) vs (ways f 4) from h2.turn fun _ _ ho hn => ⟨ho.mono (Nat.zero_le _), hn⟩)))
  clear hl h1 h2 h3
  generalize ways f 4 = L at *
  have i0 := H0.out
  go_wp2_with fail
  go_loop [4] (fun s4 => ∃ i : Nat, i ≤ L.length ∧ s4 = .int .i64 i) (fun s4 => L.length - (intOf s4).toNat)
  case atStart => exact ⟨0, Nat.zero_le _, rfl⟩
  case round =>
    obtain ⟨i, hi, rfl⟩ := hrel
    have i3 : (0 : Int) ≤ (i : Int) := by omega
    by_cases hlt : i < L.length
    · have hlt2 : decide ((i : Int) < (L.length : Int)) = true := by simp; omega
      have i4 : (i : Int) < (L.length : Int) := by omega
      obtain ⟨g, rfl⟩ := holds_addr V2.out.2.1 (by rw [V2.out.1]; omega)
      obtain ⟨D, d, hc, ho⟩ := ls_at V2.out.1 V2.out.2.1 V2.out.2.2 hlt
      have HO := Lib.hid ho
      have HY := Lib.hid (HU.out _ (List.getElem_mem hlt))
      have i5 := (HS.out _ (List.getElem_mem hlt)).1
      generalize L[i] = l at *
      clear ho hi
      go_wp2_with fail
      go_loop [5, 6] (fun s5 s6 => ∃ k : Nat, k ≤ l.length ∧ s6 = .int .i64 k ∧ s5 = .bool (thr false (l.take k))) (fun _ s6 => l.length - (intOf s6).toNat)
      case atStart => exact ⟨0, Nat.zero_le _, rfl, rfl⟩
      case round =>
        obtain ⟨k, hk, rfl, rfl⟩ := hrel
        have j3 : (0 : Int) ≤ (k : Int) := by omega
        by_cases hkt : k < l.length
        · have hkt2 : decide ((k : Int) < (l.length : Int)) = true := by simp; omega
          have j4 : (k : Int) < (l.length : Int) := by omega
          obtain ⟨gl, rfl⟩ := owns_addr HO.out (by omega)
          have cl := owns_cell HO.out (g := gl) rfl hkt
          rcases hth : thr false (l.take k) with _ | _
          · by_cases he : l[k] = 3
            · have HN := Lib.hid (thr_hit (b := false) hkt he)
              have he2 : ((l[k] : Int) == 3) = true := by simp [he]
              generalize l[k] = x at *
              clear he hth hk
              go_wp2_with fail
              go_round
              case rel => exact ⟨k + 1, by omega, by go_num, by rw [HN.out]⟩
              case measure => simp [intOf]; omega
            · have HN := Lib.hid (thr_not (b := false) hkt hth he)
              have he2 : ((l[k] : Int) == 3) = false := by simp; omega
              generalize l[k] = x at *
              clear he hth hk
              go_wp2_with fail
              go_round
              case rel => exact ⟨k + 1, by omega, by go_num, by rw [HN.out]⟩
              case measure => simp [intOf]; omega
          · have HN := Lib.hid (thr_yes (b := false) hkt hth)
            clear hth hk
            go_wp2_with fail
            go_round
            case rel => exact ⟨k + 1, by omega, by go_num, by rw [HN.out]⟩
            case measure => simp [intOf]; omega
        · have hkt2 : decide ((k : Int) < (l.length : Int)) = false := by simp; omega
          have hth : thr false (l.take k) = true := by have := HY.out; rwa [List.take_of_length_le (by omega)]
          rw [hth]
          clear hk hth
          go_wp2_with fail
          go_round
          case rel => exact ⟨i + 1, by omega, by go_num⟩
          case measure => simp [intOf]; omega
    · have hlt2 : decide ((i : Int) < (L.length : Int)) = false := by simp; omega
      clear hi
      go_wp2_with (first | (go_at_call 13; refine (edge_lit 0 f _ HZ.out _ (by omega) hf (HT.out _ B2.out)).mono ?_; rintro e w' ⟨rfl, rfl⟩) | (go_at_call 17; refine (voter_lit f _ HV.out _).mono ?_; rintro e w' ⟨rfl, rfl⟩))
      go_ret
      exact ⟨rfl, B2.out⟩
theorem up_any (f : Nat) (w : World) (hf : f < 256) (ht : Tabs w) : Calls Tryd.prog 7 #[.int .u8 f] w fun e w' => e = .returned (.bool true) ∧ Below w.heap.size w w' := by
  by_cases h3 : f = 3
  · exact up_three f w hf ht (by simp [h3]) (by simp [h3]) (by simp [h3, voterB]) (.inl (by simp [h3, aliveB])) (by rw [h3]; kernel_rfl)
  · by_cases h4 : f = 4
    · exact up_four f w hf ht (by simp [h4]) (by simp; omega) (by simp [h4]) (by simp [h4, voterB]) (.inl (by simp [h4, aliveB])) (edg_none (by omega) (by omega))
    · by_cases h1 : f = 1
      · exact up_one f w hf ht (by simp; omega) (by simp; omega) (by simp; omega) (by simp [voterB]; omega) (.inr (by simp [voterB]; omega)) (by rw [h1]; kernel_rfl)
      · exact up_none f w hf ht (by simp; omega) (by simp; omega) (by simp; omega) (by simp [voterB]; omega) (.inr (by simp [voterB]; omega)) (edg_none h1 h3)
section
open Go.ChangeShapes Go.WideShapes Go.ChangeAt
set_option maxRecDepth 100000 in
theorem up_lifted (os : Os) (started : os.Started) (H : Type) (enc : TypeId × Value → H) :
    ReturnsInHanded {} Tryd.checked os 7 .any (fun w args => (Rows.stageUpSpec.pre enc Tryd.prog Tryd.f7 [] false w args ∧ laidMetH Tryd.prog laidAll w) ∧ sizedMet enc Tryd.prog Tryd.f7 (OpenSpec.ofChange Rows.stageUpSpec) false w args)
      (Rows.stageUpSpec.post enc Tryd.prog Tryd.f7 false true false false) := by
  refine returnsInHanded_of_change_and (C := Tryd.checked) (X := fun w _ => laidMetH Tryd.prog laidAll w) (fun _ _ _ hh h => h.of_heap hh) Tryd.own started (by kernel_rfl) Tryd.func7
    (ChangeSpec.witness_shaped (enc := enc) (C := Tryd.checked) (os := os) (X := fun w _ => laidMetH Tryd.prog laidAll w) false (World.doorLaid Tryd.prog 400 os) #[.int .u8 0] 8 rfl (World.shaped_of_RefB (by kernel_rfl) (by kernel_rfl)) (by kernel_rfl) (by kernel_rfl) (by kernel_rfl) (door_met os _)) ?_
  intro W base args ds gs before hval0 hW _ _ hL _
  have hval : ∀ (j : Nat) t v, Tryd.f7.params[j]? = some t → args[j]? = some v → Value.okWide Tryd.prog W .any base t v := hval0
  have hW' := hW
  obtain ⟨p, q, hA0, hV, rfl, _, _⟩ := hW
  have hA : DataW.TrodAll enc Tryd.prog W 0 (fun _ => true) true Tryd.f7.params.toList args.toList ds p := hA0
  rw [Tryd.params7] at hA hval
  obtain ⟨v0, d0, rfl, rfl, h0⟩ := trodAll_one hA
  obtain ⟨rfl, rfl⟩ := trodVars_none hV
  obtain ⟨x0, rfl, rfl, rfl, w0⟩ := open_int Tryd.underlying5 (hval 0 5 v0 rfl rfl) h0
  obtain ⟨m0, rfl, r0⟩ := in_u8 w0
  refine (up_any m0 W r0 (tabs_of_laid hL)).mono fun e W' ⟨he, hb⟩ => ?_
  subst he
  exact ⟨_, rfl, law_post hW' rfl (by kernel_rfl) Tryd.underlying4 rfl (by unfold Legible; kernel_rfl) hb⟩
theorem up_row : Rows.StageUpSaid :=
  OpenClaim.holds_of_wide 7 Tryd.f7 rfl rfl rfl rfl rfl rfl rfl ⟨rfl, rfl, rfl, rfl, rfl⟩ rfl rfl rfl rfl rfl (by kernel_rfl) Tryd.func7 (by kernel_rfl)
    (of_decide_eq_true (by kernel_rfl)) (by unfold Func.isWrapper; first | (rw [if_pos (by decide +kernel)]; kernel_rfl) | (rw [if_neg (by decide +kernel)]; exact ⟨rfl, rfl⟩))
    (fun os started H enc _ => up_lifted os started H enc)
/-- The statement: the row, with its two variables tied to the program's text. -/
theorem up_holds : Rows.StageUpCardSaid :=
  Claim7.holds_tied_plain_at .later [] [.data, .data] true (true, "eb22ec1ed816607768e23841f26954d3e8ed71bf626294bf4b08e00a6f345e0d") false
    up_row (fun _ h => by cases h) (by kernel_rfl) (fun _ h => by cases h) stageUp_row_tie rfl ⟨rfl, rfl⟩ (by kernel_rfl) rfl
    (fun f fn hf hfn => by
      obtain rfl : f = 7 := Option.some.inj ((show _ = some 7 by kernel_rfl).symm.trans hf) |>.symm
      obtain rfl : fn = Tryd.f7 := (Option.some.inj (Tryd.func7.symm.trans hfn)).symm
      exact ⟨by kernel_rfl, fun j t ht => by
        rw [Tryd.params7] at ht
        have hm : t ∈ [5] := by simpa using Array.mem_of_getElem? ht
        have hall : ([5].all fun u => !Tryd.prog.wantsStandIn u) = true := by kernel_rfl
        exact (show Tryd.prog.wantsStandIn t = false by simpa using List.all_eq_true.1 hall t hm)⟩)
    (by kernel_rfl)
end

end Go.Proofs.YtjgapjbaidgolaaDoor
