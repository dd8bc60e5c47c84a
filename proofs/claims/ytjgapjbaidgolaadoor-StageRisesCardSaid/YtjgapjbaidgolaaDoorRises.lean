/-
  PROVED HERE: for any two numbers of one byte StageRises of package coveylaw04 returns true and leaves its arguments as they were: each edge leads to a greater status, and is told by Next; each way rises, edge by edge, and ends where it should; no way is told twice. Condition: the two tables of package stage hold what the program's text lays in them; that is tied to the text.
-/
import Derived.Test.YtjgapjbaidgolaaDoorUp
namespace Go.Proofs.YtjgapjbaidgolaaDoor
open Go.RowKit
theorem below_drewN {B n : Nat} {a w : World} (h : Below B a w) : Below B a (w.drewN n) := ⟨h.os, h.tape, h.output, h.size, h.block⟩
theorem edg_up {a b : Nat} (h : edg a b ≠ 0) : a < b ∧ mayB b = true := by
  have hab : a < 8 ∧ b < 8 := Decidable.byContradiction fun hn => h (edg_out hn)
  have := two_all (p := fun a b => decide (edg a b ≠ 0 → a < b ∧ mayB b = true)) (by kernel_rfl) hab.1 hab.2
  exact of_decide_eq_true this h
/-- Is one of these it? -/
def isIn (t : Nat) (l : List Nat) : Bool := l.any fun x => x == t
theorem isIn_nxt (a t : Nat) : isIn t (nxt a) = (edg a t != 0) := by
  unfold isIn
  rw [Bool.eq_iff_iff, List.any_eq_true]
  constructor
  · rintro ⟨x, hx, h⟩
    obtain rfl : x = t := by simpa using h
    simpa using (nxt_mem.1 hx).2
  · intro h
    have h2 : edg a t ≠ 0 := by simpa using h
    refine ⟨t, nxt_mem.2 ⟨?_, h2⟩, by simp⟩
    have := of_decide_eq_true (edg_up h2).2
    have h3 : t = 1 ∨ t = 2 ∨ t = 3 ∨ t = 4 ∨ t = 5 ∨ t = 6 ∨ t = 7 := by omega
    rcases h3 with rfl | rfl | rfl | rfl | rfl | rfl | rfl <;> simp [stats]
theorem isIn_yes {t : Nat} {l : List Nat} {k : Nat} (hk : k < l.length) (h : isIn t (l.take k) = true) : isIn t (l.take (k + 1)) = true := by
  unfold isIn at *
  rw [List.take_succ_eq_append_getElem hk, List.any_append, h]
  rfl
theorem isIn_hit {t : Nat} {l : List Nat} {k : Nat} (hk : k < l.length) (h : l[k] = t) : isIn t (l.take (k + 1)) = true := by
  unfold isIn
  rw [List.take_succ_eq_append_getElem hk, List.any_append]
  simp [h]
theorem isIn_not {t : Nat} {l : List Nat} {k : Nat} (hk : k < l.length) (h : isIn t (l.take k) = false) (h2 : l[k] ≠ t) : isIn t (l.take (k + 1)) = false := by
  unfold isIn at *
  rw [List.take_succ_eq_append_getElem hk, List.any_append, h]
  simp [h2]
/-- Does it go edge by edge? -/
def chain : Nat → List Nat → Bool
  | _, [] => true
  | a, x :: r => edg a x != 0 && chain x r
/-- Where it ends. -/
def endOf : Nat → List Nat → Nat
  | a, [] => a
  | _, x :: r => endOf x r
theorem endOf_succ : ∀ (l : List Nat) (a k : Nat) (hk : k < l.length), endOf a (l.take (k + 1)) = l[k]
  | x :: r, a, 0, _ => by simp [endOf]
  | x :: r, a, k + 1, hk => by
    have := endOf_succ r x k (by simpa using hk)
    simpa [endOf] using this
  | [], _, _, hk => absurd hk (by simp)
theorem chain_at : ∀ (l : List Nat) (a k : Nat) (hk : k < l.length), chain a l = true → edg (endOf a (l.take k)) l[k] ≠ 0
  | x :: r, a, 0, _, h => by
    simp only [chain, Bool.and_eq_true] at h
    simpa [endOf] using h.1
  | x :: r, a, k + 1, hk, h => by
    simp only [chain, Bool.and_eq_true] at h
    have := chain_at r x k (by simpa using hk) h.2
    simpa [endOf] using this
  | [], _, _, hk, _ => absurd hk (by simp)
theorem endOf_lt : ∀ (l : List Nat) (a : Nat), a < 256 → (∀ x ∈ l, x < 8) → endOf a l < 256
  | [], a, h, _ => h
  | x :: r, a, _, h => endOf_lt r x (by have := h x (by simp); omega) fun y hy => h y (by simp [hy])
theorem ways_chain (a t : Nat) {l : List Nat} (hl : l ∈ ways a t) : chain a l = true ∧ endOf a l = t := by
  have := ways_all (p := fun a t L => L.all fun l => chain a l && decide (endOf a l = t)) (by kernel_rfl) (fun a => by simp [chain, endOf]) (fun _ _ _ _ => rfl) a t
  have h := List.all_eq_true.1 this l hl
  rw [Bool.and_eq_true, decide_eq_true_eq] at h
  exact h
/-- Does one text stand behind the other one, or is it that? -/
def leT (a b : ByteArray) : Bool := Op.bytesLess a.toList b.toList || a.toList == b.toList
theorem ways_order (a t : Nat) {i j : Nat} (hi : i < (ways a t).length) (hj : j < (ways a t).length) (h : j + 1 = i) : leT (txt (ways a t)[i]) (txt (ways a t)[j]) = false := by
  have := ways_all (p := fun _ _ L => (List.range L.length).all fun j => !leT (txt (L.getD (j + 1) [])) (txt (L.getD j [])) || decide (L.length ≤ j + 1)) (by kernel_rfl) (fun a => by kernel_rfl) (fun _ _ _ _ => by kernel_rfl) a t
  have h2 := List.all_eq_true.1 this j (List.mem_range.2 hj)
  subst h
  rw [Bool.or_eq_true, decide_eq_true_eq] at h2
  rcases h2 with h2 | h2
  · simp only [List.getD_eq_getElem?_getD, List.getElem?_eq_getElem hi, List.getElem?_eq_getElem hj, Option.getD_some] at h2
    simpa using h2
  · omega
set_option maxHeartbeats 8000000 in
set_option maxRecDepth 100000 in
theorem rises_no (f t : Nat) (w : World) (hf : f < 256) (ht : t < 256) (hT : Tabs w) (he : edg f t = 0) : Calls Tryd.prog 4 #[.int .u8 f, .int .u8 t] w fun e w' => e = .returned (.bool true) ∧ Below w.heap.size w w' := by
  have HT := Lib.hid fun w' (hb : Below w.heap.size w w') => tabs_below hT hb
  have H0 := Lib.hid (ways_few f t)
  have HS := Lib.hid fun l => ways_short f t (l := l)
  have HC := Lib.hid fun l => ways_chain f t (l := l)
  have HQ := Lib.hid fun i j => ways_order f t (i := i) (j := j)
  have HI := Lib.hid (isIn_nxt f t)
  have HE := Lib.hid (show isIn t (nxt f) = false by rw [HI.out, he]; rfl)
  have HZ := Lib.hid (show (edg f t : Int) = 0 by rw [he]; rfl)
  clear hT he
  go_enter Tryd.func4, Tryd.ntmps4
  go_wp2_with (go_at_call 12; refine (awake_any _ (HT.out _ (Below.refl _ _))).mono ?_; rintro e w1 ⟨rfl, h1⟩; have B1 := Lib.hid h1; clear h1)
  refine (edge_lit f t _ HZ.out _ hf ht (HT.out _ B1.out)).mono ?_
  rintro e w' ⟨rfl, rfl⟩
  go_wp2_with fail
  refine (next_any f _ hf (HT.out _ B1.out)).mono ?_
  rintro e w2 ⟨A, c, rfl, h1, h2⟩
  have U2 := Lib.hid h1
  have B2 := Lib.hid (B1.out.trans (h2.mono B1.out.size))
  clear h1 h2
  have i5 := nxt_len f
  generalize nxt f = n at *
  go_wp2_with fail
  go_loop [5, 7] (fun s5 s7 => ∃ k : Nat, k ≤ n.length ∧ s7 = .int .i64 k ∧ s5 = .bool (isIn t (n.take k))) (fun _ s7 => n.length - (intOf s7).toNat)
  case atStart => exact ⟨0, Nat.zero_le _, rfl, rfl⟩
  case round =>
    obtain ⟨k, hk, rfl, rfl⟩ := hrel
    have j3 : (0 : Int) ≤ (k : Int) := by omega
    by_cases hkt : k < n.length
    · have hkt2 : decide ((k : Int) < (n.length : Int)) = true := by simp; omega
      have j4 : (k : Int) < (n.length : Int) := by omega
      obtain ⟨gl, rfl⟩ := owns_addr U2.out (by omega)
      have cl := owns_cell U2.out (g := gl) rfl hkt
      rcases hth : isIn t (n.take k) with _ | _
      · by_cases he : n[k] = t
        · have HN := Lib.hid (isIn_hit hkt he)
          have he2 : ((n[k] : Int) == (t : Int)) = true := by simp [he]
          generalize n[k] = x at *
          clear he hth hk
          go_wp2_with fail
          go_round
          case rel => exact ⟨k + 1, by omega, by go_num, by rw [HN.out]⟩
          case measure => simp [intOf]; omega
        · have HN := Lib.hid (isIn_not hkt hth he)
          have he2 : ((n[k] : Int) == (t : Int)) = false := by simp; omega
          generalize n[k] = x at *
          clear he hth hk
          go_wp2_with fail
          go_round
          case rel => exact ⟨k + 1, by omega, by go_num, by rw [HN.out]⟩
          case measure => simp [intOf]; omega
      · have HN := Lib.hid (isIn_yes hkt hth)
        clear hth hk
        go_wp2_with fail
        go_round
        case rel => exact ⟨k + 1, by omega, by go_num, by rw [HN.out]⟩
        case measure => simp [intOf]; omega
    · have hkt2 : decide ((k : Int) < (n.length : Int)) = false := by simp; omega
      have hth : isIn t (n.take k) = false := by have := HE.out; rwa [List.take_of_length_le (by omega)]
      rw [hth]
      clear hk hth U2 HI HE
      go_wp2_with fail
      refine (edge_lit f t _ HZ.out _ hf ht (HT.out _ B2.out)).mono ?_
      rintro e w' ⟨rfl, rfl⟩
      go_wp2_with fail
      refine (ways_any f t _ hf (HT.out _ B2.out)).mono ?_
      rintro e w3 ⟨A', c', vs, rfl, hl, h1, h2, h3⟩
      have B3 := Lib.hid (B2.out.trans (h3.mono B2.out.size))
      have V3 := Lib.hid (And.intro hl (And.intro (show Holds w3 0 (.slice A' (ways f t).length c') vs from row_mono h1 (Nat.zero_le _)) (show Each w3 0 (fun _ => False) vs (ways f t) from h2.turn fun _ _ ho hn => ⟨ho.mono (Nat.zero_le _), hn⟩)))
      clear hl h1 h2 h3 i5
      have i0 := H0.out
      generalize ways f t = L at *
      go_wp2_with fail
      go_loopw [9] (fun s9 wr => ∃ i : Nat, i ≤ L.length ∧ s9 = .int .i64 i ∧ Below w3.heap.size w3 wr) (fun s9 _ => L.length - (intOf s9).toNat)
      case atStart => exact ⟨0, Nat.zero_le _, rfl, Below.refl _ _⟩
      case round =>
        obtain ⟨i, hi, rfl, hb⟩ := hrel
        have HB := Lib.hid hb
        have HW := Lib.hid (B3.out.trans (hb.mono B3.out.size))
        have i3 : (0 : Int) ≤ (i : Int) := by omega
        clear hb
        by_cases hlt : i < L.length
        · have hlt2 : decide ((i : Int) < (L.length : Int)) = true := by simp; omega
          have i4 : (i : Int) < (L.length : Int) := by omega
          obtain ⟨g, rfl⟩ := holds_addr V3.out.2.1 (by rw [V3.out.1]; omega)
          have hg3 := (World.ownsRow.lt V3.out.2.1 g rfl).2
          obtain ⟨D, d, hc, ho⟩ := ls_at V3.out.1 V3.out.2.1 V3.out.2.2 hlt
          have HCell := Lib.hid fun w' (hb : Below w3.heap.size w3 w') => (hb.cell (p := ⟨g, i, none⟩) hg3).trans hc
          have HO := Lib.hid fun w' (hb : Below w3.heap.size w3 w') => ho.below hb
          have HY := Lib.hid (HC.out _ (List.getElem_mem hlt))
          have HX := Lib.hid (HS.out _ (List.getElem_mem hlt))
          have i5 := HX.out.1
          have HP := Lib.hid fun j (h : j + 1 = i) => show ∃ l' : List Nat, ∃ D' d', leT (txt L[i]) (txt l') = false ∧ w3.cell? ⟨g, j, none⟩ = some (.slice D' l'.length d') ∧ Owns w3 0 (.slice D' l'.length d') l' by
            obtain ⟨D', d', hc', ho'⟩ := ls_at V3.out.1 V3.out.2.1 V3.out.2.2 (show j < L.length by omega)
            exact ⟨_, D', d', HQ.out i j hlt (by omega) h, hc', ho'⟩
          generalize L[i] = l at *
          have hc0 := HCell.out _ HB.out
          clear ho hc hi
          go_wp2_with fail
          go_loop [10, 11] (fun s10 s11 => ∃ k : Nat, k ≤ l.length ∧ s11 = .int .i64 k ∧ s10 = .int .u8 (endOf f (l.take k))) (fun _ s11 => l.length - (intOf s11).toNat)
          case atStart => exact ⟨0, Nat.zero_le _, rfl, rfl⟩
          case round =>
            obtain ⟨k, hk, rfl, rfl⟩ := hrel
            have j3 : (0 : Int) ≤ (k : Int) := by omega
            by_cases hkt : k < l.length
            · have hkt2 : decide ((k : Int) < (l.length : Int)) = true := by simp; omega
              have j4 : (k : Int) < (l.length : Int) := by omega
              obtain ⟨gl, rfl⟩ := owns_addr (HO.out _ HB.out) (by omega)
              have cl := owns_cell (HO.out _ HB.out) (g := gl) rfl hkt
              have hN := chain_at l f k hkt HY.out.1
              have HN := Lib.hid (endOf_succ l f k hkt)
              have k1 := endOf_lt (l.take k) f hf fun x hx => HX.out.2 x (List.mem_of_mem_take hx)
              have k2 := HX.out.2 _ (List.getElem_mem hkt)
              generalize l[k] = x at *
              generalize endOf f (l.take k) = y at *
              obtain ⟨q, hq⟩ : ∃ q : Int, (edg y x : Int) = q := ⟨_, rfl⟩
              have HK := Lib.hid hq
              have dq : (q == 0) = false := by simp; omega
              clear hq hN hk
              go_wp2_with (go_at_call 13; refine (edge_lit y x _ HK.out _ k1 (by omega) (HT.out _ HW.out)).mono ?_; rintro e w' ⟨rfl, rfl⟩)
              go_round
              case rel => exact ⟨k + 1, by omega, by go_num, by rw [HN.out]⟩
              case measure => simp [intOf]; omega
            · have hkt2 : decide ((k : Int) < (l.length : Int)) = false := by simp; omega
              have hend : endOf f (l.take k) = t := by rw [List.take_of_length_le (by omega)]; exact HY.out.2
              rw [hend]
              have dt : ((t : Int) != (t : Int)) = false := by simp
              clear hk hend
              by_cases hi0 : i = 0
              · have di : decide ((0 : Int) < (i : Int)) = false := by simp; omega
                have di2 : decide (0 < i) = false := by simp; omega
                clear hi0
                go_wp2_with fail
                clear hc0
                go_quiet (fail)
                go_wp2_with fail
                go_roundw
                case rel => exact ⟨i + 1, by omega, by go_num, below_drewN HB.out⟩
                case measure => simp [intOf]; omega
              · obtain ⟨j, hj⟩ : ∃ j, j + 1 = i := ⟨i - 1, by omega⟩
                obtain ⟨l', D', d', hle, hc', ho'⟩ := HP.out j hj
                have HS2 := Lib.hid fun w' (hb : Below w3.heap.size w3 w') => show (w'.cell? ⟨g, i, none⟩ = some (.slice D l.length d) ∧ w'.cell? ⟨g, j, none⟩ = some (.slice D' l'.length d')) ∧ ((convert 27 9 (.slice D l.length d)).run Tryd.prog w' = .ok (.string (txt l)) w' ∧ (convert 27 9 (.slice D' l'.length d')).run Tryd.prog w' = .ok (.string (txt l')) w') ∧ Hid (Below w3.heap.size w3 w') from
                  ⟨⟨HCell.out _ hb, (hb.cell (p := ⟨g, j, none⟩) hg3).trans hc'⟩, ⟨owns_text (HO.out _ hb), owns_text (ho'.below hb)⟩, Lib.hid hb⟩
                have di : decide ((0 : Int) < (i : Int)) = true := by simp; omega
                have di2 : decide (0 < i) = true := by simp; omega
                have e1 : IntKind.i64.wrap ((i : Int) - 1) = (i : Int) - 1 := IntWalk.i64_in _ ⟨by omega, by omega⟩
                have e2 : ((i : Int) - 1).toNat = j := by omega
                have e3 : (1 : Int) ≤ (i : Int) := by omega
                have e4 : (i : Int) - 1 < (L.length : Int) := by omega
                have e5 : (0 : Int) ≤ (i : Int) - 1 := by omega
                unfold leT at hle
                generalize txt l = s1 at *
                generalize txt l' = s2 at *
                clear hc' ho'
                go_wp2_with fail
                clear hc0
                go_region_held3 (fun w' => (w'.cell? ⟨g, i, none⟩ = some (.slice D l.length d) ∧ w'.cell? ⟨g, j, none⟩ = some (.slice D' l'.length d')) ∧ ((convert 27 9 (.slice D l.length d)).run Tryd.prog w' = .ok (.string s1) w' ∧ (convert 27 9 (.slice D' l'.length d')).run Tryd.prog w' = .ok (.string s2) w') ∧ Hid (Below w3.heap.size w3 w'))
                  (exact HS2.out _ HB.out.drew)
                  (fail)
                go_wp2_with fail
                go_roundw
                case rel => exact ⟨i + 1, by omega, by go_num, HB.out.drew⟩
                case measure => simp [intOf]; omega
        · have hlt2 : decide ((i : Int) < (L.length : Int)) = false := by simp; omega
          clear hi
          go_wp2_with fail
          go_ret
          exact ⟨rfl, HW.out⟩
set_option maxHeartbeats 8000000 in
set_option maxRecDepth 100000 in
theorem rises_yes (f t : Nat) (w : World) (hf : f < 256) (ht : t < 256) (hT : Tabs w) (he : edg f t ≠ 0) : Calls Tryd.prog 4 #[.int .u8 f, .int .u8 t] w fun e w' => e = .returned (.bool true) ∧ Below w.heap.size w w' := by
  have HT := Lib.hid fun w' (hb : Below w.heap.size w w') => tabs_below hT hb
  have H0 := Lib.hid (ways_few f t)
  have HS := Lib.hid fun l => ways_short f t (l := l)
  have HC := Lib.hid fun l => ways_chain f t (l := l)
  have HQ := Lib.hid fun i j => ways_order f t (i := i) (j := j)
  have HI := Lib.hid (isIn_nxt f t)
  have HE := Lib.hid (show isIn t (nxt f) = true by rw [HI.out]; simpa using he)
  obtain ⟨z, hz⟩ : ∃ z : Int, (edg f t : Int) = z := ⟨_, rfl⟩
  have HZ := Lib.hid hz
  have dz : (z != 0) = true := by simp; omega
  have dle : decide (t ≤ f) = false := by have := (edg_up he).1; simp; omega
  have HM := Lib.hid (edg_up he).2
  clear hT he hz
  go_enter Tryd.func4, Tryd.ntmps4
  go_wp2_with (go_at_call 12; refine (awake_any _ (HT.out _ (Below.refl _ _))).mono ?_; rintro e w1 ⟨rfl, h1⟩; have B1 := Lib.hid h1; clear h1)
  refine (edge_lit f t _ HZ.out _ hf ht (HT.out _ B1.out)).mono ?_
  rintro e w' ⟨rfl, rfl⟩
  go_wp2_with fail
  refine (may_any _ _ ht).mono ?_
  rintro e w' ⟨rfl, rfl⟩
  rw [HM.out]
  go_wp2_with fail
  refine (next_any f _ hf (HT.out _ B1.out)).mono ?_
  rintro e w2 ⟨A, c, rfl, h1, h2⟩
  have U2 := Lib.hid h1
  have B2 := Lib.hid (B1.out.trans (h2.mono B1.out.size))
  clear h1 h2
  have i5 := nxt_len f
  generalize nxt f = n at *
  go_wp2_with fail
  go_loop [5, 7] (fun s5 s7 => ∃ k : Nat, k ≤ n.length ∧ s7 = .int .i64 k ∧ s5 = .bool (isIn t (n.take k))) (fun _ s7 => n.length - (intOf s7).toNat)
  case atStart => exact ⟨0, Nat.zero_le _, rfl, rfl⟩
  case round =>
    obtain ⟨k, hk, rfl, rfl⟩ := hrel
    have j3 : (0 : Int) ≤ (k : Int) := by omega
    by_cases hkt : k < n.length
    · have hkt2 : decide ((k : Int) < (n.length : Int)) = true := by simp; omega
      have j4 : (k : Int) < (n.length : Int) := by omega
      obtain ⟨gl, rfl⟩ := owns_addr U2.out (by omega)
      have cl := owns_cell U2.out (g := gl) rfl hkt
      rcases hth : isIn t (n.take k) with _ | _
      · by_cases he : n[k] = t
        · have HN := Lib.hid (isIn_hit hkt he)
          have he2 : ((n[k] : Int) == (t : Int)) = true := by simp [he]
          generalize n[k] = x at *
          clear he hth hk
          go_wp2_with fail
          go_round
          case rel => exact ⟨k + 1, by omega, by go_num, by rw [HN.out]⟩
          case measure => simp [intOf]; omega
        · have HN := Lib.hid (isIn_not hkt hth he)
          have he2 : ((n[k] : Int) == (t : Int)) = false := by simp; omega
          generalize n[k] = x at *
          clear he hth hk
          go_wp2_with fail
          go_round
          case rel => exact ⟨k + 1, by omega, by go_num, by rw [HN.out]⟩
          case measure => simp [intOf]; omega
      · have HN := Lib.hid (isIn_yes hkt hth)
        clear hth hk
        go_wp2_with fail
        go_round
        case rel => exact ⟨k + 1, by omega, by go_num, by rw [HN.out]⟩
        case measure => simp [intOf]; omega
    · have hkt2 : decide ((k : Int) < (n.length : Int)) = false := by simp; omega
      have hth : isIn t (n.take k) = true := by have := HE.out; rwa [List.take_of_length_le (by omega)]
      rw [hth]
      clear hk hth U2 HI HE
      go_wp2_with fail
      refine (edge_lit f t _ HZ.out _ hf ht (HT.out _ B2.out)).mono ?_
      rintro e w' ⟨rfl, rfl⟩
      go_wp2_with fail
      refine (ways_any f t _ hf (HT.out _ B2.out)).mono ?_
      rintro e w3 ⟨A', c', vs, rfl, hl, h1, h2, h3⟩
      have B3 := Lib.hid (B2.out.trans (h3.mono B2.out.size))
      have V3 := Lib.hid (And.intro hl (And.intro (show Holds w3 0 (.slice A' (ways f t).length c') vs from row_mono h1 (Nat.zero_le _)) (show Each w3 0 (fun _ => False) vs (ways f t) from h2.turn fun _ _ ho hn => ⟨ho.mono (Nat.zero_le _), hn⟩)))
      clear hl h1 h2 h3 i5
      have i0 := H0.out
      generalize ways f t = L at *
      go_wp2_with fail
      go_loopw [9] (fun s9 wr => ∃ i : Nat, i ≤ L.length ∧ s9 = .int .i64 i ∧ Below w3.heap.size w3 wr) (fun s9 _ => L.length - (intOf s9).toNat)
      case atStart => exact ⟨0, Nat.zero_le _, rfl, Below.refl _ _⟩
      case round =>
        obtain ⟨i, hi, rfl, hb⟩ := hrel
        have HB := Lib.hid hb
        have HW := Lib.hid (B3.out.trans (hb.mono B3.out.size))
        have i3 : (0 : Int) ≤ (i : Int) := by omega
        clear hb
        by_cases hlt : i < L.length
        · have hlt2 : decide ((i : Int) < (L.length : Int)) = true := by simp; omega
          have i4 : (i : Int) < (L.length : Int) := by omega
          obtain ⟨g, rfl⟩ := holds_addr V3.out.2.1 (by rw [V3.out.1]; omega)
          have hg3 := (World.ownsRow.lt V3.out.2.1 g rfl).2
          obtain ⟨D, d, hc, ho⟩ := ls_at V3.out.1 V3.out.2.1 V3.out.2.2 hlt
          have HCell := Lib.hid fun w' (hb : Below w3.heap.size w3 w') => (hb.cell (p := ⟨g, i, none⟩) hg3).trans hc
          have HO := Lib.hid fun w' (hb : Below w3.heap.size w3 w') => ho.below hb
          have HY := Lib.hid (HC.out _ (List.getElem_mem hlt))
          have HX := Lib.hid (HS.out _ (List.getElem_mem hlt))
          have i5 := HX.out.1
          have HP := Lib.hid fun j (h : j + 1 = i) => show ∃ l' : List Nat, ∃ D' d', leT (txt L[i]) (txt l') = false ∧ w3.cell? ⟨g, j, none⟩ = some (.slice D' l'.length d') ∧ Owns w3 0 (.slice D' l'.length d') l' by
            obtain ⟨D', d', hc', ho'⟩ := ls_at V3.out.1 V3.out.2.1 V3.out.2.2 (show j < L.length by omega)
            exact ⟨_, D', d', HQ.out i j hlt (by omega) h, hc', ho'⟩
          generalize L[i] = l at *
          have hc0 := HCell.out _ HB.out
          clear ho hc hi
          go_wp2_with fail
          go_loop [10, 11] (fun s10 s11 => ∃ k : Nat, k ≤ l.length ∧ s11 = .int .i64 k ∧ s10 = .int .u8 (endOf f (l.take k))) (fun _ s11 => l.length - (intOf s11).toNat)
          case atStart => exact ⟨0, Nat.zero_le _, rfl, rfl⟩
          case round =>
            obtain ⟨k, hk, rfl, rfl⟩ := hrel
            have j3 : (0 : Int) ≤ (k : Int) := by omega
            by_cases hkt : k < l.length
            · have hkt2 : decide ((k : Int) < (l.length : Int)) = true := by simp; omega
              have j4 : (k : Int) < (l.length : Int) := by omega
              obtain ⟨gl, rfl⟩ := owns_addr (HO.out _ HB.out) (by omega)
              have cl := owns_cell (HO.out _ HB.out) (g := gl) rfl hkt
              have hN := chain_at l f k hkt HY.out.1
              have HN := Lib.hid (endOf_succ l f k hkt)
              have k1 := endOf_lt (l.take k) f hf fun x hx => HX.out.2 x (List.mem_of_mem_take hx)
              have k2 := HX.out.2 _ (List.getElem_mem hkt)
              generalize l[k] = x at *
              generalize endOf f (l.take k) = y at *
              obtain ⟨q, hq⟩ : ∃ q : Int, (edg y x : Int) = q := ⟨_, rfl⟩
              have HK := Lib.hid hq
              have dq : (q == 0) = false := by simp; omega
              clear hq hN hk
              go_wp2_with (go_at_call 13; refine (edge_lit y x _ HK.out _ k1 (by omega) (HT.out _ HW.out)).mono ?_; rintro e w' ⟨rfl, rfl⟩)
              go_round
              case rel => exact ⟨k + 1, by omega, by go_num, by rw [HN.out]⟩
              case measure => simp [intOf]; omega
            · have hkt2 : decide ((k : Int) < (l.length : Int)) = false := by simp; omega
              have hend : endOf f (l.take k) = t := by rw [List.take_of_length_le (by omega)]; exact HY.out.2
              rw [hend]
              have dt : ((t : Int) != (t : Int)) = false := by simp
              clear hk hend
              by_cases hi0 : i = 0
              · have di : decide ((0 : Int) < (i : Int)) = false := by simp; omega
                have di2 : decide (0 < i) = false := by simp; omega
                clear hi0
                go_wp2_with fail
                clear hc0
                go_quiet (fail)
                go_wp2_with fail
                go_roundw
                case rel => exact ⟨i + 1, by omega, by go_num, below_drewN HB.out⟩
                case measure => simp [intOf]; omega
              · obtain ⟨j, hj⟩ : ∃ j, j + 1 = i := ⟨i - 1, by omega⟩
                obtain ⟨l', D', d', hle, hc', ho'⟩ := HP.out j hj
                have HS2 := Lib.hid fun w' (hb : Below w3.heap.size w3 w') => show (w'.cell? ⟨g, i, none⟩ = some (.slice D l.length d) ∧ w'.cell? ⟨g, j, none⟩ = some (.slice D' l'.length d')) ∧ ((convert 27 9 (.slice D l.length d)).run Tryd.prog w' = .ok (.string (txt l)) w' ∧ (convert 27 9 (.slice D' l'.length d')).run Tryd.prog w' = .ok (.string (txt l')) w') ∧ Hid (Below w3.heap.size w3 w') from
                  ⟨⟨HCell.out _ hb, (hb.cell (p := ⟨g, j, none⟩) hg3).trans hc'⟩, ⟨owns_text (HO.out _ hb), owns_text (ho'.below hb)⟩, Lib.hid hb⟩
                have di : decide ((0 : Int) < (i : Int)) = true := by simp; omega
                have di2 : decide (0 < i) = true := by simp; omega
                have e1 : IntKind.i64.wrap ((i : Int) - 1) = (i : Int) - 1 := IntWalk.i64_in _ ⟨by omega, by omega⟩
                have e2 : ((i : Int) - 1).toNat = j := by omega
                have e3 : (1 : Int) ≤ (i : Int) := by omega
                have e4 : (i : Int) - 1 < (L.length : Int) := by omega
                have e5 : (0 : Int) ≤ (i : Int) - 1 := by omega
                unfold leT at hle
                generalize txt l = s1 at *
                generalize txt l' = s2 at *
                clear hc' ho'
                go_wp2_with fail
                clear hc0
                go_region_held3 (fun w' => (w'.cell? ⟨g, i, none⟩ = some (.slice D l.length d) ∧ w'.cell? ⟨g, j, none⟩ = some (.slice D' l'.length d')) ∧ ((convert 27 9 (.slice D l.length d)).run Tryd.prog w' = .ok (.string s1) w' ∧ (convert 27 9 (.slice D' l'.length d')).run Tryd.prog w' = .ok (.string s2) w') ∧ Hid (Below w3.heap.size w3 w'))
                  (exact HS2.out _ HB.out.drew)
                  (fail)
                go_wp2_with fail
                go_roundw
                case rel => exact ⟨i + 1, by omega, by go_num, HB.out.drew⟩
                case measure => simp [intOf]; omega
        · have hlt2 : decide ((i : Int) < (L.length : Int)) = false := by simp; omega
          clear hi
          go_wp2_with fail
          go_ret
          exact ⟨rfl, HW.out⟩
theorem rises_any (f t : Nat) (w : World) (hf : f < 256) (ht : t < 256) (hT : Tabs w) : Calls Tryd.prog 4 #[.int .u8 f, .int .u8 t] w fun e w' => e = .returned (.bool true) ∧ Below w.heap.size w w' := by
  by_cases he : edg f t = 0
  · exact rises_no f t w hf ht hT he
  · exact rises_yes f t w hf ht hT he
section
open Go.ChangeShapes Go.WideShapes Go.ChangeAt
set_option maxRecDepth 100000 in
theorem rises_lifted (os : Os) (started : os.Started) (H : Type) (enc : TypeId × Value → H) :
    ReturnsInHanded {} Tryd.checked os 4 .any (fun w args => (Rows.stageRisesSpec.pre enc Tryd.prog Tryd.f4 [] false w args ∧ laidMetH Tryd.prog laidAll w) ∧ sizedMet enc Tryd.prog Tryd.f4 (OpenSpec.ofChange Rows.stageRisesSpec) false w args)
      (Rows.stageRisesSpec.post enc Tryd.prog Tryd.f4 false true false false) := by
  refine returnsInHanded_of_change_and (C := Tryd.checked) (X := fun w _ => laidMetH Tryd.prog laidAll w) (fun _ _ _ hh h => h.of_heap hh) Tryd.own started (by kernel_rfl) Tryd.func4
    (ChangeSpec.witness_shaped (enc := enc) (C := Tryd.checked) (os := os) (X := fun w _ => laidMetH Tryd.prog laidAll w) false (World.doorLaid Tryd.prog 400 os) #[.int .u8 0, .int .u8 0] 8 rfl (World.shaped_of_RefB (by kernel_rfl) (by kernel_rfl)) (by kernel_rfl) (by kernel_rfl) (by kernel_rfl) (door_met os _)) ?_
  intro W base args ds gs before hval0 hW _ _ hL _
  have hval : ∀ (j : Nat) t v, Tryd.f4.params[j]? = some t → args[j]? = some v → Value.okWide Tryd.prog W .any base t v := hval0
  have hW' := hW
  obtain ⟨p, q, hA0, hV, rfl, _, _⟩ := hW
  have hA : DataW.TrodAll enc Tryd.prog W 0 (fun _ => true) true Tryd.f4.params.toList args.toList ds p := hA0
  rw [Tryd.params4] at hA hval
  obtain ⟨v0, v1, d0, d1, p0, p1, rfl, rfl, rfl, h0, h1⟩ := trodAll_two hA
  obtain ⟨rfl, rfl⟩ := trodVars_none hV
  obtain ⟨x0, rfl, rfl, rfl, w0⟩ := open_int Tryd.underlying5 (hval 0 5 v0 rfl rfl) h0
  obtain ⟨m0, rfl, r0⟩ := in_u8 w0
  obtain ⟨x1, rfl, rfl, rfl, w1⟩ := open_int Tryd.underlying5 (hval 1 5 v1 rfl rfl) h1
  obtain ⟨m1, rfl, r1⟩ := in_u8 w1
  refine (rises_any m0 m1 W r0 r1 (tabs_of_laid hL)).mono fun e W' ⟨he, hb⟩ => ?_
  subst he
  exact ⟨_, rfl, law_post hW' rfl (by kernel_rfl) Tryd.underlying4 rfl (by unfold Legible; kernel_rfl) hb⟩
theorem rises_row : Rows.StageRisesSaid :=
  OpenClaim.holds_of_wide 4 Tryd.f4 rfl rfl rfl rfl rfl rfl rfl ⟨rfl, rfl, rfl, rfl, rfl⟩ rfl rfl rfl rfl rfl (by kernel_rfl) Tryd.func4 (by kernel_rfl)
    (of_decide_eq_true (by kernel_rfl)) (by unfold Func.isWrapper; first | (rw [if_pos (by decide +kernel)]; kernel_rfl) | (rw [if_neg (by decide +kernel)]; exact ⟨rfl, rfl⟩))
    (fun os started H enc _ => rises_lifted os started H enc)
/-- The statement: the row, with its two variables tied to the program's text. -/
theorem rises_holds : Rows.StageRisesCardSaid :=
  Claim7.holds_tied_plain_at .later [] [.data, .data] true (true, "eb22ec1ed816607768e23841f26954d3e8ed71bf626294bf4b08e00a6f345e0d") false
    rises_row (fun _ h => by cases h) (by kernel_rfl) (fun _ h => by cases h) stageRises_row_tie rfl ⟨rfl, rfl⟩ (by kernel_rfl) rfl
    (fun f fn hf hfn => by
      obtain rfl : f = 4 := Option.some.inj ((show _ = some 4 by kernel_rfl).symm.trans hf) |>.symm
      obtain rfl : fn = Tryd.f4 := (Option.some.inj (Tryd.func4.symm.trans hfn)).symm
      exact ⟨by kernel_rfl, fun j t ht => by
        rw [Tryd.params4] at ht
        have hm : t ∈ [5] := by simpa using Array.mem_of_getElem? ht
        have hall : ([5].all fun u => !Tryd.prog.wantsStandIn u) = true := by kernel_rfl
        exact (show Tryd.prog.wantsStandIn t = false by simpa using List.all_eq_true.1 hall t hm)⟩)
    (by kernel_rfl)
end

end Go.Proofs.YtjgapjbaidgolaaDoor
