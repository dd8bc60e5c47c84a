/-
  Bytes and lists of bytes, as they are read; walks over the statements' own questions: is a status reached, are two lists of paths the same. No statement is proved in this text.
-/
import Derived.Test.YtjgapjbaidgolaaDoorWalksF
import Derived.Test.YtjgapjbaidgolaaDoorFacts
import Derived.BigQuiet
import Derived.Deep.QuietTactic
namespace Go.Proofs.YtjgapjbaidgolaaDoor
open Go.RowKit
/-- The slice v reads as the bytes l. -/
def Rd (w : World) (v : Value) (l : List Nat) : Prop := ∃ A c, v = .slice A l.length c ∧ Owns w 0 v l
theorem Rd.conv {w : World} {v : Value} {l : List Nat} (h : Rd w v l) : (convert 27 9 v).run Tryd.prog w = .ok (.string (txt l)) w := by
  obtain ⟨A, c, _, h⟩ := h
  exact owns_text h
theorem Rd.below {w w' : World} {v : Value} {l : List Nat} (h : Rd w v l) (hb : Below w.heap.size w w') : Rd w' v l := by
  obtain ⟨A, c, e, h⟩ := h
  exact ⟨A, c, e, h.below hb⟩
theorem rd_owns {w : World} {base : Nat} {v : Value} {l : List Nat} (h : Owns w base v l) : Rd w v l := by
  rcases owns_split h with ⟨rfl, hn⟩ | ⟨g, cap, rfl, _⟩
  · exact ⟨none, 0, by rw [hn], h.mono (Nat.zero_le _)⟩
  · exact ⟨_, cap, rfl, h.mono (Nat.zero_le _)⟩
/-- A literal of bytes. -/
theorem rd_lit (w : World) (l : List Nat) (cs : Array Value) (h : cs.toList = bts l) (hl : l.length ≤ 100000) : Rd (w.alloc (.cells cs 5)) (.slice (some ⟨w.heap.size, 0, none⟩) l.length l.length) l := by
  refine ⟨_, _, rfl, by rw [bts_len, Nat.mul_one], .inr ⟨w.heap.size, l.length, cs, rfl, Nat.zero_le _, heap_alloc_new w _, Nat.le_refl _, by unfold maxLen; omega, ?_, ?_⟩⟩
  · rw [← Array.length_toList, h, bts_len, Nat.mul_one]
  · rw [h, List.take_of_length_le (by rw [bts_len]; omega)]
/-- The slice v reads as the list L of bytes. -/
def Ls (w : World) (v : Value) (L : List (List Nat)) : Prop := ∃ A c vs, v = .slice A L.length c ∧ vs.length = L.length ∧ Holds w 0 v vs ∧ Each w 0 (fun _ => False) vs L
theorem Ls.below {w w' : World} {v : Value} {L : List (List Nat)} (h : Ls w v L) (hb : Below w.heap.size w w') : Ls w' v L := by
  obtain ⟨A, c, vs, e, hl, h1, h2⟩ := h
  exact ⟨A, c, vs, e, hl, row_kept h1 fun k hk => hb.block k (World.ownsRow.lt h1 k hk).2, h2.turn fun _ _ ho hn => ⟨ho.below hb, hn⟩⟩
theorem ls_gives {w' : World} {A : Option Addr} {c : Nat} {vs : List Value} {L : List (List Nat)} {base : Nat} (hl : vs.length = L.length) (h1 : Holds w' base (.slice A L.length c) vs) (h2 : Each w' base (fun _ => False) vs L) : Ls w' (.slice A L.length c) L :=
  ⟨A, c, vs, rfl, hl, row_mono h1 (Nat.zero_le _), h2.turn fun _ _ ho hn => ⟨ho.mono (Nat.zero_le _), hn⟩⟩
theorem each_one {w : World} {v : Value} {l : List Nat} (h : Rd w v l) : Each w 0 (fun _ => False) [v] [l] := by
  obtain ⟨A, c, _, h⟩ := h
  exact ⟨⟨h, fun _ _ h => h⟩, trivial⟩
theorem each_cons {w : World} {v : Value} {l : List Nat} {vs : List Value} {L : List (List Nat)} (h : Rd w v l) (hr : Each w 0 (fun _ => False) vs L) : Each w 0 (fun _ => False) (v :: vs) (l :: L) := by
  obtain ⟨A, c, _, h⟩ := h
  exact ⟨⟨h, fun _ _ h => h⟩, hr⟩
/-- A literal of slices. -/
theorem ls_lit (w : World) (L : List (List Nat)) (vs : List Value) (h : Each w 0 (fun _ => False) vs L) (hl : L.length ≤ 100000) : Ls (w.alloc (.cells vs.toArray 27)) (.slice (some ⟨w.heap.size, 0, none⟩) L.length L.length) L := by
  have hb : Below w.heap.size w (w.alloc (.cells vs.toArray 27)) := (Below.refl _ _).alloc (Nat.le_refl _) _
  have hlen := h.len
  refine ⟨_, _, vs, rfl, hlen, ?_, h.turn fun _ _ ho hn => ⟨ho.below hb, hn⟩⟩
  unfold Holds
  rw [hlen]
  refine ⟨by rw [hlen, Nat.mul_one], .inr ⟨w.heap.size, L.length, vs.toArray, rfl, Nat.zero_le _, heap_alloc_new w _, Nat.le_refl _, by unfold maxLen; omega, ?_, ?_⟩⟩
  · simp [hlen]
  · simp [← hlen]
theorem holds_cell {w : World} {base : Nat} {v : Value} {vs : List Value} (h : Holds w base v vs) {g : Nat} (hg : v.ownBlock = some g) {k : Nat} (hk : k < vs.length) : w.cell? ⟨g, k, none⟩ = some vs[k] := by
  have := World.ownsRow.cells h (g := g) hg k vs[k] (by simp [hk])
  rwa [add_zero_block] at this
/-- Is a status reached? (f: steps.) -/
def rchF : Nat → Nat → Nat → Bool
  | 0, _, _ => false
  | f + 1, a, t => (nxt a).any fun b => b == t || (decide (b < t) && rchF f b t)
def rch (a t : Nat) : Bool := rchF 9 a t
theorem any_congr' {α : Type} {p q : α → Bool} : ∀ (l : List α), (∀ x ∈ l, p x = q x) → l.any p = l.any q
  | [], _ => rfl
  | x :: l, h => by
    rw [List.any_cons, List.any_cons, h x (by simp), any_congr' l fun y hy => h y (by simp [hy])]
theorem rchF_more (t : Nat) : ∀ (n a : Nat), 8 - a ≤ n → ∀ f g, 8 - a < f → 8 - a < g → rchF f a t = rchF g a t := by
  intro n
  induction n with
  | zero =>
    intro a h f g hf hg
    obtain ⟨f, rfl⟩ : ∃ k, f = k + 1 := ⟨f - 1, by omega⟩
    obtain ⟨g, rfl⟩ : ∃ k, g = k + 1 := ⟨g - 1, by omega⟩
    simp only [rchF, nxt_out (show 8 ≤ a by omega), List.any_nil]
  | succ n ih =>
    intro a h f g hf hg
    obtain ⟨f, rfl⟩ : ∃ k, f = k + 1 := ⟨f - 1, by omega⟩
    obtain ⟨g, rfl⟩ : ∃ k, g = k + 1 := ⟨g - 1, by omega⟩
    simp only [rchF]
    refine any_congr' _ fun b hb => ?_
    have := nxt_up hb
    rw [ih b (by omega) f g (by omega) (by omega)]
/-- What is asked of one that an edge leads to. -/
def hit (t b : Nat) : Bool := b == t || (decide (b < t) && rch b t)
theorem rch_eq {a t : Nat} : rch a t = (nxt a).any (hit t) := by
  unfold rch
  rw [rchF]
  refine any_congr' _ fun b hb => ?_
  have := nxt_up hb
  unfold hit rch
  rw [rchF_more t 9 b (by omega) 8 9 (by omega) (by omega)]
theorem any_take {l : List Nat} {p : Nat → Bool} {k : Nat} (hk : k < l.length) (h : (l.take k).any p = false) (h2 : p l[k] = false) : (l.take (k + 1)).any p = false := by
  rw [List.take_succ_eq_append_getElem hk, List.any_append, h]
  simp [h2]
theorem any_yes {l : List Nat} {p : Nat → Bool} {k : Nat} (hk : k < l.length) (h2 : p l[k] = true) : l.any p = true := by
  rw [List.any_eq_true]
  exact ⟨l[k], List.getElem_mem hk, h2⟩
set_option maxHeartbeats 2000000 in
theorem reaches_node (t a : Nat) (w : World) (ha : a < 256) (ht : Tabs w)
    (ih : ∀ b, a < b → b < 8 → ∀ w', Tabs w' → Calls Tryd.prog 15 #[.int .u8 b, .int .u8 t] w' fun e w'' => e = .returned (.bool (rch b t)) ∧ Below w'.heap.size w' w'') :
    Calls Tryd.prog 15 #[.int .u8 a, .int .u8 t] w fun e w' => e = .returned (.bool (rch a t)) ∧ Below w.heap.size w w' := by
  have HT := Lib.hid fun w' (hb : Below w.heap.size w w') => tabs_below ht hb
  have HI := Lib.hid ih
  have HR := Lib.hid (rch_eq (a := a) (t := t))
  clear ht ih
  go_enter Tryd.func15, Tryd.ntmps15
  go_wp2_with (go_at_call 11; refine (next_any a _ ha (HT.out _ (Below.refl _ _))).mono ?_; rintro e w1 ⟨A, c, rfl, h1, h2⟩; have U1 := Lib.hid h1; have B1 := Lib.hid h2; clear h1 h2)
  go_loopw [6] (fun s6 wr => ∃ k : Nat, k ≤ (nxt a).length ∧ s6 = .int .i64 k ∧ Below w1.heap.size w1 wr ∧ ((nxt a).take k).any (hit t) = false) (fun s6 _ => (nxt a).length - (intOf s6).toNat)
  case atStart => exact ⟨0, Nat.zero_le _, rfl, Below.refl _ _, rfl⟩
  case round =>
    obtain ⟨k, hk, rfl, hb, hn⟩ := hrel
    have HB := Lib.hid hb
    have HN := Lib.hid hn
    have HW := Lib.hid (B1.out.trans (hb.mono B1.out.size))
    have hu := U1.out.below hb
    have i3 : (0 : Int) ≤ (k : Int) := by omega
    clear hb hn
    by_cases hlt : k < (nxt a).length
    · have i5 := nxt_len a
      have hlt2 : decide ((k : Int) < ((nxt a).length : Int)) = true := by simp; omega
      have i4 : (k : Int) < ((nxt a).length : Int) := by omega
      obtain ⟨gu, rfl⟩ : ∃ gu, A = some ⟨gu, 0, none⟩ := by
        rcases owns_split hu with ⟨_, e⟩ | ⟨gu, _, e, _⟩
        · omega
        · injection e with e _ _
          exact ⟨gu, e⟩
      have cu := owns_cell hu (g := gu) rfl hlt
      have HY := Lib.hid (any_yes (p := hit t) hlt)
      have HX := Lib.hid (any_take (p := hit t) hlt HN.out)
      obtain ⟨hb1, hb2, _⟩ := nxt_up (List.getElem_mem hlt)
      generalize (nxt a)[k] = b at *
      clear hu hk
      by_cases e1 : b = t
      · have d1 : ((b : Int) == (t : Int)) = true := by simp [e1]
        have HZ := Lib.hid (HY.out (by simp [hit, e1]))
        clear e1
        go_wp2_with fail
        go_ret
        exact ⟨ret_bool (by rw [HR.out, HZ.out]), HW.out⟩
      · have d1 : ((b : Int) == (t : Int)) = false := by simp; omega
        by_cases e2 : b < t
        · have d2 : decide ((b : Int) < (t : Int)) = true := by simp; omega
          rcases hr : rch b t with _ | _
          · have HZ := Lib.hid (HX.out (by simp [hit, e1, hr]))
            have HC := Lib.hid fun w' h => HI.out b hb1 hb2 w' h
            rw [hr] at HC
            clear e1 hr
            go_wp2_with (go_at_call 15; refine (HC.out _ (HT.out _ HW.out)).mono ?_; rintro e w2 ⟨rfl, h2⟩; have B2 := Lib.hid (HB.out.trans (h2.mono HB.out.size)); clear h2)
            go_roundw
            case rel => exact ⟨k + 1, by omega, by go_num, B2.out, HZ.out⟩
            case measure => simp [intOf]; omega
          · have HZ := Lib.hid (HY.out (by simp [hit, e2, hr]))
            have HC := Lib.hid fun w' h => HI.out b hb1 hb2 w' h
            rw [hr] at HC
            clear e1 hr
            go_wp2_with (go_at_call 15; refine (HC.out _ (HT.out _ HW.out)).mono ?_; rintro e w2 ⟨rfl, h2⟩; have B2 := Lib.hid (HW.out.trans (h2.mono HW.out.size)); clear h2)
            go_ret
            exact ⟨ret_bool (by rw [HR.out, HZ.out]), B2.out⟩
        · have d2 : decide ((b : Int) < (t : Int)) = false := by simp; omega
          have HZ := Lib.hid (HX.out (by simp [hit, e1, e2]))
          clear e1
          go_wp2_with fail
          go_roundw
          case rel => exact ⟨k + 1, by omega, by go_num, HB.out, HZ.out⟩
          case measure => simp [intOf]; omega
    · have hlt2 : decide ((k : Int) < ((nxt a).length : Int)) = false := by simp; omega
      have HZ := Lib.hid (show (nxt a).any (hit t) = false by have := HN.out; rwa [List.take_of_length_le (by omega)] at this)
      clear hu hk
      go_wp2_with fail
      go_ret
      exact ⟨ret_bool (by rw [HR.out, HZ.out]), HW.out⟩
theorem reaches_any (t : Nat) : ∀ (n a : Nat), 256 - a ≤ n → a < 256 → ∀ w, Tabs w → Calls Tryd.prog 15 #[.int .u8 a, .int .u8 t] w fun e w' => e = .returned (.bool (rch a t)) ∧ Below w.heap.size w w' := by
  intro n
  induction n with
  | zero => intro a h1 h2; omega
  | succ n ih =>
    intro a _ ha w ht
    exact reaches_node t a w ha ht fun b h1 h2 w' h => ih b (by omega) (by omega) w' h
set_option maxHeartbeats 2000000 in
/-- Two lists of paths that read alike are the same. -/
theorem same_yes (v u : Value) (L : List (List Nat)) (w : World) (h1 : Ls w v L) (h2 : Ls w u L) (hl : L.length ≤ 1000) :
    Calls Tryd.prog 19 #[v, u] w fun e w' => e = .returned (.bool true) ∧ Below w.heap.size w w' := by
  have H1 := Lib.hid fun w' (hb : Below w.heap.size w w') => h1.below hb
  have H2 := Lib.hid fun w' (hb : Below w.heap.size w w') => h2.below hb
  obtain ⟨A, c, vs, rfl, hvl, hvh, hve⟩ := h1
  obtain ⟨A', c', us, rfl, hul, huh, hue⟩ := h2
  have V1 := Lib.hid (And.intro hvl (And.intro hvh hve))
  have V2 := Lib.hid (And.intro hul (And.intro huh hue))
  clear hvl hvh hve hul huh hue
  go_enter Tryd.func19, Tryd.ntmps19
  go_wp2_with fail
  go_loopw [5] (fun s5 wr => ∃ k : Nat, k ≤ L.length ∧ s5 = .int .i64 k ∧ Below w.heap.size w wr) (fun s5 _ => L.length - (intOf s5).toNat)
  case atStart => exact ⟨0, Nat.zero_le _, rfl, Below.refl _ _⟩
  case round =>
    obtain ⟨k, hk, rfl, hb⟩ := hrel
    have HB := Lib.hid hb
    have i3 : (0 : Int) ≤ (k : Int) := by omega
    by_cases hlt : k < L.length
    · have hlt2 : decide ((k : Int) < (L.length : Int)) = true := by simp; omega
      have i4 : (k : Int) < (L.length : Int) := by omega
      have hkv : k < vs.length := by rw [V1.out.1]; exact hlt
      have hku : k < us.length := by rw [V2.out.1]; exact hlt
      obtain ⟨g, rfl⟩ : ∃ g, A = some ⟨g, 0, none⟩ := by
        rcases owns_split V1.out.2.1 with ⟨_, e⟩ | ⟨g, cap, e, _⟩
        · omega
        · injection e with e _ _
          exact ⟨g, e⟩
      obtain ⟨g', rfl⟩ : ∃ g, A' = some ⟨g, 0, none⟩ := by
        rcases owns_split V2.out.2.1 with ⟨_, e⟩ | ⟨g, cap, e, _⟩
        · omega
        · injection e with e _ _
          exact ⟨g, e⟩
      have HS := Lib.hid fun w' (hb : Below w.heap.size w w') => show (w'.cell? ⟨g, k, none⟩ = some vs[k] ∧ w'.cell? ⟨g', k, none⟩ = some us[k]) ∧ ((convert 27 9 vs[k]).run Tryd.prog w' = .ok (.string (txt L[k])) w' ∧ (convert 27 9 us[k]).run Tryd.prog w' = .ok (.string (txt L[k])) w') ∧ Hid (Below w.heap.size w w') from
        ⟨⟨(hb.cell (p := ⟨g, k, none⟩) (World.ownsRow.lt V1.out.2.1 g rfl).2).trans (holds_cell V1.out.2.1 (g := g) rfl hkv), (hb.cell (p := ⟨g', k, none⟩) (World.ownsRow.lt V2.out.2.1 g' rfl).2).trans (holds_cell V2.out.2.1 (g := g') rfl hku)⟩,
          ⟨owns_text ((V1.out.2.2.at_ k hkv hlt).below hb), owns_text ((V2.out.2.2.at_ k hku hlt).below hb)⟩, Lib.hid hb⟩
      generalize vs[k] = x at *
      generalize us[k] = y at *
      generalize txt L[k] = s at *
      have ds : ((s.toList != s.toList) : Bool) = false := by simp
      clear hb hk
      go_wp2_with fail
      go_region_held3 (fun w' => (w'.cell? ⟨g, k, none⟩ = some x ∧ w'.cell? ⟨g', k, none⟩ = some y) ∧ ((convert 27 9 x).run Tryd.prog w' = .ok (.string s) w' ∧ (convert 27 9 y).run Tryd.prog w' = .ok (.string s) w') ∧ Hid (Below w.heap.size w w'))
        (exact HS.out _ HB.out.drew)
        (fail)
      go_wp2_with fail
      go_roundw
      case rel => exact ⟨k + 1, by omega, by go_num, HB.out.drew⟩
      case measure => simp [intOf]; omega
    · have hlt2 : decide ((k : Int) < (L.length : Int)) = false := by simp; omega
      clear hb hk
      go_wp2_with fail
      go_ret
      exact ⟨rfl, HB.out⟩
end Go.Proofs.YtjgapjbaidgolaaDoor
