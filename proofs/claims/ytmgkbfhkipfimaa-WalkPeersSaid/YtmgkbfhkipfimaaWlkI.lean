/-
  A walk's copy; the laws' helpers: lists of IDs by addresses, steps, and whether they are too large. No statement is proved in this text; it holds for every input that its premises let by.
-/
import Derived.Test.YtmgkbfhkipfimaaWlkH
import Derived.Test.YtmgkbfhkipfimaaIdeOf
import Derived.Lib.SliceRun
set_option maxRecDepth 20000
namespace Go.Proofs.Ytmgkbfhkipfimaa
open Go Go.RowKit Sets
variable {T : TypeId} {S S2 S' : Nat → Prop} {W W' w w' : World} {p : Nat} {v u : Value} {l ps r : List Id2} {d : Nat}
/-- A list is answered as a copy in new memory. -/
theorem clone_any (h : Ids W v l) (hl : l.length ≤ 90000) : Calls Try.prog 26 #[v] W fun e w' => ∃ v', e = .returned v' ∧ Owns w' W.heap.size v' l ∧ Below W.heap.size W w' := by
  have H := Lib.hid h
  obtain ⟨A, c, rfl, h0, hz⟩ := h
  cases A with
  | none =>
    obtain rfl := h0 rfl
    have hl0 : l = [] := List.eq_nil_of_length_eq_zero (by have := hz.1; omega)
    subst hl0
    clear hz h0
    have hq : ∀ (w : World) (a : Option Addr) (n c n' c' : Nat), (binOp .eql 27 (.slice a n c) (.slice none n' c')).run Try.prog w = .ok (.bool a.isNone) w := fun w a n c n' c' => Lib.run_eql_slice_nil w _ _ a n c n' c' Try.underlying27
    go_enter Try.func26, Try.ntmps26
    go_wp2_with fail
    go_ret
    exact ⟨_, rfl, owns_nil _ _, Below.refl _ _⟩
  | some ad =>
    clear hz h0
    have M5 := Lib.hid (owns_made W W.heap.size (Nat.le_refl _))
    have B6 := Lib.hid (below_one W (.cells #[] 24))
    have hq : ∀ (w : World) (a : Option Addr) (n c n' c' : Nat), (binOp .eql 27 (.slice a n c) (.slice none n' c')).run Try.prog w = .ok (.bool a.isNone) w := fun w a n c n' c' => Lib.run_eql_slice_nil w _ _ a n c n' c' Try.underlying27
    go_enter Try.func26, Try.ntmps26
    go_wp2_with (first
      | (at_builtin; refine wpList_append_list rfl (.tmp 5) (.tmp 6) rfl _ W.heap.size _ _ [] l rfl rfl M5.out (H.out.below B6.out) (by simp; omega) B6.out.size ?_; intro v7 w7 h1 h2; have O7 := Lib.hid h1; have B7 := Lib.hid (B6.out.trans h2); clear h1 h2))
    go_ret
    exact ⟨_, rfl, O7.out, B7.out⟩
theorem copy_any (h : Wl 51 p l S W) (hl : l.length ≤ 90000) : Calls Try.prog 14 #[.pointer (some ⟨p, 0, none⟩)] W fun e w' => ∃ p' S', e = .returned (.pointer (some ⟨p', 0, none⟩)) ∧ Wl 51 p' l S' w' ∧ (∀ k, S' k → W.heap.size ≤ k) ∧ Below W.heap.size W w' := by
  obtain ⟨v, hv⟩ := h
  have H := Lib.hid hv.ids
  have c0 := one_cell hv.box
  obtain ⟨A, c, rfl, hz⟩ := id hv.ids
  clear hz hv
  go_enter Try.func14, Try.ntmps14
  go_wp2_with fail
  refine (clone_any H.out hl).mono ?_
  rintro e w2 ⟨t, rfl, ho, hb⟩
  have O2 := Lib.hid ho
  have B2 := Lib.hid hb
  have X3 := Lib.hid (one_new w2 51 t)
  have B3 := Lib.hid (below_one w2 (.cells #[t] 51))
  have OT := Lib.hid (fun g (hg : t.ownBlock = some g) => (rowV_owns O2.out).own hg)
  have hsh : ∃ A2 n2 c2, t = .slice A2 n2 c2 := by
    obtain ⟨A2, c2, rfl, _⟩ := ids_of_owns ho
    exact ⟨_, _, _, rfl⟩
  obtain ⟨A2, n2, c2, rfl⟩ := hsh
  clear ho hb c0
  go_wp2_with fail
  go_ret
  have hs2 : (w2.alloc (.cells #[.slice A2 n2 c2] 51)).heap.size = w2.heap.size + 1 := by simp
  refine ⟨w2.heap.size, fun k => k = w2.heap.size ∨ (Value.slice A2 n2 c2).ownBlock = some k, rfl, ⟨_, X3.out, (ids_of_owns O2.out).below B3.out, .inl rfl, fun g hg => .inr hg, fun g hg e => ?_, fun k hk => ?_⟩, fun k hk => ?_, below_after B2.out B3.out (Nat.le_refl _)⟩
  · have := OT.out g hg
    omega
  · rcases hk with hk | hk
    · omega
    · have := OT.out k hk
      omega
  · rcases hk with hk | hk
    · have := B2.out.size
      omega
    · exact (OT.out k hk).1
theorem copy_nil : Calls Try.prog 14 #[.pointer none] W fun e w' => e = .returned (.pointer none) ∧ Below W.heap.size W w' := by
  go_enter Try.func14, Try.ntmps14
  go_wp2_with fail
  go_ret
  exact ⟨rfl, Below.refl _ _⟩
/-- Block g holds these numbers. -/
def Ints (w : World) (g : Nat) (xs : List Int) : Prop := w.heap[g]? = some (.cells (xs.map fun x => Value.int .i64 x).toArray 3 (0, 0))
theorem ints_cell {g : Nat} {xs : List Int} (h : Ints w g xs) {k : Nat} (hk : k < xs.length) : w.cell? ⟨g, k, none⟩ = some (.int .i64 xs[k]) := by
  unfold Ints at h
  rw [cell_of_row _ _ _ _ _ _ h]
  simp [hk]
theorem ints_below {g : Nat} {xs : List Int} (h : Ints w g xs) (hb : Below w.heap.size w w') : Ints w' g xs := (hb.block g (row_lt h)).trans h
/-- The IDs of these addresses, of the first life. -/
def ofs (xs : List Int) : List Id2 := xs.map fun a => (a, 1)
theorem ofs_len (xs : List Int) : (ofs xs).length = xs.length := by simp [ofs]
theorem ofs_next {xs : List Int} {k : Nat} (hk : k < xs.length) : ofs (xs.take k) ++ [(xs[k], 1)] = ofs (xs.take (k + 1)) := by
  unfold ofs
  rw [List.take_succ_eq_append_getElem hk, List.map_append]
  rfl
set_option maxHeartbeats 1000000 in
theorem of_any (g n : Nat) (xs : List Int) (w : World) (h : Ints w g xs) (hn : n = xs.length) (hl : n ≤ 1000) :
    Calls Try.prog 11 #[.slice (some ⟨g, 0, none⟩) n n] w (News (ofs xs) w) := by
  have HI := Lib.hid h
  subst hn
  clear h
  go_enter Try.func11, Try.ntmps11
  go_wp2_with fail
  go_loopw [3, 4] (fun s3 s4 wr => ∃ k : Nat, k ≤ xs.length ∧ s4 = .int .i64 k ∧ Owns wr w.heap.size s3 (ofs (xs.take k)) ∧ Below w.heap.size w wr) (fun _ s4 _ => xs.length - (intOf s4).toNat)
  case atStart => exact ⟨0, by omega, rfl, owns_nil _ _, Below.refl _ _⟩
  case round =>
    obtain ⟨k, hkl, rfl, ho, hw⟩ := hrel
    have HW := Lib.hid hw
    have HO := Lib.hid ho
    have i3 : (0 : Int) ≤ (k : Int) := by omega
    by_cases hlt : k < xs.length
    · have i4 : (k : Int) < (xs.length : Int) := by omega
      have hd : decide ((k : Int) < (xs.length : Int)) = true := decide_eq_true (by omega)
      have i8 : IntKind.i64.wrap ((k : Int) + 1) = (k : Int) + 1 := IntWalk.i64_in _ ⟨by omega, by omega⟩
      have HT := Lib.hid (ofs_next hlt)
      have c0 := ints_cell (ints_below HI.out hw) hlt
      have hz : (ofs (xs.take k)).length ≤ 99999 := by rw [ofs_len]; simp; omega
      generalize xs[k] = a at *
      clear hw ho
      go_wp2_with (first
        | (at_builtin; refine wpList_append_one rfl (.tmp 11) (.tmp 17) rfl wr w.heap.size u3 _ a 1 rfl rfl HO.out hz HW.out.size ?_; intro v7 w7 h1 h2; have O7 := Lib.hid h1; have B7 := Lib.hid (HW.out.trans h2); clear h1 h2 c0))
      go_roundw
      case rel => exact ⟨k + 1, by omega, by go_num, by rw [← HT.out]; exact O7.out, B7.out⟩
      case measure => simp [intOf]; omega
    · have hd : decide ((k : Int) < (xs.length : Int)) = false := decide_eq_false (by omega)
      have HE := Lib.hid (show Owns wr w.heap.size u3 (ofs xs) by have := HO.out; rwa [List.take_of_length_le (by omega)] at this)
      clear hw ho
      go_wp2_with fail
      go_ret
      exact ⟨_, rfl, HE.out, HW.out⟩
/-- A step of the laws': peers, and a draw. -/
structure St where
  A : Option Addr
  c : Nat
  l : List Id2
  d : Nat
def St.val (s : St) : Value := .slice s.A s.l.length s.c
def encS (s : St) : List Value := [.slice s.A s.l.length s.c, .int .u32 s.d]
theorem encS_len (s : St) : (encS s).length = 2 := rfl
/-- What is known of a step. -/
structure StOk (W : World) (s : St) : Prop where
  ids : Ids W s.val s.l
  d32 : s.d < 4294967296
theorem StOk.below {s : St} (h : StOk W s) (hb : Below W.heap.size W W') : StOk W' s := ⟨h.ids.below hb, h.d32⟩
set_option maxHeartbeats 1000000 in
theorem large_any (v : Value) (ss : List St) (w : World) (h : Rcs encS 2 w v ss) (hs : ∀ s ∈ ss, s.l.length ≤ 8796093022208) (hll : ss.length ≤ 8796093022208) :
    Calls Try.prog 18 #[v] w fun e w' => (∃ z : Bool, e = .returned (.bool z) ∧ (z = false → ss.length ≤ 300 ∧ ∀ s ∈ ss, s.l.length ≤ 10000)) ∧ Below w.heap.size w w' := by
  have HI := Lib.hid h
  have HS := Lib.hid hs
  obtain ⟨A, c, rfl, -, -, -⟩ := h
  clear hs
  go_enter Try.func18, Try.ntmps18
  go_wp2_with fail
  go_loopw [3, 4] (fun s3 s4 wr => ∃ k n : Nat, k ≤ ss.length ∧ s4 = .int .i64 k ∧ s3 = .int .i64 n ∧ n ≤ 8796093052208 ∧ Hid (n < 10000 → ∀ (j : Nat) (hj : j < ss.length), j < k → ss[j].l.length ≤ 10000) ∧ Hid (Below w.heap.size w wr)) (fun _ s4 _ => ss.length - (intOf s4).toNat)
  case atStart => exact ⟨0, 0, by omega, rfl, rfl, by omega, Lib.hid (fun _ j _ h => absurd h (by omega)), Lib.hid (Below.refl _ _)⟩
  case round =>
    obtain ⟨k, n, hk, rfl, rfl, hn, HE, HW⟩ := hrel
    have i3 : (0 : Int) ≤ (k : Int) := by omega
    by_cases hlt : k < ss.length
    · have hd : decide ((k : Int) < (ss.length : Int)) = true := by simp; omega
      have i4 : (k : Int) < (ss.length : Int) := by omega
      by_cases h5 : n < 10000
      · have hd5 : decide ((n : Int) < 10000) = true := by simp; omega
        have c0 : ∃ ad, A = some ad := HI.out.addr (Nat.lt_of_le_of_lt (Nat.zero_le _) hlt)
        obtain ⟨ad, rfl⟩ := c0
        have c1 := HI.out.first HW.out hlt (u := .slice ss[k].A ss[k].l.length ss[k].c) rfl
        obtain ⟨m, hm⟩ : ∃ m, m = ss[k].l.length := ⟨_, rfl⟩
        have hm2 : m ≤ 8796093022208 := by rw [hm]; exact HS.out _ (List.getElem_mem hlt)
        have HM := Lib.hid hm
        rw [← hm] at c1
        generalize ss[k].A = A1 at *
        generalize ss[k].c = C1 at *
        have i5 : IntKind.i64.wrap ((n : Int) + 2) = (n : Int) + 2 := IntWalk.i64_in _ ⟨by omega, by omega⟩
        have i6 : IntKind.i64.wrap ((n : Int) + 2 + (m : Int)) = (n : Int) + 2 + (m : Int) := IntWalk.i64_in _ ⟨by omega, by omega⟩
        have i7 : IntKind.i64.wrap ((k : Int) + 1) = (k : Int) + 1 := IntWalk.i64_in _ ⟨by omega, by omega⟩
        clear hm
        go_wp2_with fail
        go_roundw
        case rel => exact ⟨k + 1, n + 2 + m, by omega, by go_num, by go_num, by omega, Lib.hid (fun h6 j hj h7 => by
          rcases Nat.lt_or_ge j k with h8 | h8
          · exact HE.out (by omega) j hj h8
          · obtain rfl : j = k := by omega
            have := HM.out
            omega), HW⟩
        case measure => simp [intOf]; omega
      · have hd5 : decide ((n : Int) < 10000) = false := by simp; omega
        have hd6 : decide ((10000 : Int) ≤ (n : Int)) = true := by simp; omega
        go_wp2_with fail
        go_ret
        exact ⟨⟨true, rfl, fun h => by cases h⟩, HW.out⟩
    · obtain rfl : k = ss.length := by omega
      have hd : decide ((ss.length : Int) < (ss.length : Int)) = false := by simp
      by_cases h5 : n < 10000
      · have hd6 : decide ((10000 : Int) ≤ (n : Int)) = false := by simp; omega
        by_cases h3 : ss.length ≤ 300
        · have hd7 : decide ((300 : Int) < (ss.length : Int)) = false := by simp; omega
          have H5 := Lib.hid h5
          have H3 := Lib.hid h3
          go_wp2_with fail
          go_ret
          exact ⟨⟨false, rfl, fun _ => ⟨H3.out, fun s hs => by
            obtain ⟨j, hj, rfl⟩ := List.getElem_of_mem hs
            exact HE.out H5.out j hj hj⟩⟩, HW.out⟩
        · have hd7 : decide ((300 : Int) < (ss.length : Int)) = true := by simp; omega
          go_wp2_with fail
          go_ret
          exact ⟨⟨true, rfl, fun h => by cases h⟩, HW.out⟩
      · have hd6 : decide ((10000 : Int) ≤ (n : Int)) = true := by simp; omega
        go_wp2_with fail
        go_ret
        exact ⟨⟨true, rfl, fun h => by cases h⟩, HW.out⟩
/-- A draw's cell. -/
def encD (n : Nat) : List Value := [.int .u32 n]
theorem encD_len (n : Nat) : (encD n).length = 1 := rfl
end Go.Proofs.Ytmgkbfhkipfimaa
