/-
  Walks over the library's stable sort, and its way to keep one of what is the same, where the rows are in order, and of unlike IDs, already; the first row of each ID. No statement is proved in this text; it holds for every input that its premises let by.
-/
import Derived.Test.YtofanciaacdjfaaSymM
namespace Go.Proofs.Ytofanciaacdjfaa
open Go Go.RowKit Sets RowSets
set_option maxHeartbeats 4000000 in
theorem stable_any (v : Value) (qs : List Raw) (w : World) (h : Rcs encW 4 w v qs) (hs : Sorted qs) (hl : qs.length ≤ 100000) :
    Calls Try.prog 75 #[v, .int .i64 qs.length, .func (.func 62) #[] #[]] w fun e w' => e = .returned (.tuple #[]) ∧ Below w.heap.size w w' := by
  have HI := Lib.hid h
  have HO := Lib.hid hs
  obtain ⟨A, c, rfl, hz⟩ := h
  clear hz hs
  generalize hN : qs.length = N at *
  have HN := Lib.hid hN
  have CI := Lib.hid fun (a b : Nat) (h1 : a ≤ b) (h2 : b ≤ N) W (hb : Below w.heap.size w W) => insertion_any (.slice A N c) qs a b W (HI.out.below hb) HO.out (by have := HN.out; omega) h1 (by have := HN.out; omega)
  have CS := Lib.hid fun (a m b : Nat) (h1 : a < m) (h2 : m < b) (h3 : b ≤ N) W (hb : Below w.heap.size w W) => sym_any (b - a) (.slice A N c) qs a m b W (Nat.le_refl _) (HI.out.below hb) HO.out (by have := HN.out; omega) h1 h2 (by have := HN.out; omega)
  clear hN HI HO
  go_enter Try.func75, Try.ntmps75
  go_wp2_with fail
  go_loopw [7, 8] (fun s7 s8 wr => ∃ a b : Nat, s7 = .int .i64 a ∧ s8 = .int .i64 b ∧ Hid (b = a + 20) ∧ a ≤ N ∧ Hid (Below w.heap.size w wr)) (fun s7 _ _ => N - (intOf s7).toNat)
  case atStart => exact ⟨0, 20, rfl, rfl, Lib.hid rfl, by omega, Lib.hid (Below.refl _ _)⟩
  case round =>
    obtain ⟨a, b, rfl, rfl, HAB, haN, HW⟩ := hrel
    by_cases hlt : b ≤ N
    · have hd : decide (b ≤ N) = true := decide_eq_true hlt
      go_wp2_with fail
      (with_reducible refine (CI.out a b (by have := HAB.out; omega) hlt _ HW.out).mono ?_)
      rintro e w1 ⟨rfl, hb⟩
      have HB := Lib.hid (below_after HW.out hb (Nat.le_refl _))
      clear hb
      go_wp2_with fail
      go_roundw
      case rel => exact ⟨b, b + 20, rfl, by go_num, Lib.hid rfl, by omega, HB⟩
      case measure => have := HAB.out; simp [intOf]; omega
    · have hd : decide (b ≤ N) = false := decide_eq_false hlt
      go_wp2_with fail
      (with_reducible refine (CI.out a N haN (Nat.le_refl _) _ HW.out).mono ?_)
      rintro e w1 ⟨rfl, hb⟩
      have HB := Lib.hid (below_after HW.out hb (Nat.le_refl _))
      clear hb HW hd hlt HAB haN
      go_wp2_with fail
      go_loopw [6] (fun s6 wr => ∃ z : Nat, s6 = .int .i64 z ∧ 20 ≤ z ∧ z ≤ 2 * N + 20 ∧ Hid (Below w.heap.size w wr)) (fun s6 _ => 2 * N + 21 - (intOf s6).toNat)
      case atStart => exact ⟨20, rfl, by omega, by omega, HB⟩
      case round =>
        obtain ⟨z, rfl, hz1, hz2, HW⟩ := hrel
        by_cases hzN : z < N
        · have hd : decide (z < N) = true := decide_eq_true hzN
          obtain ⟨y, hy⟩ : ∃ y : Nat, 2 * (z : Int) = (y : Int) := ⟨2 * z, by omega⟩
          have hy2 : (z : Int) * 2 = (y : Int) := by omega
          have hyw : IntKind.i64.wrap (y : Int) = (y : Int) := IntWalk.i64_in _ ⟨by omega, by omega⟩
          go_wp2_with fail
          go_loopw [7, 8] (fun s7 s8 wr => ∃ a b : Nat, s7 = .int .i64 a ∧ s8 = .int .i64 b ∧ Hid (b = a + y) ∧ a ≤ N ∧ Hid (Below w.heap.size w wr)) (fun s7 _ _ => N - (intOf s7).toNat)
          case atStart => exact ⟨0, y, rfl, rfl, Lib.hid (by omega), by omega, HW⟩
          case round =>
            obtain ⟨a, b, rfl, rfl, HAB, haN, HV⟩ := hrel
            obtain ⟨m, hm⟩ : ∃ m : Nat, (a : Int) + (z : Int) = (m : Int) := ⟨a + z, by omega⟩
            have hmw : IntKind.i64.wrap (m : Int) = (m : Int) := IntWalk.i64_in _ ⟨by omega, by omega⟩
            by_cases hlt : b ≤ N
            · have hd2 : decide (b ≤ N) = true := decide_eq_true hlt
              go_wp2_with fail
              (with_reducible refine (CS.out a m b (by omega) (by have := HAB.out; omega) hlt _ HV.out).mono ?_)
              rintro e w1 ⟨rfl, hb⟩
              have HB2 := Lib.hid (below_after HV.out hb (Nat.le_refl _))
              clear hb
              go_wp2_with fail
              go_roundw
              case rel => exact ⟨b, b + y, rfl, by go_num, Lib.hid rfl, by omega, HB2⟩
              case measure => have := HAB.out; simp [intOf]; omega
            · have hd2 : decide (b ≤ N) = false := decide_eq_false hlt
              by_cases hmN : m < N
              · have hd3 : decide (m < N) = true := decide_eq_true hmN
                go_wp2_with fail
                (with_reducible refine (CS.out a m N (by omega) hmN (Nat.le_refl _) _ HV.out).mono ?_)
                rintro e w1 ⟨rfl, hb⟩
                have HB2 := Lib.hid (below_after HV.out hb (Nat.le_refl _))
                clear hb
                go_wp2_with fail
                go_roundw
                case rel => exact ⟨y, rfl, by omega, by omega, HB2⟩
                case measure => simp [intOf]; omega
              · have hd3 : decide (m < N) = false := decide_eq_false hmN
                go_wp2_with fail
                go_roundw
                case rel => exact ⟨y, rfl, by omega, by omega, HV⟩
                case measure => simp [intOf]; omega
        · have hd : decide (z < N) = false := decide_eq_false hzN
          go_wp2_with fail
          go_end0
          exact ⟨rfl, HW.out⟩
end Go.Proofs.Ytofanciaacdjfaa
