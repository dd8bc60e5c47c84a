/-
  Walks over statements: what is heard regularly; what is late stays late. No statement is proved in this text; it holds for every input that its premises let by.
-/
import Derived.Test.YtbglghfdfigefaaAccI
import Derived.Test.YtbglghfdfigefaaAccM
set_option maxRecDepth 20000
namespace Go.Proofs.Ytbglghfdfigefaa
open Go Go.RowKit
theorem u64_pos (n : Int) : 0 ≤ IntKind.u64.wrap n := by
  have : IntKind.u64.wrap n = n % 18446744073709551616 := rfl
  omega
theorem num_cut (n : Int) (m : Nat) (hm : 0 < m) (hm2 : m ≤ 10000) : ∃ y : Nat, y < m ∧ wrap64 ((IntKind.u64.wrap n).tmod (m : Int)) = (y : Int) := by
  have h0 := u64_pos n
  have h2 : (IntKind.u64.wrap n).tmod (m : Int) = (IntKind.u64.wrap n) % (m : Int) := Int.tmod_eq_emod_of_nonneg h0
  have h3 := Int.emod_nonneg (IntKind.u64.wrap n) (b := (m : Int)) (by omega)
  have h4 := Int.emod_lt_of_pos (IntKind.u64.wrap n) (b := (m : Int)) (by omega)
  refine ⟨((IntKind.u64.wrap n) % (m : Int)).toNat, by omega, ?_⟩
  rw [h2]
  have : wrap64 (IntKind.u64.wrap n % (m : Int)) = IntKind.u64.wrap n % (m : Int) := by unfold wrap64; omega
  rw [this]
  omega
set_option maxHeartbeats 1000000 in
theorem steady_any (mn mx wi gap often : Int) (w : World) (_r0 : -9223372036854775808 ≤ mn ∧ mn ≤ 9223372036854775807) (_r1 : -9223372036854775808 ≤ mx ∧ mx ≤ 9223372036854775807) (_r2 : -9223372036854775808 ≤ wi ∧ wi ≤ 9223372036854775807) (_r3 : -9223372036854775808 ≤ gap ∧ gap ≤ 9223372036854775807) (_r4 : -9223372036854775808 ≤ often ∧ often ≤ 9223372036854775807) :
    Calls Try.prog 6 #[.int .i64 mn, .int .i64 mx, .int .i64 wi, .int .i64 gap, .int .i64 often] w fun e w' => e = .returned (.bool true) ∧ Below w.heap.size w w' := by
  obtain ⟨g, hg, eg0⟩ := num_cut gap 5000 (by decide) (by decide)
  obtain ⟨o, ho, eo0⟩ := num_cut often 50 (by decide) (by decide)
  have eg : wrap64 ((IntKind.u64.wrap gap).tmod 5000) = (g : Int) := eg0
  have eo : wrap64 ((IntKind.u64.wrap often).tmod 50) = (o : Int) := eo0
  clear eg0 eo0
  have eo2 : wrap64 (2 + (o : Int)) = ((2 + o : Nat) : Int) := by unfold wrap64; omega
  have h1 : ∀ (a b : Int) (W : World), (Builtin.min_ #[3, 3] 3 #[.int .i64 a, .int .i64 b]).run Try.prog W = .ok (.int .i64 (min a b)) W := min_two
  have h2 : ∀ (a b : Int) (W : World), (Builtin.max_ #[3, 3] 3 #[.int .i64 a, .int .i64 b]).run Try.prog W = .ok (.int .i64 (max a b)) W := max_two
  have eg2 : wrap64 (2 * (g : Int)) = 2 * (g : Int) := by unfold wrap64; omega

  clear _r0 _r1 _r2 _r3 _r4
  go_enter Try.func6, Try.ntmps6
  go_wp2_with fail
  (with_reducible refine (works_any _).mono ?_)
  rintro e w1 ⟨rfl, hb⟩
  have B := Lib.hid hb
  clear hb
  go_wp2_with fail
  cases hok : newOk mn mx wi
  · (with_reducible refine (new_no mn mx wi hok _).mono ?_)
    rintro e w2 ⟨rfl, hb⟩
    have B2 := Lib.hid (below_after B.out hb (Nat.le_refl _))
    clear hb hok
    go_wp2_with fail
    go_ret
    exact ⟨rfl, B2.out⟩
  · have HOK := Lib.hid hok
    (with_reducible refine (new_one w _ B.out mn mx wi hok).mono ?_)
    rintro e w2 ⟨p, rfl, ho1, -, -⟩
    have O := Lib.hid ho1
    clear ho1 hok
    go_wp2_with fail
    generalize hn : 2 + o = n at *
    go_loopw [13] (fun s13 wr => ∃ k : Nat, k ≤ n ∧ s13 = .int .i64 k ∧ Hid (∃ d, One w wr p d ∧ Sted mn mx wi g k d)) (fun s13 _ => n - (intOf s13).toNat)
    case atStart => exact ⟨0, by omega, rfl, Lib.hid ⟨_, O.out, Sted.first mn mx wi g⟩⟩
    case round =>
      obtain ⟨k, hk, rfl, HO⟩ := hrel
      obtain ⟨d, ho, hs⟩ := HO.out
      have OD := Lib.hid ho
      have SD := Lib.hid hs
      clear HO ho hs
      have i3 : (0 : Int) ≤ (k : Int) := by omega
      by_cases hlt : k < n
      · have hd : decide ((k : Int) < (n : Int)) = true := by simp; omega
        have i4 : (k : Int) < (n : Int) := by omega
        have hm : k * g ≤ 52 * 5000 := Nat.mul_le_mul (by omega) (by omega)
        have hm1 : (k : Int) * (g : Int) ≤ 260000 := by have : ((k * g : Nat) : Int) ≤ 260000 := by omega
                                                        rwa [Int.natCast_mul] at this
        have hm0 : 0 ≤ (k : Int) * (g : Int) := Int.mul_nonneg (by omega) (by omega)
        have hwm : wrap64 ((k : Int) * (g : Int)) = (k : Int) * (g : Int) := by unfold wrap64; omega
        have HM := Lib.hid hm1
        clear hm hm0 hm1
        go_wp2_with fail
        (with_reducible refine (OD.out.heard _).mono ?_)
        rintro e w3 hd3
        obtain ⟨rfl, h3⟩ := OD.out.done (Dt.heard_ok OD.out.ok _) hd3
        have O3 := Lib.hid h3
        have S3 := Lib.hid (SD.out.next OD.out.ok (Int.natCast_nonneg g) (by have := HM.out; omega))
        clear hd3 h3
        go_wp2_with fail
        go_roundw
        case rel => exact ⟨k + 1, by omega, by go_num, Lib.hid ⟨_, O3.out, S3.out⟩⟩
        case measure => simp [intOf]; omega
      · obtain rfl : k = n := by omega
        have hd : decide ((k : Int) < (k : Int)) = false := by simp
        go_wp2_with fail
        (with_reducible refine (OD.out.limit).mono ?_)
        rintro e w3 ⟨rfl, hb⟩
        rw [SD.out.limit (Int.natCast_nonneg g) (by omega)]
        have B3 := Lib.hid (OD.out.keep hb).below
        clear hb
        go_wp2_with fail
        go_ret
        exact ⟨ret_bool (by simp [clampI]), B3.out⟩
end Go.Proofs.Ytbglghfdfigefaa
