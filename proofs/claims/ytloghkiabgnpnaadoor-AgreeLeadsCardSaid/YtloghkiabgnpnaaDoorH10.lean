/-
  Carried over and put together: contracts of this program's functions, and plain facts. No statement is proved in this text.
-/
import Derived.Lib.AppendZerosOnto
import Derived.Lib.AppendZeros
import Derived.Deep.RegionLaw
import Derived.StillTailTactics
import Derived.Deep.DeepCutAuto
import Derived.Test.YtloghkiabgnpnaaDoorH06
import Derived.Test.YtloghkiabgnpnaaDoorH09
namespace Go.Proofs.YtloghkiabgnpnaaDoor
open Go Go.RowKit Ros
/-- Each block of so many elements is sorted. -/
def Blk (z : Nat) (l : List Mm) : Prop := ∀ i, Stab.Sorted kM ((l.drop (i * z)).take z)
theorem blk_sorted {z : Nat} {l : List Mm} (h : Stab.Sorted kM l) : Blk z l := fun _ => (h.drop _).take _
theorem blk_app {z : Nat} {M R : List Mm} (hz : z ∣ M.length) (h0 : 0 < z) (h : Blk z M) (k : Blk z R) : Blk z (M ++ R) := by
  obtain ⟨n, hn⟩ := hz
  intro i
  by_cases c : i < n
  · have h1 : i * z + z ≤ M.length := by
      have : (i + 1) * z ≤ n * z := Nat.mul_le_mul_right z c
      rw [Nat.add_mul, Nat.one_mul, Nat.mul_comm n z] at this
      omega
    rw [List.drop_append_of_le_length (by omega), List.take_append_of_le_length (by rw [List.length_drop]; omega)]
    exact h i
  · obtain ⟨d, rfl⟩ : ∃ d, i = n + d := ⟨i - n, by omega⟩
    have h1 : (n + d) * z = M.length + d * z := by rw [Nat.add_mul, hn, Nat.mul_comm z n]
    rw [h1, List.drop_append]
    rw [List.drop_of_length_le (by omega), List.nil_append, show M.length + d * z - M.length = d * z by omega]
    exact k d
theorem blk_first {z : Nat} {R : List Mm} (h : Blk z R) : Stab.Sorted kM (R.take z) := by have := h 0; simpa using this
theorem blk_second {z : Nat} {R : List Mm} (h : Blk z R) : Stab.Sorted kM ((R.drop z).take z) := by have := h 1; simpa using this
theorem blk_rest {z k : Nat} {R : List Mm} (h : Blk z R) : Blk z (R.drop (k * z)) := by
  intro i
  rw [List.drop_drop, ← Nat.add_mul]
  exact h (k + i)
theorem blk_all {z : Nat} {l : List Mm} (h : Blk z l) (hl : l.length ≤ z) : Stab.Sorted kM l := by have := blk_first h; rwa [List.take_of_length_le hl] at this
/-- Blocks that are being sorted: up to a place they are. -/
structure Blocks (w : World) (g : Nat) (l : List Mm) (y z a : Nat) (W : World) : Prop where
  ex : ∃ M R : List Mm, M.length = a ∧ y ∣ a ∧ Blk y M ∧ Blk z R ∧ Stab.Same kM l (M ++ R) ∧ RowL W g (M ++ R)
  grown : w.grownBy W (some g)
theorem blocks_end {w : World} {g : Nat} {l : List Mm} {y z a : Nat} {W : World} (h : Blocks w g l y z a W) (hz : 0 < y) (hr : l.length ≤ a + z) : ∃ L, Blk y L ∧ Stab.Same kM l L ∧ RowL W g L := by
  obtain ⟨⟨M, R, h1, h2, h3, h4, h5, h6⟩, h7⟩ := h
  have hl := h5.1
  rw [List.length_append] at hl
  exact ⟨M ++ R, blk_app (by rw [h1]; exact h2) hz h3 (blk_sorted (blk_all h4 (by omega))), h5, h6⟩
theorem blocks_start {w : World} {g : Nat} {l L : List Mm} {y z : Nat} {W : World} (hb : Blk z L) (hs : Stab.Same kM l L) (hr : RowL W g L) (hg : w.grownBy W (some g)) : Blocks w g l y z 0 W :=
  ⟨⟨[], L, rfl, Nat.dvd_zero _, blk_sorted Stab.sorted_nil, hb, hs, hr⟩, hg⟩
/-- Blocks of twenty, up to a place, behind which nothing was sorted. -/
structure Twenty (w : World) (g : Nat) (l : List Mm) (a : Nat) (W : World) : Prop where
  ex : ∃ M R : List Mm, M.length = a ∧ 20 ∣ a ∧ Blk 20 M ∧ Stab.Same kM l (M ++ R) ∧ RowL W g (M ++ R)
  grown : w.grownBy W (some g)
theorem twenty_next {w : World} {g c N : Nat} {l : List Mm} {a : Nat} {W : World} (h : Twenty w g l a W) (hN : l.length = N) (hl : N ≤ 100000) (b : Nat) (hb : b = a + 20) (hbN : b ≤ N) :
    Calls Tryd.prog 75 #[.slice (some ⟨g, 0, none⟩) N c, .int .i64 a, .int .i64 b, .func (.func 68) #[] #[]] W fun e W' => e = .returned (.tuple #[]) ∧ Twenty w g l b W' := by
  obtain ⟨⟨M, R, h1, h2, h3, h4, h5⟩, h6⟩ := h
  have hl2 := h4.1
  rw [List.length_append] at hl2
  have hR : M ++ R = M ++ R.take 20 ++ R.drop 20 := by rw [List.append_assoc, List.take_append_drop]
  have ht : (R.take 20).length = 20 := by rw [List.length_take]; omega
  rw [hR] at h5 h4
  refine (insertion_any g c N a b M (R.take 20) (R.drop 20) W h5 (by rw [ht, List.length_drop]; omega) hl h1 (by rw [ht]; omega)).mono ?_
  rintro e W' ⟨rfl, M2, s1, s2, s3, s4⟩
  have hl3 : M2.length = 20 := by rw [← s2.1, ht]
  exact ⟨rfl, ⟨M ++ M2, R.drop 20, by rw [List.length_append]; omega, by rw [hb]; exact (Nat.dvd_add_right h2).2 (Nat.dvd_refl _), blk_app (by rw [h1]; exact h2) (by decide) h3 (blk_sorted s1), h4.trans (((Stab.Same.refl M).app s2).app (Stab.Same.refl _)), s3⟩, grown_trans h6 s4⟩
theorem twenty_last {w : World} {g c N : Nat} {l : List Mm} {a : Nat} {W : World} (h : Twenty w g l a W) (hN : l.length = N) (hl : N ≤ 100000) :
    Calls Tryd.prog 75 #[.slice (some ⟨g, 0, none⟩) N c, .int .i64 a, .int .i64 N, .func (.func 68) #[] #[]] W fun e W' => e = .returned (.tuple #[]) ∧ (∃ L, Blk 20 L ∧ Stab.Same kM l L ∧ RowL W' g L) ∧ w.grownBy W' (some g) := by
  obtain ⟨⟨M, R, h1, h2, h3, h4, h5⟩, h6⟩ := h
  have hl2 := h4.1
  rw [List.length_append] at hl2
  refine (insertion_any g c N a N M R [] W (by rw [List.append_nil]; exact h5) (by simp; omega) hl h1 (by omega)).mono ?_
  rintro e W' ⟨rfl, M2, s1, s2, s3, s4⟩
  exact ⟨rfl, ⟨M ++ M2, blk_app (by rw [h1]; exact h2) (by decide) h3 (blk_sorted s1), h4.trans ((Stab.Same.refl M).app s2), by rw [List.append_nil] at s3; exact s3⟩, grown_trans h6 s4⟩
theorem blocks_next {w : World} {g c N : Nat} {l : List Mm} {y z a : Nat} {W : World} (h : Blocks w g l y z a W) (hy : y = 2 * z) (hz : 0 < z) (hN : l.length = N) (hl : N ≤ 100000) (m b : Nat) (hm : m = a + z) (hb : b = a + y) (hbN : b ≤ N) :
    Calls Tryd.prog 76 #[.slice (some ⟨g, 0, none⟩) N c, .int .i64 a, .int .i64 m, .int .i64 b, .func (.func 68) #[] #[]] W fun e W' => e = .returned (.tuple #[]) ∧ Blocks w g l y z b W' := by
  obtain ⟨⟨M, R, h1, h2, h3, h4, h5, h6⟩, h7⟩ := h
  have hl2 := h5.1
  rw [List.length_append] at hl2
  have hR : M ++ R = M ++ R.take z ++ (R.drop z).take z ++ R.drop (2 * z) := by
    have e1 := List.take_append_drop z R
    have e2 := List.take_append_drop z (R.drop z)
    rw [List.drop_drop, ← Nat.two_mul] at e2
    rw [List.append_assoc, List.append_assoc, e2, e1]
  have t1 : (R.take z).length = z := by rw [List.length_take]; omega
  have t2 : ((R.drop z).take z).length = z := by rw [List.length_take, List.length_drop]; omega
  rw [hR] at h5 h6
  refine (sym_any g c N hl _ a m b M (R.take z) ((R.drop z).take z) (R.drop (2 * z)) W (Nat.le_refl _) h6 (by rw [t1, t2, List.length_drop]; omega) h1 (by rw [t1]; omega) (by rw [t1, t2]; omega) (by omega) (by omega) (blk_first h4) (blk_second h4)).mono ?_
  rintro e W' ⟨rfl, M2, s1, s2, s3, s4⟩
  have hl3 : M2.length = y := by rw [← s2.1, List.length_append, t1, t2]; omega
  exact ⟨rfl, ⟨M ++ M2, R.drop (2 * z), by rw [List.length_append]; omega, by rw [hb]; exact (Nat.dvd_add_right h2).2 (Nat.dvd_refl _), blk_app (by rw [h1]; exact h2) (by omega) h3 (blk_sorted s1), blk_rest h4, h5.trans (by rw [List.append_assoc M]; exact ((Stab.Same.refl M).app s2).app (Stab.Same.refl _)), s3⟩, grown_trans h7 s4⟩
theorem blocks_last {w : World} {g c N : Nat} {l : List Mm} {y z a : Nat} {W : World} (h : Blocks w g l y z a W) (hy : y = 2 * z) (hz : 0 < z) (hN : l.length = N) (hl : N ≤ 100000) (m : Nat) (hm : m = a + z) (hmN : m < N) (hbN : N < a + y) :
    Calls Tryd.prog 76 #[.slice (some ⟨g, 0, none⟩) N c, .int .i64 a, .int .i64 m, .int .i64 N, .func (.func 68) #[] #[]] W fun e W' => e = .returned (.tuple #[]) ∧ (∃ L, Blk y L ∧ Stab.Same kM l L ∧ RowL W' g L) ∧ w.grownBy W' (some g) := by
  obtain ⟨⟨M, R, h1, h2, h3, h4, h5, h6⟩, h7⟩ := h
  have hl2 := h5.1
  rw [List.length_append] at hl2
  have hR : M ++ R = M ++ R.take z ++ R.drop z ++ [] := by rw [List.append_nil, List.append_assoc, List.take_append_drop]
  have t1 : (R.take z).length = z := by rw [List.length_take]; omega
  have t2 : (R.drop z).take z = R.drop z := List.take_of_length_le (by rw [List.length_drop]; omega)
  have s := blk_second h4
  rw [t2] at s
  rw [hR] at h5 h6
  refine (sym_any g c N hl _ a m N M (R.take z) (R.drop z) [] W (Nat.le_refl _) h6 (by rw [t1, List.length_drop]; simp; omega) h1 (by rw [t1]; omega) (by rw [t1, List.length_drop]; omega) (by omega) (by rw [List.length_drop]; omega) (blk_first h4) s).mono ?_
  rintro e W' ⟨rfl, M2, s1, s2, s3, s4⟩
  exact ⟨rfl, ⟨M ++ M2, blk_app (by rw [h1]; exact h2) (by omega) h3 (blk_sorted s1), h5.trans (by rw [List.append_nil, List.append_assoc]; exact (Stab.Same.refl M).app s2), by rw [List.append_nil] at s3; exact s3⟩, grown_trans h7 s4⟩
/-- What stands once a list was sorted. -/
def SortedIn (w : World) (g : Nat) (l : List Mm) (e : Ending) (w' : World) : Prop := e = .returned (.tuple #[]) ∧ ∃ M : List Mm, Stab.Sorted kM M ∧ Stab.Same kM l M ∧ RowL w' g M ∧ w.grownBy w' (some g)
set_option maxHeartbeats 4000000 in
theorem stable_any (g c N : Nat) (l : List Mm) (w : World) (h : RowL w g l) (hN : l.length = N) (hl : N ≤ 100000) :
    Calls Tryd.prog 74 #[.slice (some ⟨g, 0, none⟩) N c, .int .i64 N, .func (.func 68) #[] #[]] w (SortedIn w g l) := by
  have HN := Lib.hid hN
  have T0 : Hid (Twenty w g l 0 w) := Lib.hid ⟨⟨[], l, rfl, Nat.dvd_zero _, blk_sorted Stab.sorted_nil, Stab.Same.refl _, h⟩, World.grownBy.refl _ _⟩
  clear h hN
  go_enter Tryd.func74, Tryd.ntmps74
  go_wp2_with fail
  go_loopw [7, 8] (fun s7 s8 wr => ∃ a b : Nat, s7 = .int .i64 a ∧ s8 = .int .i64 b ∧ Hid (b = a + 20) ∧ a ≤ N ∧ Hid (Twenty w g l a wr)) (fun s7 _ _ => N - (intOf s7).toNat)
  case atStart => exact ⟨0, 20, rfl, rfl, Lib.hid rfl, by omega, T0⟩
  case round =>
    clear T0
    obtain ⟨a, b, rfl, rfl, HAB, haN, HT⟩ := hrel
    by_cases hlt : b ≤ N
    · have hd : decide (b ≤ N) = true := decide_eq_true hlt
      have HC := Lib.hid (twenty_next (c := c) HT.out HN.out hl b HAB.out hlt)
      go_wp2_with fail
      (with_reducible refine HC.out.mono ?_)
      rintro e w1 ⟨rfl, ht⟩
      have H1 := Lib.hid ht
      clear ht
      go_wp2_with fail
      go_roundw
      case rel => exact ⟨b, b + 20, rfl, by go_num, Lib.hid rfl, by omega, H1⟩
      case measure => have := HAB.out; simp [intOf]; omega
    · have hd : decide (b ≤ N) = false := decide_eq_false hlt
      have HC := Lib.hid (twenty_last (c := c) HT.out HN.out hl)
      go_wp2_with fail
      (with_reducible refine HC.out.mono ?_)
      rintro e w1 ⟨rfl, ht, hg⟩
      have H1 := Lib.hid ht
      have G1 := Lib.hid hg
      clear ht hg hd hlt HAB haN HC HT
      go_wp2_with fail
      go_loopw [6] (fun s6 wr => ∃ z : Nat, s6 = .int .i64 z ∧ 20 ≤ z ∧ z ≤ 2 * N + 20 ∧ Hid (∃ L, Blk z L ∧ Stab.Same kM l L ∧ RowL wr g L) ∧ Hid (w.grownBy wr (some g))) (fun s6 _ => 2 * N + 21 - (intOf s6).toNat)
      case atStart => exact ⟨20, rfl, by omega, by omega, H1, G1⟩
      case round =>
        clear H1 G1
        obtain ⟨z, rfl, hz1, hz2, HL, HG⟩ := hrel
        by_cases hzN : z < N
        · have hd : decide (z < N) = true := decide_eq_true hzN
          obtain ⟨y, hy⟩ : ∃ y : Nat, 2 * (z : Int) = (y : Int) := ⟨2 * z, by omega⟩
          have hy2 : (z : Int) * 2 = (y : Int) := by omega
          have hyw : IntKind.i64.wrap (y : Int) = (y : Int) := IntWalk.i64_in _ ⟨by omega, by omega⟩
          have HY : Hid (y = 2 * z) := Lib.hid (by omega)
          have HB0 : Hid (Blocks _ g l y z 0 _) := Lib.hid (by
            obtain ⟨L, q1, q2, q3⟩ := HL.out
            exact blocks_start q1 q2 q3 HG.out)
          clear HL HG
          go_wp2_with fail
          go_loopw [7, 8] (fun s7 s8 wr => ∃ a b : Nat, s7 = .int .i64 a ∧ s8 = .int .i64 b ∧ Hid (b = a + y) ∧ a ≤ N ∧ Hid (Blocks w g l y z a wr)) (fun s7 _ _ => N - (intOf s7).toNat)
          case atStart => exact ⟨0, y, rfl, rfl, Lib.hid (by omega), by omega, HB0⟩
          case round =>
            clear HB0
            obtain ⟨a, b, rfl, rfl, HAB, haN, HV⟩ := hrel
            obtain ⟨m, hm⟩ : ∃ m : Nat, (a : Int) + (z : Int) = (m : Int) := ⟨a + z, by omega⟩
            have hmw : IntKind.i64.wrap (m : Int) = (m : Int) := IntWalk.i64_in _ ⟨by omega, by omega⟩
            by_cases hlt : b ≤ N
            · have hd2 : decide (b ≤ N) = true := decide_eq_true hlt
              have HC := Lib.hid (blocks_next (c := c) HV.out HY.out (by omega) HN.out hl m b (by omega) HAB.out hlt)
              go_wp2_with fail
              (with_reducible refine HC.out.mono ?_)
              rintro e w1 ⟨rfl, ht⟩
              have H2 := Lib.hid ht
              clear ht
              go_wp2_with fail
              go_roundw
              case rel => exact ⟨b, b + y, rfl, by go_num, Lib.hid rfl, by omega, H2⟩
              case measure => have := HAB.out; simp [intOf]; omega
            · have hd2 : decide (b ≤ N) = false := decide_eq_false hlt
              by_cases hmN : m < N
              · have hd3 : decide (m < N) = true := decide_eq_true hmN
                have HC := Lib.hid (blocks_last (c := c) HV.out HY.out (by omega) HN.out hl m (by omega) hmN (by have := HAB.out; omega))
                go_wp2_with fail
                (with_reducible refine HC.out.mono ?_)
                rintro e w1 ⟨rfl, ht, hg⟩
                have H2 := Lib.hid ht
                have G2 := Lib.hid hg
                clear ht hg
                go_wp2_with fail
                go_roundw
                case rel => exact ⟨y, rfl, by omega, by omega, H2, G2⟩
                case measure => simp [intOf]; omega
              · have hd3 : decide (m < N) = false := decide_eq_false hmN
                have H2 := Lib.hid (blocks_end HV.out (by omega) (by have := HN.out; omega))
                have G2 := Lib.hid HV.out.grown
                go_wp2_with fail
                go_roundw
                case rel => exact ⟨y, rfl, by omega, by omega, H2, G2⟩
                case measure => simp [intOf]; omega
        · have hd : decide (z < N) = false := decide_eq_false hzN
          go_wp2_with fail
          go_end0
          obtain ⟨L, q1, q2, q3⟩ := HL.out
          exact ⟨rfl, L, blk_all q1 (by rw [← q2.1, HN.out]; omega), q2, q3, HG.out⟩
theorem sortStable_any (g c : Nat) (l : List Mm) (w : World) (h : RowL w g l) (hl : l.length ≤ 100000) :
    Calls Tryd.prog 67 #[.slice (some ⟨g, 0, none⟩) l.length c, .func (.func 68) #[] #[]] w (SortedIn w g l) := by
  have HC := Lib.hid (stable_any g c l.length l w h rfl hl)
  go_enter Tryd.func67, Tryd.ntmps67
  go_wp2_with fail
  (with_reducible refine HC.out.mono ?_)
  rintro e w1 ⟨rfl, hs⟩
  have HS := Lib.hid hs
  clear hs
  go_wp2_with fail
  go_end0
  exact ⟨rfl, HS.out⟩
end Go.Proofs.YtloghkiabgnpnaaDoor
namespace Go.Proofs.YtloghkiabgnpnaaDoor
open Go Go.RowKit Ros
/-- Is the j-th one the first of its ID? -/
def keepM (d : Array Mm) : Nat → Bool
  | 0 => true
  | j + 1 => !decide (d[j + 1]!.1 = d[j]!.1)
/-- Of those of one ID, one behind the other, the first. -/
def cptM (p : Option Id2) : List Mm → List Mm
  | [] => []
  | t :: l => if p = some t.1 then cptM p l else t :: cptM (some t.1) l
/-- The last ID of a list. -/
def lastM : Option Id2 → List Mm → Option Id2
  | p, [] => p
  | _, s :: l => lastM (some s.1) l
theorem lastM_snoc (t : Mm) : ∀ (l : List Mm) (p : Option Id2), lastM p (l ++ [t]) = some t.1
  | [], _ => rfl
  | s :: l, _ => lastM_snoc t l (some s.1)
theorem cptM_snoc (t : Mm) : ∀ (l : List Mm) (p : Option Id2), cptM p (l ++ [t]) = cptM p l ++ (if lastM p l = some t.1 then [] else [t])
  | [], p => by
    by_cases e : p = some t.1 <;> simp [cptM, lastM, e]
  | s :: l, p => by
    rw [List.cons_append, cptM, cptM, lastM]
    by_cases e : p = some s.1
    · rw [if_pos e, if_pos e, cptM_snoc t l p, e]
    · rw [if_neg e, if_neg e, cptM_snoc t l (some s.1), List.cons_append]
theorem keepM_upTo (d : Array Mm) : ∀ m, m ≤ d.size → Go.Lib.keptUpTo (keepM d) d m = cptM none (d.toList.take m)
  | 0, _ => by simp [Go.Lib.keptUpTo, cptM]
  | m + 1, h => by
    have hm : m < d.toList.length := by simp; omega
    have hg : d.toList[m] = d[m]! := by rw [getElem!_pos d m (by omega)]; simp
    rw [Go.Lib.keptUpTo_succ, keepM_upTo d m (by omega), List.take_succ_eq_append_getElem hm, cptM_snoc, hg]
    congr 1
    cases m with
    | zero => simp [keepM, lastM]
    | succ j =>
      have hj : j < d.toList.length := by omega
      have hgj : d.toList[j] = d[j]! := by rw [getElem!_pos d j (by omega)]; simp
      rw [List.take_succ_eq_append_getElem hj, lastM_snoc, hgj, keepM]
      by_cases e : d[j + 1]!.1 = d[j]!.1
      · simp [e]
      · have e2 : ¬ d[j]!.1 = d[j + 1]!.1 := fun h => e h.symm
        simp [e, e2]
theorem keepM_all (d : Array Mm) : Go.Lib.keptUpTo (keepM d) d d.size = cptM none d.toList := by
  rw [keepM_upTo d d.size (Nat.le_refl _), List.take_of_length_le (by simp)]
theorem cptM_short {d : Array Mm} (h : d.size < 2) : cptM none d.toList = d.toList := by
  rw [← keepM_all, Go.Lib.keptUpTo_all (keepM d) d d.size (fun j hj => by
    obtain rfl : j = 0 := by omega
    rfl), Go.Lib.range_map_get]
set_option maxHeartbeats 4000000 in
theorem compact_any (g c : Nat) (d : Array Mm) (w : World) (h : RowAtR encM 4 w g d) (hc : d.size ≤ c) (hl : d.size ≤ 100000) :
    Calls Tryd.prog 69 #[.slice (some ⟨g, 0, none⟩) d.size c, .func (.func 70) #[] #[]] w fun e w' => ∃ d' : Array Mm, e = .returned (.slice (some ⟨g, 0, none⟩) d'.size c) ∧ d'.toList = cptM none d.toList ∧ RowAtR encM 4 w' g d' ∧ w.grownBy w' (some g) := by
  have HR := Lib.hid h
  have HA := Lib.hid (keepM_all d)
  clear h
  by_cases h2 : d.size < 2
  · have hd : decide ((d.size : Int) < 2) = true := by simp; omega
    have HF := Lib.hid (cptM_short h2)
    go_enter Tryd.func69, Tryd.ntmps69
    go_wp2_with fail
    go_ret
    exact ⟨d, rfl, HF.out.symm, HR.out, World.grownBy.refl _ _⟩
  · have hd0 : decide ((d.size : Int) < 2) = false := by simp; omega
    go_enter Tryd.func69, Tryd.ntmps69
    go_wp2_with fail
    go_loopw [5] (fun s5 wr => ∃ k : Nat, s5 = .int .i64 k ∧ 1 ≤ k ∧ k ≤ d.size ∧ Hid (∀ j, j < k → keepM d j = true) ∧ Hid (Below w.heap.size w wr)) (fun s5 _ => d.size - (intOf s5).toNat)
    case atStart => exact ⟨1, rfl, by omega, by omega, Lib.hid fun j hj => by obtain rfl : j = 0 := (by omega); rfl, Lib.hid (Below.refl _ _)⟩
    case round =>
      obtain ⟨k, rfl, hk1, hkl, HT, HW⟩ := hrel
      obtain ⟨q, rfl⟩ : ∃ q, k = q + 1 := ⟨k - 1, by omega⟩
      by_cases hlt : q + 1 < d.size
      · have hd : decide (((q : Int) + 1) < (d.size : Int)) = true := by simp; omega
        have i1 : IntKind.i64.wrap ((q : Int) + 1 - 1) = (q : Int) := by rw [IntWalk.i64_in _ ⟨by omega, by omega⟩]; omega
        have i2 : IntKind.i64.wrap (q : Int) = (q : Int) := IntWalk.i64_in _ ⟨by omega, by omega⟩
        have i3 : (0 : Int) ≤ (q : Int) := by omega
        have i4 : (q : Int) < (d.size : Int) := by omega
        have i5 : (0 : Int) ≤ (q : Int) + 1 := by omega
        have i6 : (q : Int) + 1 < (d.size : Int) := by omega
        have i7 : ((q : Int) + 1).toNat = q + 1 := by omega
        have HS := Lib.hid fun w' (hb : Below w.heap.size w w') => And.intro ((rowAtR_kept HR.out hb).mem hlt).1 (And.intro ((rowAtR_kept HR.out hb).mem (show q < d.size by omega)).1 (Lib.hid hb))
        have HC := Lib.hid fun W => eqM_any d[q + 1]!.1.1 d[q + 1]!.1.2 d[q + 1]!.2.1 d[q + 1]!.2.2 d[q]!.1.1 d[q]!.1.2 d[q]!.2.1 d[q]!.2.2 W
        by_cases he : d[q + 1]!.1 = d[q]!.1
        · have hv : sameI (d[q + 1]!.1.1, d[q + 1]!.1.2) (d[q]!.1.1, d[q]!.1.2) = true := decide_eq_true he
          rw [hv] at HC
          have HK0 := Lib.hid (Go.Lib.KeptInv.start (kp := keepM d) (d := d) (k0 := q + 1) HT.out (by simp [keepM, he]))
          clear hv he
          generalize d[q + 1]!.1.1 = a1 at *
          generalize d[q + 1]!.1.2 = b1 at *
          generalize d[q + 1]!.2.1 = s1 at *
          generalize d[q + 1]!.2.2 = n1 at *
          generalize d[q]!.1.1 = a0 at *
          generalize d[q]!.1.2 = b0 at *
          generalize d[q]!.2.1 = s0 at *
          generalize d[q]!.2.2 = n0 at *
          have hck : ¬ c = q + 1 := by omega
          have hle : ((q : Int) + 1) ≤ (d.size : Int) := by omega
          go_wp2_with fail
          go_region_held3 (fun w' => (w'.cell? ⟨g, (q + 1) * 4, none⟩ = some (.int .i64 a1) ∧ w'.cell? ⟨g, (q + 1) * 4 + 1, none⟩ = some (.int .i64 b1) ∧ w'.cell? ⟨g, (q + 1) * 4 + 2, none⟩ = some (.int .u8 s1) ∧ w'.cell? ⟨g, (q + 1) * 4 + 3, none⟩ = some (.int .i64 n1)) ∧ (w'.cell? ⟨g, q * 4, none⟩ = some (.int .i64 a0) ∧ w'.cell? ⟨g, q * 4 + 1, none⟩ = some (.int .i64 b0) ∧ w'.cell? ⟨g, q * 4 + 2, none⟩ = some (.int .u8 s0) ∧ w'.cell? ⟨g, q * 4 + 3, none⟩ = some (.int .i64 n0)) ∧ Hid (Below w.heap.size w w'))
            (first | exact HS.out _ HW.out.drew | exact HS.out _ HK.out)
            (first | (go_at_call 70; (with_reducible refine (HC.out _).mono ?_); rintro e w' ⟨rfl, hb⟩; have HK := Lib.hid (below_after (Hid.out (by go_split_ands; assumption)) hb (Nat.le_refl _)); clear hb))
          go_wp2_with fail
          have HB := Lib.hid (Hid.out (by assumption : Hid (Below w.heap.size w w')))
          have R1 := Lib.hid (rowAtR_kept HR.out HB.out)
          have G1 := Lib.hid (grown_below (World.grownBy.refl w (some g)) HB.out)
          clear HK HS HC HW HT
          obtain ⟨N, hN⟩ : ∃ N, d.size - (q + 1) = N := ⟨_, rfl⟩
          obtain ⟨O, hO⟩ : ∃ O, (q + 1) * 4 = O := ⟨_, rfl⟩
          rw [hN, hO]
          go_loopw [5, 7] (fun s5 s7 wr => ∃ (k r : Nat) (dk : Array Mm), s5 = .int .i64 k ∧ s7 = .int .i64 ((r : Int) + 1) ∧ r + 1 ≤ N ∧ Hid (Go.Lib.KeptInv (keepM d) d (q + 1 + (r + 1)) k dk) ∧ Hid (RowAtR encM 4 wr g dk) ∧ Hid (w.grownBy wr (some g))) (fun _ s7 _ => N - (intOf s7).toNat)
          case atStart => exact ⟨q + 1, 0, d, by go_num, rfl, by omega, HK0, R1, G1⟩
          case round =>
            obtain ⟨k, r, dk, rfl, rfl, hrN, HK, H2, H3⟩ := hrel
            have hij := HK.out.lt
            have hds := HK.out.size
            have p1 : (0 : Int) ≤ (k : Int) := by omega
            have j1 : IntKind.i64.wrap ((r : Int) + 1 - 1) = (r : Int) := by rw [IntWalk.i64_in _ ⟨by omega, by omega⟩]; omega
            have j2 : IntKind.i64.wrap (r : Int) = (r : Int) := IntWalk.i64_in _ ⟨by omega, by omega⟩
            have j3 : (0 : Int) ≤ (r : Int) := by omega
            have j4 : (r : Int) < (N : Int) := by omega
            have j5 : (0 : Int) ≤ (r : Int) + 1 := by omega
            have j7 : ((r : Int) + 1).toNat = r + 1 := by omega
            by_cases hlr : r + 1 < N
            · have hdr : decide (((r : Int) + 1) < (N : Int)) = true := by simp; omega
              have j6 : (r : Int) + 1 < (N : Int) := by omega
              have e1 : (q + 1 + (r + 1)) * 4 = O + (r + 1) * 4 := by omega
              have e0 : (q + 1 + r) * 4 = O + r * 4 := by omega
              have HS := Lib.hid fun w' (hb : Below wr.heap.size wr w') => And.intro ((rowAtR_kept H2.out hb).mem (show q + 1 + (r + 1) < dk.size by omega)).1 (And.intro ((rowAtR_kept H2.out hb).mem (show q + 1 + r < dk.size by omega)).1 (Lib.hid hb))
              rw [HK.out.high (q + 1 + (r + 1)) (by omega), HK.out.high (q + 1 + r) (by omega), e1, e0] at HS
              have HC := Lib.hid fun W => eqM_any d[q + 1 + (r + 1)]!.1.1 d[q + 1 + (r + 1)]!.1.2 d[q + 1 + (r + 1)]!.2.1 d[q + 1 + (r + 1)]!.2.2 d[q + 1 + r]!.1.1 d[q + 1 + r]!.1.2 d[q + 1 + r]!.2.1 d[q + 1 + r]!.2.2 W
              by_cases he : d[q + 1 + (r + 1)]!.1 = d[q + 1 + r]!.1
              · have hv : sameI (d[q + 1 + (r + 1)]!.1.1, d[q + 1 + (r + 1)]!.1.2) (d[q + 1 + r]!.1.1, d[q + 1 + r]!.1.2) = true := decide_eq_true he
                rw [hv] at HC
                have HKK := Lib.hid (HK.out.skip (show (!decide (d[q + 1 + (r + 1)]!.1 = d[q + 1 + r]!.1)) = false by rw [decide_eq_true he]; rfl))
                clear hv he
                generalize d[q + 1 + (r + 1)]!.1.1 = a3 at *
                generalize d[q + 1 + (r + 1)]!.1.2 = b3 at *
                generalize d[q + 1 + (r + 1)]!.2.1 = s3 at *
                generalize d[q + 1 + (r + 1)]!.2.2 = n3 at *
                generalize d[q + 1 + r]!.1.1 = a2 at *
                generalize d[q + 1 + r]!.1.2 = b2 at *
                generalize d[q + 1 + r]!.2.1 = s2 at *
                generalize d[q + 1 + r]!.2.2 = n2 at *
                clear e1 e0
                go_wp2_with fail
                go_region_held3 (fun w' => (w'.cell? ⟨g, O + (r + 1) * 4, none⟩ = some (.int .i64 a3) ∧ w'.cell? ⟨g, O + (r + 1) * 4 + 1, none⟩ = some (.int .i64 b3) ∧ w'.cell? ⟨g, O + (r + 1) * 4 + 2, none⟩ = some (.int .u8 s3) ∧ w'.cell? ⟨g, O + (r + 1) * 4 + 3, none⟩ = some (.int .i64 n3)) ∧ (w'.cell? ⟨g, O + r * 4, none⟩ = some (.int .i64 a2) ∧ w'.cell? ⟨g, O + r * 4 + 1, none⟩ = some (.int .i64 b2) ∧ w'.cell? ⟨g, O + r * 4 + 2, none⟩ = some (.int .u8 s2) ∧ w'.cell? ⟨g, O + r * 4 + 3, none⟩ = some (.int .i64 n2)) ∧ Hid (Below wr.heap.size wr w'))
                  (first | exact HS.out _ (Below.refl _ _).drew | exact HS.out _ HJ.out)
                  (first | (go_at_call 70; (with_reducible refine (HC.out _).mono ?_); rintro e w' ⟨rfl, hb⟩; have HJ := Lib.hid (below_after (Hid.out (by go_split_ands; assumption)) hb (Nat.le_refl _)); clear hb))
                have R2 := Lib.hid (rowAtR_kept H2.out HJ.out)
                have G2 := Lib.hid (grown_below H3.out HJ.out)
                go_wp2_with fail
                go_roundw
                case rel => exact ⟨k, r + 1, dk, rfl, by go_num, by omega, HKK, R2, G2⟩
                case measure => simp [intOf]; omega
              · have hv : sameI (d[q + 1 + (r + 1)]!.1.1, d[q + 1 + (r + 1)]!.1.2) (d[q + 1 + r]!.1.1, d[q + 1 + r]!.1.2) = false := decide_eq_false he
                rw [hv] at HC
                have HKK := Lib.hid (HK.out.keep (show q + 1 + (r + 1) < d.size by omega) (show (!decide (d[q + 1 + (r + 1)]!.1 = d[q + 1 + r]!.1)) = true by rw [decide_eq_false he]; rfl))
                have HE := Lib.hid (show d[q + 1 + (r + 1)]! = ((d[q + 1 + (r + 1)]!.1.1, d[q + 1 + (r + 1)]!.1.2), d[q + 1 + (r + 1)]!.2.1, d[q + 1 + (r + 1)]!.2.2) from rfl)
                rw [HE.out] at HKK
                clear hv he
                generalize d[q + 1 + (r + 1)]!.1.1 = a3 at *
                generalize d[q + 1 + (r + 1)]!.1.2 = b3 at *
                generalize d[q + 1 + (r + 1)]!.2.1 = s3 at *
                generalize d[q + 1 + (r + 1)]!.2.2 = n3 at *
                generalize d[q + 1 + r]!.1.1 = a2 at *
                generalize d[q + 1 + r]!.1.2 = b2 at *
                generalize d[q + 1 + r]!.2.1 = s2 at *
                generalize d[q + 1 + r]!.2.2 = n2 at *
                clear e1 e0
                have p4 : (k : Int) < (d.size : Int) := by omega
                go_wp2_with fail
                go_region_held3 (fun w' => (w'.cell? ⟨g, O + (r + 1) * 4, none⟩ = some (.int .i64 a3) ∧ w'.cell? ⟨g, O + (r + 1) * 4 + 1, none⟩ = some (.int .i64 b3) ∧ w'.cell? ⟨g, O + (r + 1) * 4 + 2, none⟩ = some (.int .u8 s3) ∧ w'.cell? ⟨g, O + (r + 1) * 4 + 3, none⟩ = some (.int .i64 n3)) ∧ (w'.cell? ⟨g, O + r * 4, none⟩ = some (.int .i64 a2) ∧ w'.cell? ⟨g, O + r * 4 + 1, none⟩ = some (.int .i64 b2) ∧ w'.cell? ⟨g, O + r * 4 + 2, none⟩ = some (.int .u8 s2) ∧ w'.cell? ⟨g, O + r * 4 + 3, none⟩ = some (.int .i64 n2)) ∧ Hid (Below wr.heap.size wr w'))
                  (first | exact HS.out _ (Below.refl _ _).drew | exact HS.out _ HJ.out)
                  (first | (go_at_call 70; (with_reducible refine (HC.out _).mono ?_); rintro e w' ⟨rfl, hb⟩; have HJ := Lib.hid (below_after (Hid.out (by go_split_ands; assumption)) hb (Nat.le_refl _)); clear hb))
                have R2 := Lib.hid (rowAtR_kept H2.out HJ.out)
                have G2 := Lib.hid (grown_below H3.out HJ.out)
                obtain ⟨⟨c1, c2, c3, c4⟩, f1, f2, f3, f4⟩ := R2.out.mem (show k < dk.size by omega)
                have R3 := Lib.hid (rowM_set R2.out (show k < dk.size by omega) a3 b3 s3 n3)
                have G3 := Lib.hid (grown_setM G2.out k (.int .i64 a3) (.int .i64 b3) (.int .u8 s3) (.int .i64 n3))
                obtain ⟨x1, x2, x3, x4⟩ := (HS.out _ HJ.out).1
                go_wp2_with fail
                go_roundw
                case rel => exact ⟨k + 1, r + 1, _, by go_num, by go_num, by omega, HKK, R3, G3⟩
                case measure => simp [intOf]; omega
            · have hdr : decide (((r : Int) + 1) < (N : Int)) = false := by simp; omega
              have hm : q + 1 + (r + 1) = d.size := by omega
              rw [hm] at HK hij
              obtain ⟨vs, hcl⟩ := run_clear_recs (P := Tryd.prog) (enc := encM) (sz := 4) encM_len (by omega) Tryd.underlying24 zero32 rfl (by intro u hu; simp [Value.cells] at hu; rcases hu with rfl | rfl | rfl <;> rfl) H2.out (show k < dk.size by omega) (c - k) 0
              have R3 := Lib.hid (rowAtR_front encM_len H2.out (show k ≤ dk.size by omega) vs)
              have G3 := Lib.hid (grown_setCells H3.out (k * 4) vs)
              have HF := Lib.hid (kept_front HK.out)
              have hci : ¬ c = k := by omega
              have p5 : (k : Int) ≤ (d.size : Int) := by omega
              rw [hds] at hcl
              go_wp2_with fail
              go_ret
              exact ⟨dk.extract 0 k, by simp; omega, HF.out.trans HA.out, R3.out, G3.out⟩
        · have hv : sameI (d[q + 1]!.1.1, d[q + 1]!.1.2) (d[q]!.1.1, d[q]!.1.2) = false := decide_eq_false he
          rw [hv] at HC
          have HF := Lib.hid (show ∀ j, j < q + 1 + 1 → keepM d j = true from fun j hj => by
            by_cases e : j = q + 1
            · subst e
              simp [keepM, he]
            · exact HT.out j (by omega))
          clear hv he
          generalize d[q + 1]!.1.1 = a1 at *
          generalize d[q + 1]!.1.2 = b1 at *
          generalize d[q + 1]!.2.1 = s1 at *
          generalize d[q + 1]!.2.2 = n1 at *
          generalize d[q]!.1.1 = a0 at *
          generalize d[q]!.1.2 = b0 at *
          generalize d[q]!.2.1 = s0 at *
          generalize d[q]!.2.2 = n0 at *
          go_wp2_with fail
          go_region_held3 (fun w' => (w'.cell? ⟨g, (q + 1) * 4, none⟩ = some (.int .i64 a1) ∧ w'.cell? ⟨g, (q + 1) * 4 + 1, none⟩ = some (.int .i64 b1) ∧ w'.cell? ⟨g, (q + 1) * 4 + 2, none⟩ = some (.int .u8 s1) ∧ w'.cell? ⟨g, (q + 1) * 4 + 3, none⟩ = some (.int .i64 n1)) ∧ (w'.cell? ⟨g, q * 4, none⟩ = some (.int .i64 a0) ∧ w'.cell? ⟨g, q * 4 + 1, none⟩ = some (.int .i64 b0) ∧ w'.cell? ⟨g, q * 4 + 2, none⟩ = some (.int .u8 s0) ∧ w'.cell? ⟨g, q * 4 + 3, none⟩ = some (.int .i64 n0)) ∧ Hid (Below w.heap.size w w'))
            (first | exact HS.out _ HW.out.drew | exact HS.out _ HK.out)
            (first | (go_at_call 70; (with_reducible refine (HC.out _).mono ?_); rintro e w' ⟨rfl, hb⟩; have HK := Lib.hid (below_after (Hid.out (by go_split_ands; assumption)) hb (Nat.le_refl _)); clear hb))
          go_wp2_with fail
          go_roundw
          case rel => exact ⟨q + 1 + 1, by go_num, by omega, by omega, HF, Hid.out (by assumption)⟩
          case measure => simp [intOf]; omega
      · have hd : decide (((q : Int) + 1) < (d.size : Int)) = false := by simp; omega
        have HF := Lib.hid (show d.toList = cptM none d.toList by
          rw [← HA.out, Go.Lib.keptUpTo_all (keepM d) d d.size (fun j hj => HT.out j (by omega)), Go.Lib.range_map_get])
        go_wp2_with fail
        go_ret
        exact ⟨d, rfl, HF.out, rowAtR_kept HR.out HW.out, grown_below (World.grownBy.refl _ _) HW.out⟩
end Go.Proofs.YtloghkiabgnpnaaDoor
set_option maxRecDepth 20000
namespace Go.Proofs.YtloghkiabgnpnaaDoor
open Go Go.RowKit Ros
/-- Block g holds these slices. -/
def Lots (w : World) (g t : Nat) (cs : List Value) : Prop := w.heap[g]? = some (.cells cs.toArray t (0, 0))
theorem lots_cell {w : World} {g t : Nat} {cs : List Value} (h : Lots w g t cs) {k : Nat} (hk : k < cs.length) : w.cell? ⟨g, k, none⟩ = some cs[k] := by
  unfold Lots at h
  rw [cell_of_row _ _ k _ _ _ h]
  simp [hk]
theorem lots_below {w w' : World} {g t : Nat} {cs : List Value} (h : Lots w g t cs) (hb : Below w.heap.size w w') : Lots w' g t cs := (hb.block _ (row_lt h)).trans h
theorem info25ROS : (Tryd.prog.info? 32).map (fun i => (i.zero, i.size, i.bytes)) = some (some (.agg #[.int .i64 0, .int .i64 0]), 2, 16) := info30
theorem flat_take {α : Type} {ls : List (List α)} {k : Nat} (hk : k < ls.length) : (ls.take (k + 1)).flatten = (ls.take k).flatten ++ ls[k] := by
  rw [List.take_succ_eq_append_getElem hk, List.flatten_append]
  simp
/-- How many there are in the first k lists. -/
def tot {α : Type} (ls : List (List α)) (k : Nat) : Nat := (ls.take k).flatten.length
theorem tot_next {α : Type} {ls : List (List α)} {k : Nat} (hk : k < ls.length) : tot ls (k + 1) = tot ls k + ls[k].length := by
  unfold tot
  rw [flat_take hk, List.length_append]
theorem flat_len_le {α : Type} (ls : List (List α)) (k : Nat) : (ls.take k).flatten.length ≤ ls.flatten.length := by
  have : ls.flatten = (ls.take k).flatten ++ (ls.drop k).flatten := by rw [← List.flatten_append, List.take_append_drop]
  rw [this, List.length_append]
  omega
end Go.Proofs.YtloghkiabgnpnaaDoor
set_option maxRecDepth 20000
namespace Go.Proofs.YtloghkiabgnpnaaDoor
open Go Go.RowKit Ros
theorem mbox_set {w : World} {g : Nat} {a i s n : Int} (h : MBox w g a i s n) (a' i' s' n' : Int) : MBox ((((w.setCell ⟨g, 0, none⟩ (.int .i64 a')).setCell ⟨g, 1, none⟩ (.int .i64 i')).setCell ⟨g, 2, none⟩ (.int .u8 s')).setCell ⟨g, 3, none⟩ (.int .i64 n')) g a' i' s' n' := by
  unfold MBox at *
  simp [World.setCell, Array.getElem?_modify, h]
def getO (m : List Mm) (y : Id2) : Option Mm := m.find? (isM y)
def mval (x : Mm) : Value := .agg #[.int .i64 x.1.1, .int .i64 x.1.2, .int .u8 x.2.1, .int .i64 x.2.2]
def noneM : Mm := ((0, 0), 0, 0)
/-- What is answered: a member, and whether there is one. -/
def gotV (o : Option Mm) : Value := .tuple #[mval (o.getD noneM), .bool o.isSome]
theorem found_find {l : List Mm} {p : Mm → Bool} {r : Int} (h : FoundPROS p l r) : (r = -1 ∧ l.find? p = none) ∨ ∃ k : Nat, ∃ hk : k < l.length, r = k ∧ l.find? p = some l[k] := by
  rcases h with ⟨rfl, h⟩ | ⟨k, hk, rfl, h1, h2⟩
  · exact .inl ⟨rfl, List.find?_eq_none.2 fun x hx => by rw [h x hx]; simp⟩
  · refine .inr ⟨k, hk, rfl, ?_⟩
    have e : l = l.take k ++ l[k] :: l.drop (k + 1) := by rw [← List.drop_eq_getElem_cons hk, List.take_append_drop]
    have h3 : (l.take k).find? p = none := List.find?_eq_none.2 fun x hx => by rw [h2 x hx]; simp
    generalize l[k] = z at *
    rw [e, List.find?_append, h3, List.find?_cons_of_pos h1]
    rfl
set_option maxHeartbeats 4000000 in
theorem get_any (v : Value) (l : List Mm) (a i : Int) (w : World) (h : Ms w v l) (hl : l.length ≤ 1000000) :
    Calls Tryd.prog 33 #[v, .agg #[.int .i64 a, .int .i64 i]] w fun e w' => e = .returned (gotV (getO l (a, i))) ∧ Below w.heap.size w w' := by
  have BB := Lib.hid (below_two w (.cells #[.int .i64 a, .int .i64 i] 32) (.cells #[.int .i64 0, .int .i64 0, .int .u8 0, .int .i64 0] 52))
  have HI := Lib.hid (h.below BB.out)
  have XB := Lib.hid (box_below (box_new w a i) (below_one _ (.cells #[.int .i64 0, .int .i64 0, .int .u8 0, .int .i64 0] 52)))
  have XR : Hid (MBox ((w.alloc (.cells #[.int .i64 a, .int .i64 i] 32)).alloc (.cells #[.int .i64 0, .int .i64 0, .int .u8 0, .int .i64 0] 52)) (w.heap.size + 1) 0 0 0 0) := Lib.hid (by simpa using mbox_new (w.alloc (.cells #[.int .i64 a, .int .i64 i] 32)) 0 0 0 0)
  have HE : Hid (getO l (a, i) = l.find? (isM (a, i))) := Lib.hid rfl
  obtain ⟨A, c, rfl, hz⟩ := h
  clear hz
  go_enter Tryd.func33, Tryd.ntmps33
  go_wp2_with fail
  (with_reducible refine (indexM_any (isM_asks w.heap.size a i) _ l _ HI.out XB.out hl (fun _ _ => trivial)).mono ?_)
  rintro e w1 ⟨⟨r, rfl, hf⟩, hb⟩
  have B1 := Lib.hid (below_after BB.out hb (Nat.le_refl _))
  have R1 := Lib.hid (mbox_below XR.out hb)
  have I1 := Lib.hid (HI.out.below hb)
  clear hb
  obtain ⟨z1, z2, z3, z4⟩ := mbox_cells R1.out
  obtain ⟨f1, f2, f3, f4⟩ := mbox_free R1.out
  rcases found_find hf with ⟨rfl, hn⟩ | ⟨k, hk, rfl, hn⟩
  · have HF := Lib.hid (HE.out.trans hn)
    clear hf hn
    go_wp2_with fail
    have R2 := mbox_set R1.out 0 0 0 0
    obtain ⟨q0, q1, q2, q3⟩ := mbox_cells R2
    refine bodyPost_ret (v := gotV none) (by simp [results, Tryd.results33, go_sem, q0, q1, q2, q3, gotV, mval, noneM]) rfl ?_
    exact ⟨by rw [HF.out], below_setCells B1.out (by omega) 0 [_, _, _, _]⟩
  · have HF := Lib.hid (HE.out.trans hn)
    have i3 : (0 : Int) ≤ (k : Int) := by omega
    have i4 : (k : Int) < (l.length : Int) := by omega
    have hd : decide ((k : Int) < 0) = false := by simp
    obtain ⟨ad, rfl, c1, c2, c3, c4⟩ := Ms.at_ I1.out (Below.refl _ _) hk
    have HM : Hid (l[k] = ((l[k].1.1, l[k].1.2), l[k].2.1, l[k].2.2)) := Lib.hid rfl
    rw [HM.out] at HF
    clear hf hn HM
    generalize l[k].1.1 = x1 at *
    generalize l[k].1.2 = x2 at *
    generalize l[k].2.1 = x3 at *
    generalize l[k].2.2 = x4 at *
    go_wp2_with fail
    have R2 := mbox_set R1.out x1 x2 x3 x4
    obtain ⟨q0, q1, q2, q3⟩ := mbox_cells R2
    refine bodyPost_ret (v := gotV (some ((x1, x2), x3, x4))) (by simp [results, Tryd.results33, go_sem, q0, q1, q2, q3, gotV, mval]) rfl ?_
    exact ⟨by rw [HF.out], below_setCells B1.out (by omega) 0 [_, _, _, _]⟩
/-- A function that says which of two members is ahead. -/
structure AsksA (K : Nat) (q : Mm → Mm → Bool) : Prop where
  enters : ∀ args W, (callFunc K args).run Tryd.prog W = .ok (.enter K args) W
  call : ∀ a i s n b j t m W, Calls Tryd.prog K #[.agg #[.int .i64 a, .int .i64 i, .int .u8 s, .int .i64 n], .agg #[.int .i64 b, .int .i64 j, .int .u8 t, .int .i64 m]] W fun e w' => e = .returned (.bool (q ((a, i), s, n) ((b, j), t, m))) ∧ Below W.heap.size W w'
end Go.Proofs.YtloghkiabgnpnaaDoor
