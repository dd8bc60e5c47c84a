/-
  Walks over the code of package code, continued: the reader. No statement is proved in this text; it holds for every input that its premises let by.
-/
import Derived.Test.YtmmpnnpkfghhcaaWalksE
namespace Go.Proofs.Ytmmpnnpkfghhcaa
open Go.RowKit
/-- Block g is a reader, of which the bytes l are left, and that failed by f. -/
def Rdr (w : World) (g : Nat) (l : List UInt8) (f : Nat) : Prop := w.heap[g]? = some (.cells #[.string (bs l), .int .i64 f] 57 (0, 0))
/-- Block p is a variable that points to block g. -/
def Var (w : World) (p g : Nat) : Prop := w.heap[p]? = some (.cells #[.pointer (some ⟨g, 0, none⟩)] 34 (0, 0))
theorem rdr_cells {w : World} {g : Nat} {l : List UInt8} {f : Nat} (h : Rdr w g l f) : w.cell? ⟨g, 0, none⟩ = some (.string (bs l)) ∧ w.cell? ⟨g, 1, none⟩ = some (.int .i64 f) := by
  unfold Rdr at h
  exact ⟨by rw [cell_of_row _ _ 0 _ _ _ h]; rfl, by rw [cell_of_row _ _ 1 _ _ _ h]; rfl⟩
theorem rdr_free {w : World} {g : Nat} {l : List UInt8} {f : Nat} (h : Rdr w g l f) (i : Nat) : w.frozen? ⟨g, i, none⟩ = false := by
  unfold Rdr at h
  simp [World.frozen?, h]
theorem var_cell {w : World} {p g : Nat} (h : Var w p g) : w.cell? ⟨p, 0, none⟩ = some (.pointer (some ⟨g, 0, none⟩)) := by
  unfold Var at h
  rw [cell_of_row _ _ 0 _ _ _ h]; rfl
theorem row_lt {w : World} {g : Nat} {o : Obj} (h : w.heap[g]? = some o) : g < w.heap.size := by
  rcases Nat.lt_or_ge g w.heap.size with hlt | hge
  · exact hlt
  · rw [Array.getElem?_eq_none hge] at h; cases h
theorem var_ne {w : World} {p g : Nat} {l : List UInt8} {f : Nat} (h : Var w p g) (k : Rdr w g l f) : p ≠ g := by
  rintro rfl
  unfold Var at h
  unfold Rdr at k
  rw [h] at k
  injection k with k
  injection k with _ ht
  exact absurd ht (by decide)
theorem bytes_list (s : ByteArray) : s.toList = s.data.toList := ByteArray.toList_eq s
theorem bs_cons (b : UInt8) (t : List UInt8) : (bs (b :: t)).toList.isEmpty = false ∧ 0 < (bs (b :: t)).size ∧ (∀ h : 0 < (bs (b :: t)).size, (bs (b :: t))[0] = b) ∧ (bs (b :: t)).extract 1 (bs (b :: t)).size = bs t := by
  refine ⟨?_, by rw [bs_size]; simp, fun h => rfl, ?_⟩
  · rw [bytes_list]; rfl
  · apply WideShapes.bytes_inj
    simp [bs, ByteArray.size, List.extract_eq_take_drop]
/-- What the inner function of Num leaves. -/
def Got (g : Nat) (r : Nat × Nat × List UInt8) (w : World) (e : Ending) (w' : World) : Prop :=
  e = .returned (.tuple #[.int .i64 r.1, .int .i64 r.2.1]) ∧ w.grownBy w' (some g) ∧ ∃ l', Rdr w' g l' 0 ∧ (r.2.1 = 0 → l' = r.2.2)
theorem grown_refl (w : World) (row : Option Nat) : w.grownBy w row := ⟨rfl, rfl, rfl, Nat.le_refl _, fun _ _ _ => rfl⟩
theorem grown_trans {a b c : World} {row : Option Nat} (h : a.grownBy b row) (k : b.grownBy c row) : a.grownBy c row :=
  ⟨k.os.trans h.os, k.tape.trans h.tape, k.output.trans h.output, Nat.le_trans h.size k.size, fun i hi hne => (k.block i (Nat.lt_of_lt_of_le hi h.size) hne).trans (h.block i hi hne)⟩
theorem var_kept {w w' : World} {p g : Nat} {l : List UInt8} {f : Nat} (h : Var w p g) (hr : Rdr w g l f) (k : w.grownBy w' (some g)) : Var w' p g :=
  (k.block p (row_lt h) (fun e => var_ne h hr (by injection e))).trans h
theorem rdr_cut {w : World} {g : Nat} {l t : List UInt8} {s : ByteArray} (h : Rdr w g l 0) (e : s = bs t) : Rdr (w.setCell ⟨g, 0, none⟩ (.string s)).drew g t 0 ∧ w.grownBy (w.setCell ⟨g, 0, none⟩ (.string s)).drew (some g) := by
  subst e
  constructor
  · unfold Rdr at h ⊢
    show (w.setCell ⟨g, 0, none⟩ (.string (bs t))).heap[g]? = _
    simp [World.setCell, Array.getElem?_modify, h]
  · exact ⟨rfl, rfl, rfl, by simp [World.setCell], fun k _ hne => Below.heap_setCell _ _ _ _ (fun e => hne (by rw [e]))⟩
theorem shift_is (c : UInt8) (k : Nat) (hk : k ≤ 6) : wrap64 ((c.toNat : Int) % 128 * 2 ^ (7 * k)) = ((c.toNat % 128 * 128 ^ k : Nat) : Int) ∧ c.toNat % 128 * 128 ^ k ≤ 558551906910208 := by
  have h1 : c.toNat % 128 ≤ 127 := by omega
  have h2 : 128 ^ k ≤ 128 ^ 6 := Nat.pow_le_pow_right (by omega) hk
  have h3 : c.toNat % 128 * 128 ^ k ≤ 127 * 128 ^ 6 := Nat.mul_le_mul h1 h2
  have h4 : (2 : Int) ^ (7 * k) = ((128 ^ k : Nat) : Int) := by
    rw [Int.pow_mul]
    norm_cast
  refine ⟨?_, by omega⟩
  rw [h4]
  have h5 : (c.toNat : Int) % 128 * ((128 ^ k : Nat) : Int) = ((c.toNat % 128 * 128 ^ k : Nat) : Int) := by norm_cast
  rw [h5]
  exact IntWalk.wrap64_in _ ⟨by omega, by omega⟩
theorem got_end {g : Nat} {l r : List UInt8} {w wr w' : World} {k a n e : Nat} {l' : List UInt8} (he : Code.num k a r = Code.num 0 0 l) (hn : Code.num k a r = (n, e, l')) (hw : w.grownBy wr (some g)) (hw2 : wr.grownBy w' (some g)) {t : List UInt8} (hr : Rdr w' g t 0) (ht : e = 0 → t = l') :
    Got g (Code.num 0 0 l) w (.returned (.tuple #[.int .i64 n, .int .i64 e])) w' := by
  rw [← he, hn]
  exact ⟨rfl, grown_trans hw hw2, t, hr, ht⟩
set_option maxRecDepth 100000 in
set_option maxHeartbeats 1000000 in
theorem numIn_any (p g : Nat) (l : List UInt8) (w : World) (hp : Var w p g) (hr : Rdr w g l 0) :
    Calls Try.prog 29 #[.pointer (some ⟨p, 0, none⟩)] w (Got g (Code.num 0 0 l) w) := by
  go_enter Try.func29, Try.ntmps29
  go_wp2
  go_loopw [3, 4] (fun s3 s4 wr => ∃ (k a : Nat) (r : List UInt8), k ≤ 6 ∧ a ≤ 1099511627776 ∧ s4 = .int .i64 k ∧ s3 = .int .i64 a ∧ Code.num k a r = Code.num 0 0 l ∧ Rdr wr g r 0 ∧ w.grownBy wr (some g)) (fun _ s4 _ => 7 - (intOf s4).toNat)
  case atStart => exact ⟨0, 0, l, by omega, by omega, rfl, rfl, rfl, hr, grown_refl _ _⟩
  case round =>
    obtain ⟨k, a, r, hk, ha, rfl, rfl, he, hq, hw⟩ := hrel
    have HE := Lib.hid he
    have HQ := Lib.hid hq
    have HW := Lib.hid hw
    have HV := Lib.hid (var_kept hp hr hw)
    clear he hq hw hp hr
    have hv := var_cell HV.out
    have hf0 := rdr_free HQ.out 0
    obtain ⟨c0, _⟩ := rdr_cells HQ.out
    cases r with
    | nil =>
      have he : (bs []).toList.isEmpty = true := by rw [bytes_list]; rfl
      go_wp2_with fail
      go_ret2
      exact got_end HE.out (Code.num_nil k a) HW.out (grown_refl _ _) HQ.out (fun h => absurd h (by decide))
    | cons b t =>
      have HS := Lib.hid (bs_cons b t)
      have he : (bs (b :: t)).toList.isEmpty = false := HS.out.1
      have hz : 0 < (bs (b :: t)).size := HS.out.2.1
      generalize bs (b :: t) = s at *
      have hz2 : (0 : Int) < (s.size : Int) := by omega
      go_wp2_with fail
      have HX := Lib.hid (HS.out.2.2.1 hz)
      generalize s[0] = c at *
      obtain rfl := HX.out
      have HC := Lib.hid (rdr_cut HQ.out HS.out.2.2.2)
      obtain ⟨e1, hx⟩ := shift_is c k hk
      have HT := Lib.hid (Code.num_bad k a c t)
      have HL := Lib.hid (Code.num_last k a c t)
      have HON := Lib.hid (Code.num_on k a c t)
      generalize c.toNat % 128 * 128 ^ k = x at *
      by_cases hA : 1099511627776 < a + x
      · have dA : decide ((1099511627776 : Int) < (a : Int) + (x : Int)) = true := by simp; omega
        go_region
        go_wp2_with fail
        go_ret2
        exact got_end HE.out (HT.out (.inl hA)) HW.out HC.out.2 HC.out.1 (fun h => absurd h (by decide))
      · have dA : decide ((1099511627776 : Int) < (a : Int) + (x : Int)) = false := by simp; omega
        by_cases h6 : k = 6
        · have d6 : ((k : Int) == 6) = true := by simp; omega
          have HT2 := Lib.hid (HT.out (.inr (.inl h6)))
          clear h6
          go_region
          go_wp2_with fail
          go_ret2
          exact got_end HE.out HT2.out HW.out HC.out.2 HC.out.1 (fun h => absurd h (by decide))
        · have d6 : ((k : Int) == 6) = false := by simp; omega
          by_cases h0 : 0 < k
          · have d0 : decide ((0 : Int) < (k : Int)) = true := by simp; omega
            by_cases hc : c.toNat = 0
            · have dc : ((c.toNat : Int) == 0) = true := by simp; omega
              have HT2 := Lib.hid (HT.out (.inr (.inr ⟨h0, hc⟩)))
              clear hc
              go_region
              go_wp2_with fail
              go_ret2
              exact got_end HE.out HT2.out HW.out HC.out.2 HC.out.1 (fun h => absurd h (by decide))
            · have dc : ((c.toNat : Int) == 0) = false := by simp; omega
              have hno : ¬ (Code.maxNumber < a + x ∨ k = 6 ∨ (0 < k ∧ c.toNat = 0)) := by unfold Code.maxNumber; omega
              have HNO := Lib.hid hno
              clear hno
              by_cases h8 : c.toNat < 128
              · have d8 : decide ((c.toNat : Int) < 128) = true := by simp; omega
                go_region
                go_wp2_with fail
                go_ret2
                exact got_end HE.out (HL.out HNO.out h8) HW.out HC.out.2 HC.out.1 (fun _ => rfl)
              · have d8 : decide ((c.toNat : Int) < 128) = false := by simp; omega
                go_region
                go_wp2_with fail
                go_roundw
                case rel => exact ⟨k + 1, a + x, t, by omega, by omega, by go_num, by go_num, by rw [← HON.out HNO.out h8]; exact HE.out, HC.out.1, grown_trans HW.out HC.out.2⟩
                case measure => simp [intOf]; omega
          · have d0 : decide ((0 : Int) < (k : Int)) = false := by simp; omega
            have hno : ¬ (Code.maxNumber < a + x ∨ k = 6 ∨ (0 < k ∧ c.toNat = 0)) := by unfold Code.maxNumber; omega
            have HNO := Lib.hid hno
            clear hno
            by_cases h8 : c.toNat < 128
            · have d8 : decide ((c.toNat : Int) < 128) = true := by simp; omega
              go_region
              go_wp2_with fail
              go_ret2
              exact got_end HE.out (HL.out HNO.out h8) HW.out HC.out.2 HC.out.1 (fun _ => rfl)
            · have d8 : decide ((c.toNat : Int) < 128) = false := by simp; omega
              go_region
              go_wp2_with fail
              go_roundw
              case rel => exact ⟨k + 1, a + x, t, by omega, by omega, by go_num, by go_num, by rw [← HON.out HNO.out h8]; exact HE.out, HC.out.1, grown_trans HW.out HC.out.2⟩
              case measure => simp [intOf]; omega
end Go.Proofs.Ytmmpnnpkfghhcaa
