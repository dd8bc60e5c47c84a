/-
  Walks over the library's copy of a list of ticks, and over its search for one that says nothing. No statement is proved in this text; it holds for every input that its premises let by.
-/
import Derived.Test.YtpmfanglgkohjaaSort
import Derived.Lib.SliceRun
namespace Go.Proofs.Ytpmfanglgkohjaa
open Go.RowKit Sets Clocks
theorem info35 : (Try.prog.info? 35).map (fun i => (i.zero, i.size, i.bytes)) = some (some (.agg #[.int .i64 0, .int .i64 0, .int .i64 0]), 3, 24) := by kernel_rfl
/-- An element's cells. -/
theorem Rcs.tick {w w' : World} {A : Option Addr} {n c : Nat} {l : List Tick} (h : Rcs encT 3 w (.slice A n c) l) (hw : Below w.heap.size w w') {k : Nat} (hk : k < l.length) :
    ∃ ad, A = some ad ∧ w'.cell? (ad.add (k * 3)) = some (.int .i64 l[k].1.1) ∧ w'.cell? ⟨(ad.add (k * 3)).block, (ad.add (k * 3)).off + 1, none⟩ = some (.int .i64 l[k].1.2) ∧ w'.cell? ⟨(ad.add (k * 3)).block, (ad.add (k * 3)).off + 2, none⟩ = some (.int .i64 l[k].2) := by
  obtain ⟨ad, rfl⟩ := h.addr (by omega)
  exact ⟨ad, rfl, h.first hw hk rfl, h.cell hw hk 1 (by omega) rfl, h.cell hw hk 2 (by omega) rfl⟩
/-- slices.Clone. -/
theorem clone_any (v : Value) (l : List Tick) (w : World) (h : Rcs encT 3 w v l) (hl : l.length ≤ 100000) :
    Calls Try.prog 27 #[v] w fun e w' => ∃ v', e = .returned v' ∧ OwnsR encT 3 35 w' w.heap.size v' l ∧ Below w.heap.size w w' := by
  have q24 : ∀ (w : World) (a : Option Addr) (n c n' c' : Nat), (binOp .eql 24 (.slice a n c) (.slice none n' c')).run Try.prog w = .ok (.bool a.isNone) w := fun w a n c n' c' => Lib.run_eql_slice_nil w _ _ a n c n' c' Try.underlying24
  rcases h.shape with ⟨rfl, rfl⟩ | ⟨ad, c, rfl, hc⟩
  · go_enter Try.func27, Try.ntmps27
    go_wp2
    go_ret
    exact ⟨_, rfl, OwnsR.nil _ _ _, Below.refl _ _⟩
  · have HI := Lib.hid h
    clear h
    go_enter Try.func27, Try.ntmps27
    go_wp2_with (at_builtin; refine wpList_append_recs 24 35 Try.underlying24 info35 rfl encT_len (by omega) encT_one (by omega) rfl (.tmp 5) (.tmp 6) rfl _ w.heap.size _ _ [] l rfl rfl (World.ownsRow_made w #[] 0 (Nat.le_refl _) (Nat.zero_le _) (by simp)) (HI.out.below ((Below.refl _ _).alloc (Nat.le_refl _) _)) (by simpa using hl) (by simp) ?_; intro v' w' h1 h2)
    go_wp2
    go_ret
    exact ⟨_, rfl, h1, ((Below.refl _ _).alloc (Nat.le_refl _) _).trans h2⟩
/-- What the search for a tick that says nothing answers. -/
def Found (d : Array Tick) (r : Int) : Prop := (r = -1 ∧ ∀ j, j < d.size → 0 < d[j]!.2) ∨ ∃ k : Nat, r = k ∧ k < d.size ∧ d[k]!.2 ≤ 0 ∧ ∀ j, j < k → 0 < d[j]!.2
set_option maxHeartbeats 1000000 in
/-- slices.IndexFunc with said's first closure. -/
theorem index_any (v : Value) (d : Array Tick) (w : World) (h : Rcs encT 3 w v d.toList) (hl : d.size ≤ 100000) :
    Calls Try.prog 36 #[v, .func (.func 28) #[] #[]] w fun e w' => (∃ r, e = .returned (.int .i64 r) ∧ Found d r) ∧ Below w.heap.size w w' := by
  have HI := Lib.hid h
  obtain ⟨A, c, rfl, hz⟩ := h
  clear hz
  have hlen : d.toList.length = d.size := by simp
  rw [hlen] at HI ⊢
  go_enter Try.func36, Try.ntmps36
  go_wp2_with fail
  go_loopw [8] (fun s3 wr => ∃ k : Nat, k ≤ d.size ∧ s3 = .int .i64 k ∧ (∀ j, j < k → 0 < d[j]!.2) ∧ Below w.heap.size w wr) (fun s3 _ => d.size - (intOf s3).toNat)
  case atStart => exact ⟨0, by omega, rfl, fun j hj => absurd hj (by omega), Below.refl _ _⟩
  case round =>
    obtain ⟨k, hkl, rfl, ht, hw⟩ := hrel
    have HT := Lib.hid ht
    have HW := Lib.hid hw
    clear ht hw
    have i3 : (0 : Int) ≤ (k : Int) := by omega
    by_cases hlt : k < d.size
    · have hd : decide ((k : Int) < (d.size : Int)) = true := by simp; omega
      have i4 : (k : Int) < (d.size : Int) := by omega
      obtain ⟨ad, rfl, c1, c2, c3⟩ := HI.out.tick HW.out (k := k) (by simpa using hlt)
      have HE := Lib.hid (show d.toList[k]'(by simpa using hlt) = d[k]! by rw [getElem!_pos d k hlt]; simp)
      rw [HE.out] at c1 c2 c3
      have HC := Lib.hid fun W => zeroN_any d[k]!.1.1 d[k]!.1.2 d[k]!.2 W
      by_cases hn : d[k]!.2 ≤ 0
      · have hv : decide (d[k]!.2 ≤ 0) = true := decide_eq_true hn
        rw [hv] at HC
        have HF : Hid (Found d k) := Lib.hid (.inr ⟨k, rfl, hlt, hn, HT.out⟩)
        clear hv hn
        generalize d[k]!.1.1 = a at *
        generalize d[k]!.1.2 = i at *
        generalize d[k]!.2 = n at *
        go_wp2_with (go_at_call 28; refine (HC.out _).mono ?_; rintro e w1 ⟨rfl, hb⟩; have HB := Lib.hid (below_after HW.out hb (Nat.le_refl _)); clear hb)
        go_ret
        exact ⟨⟨_, rfl, HF.out⟩, HB.out⟩
      · have hv : decide (d[k]!.2 ≤ 0) = false := decide_eq_false hn
        rw [hv] at HC
        have HF := Lib.hid (show ∀ j, j < k + 1 → 0 < d[j]!.2 from fun j hj => by
          by_cases e : j = k
          · rw [e]; omega
          · exact HT.out j (by omega))
        clear hv hn
        generalize d[k]!.1.1 = a at *
        generalize d[k]!.1.2 = i at *
        generalize d[k]!.2 = n at *
        go_wp2_with (go_at_call 28; refine (HC.out _).mono ?_; rintro e w1 ⟨rfl, hb⟩; have HB := Lib.hid (below_after HW.out hb (Nat.le_refl _)); clear hb)
        go_roundw
        case rel => exact ⟨k + 1, by omega, by go_num, HF.out, HB.out⟩
        case measure => simp [intOf]; omega
    · have hd : decide ((k : Int) < (d.size : Int)) = false := by simp; omega
      have HF : Hid (Found d (-1)) := Lib.hid (.inl ⟨rfl, fun j hj => HT.out j (by omega)⟩)
      go_wp2_with fail
      go_ret
      exact ⟨⟨_, rfl, HF.out⟩, HW.out⟩
end Go.Proofs.Ytpmfanglgkohjaa
