/-
  Walks over the code of package code, continued: ID and IDs. No statement is proved in this text; it holds for every input that its premises let by.
-/
import Derived.Test.YtmmpnnpkfghhcaaWalksC
namespace Go.Proofs.Ytmmpnnpkfghhcaa
open Go.RowKit
theorem owns_heap {w w' : World} {base : Nat} {v : Value} {l : List UInt8} (h : Owns w base v l) (e : w'.heap = w.heap) : Owns w' base v l := by
  unfold Owns World.ownsRow at h ⊢
  rw [e]
  exact h
/-- Block g holds an ID. -/
def Box (w : World) (g : Nat) (a i : Int) : Prop := w.heap[g]? = some (.cells #[.int .i64 a, .int .i64 i] 23 (0, 0))
theorem box_cells {w : World} {g : Nat} {a i : Int} (h : Box w g a i) : w.cell? ⟨g, 0, none⟩ = some (.int .i64 a) ∧ w.cell? ⟨g, 1, none⟩ = some (.int .i64 i) := by
  unfold Box at h
  exact ⟨by rw [cell_of_row _ _ 0 _ _ _ h]; rfl, by rw [cell_of_row _ _ 1 _ _ _ h]; rfl⟩
theorem box_new (w : World) (a i : Int) : Box (w.alloc (.cells #[.int .i64 a, .int .i64 i] 23)) w.heap.size a i := heap_alloc_new w _
theorem box_lt {w : World} {g : Nat} {a i : Int} (h : Box w g a i) : g < w.heap.size := by
  rcases Nat.lt_or_ge g w.heap.size with hlt | hge
  · exact hlt
  · unfold Box at h; rw [Array.getElem?_eq_none hge] at h; cases h
theorem box_kept {w w' : World} {v v' : Value} {g : Nat} {a i : Int} (h : Box w g a i) (k : Wrote w v w' v') (hne : v.ownBlock ≠ some g) : Box w' g a i :=
  (k.grown.block g (box_lt h) (fun e => hne e.symm)).trans h
theorem owns_not_box {w : World} {base g : Nat} {v : Value} {l : List UInt8} {a i : Int} (h : Owns w base v l) (hb : Box w g a i) : v.ownBlock ≠ some g := by
  rcases h.2 with ⟨rfl, _⟩ | ⟨g', cap, cur, rfl, _, hh, _⟩
  · simp [Value.ownBlock]
  · intro e
    have e2 : g' = g := by simpa [Value.ownBlock] using e
    subst e2
    unfold Box at hb
    rw [hh] at hb
    injection hb with hb
    injection hb with _ ht
    exact absurd ht (by decide)
/-- The bytes of an ID. -/
def encID (x : Int × Int) : List UInt8 := encI x.1 ++ encI x.2
theorem encID_len (x : Int × Int) : 2 ≤ (encID x).length ∧ (encID x).length ≤ 12 := by
  have h1 := encI_len x.1
  have h2 := encI_len x.2
  simp [encID]
  omega
theorem wrote_boxed {w w' : World} {v v' : Value} {o : Obj} (h : Wrote (w.alloc o) v w' v') : Wrote w v w' v' := by
  refine ⟨⟨h.grown.os, h.grown.tape, h.grown.output, by have := h.grown.size; simp at this; omega, fun k hk hne => (h.grown.block k (by simp; omega) hne).trans (Below.heap_alloc w _ k hk)⟩, ?_⟩
  rcases h.lies with e | ⟨g, e, hg⟩
  · exact .inl e
  · exact .inr ⟨g, e, by simp at hg; omega⟩
theorem wrote_drew {w w' : World} {v v' : Value} (h : Wrote w.drew v w' v') : Wrote w v w' v' := ⟨⟨h.grown.os, h.grown.tape, h.grown.output, h.grown.size, h.grown.block⟩, h.lies⟩
theorem addNum_drew (base : Nat) (v : Value) (l : List UInt8) (n : Int) (w : World) (hown : Owns w base v l) (hb : base ≤ w.heap.size) (hl : l.length ≤ 2000) (h0 : 0 ≤ n) (hn : n ≤ 1099511627776) :
    Calls Try.prog 22 #[v, .int .i64 n] w.drew (Added base v (l ++ encI n) w) :=
  (addNum_int base v l n w.drew (owns_heap hown rfl) hb hl h0 hn).mono fun _ _ ⟨v', h1, h2, h3⟩ => ⟨v', h1, h2, wrote_drew h3⟩
set_option maxHeartbeats 400000 in
theorem addID_any (base : Nat) (v : Value) (l : List UInt8) (a i : Int) (w : World) (hown : Owns w base v l) (hb : base ≤ w.heap.size) (hl : l.length ≤ 1900) (ha : 0 ≤ a ∧ a ≤ 1099511627776) (hi : 0 ≤ i ∧ i ≤ 1099511627776) :
    Calls Try.prog 24 #[v, .agg #[.int .i64 a, .int .i64 i]] w (Added base v (l ++ encID (a, i)) w) := by
  obtain ⟨a0, a1⟩ := ha
  obtain ⟨i0, i1⟩ := hi
  have HO := Lib.hid (show Owns (w.alloc (.cells #[.int .i64 a, .int .i64 i] 23)) base v l from World.ownsRow.alloc hown _)
  have HX := Lib.hid (box_new w a i)
  have HB := Lib.hid (show base ≤ (w.alloc (.cells #[.int .i64 a, .int .i64 i] 23)).heap.size by simp; omega)
  have hz := (encI_len a).2
  clear hown hb
  have hz2 : (l ++ encI a).length ≤ 2000 := by simp; omega
  have HC := Lib.hid (addNum_drew base v l a _ HO.out HB.out (by omega) a0 a1)
  have HD := Lib.hid fun v1 w1 h1 h2 => addNum_int base v1 (l ++ encI a) i w1 h1 h2 hz2 i0 i1
  go_enter Try.func24, Try.ntmps24
  go_wp2_with fail
  go_region_held3 (fun w' => w'.cell? ⟨w.heap.size, 0, none⟩ = some (.int .i64 a) ∧ w'.cell? ⟨w.heap.size, 1, none⟩ = some (.int .i64 i))
    (first | exact box_cells HX.out | exact box_cells HX1.out)
    (first
      | (go_at_call 22; (with_reducible refine HC.out.mono ?_); rintro e w1 ⟨v1, rfl, h1, h2⟩; have HX1 := Lib.hid (box_kept HX.out h2 (owns_not_box HO.out HX.out)); have H1 := Lib.hid h1; have H2 := Lib.hid h2; have H3 := Lib.hid (Nat.le_trans HB.out h2.grown.size); clear h1 h2)
      | (go_at_call 22; (with_reducible refine (HD.out _ _ (Hid.out (by assumption)) (Hid.out (by assumption))).mono ?_); rintro e w2 ⟨v2, rfl, h1, h2⟩; have HX1 := Lib.hid (box_kept (Hid.out (by assumption)) h2 (owns_not_box (Hid.out (by assumption)) (Hid.out (by assumption)))); have H4 := Lib.hid h1; have H5 := Lib.hid h2; clear h1 h2))
  go_wp2_with fail
  go_ret
  refine ⟨v2, rfl, ?_, wrote_boxed (H2.out.trans H5.out)⟩
  have h := H4.out
  rw [List.append_assoc] at h
  exact h
theorem addID_drew (base : Nat) (v : Value) (l : List UInt8) (a i : Int) (w : World) (hown : Owns w base v l) (hb : base ≤ w.heap.size) (hl : l.length ≤ 1900) (hv : vid a i = true) :
    Calls Try.prog 24 #[v, .agg #[.int .i64 a, .int .i64 i]] w (Added base v (l ++ encID (a, i)) w) := by
  have := vid_yes hv
  exact addID_any base v l a i w hown hb hl (by omega) (by omega)
theorem idB (a i : Int) (s : ByteArray) (w : World) (hv : vid a i = false) :
    Calls Try.prog 11 #[.string s, .agg #[.int .i64 a, .int .i64 i]] w fun e w' => e = .returned (.tuple #[.string s, .int .i64 4]) ∧ Below w.heap.size w w' := by
  have HV := Lib.hid hv
  clear hv
  go_enter Try.func11, Try.ntmps11
  go_wp2_with fail
  refine (valid_any _ _ _).mono ?_
  rintro e w1 ⟨rfl, h⟩
  rw [HV.out]
  have H1 := Lib.hid (below_boxed (Below.refl w.heap.size w) h (Nat.le_refl _))
  clear h
  go_wp2_with fail
  go_ret2
  exact ⟨rfl, H1.out⟩
theorem id_yes (a i : Int) (s : ByteArray) (w : World) (hv : vid a i = true) (hs : s.size ≤ 140737488351232) :
    Calls Try.prog 11 #[.string s, .agg #[.int .i64 a, .int .i64 i]] w fun e w' => e = .returned (.tuple #[.string (s ++ bs (encID (a, i))), .int .i64 0]) ∧ Below w.heap.size w w' := by
  have HV := Lib.hid hv
  clear hv
  have HX := Lib.hid (box_new w a i)
  go_enter Try.func11, Try.ntmps11
  go_wp2_with fail
  refine (valid_any _ _ _).mono ?_
  rintro e w1 ⟨rfl, h⟩
  rw [HV.out]
  have hx1 : Box w1 w.heap.size a i := (h.block w.heap.size (by simp)).trans HX.out
  have HX1 := Lib.hid hx1
  have H1 := Lib.hid (below_boxed (Below.refl w.heap.size w) h (Nat.le_refl _))
  clear h hx1
  obtain ⟨c1, c2⟩ := box_cells HX1.out
  go_wp2_with fail
  refine (addID_drew w1.heap.size _ [] a i _ (owns_nil _ _) (Nat.le_refl _) (by simp) HV.out).mono ?_
  rintro e w2 ⟨v, rfl, h1, h2⟩
  rw [List.nil_append] at h1
  have hc := owns_text h1 (by have := encID_len (a, i); omega)
  have H2 := Lib.hid (below_after H1.out (h2.below (owns_nil w1 w1.heap.size) (Nat.le_refl _)) (Nat.le_refl _))
  clear h1 h2 c1 c2
  have hz : (bs (encID (a, i))).size ≤ 12 := by rw [bs_size]; exact (encID_len _).2
  go_wp2_with fail
  go_ret2
  exact ⟨rfl, H2.out⟩
/-- The bytes of the IDs of a list. -/
def encAll (l : List (Int × Int)) : List UInt8 := l.flatMap encID
theorem encAll_take {l : List (Int × Int)} {k : Nat} (h : k < l.length) : encAll (l.take (k + 1)) = encAll (l.take k) ++ encID (l[k].1, l[k].2) := by
  unfold encAll
  rw [List.take_succ_eq_append_getElem h, List.flatMap_append]
  simp only [List.flatMap_cons, List.flatMap_nil, List.append_nil]
theorem encAll_len (l : List (Int × Int)) : (encAll l).length ≤ 12 * l.length := by
  induction l with
  | nil => simp [encAll]
  | cons x l ih =>
    have := (encID_len x).2
    simp only [encAll, List.flatMap_cons, List.length_append, List.length_cons] at ih ⊢
    omega
theorem encAll_taken (l : List (Int × Int)) (k : Nat) (h : l.length ≤ 64) : (encAll (l.take k)).length ≤ 768 := by
  have := encAll_len (l.take k)
  have : (l.take k).length ≤ l.length := by simp; omega
  omega
/-- The bytes of a list. -/
def encIDs (l : List (Int × Int)) : List UInt8 := encI (l.length : Int) ++ encAll l
theorem allVid_at {l : List (Int × Int)} (h : allVid l = true) {k : Nat} (hk : k < l.length) : vid l[k].1 l[k].2 = true := by
  simp only [allVid, List.all_eq_true] at h
  exact h _ (List.getElem_mem hk)
theorem idsLong (v : Value) (l : List (Int × Int)) (s : ByteArray) (w : World) (h : Ids w v l) (hl : 64 < l.length) :
    Calls Try.prog 13 #[.string s, v] w fun e w' => e = .returned (.tuple #[.string s, .int .i64 40]) ∧ w = w' := by
  obtain ⟨A, c, rfl, hz⟩ := id h
  clear hz h
  have hd : decide ((64 : Int) < (l.length : Int)) = true := by simp; omega
  go_enter Try.func13, Try.ntmps13
  go_wp2_with fail
  go_ret2
  exact ⟨rfl, rfl⟩
theorem idsB (v : Value) (l : List (Int × Int)) (s : ByteArray) (w : World) (h : Ids w v l) (hl : l.length ≤ 64) (hv : (allVid l && risesB l) = false) :
    Calls Try.prog 13 #[.string s, v] w fun e w' => e = .returned (.tuple #[.string s, .int .i64 4]) ∧ Below w.heap.size w w' := by
  obtain ⟨A, c, rfl, hz⟩ := id h
  clear hz
  have HI := Lib.hid h
  have HV := Lib.hid hv
  clear h hv
  have hd : decide ((64 : Int) < (l.length : Int)) = false := by simp; omega
  go_enter Try.func13, Try.ntmps13
  go_wp2_with fail
  refine (validList_any _ l _ HI.out (by omega)).mono ?_
  rintro e w1 ⟨rfl, h⟩
  rw [HV.out]
  have H1 := Lib.hid h
  clear h
  go_wp2_with fail
  go_ret2
  exact ⟨rfl, H1.out⟩
end Go.Proofs.Ytmmpnnpkfghhcaa
