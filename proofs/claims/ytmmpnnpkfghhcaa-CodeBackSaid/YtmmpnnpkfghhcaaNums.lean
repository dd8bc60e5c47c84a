/-
  Lists of numbers in memory, and what is written of any number, ID and list, or refused. No statement is proved in this text.
-/
import Derived.Test.YtmmpnnpkfghhcaaAnew
namespace Go.Proofs.Ytmmpnnpkfghhcaa
open Go.RowKit
theorem info3 : (Try.prog.info? 3).map (fun i => (i.zero, i.size, i.bytes)) = some (some (.int .i64 0), 1, 8) := by kernel_rfl
/-- The slice v reads as the list l of numbers. -/
def Nums (w : World) (v : Value) (l : List Int) : Prop :=
  ∃ A c, v = .slice A l.length c ∧ ∀ k (h : k < l.length), ∃ ad, A = some ad ∧ ad.block < w.heap.size ∧ w.cell? (ad.add k) = some (.int .i64 l[k])
theorem Nums.below {w w' : World} {v : Value} {l : List Int} (h : Nums w v l) (hb : Below w.heap.size w w') : Nums w' v l := by
  obtain ⟨A, c, hv, hk⟩ := h
  refine ⟨A, c, hv, fun k h => ?_⟩
  obtain ⟨ad, h1, h2, h3⟩ := hk k h
  exact ⟨ad, h1, Nat.lt_of_lt_of_le h2 hb.size, (hb.cell (by rw [block_of_add]; exact h2)).trans h3⟩
theorem Nums.at_ {w w' : World} {A : Option Addr} {c n : Nat} {l : List Int} (h : Nums w (.slice A n c) l) (hw : Below w.heap.size w w') {k : Nat} (hk : k < l.length) :
    ∃ ad, A = some ad ∧ w'.cell? (ad.add k) = some (.int .i64 l[k]) := by
  obtain ⟨A', c', hv, hc⟩ := h
  injection hv with e1 e2 e3
  subst e1
  obtain ⟨ad, h1, h2, h3⟩ := hc k hk
  exact ⟨ad, h1, (hw.cell (by rw [block_of_add]; exact h2)).trans h3⟩
/-- The slice v is the call's own, and holds the numbers l. -/
def OwnsN (w : World) (base : Nat) (v : Value) (l : List Int) : Prop := w.ownsRow base 3 1 v l.length (l.map fun n => .int .i64 n)
theorem ownsN_nil (w : World) (base : Nat) : OwnsN w base (.slice none 0 0) [] := World.ownsRow_nil w base 3 1
theorem OwnsN.below {w w' : World} {base : Nat} {v : Value} {l : List Int} (h : OwnsN w base v l) (hb : Below w.heap.size w w') : OwnsN w' base v l :=
  World.ownsRow.kept h ⟨hb.os, hb.tape, hb.output, hb.size, fun k hk _ => hb.block k hk⟩ (row := none) (by cases hv : v.ownBlock <;> simp)
theorem nums_of_owns {w : World} {base : Nat} {v : Value} {l : List Int} (h : OwnsN w base v l) : Nums w v l := by
  rcases ownsRow_split h with ⟨rfl, hn⟩ | ⟨g, cap, rfl, hg⟩
  · exact ⟨none, 0, by rw [hn], fun k hk => absurd hk (by omega)⟩
  · exact ⟨some ⟨g, 0, none⟩, cap, rfl, fun k hk => ⟨_, rfl, hg, World.ownsRow.cells h (g := g) rfl _ _ (by simp [hk])⟩⟩
/-- append of one number that has just been put into a row of its own. -/
theorem wpList_pushN {ops : Array Oper} {rest : List Oper} {o : Oper} {a : Act} {Q : Exit → Act → World → Prop} (hgd : o.guard = none) (s x : Operand)
    (ho : o.op = .call { callee := .builtin .append, args := #[s, x], argTypes := #[33, 33] })
    (wr : World) (base : Nat) (v : Value) (l : List Int) (y : Int) (hs : a.eval s = v) (hx : a.eval x = .slice (some ⟨wr.heap.size, 0, none⟩) 1 1)
    (hown : OwnsN wr base v l) (hl : l.length ≤ 100000) (hb : base ≤ wr.heap.size)
    (h : ∀ v' w', OwnsN w' base v' (l ++ [y]) → Below base wr w' → wpList Try.prog ops Q rest (a.put o.dst v') w') :
    wpList Try.prog ops Q (o :: rest) a (wr.alloc (.cells #[.int .i64 y] 3)) := by
  obtain ⟨i0, hi, hz0, hz1, hz2⟩ := info_parts info3
  have hown1 : (wr.alloc (.cells #[.int .i64 y] 3)).ownsRow base 3 1 v l.length (l.map fun n => .int .i64 n) := World.ownsRow.alloc hown _
  refine wpList_append_own _ hgd s x 33 ho base 3 i0 (.int .i64 0) 1 8 Try.underlying33 hi hz0 hz1 hz2 rfl (by decide) v l.length _ hs hown1 ⟨wr.heap.size, 0, none⟩ 1 1 [.int .i64 y] hx rfl
    (fun j u hu => ?_) (by simp [Value.oneCell']) (by unfold maxLen; omega) (by omega) (by simp; omega) ?_
  · cases j with
    | zero =>
      simp at hu
      subst hu
      show (wr.alloc (.cells #[.int .i64 y] 3)).cell? ⟨wr.heap.size, 0, none⟩ = _
      rw [cell_of_row _ _ 0 _ _ _ (heap_alloc_new wr _)]
      rfl
    | succ j => simp at hu
  · intro v' w' h1 h2 _
    refine h v' w' ?_ (((Below.refl base wr).alloc hb _).grown h2 (by simp; omega) fun k hk => (World.ownsRow.lt hown1 k hk).1)
    unfold OwnsN
    rw [List.map_append, List.length_append]
    exact h1
/-- May a number be? -/
def good (n : Int) : Bool := decide (0 ≤ n ∧ n ≤ 1099511627776)
theorem good_yes {n : Int} (h : good n = true) : 0 ≤ n ∧ n ≤ 1099511627776 := by simpa [good] using h
theorem good_no {n : Int} (h : good n = false) : n < 0 ∨ 1099511627776 < n := by
  unfold good at h
  have := of_decide_eq_false h
  omega
/-- What is written of the numbers of a list, and which of them may be. -/
def encK (l : List Int) : List UInt8 := (l.filter good).flatMap encI
def kept (l : List Int) : List Int := l.filter good
theorem kept_yes {l : List Int} {k : Nat} (h : k < l.length) (hg : good l[k] = true) : kept (l.take (k + 1)) = kept (l.take k) ++ [l[k]] := by
  unfold kept
  rw [List.take_succ_eq_append_getElem h, List.filter_append]
  simp only [List.filter_cons, hg, List.filter_nil, if_true]
theorem kept_no {l : List Int} {k : Nat} (h : k < l.length) (hg : good l[k] = false) : kept (l.take (k + 1)) = kept (l.take k) := by
  unfold kept
  rw [List.take_succ_eq_append_getElem h, List.filter_append]
  simp only [List.filter_cons, hg, List.filter_nil, Bool.false_eq_true, if_false, List.append_nil]
theorem encK_yes {l : List Int} {k : Nat} (h : k < l.length) (hg : good l[k] = true) : encK (l.take (k + 1)) = encK (l.take k) ++ encI l[k] := by
  show (kept (l.take (k + 1))).flatMap encI = (kept (l.take k)).flatMap encI ++ encI l[k]
  rw [kept_yes h hg, List.flatMap_append]
  simp
theorem encK_no {l : List Int} {k : Nat} (h : k < l.length) (hg : good l[k] = false) : encK (l.take (k + 1)) = encK (l.take k) := by
  show (kept (l.take (k + 1))).flatMap encI = (kept (l.take k)).flatMap encI
  rw [kept_no h hg]
theorem flat_encI_len (l : List Int) : (l.flatMap encI).length ≤ 6 * l.length := by
  induction l with
  | nil => simp
  | cons x l ih =>
    have := (encI_len x).2
    simp only [List.flatMap_cons, List.length_append, List.length_cons]
    omega
theorem encK_len (l : List Int) : (encK l).length ≤ 6 * l.length := by
  have h1 := flat_encI_len (l.filter good)
  have h2 := List.length_filter_le good l
  unfold encK
  omega
theorem kept_len (l : List Int) : (kept l).length ≤ l.length := List.length_filter_le good l
theorem kept_good {l : List Int} {k : Nat} (h : k < (kept l).length) : 0 ≤ (kept l)[k] ∧ (kept l)[k] ≤ 1099511627776 := by
  have := List.getElem_mem h
  unfold kept at this
  exact good_yes (List.mem_filter.1 this).2
/-- What is written of any list, and what was wrong. -/
def listOk (l : List (Int × Int)) : Bool := decide (l.length ≤ 64) && (allVid l && risesB l)
def outL (l : List (Int × Int)) : List UInt8 := if listOk l = true then encIDs l else []
def errL (l : List (Int × Int)) : Nat := if listOk l = true then 0 else if 64 < l.length then 40 else 4
def outI (a i : Int) : List UInt8 := if vid a i = true then encID (a, i) else []
def errI (a i : Int) : Nat := if vid a i = true then 0 else 4
theorem bs_none (s : ByteArray) : s ++ bs [] = s := WideShapes.bytes_inj (by simp [bs])
theorem ids_gen (s : ByteArray) (v : Value) (l : List (Int × Int)) (w : World) (h : Ids w v l) (hs : s.size ≤ 100000) : Calls Try.prog 13 #[.string s, v] w fun e w' => e = .returned (.tuple #[.string (s ++ bs (outL l)), .int .i64 (errL l : Nat)]) ∧ Below w.heap.size w w' := by
  by_cases hl : 64 < l.length
  · have hn : listOk l = false := by unfold listOk; rw [decide_eq_false (by omega)]; rfl
    have e1 : outL l = [] := by unfold outL; rw [hn]; rfl
    have e2 : errL l = 40 := by unfold errL; rw [hn, if_neg (by decide), if_pos hl]
    rw [e1, e2, bs_none]
    exact (idsLong v l s w h hl).mono fun e w' ⟨he, hb⟩ => ⟨he, hb ▸ Below.refl _ _⟩
  · cases hv : (allVid l && risesB l)
    · have hn : listOk l = false := by unfold listOk; rw [hv, Bool.and_false]
      have e1 : outL l = [] := by unfold outL; rw [hn]; rfl
      have e2 : errL l = 4 := by unfold errL; rw [hn, if_neg (by decide), if_neg hl]
      rw [e1, e2, bs_none]
      exact idsB v l s w h (by omega) hv
    · have hn : listOk l = true := by unfold listOk; rw [hv, decide_eq_true (by omega)]; rfl
      have e1 : outL l = encIDs l := by unfold outL; rw [if_pos hn]
      have e2 : errL l = 0 := by unfold errL; rw [if_pos hn]
      rw [e1, e2]
      exact ids_yes v l s w h (by omega) (by omega) hv
theorem id_gen (s : ByteArray) (a i : Int) (w : World) (hs : s.size ≤ 100000) : Calls Try.prog 11 #[.string s, .agg #[.int .i64 a, .int .i64 i]] w fun e w' => e = .returned (.tuple #[.string (s ++ bs (outI a i)), .int .i64 (errI a i : Nat)]) ∧ Below w.heap.size w w' := by
  cases hv : vid a i
  · have e1 : outI a i = [] := by unfold outI; rw [hv]; rfl
    have e2 : errI a i = 4 := by unfold errI; rw [hv]; rfl
    rw [e1, e2, bs_none]
    exact idB a i s w hv
  · have e1 : outI a i = encID (a, i) := by unfold outI; rw [hv]; rfl
    have e2 : errI a i = 0 := by unfold errI; rw [hv]; rfl
    rw [e1, e2]
    exact id_yes a i s w hv (by omega)
theorem outL_len (l : List (Int × Int)) : (outL l).length ≤ 1000 := by
  unfold outL
  split
  · rename_i h
    have h2 : l.length ≤ 64 := by unfold listOk at h; simp at h; exact h.1
    exact (encIDs_len l h2).2
  · simp
theorem outI_len (a i : Int) : (outI a i).length ≤ 12 := by
  unfold outI
  split
  · exact (encID_len (a, i)).2
  · simp
section
open Go.WideShapes Go.ChangeShapes Go.ChangeAt
variable {H : Type} {enc : TypeId × Value → H}
theorem open_nums {w : World} {b0 : Nat} {v : Value} {d : DataW H} {p : List MemPlace} (hv : Value.okWide Try.prog w .any b0 33 v) (h : DataW.Trod enc Try.prog w 0 (fun _ => true) true 33 v d p) :
    ∃ l : List Int, Nums w v l := by
  obtain ⟨A, len, cap, rfl⟩ := okWide_slice Try.underlying33 hv
  obtain ⟨fuel, hf⟩ := h
  rcases open_ints Try.underlying33 Try.underlying3 cells3 hf with ⟨hc, _⟩ | ⟨a, len', cap', zs, hc, _, hl, _, hz, _, hx, _⟩
  · have e : Value.slice A len cap = .slice none 0 0 := by simpa [Value.cells] using hc
    rw [e]
    exact ⟨[], none, 0, rfl, fun k hk => absurd hk (by simp)⟩
  · have e : Value.slice A len cap = .slice (some a) len' cap' := by simpa [Value.cells] using hc
    injection e with e1 e2 e3
    subst e1 e2 e3
    have hm : zs.length = cap := by simpa using hz
    refine ⟨zs.take len, some a, cap, by rw [List.length_take, Nat.min_eq_left (by omega)], fun k hk => ?_⟩
    have hk2 : k < len := by rw [List.length_take] at hk; omega
    have hc := hx k (by omega)
    refine ⟨a, rfl, ?_, ?_⟩
    · have := World.block_lt_of_cell? w _ hc
      rwa [block_of_add] at this
    · rw [hc, List.getElem_take]
      simp [List.getD, List.getElem?_eq_getElem (show k < zs.length by omega)]
end
end Go.Proofs.Ytmmpnnpkfghhcaa
