/-
  Carried over: contracts of this program's functions. No statement is proved in this text.
-/
import Derived.Test.YtkoeplgkiogjlaaIdeParts
import Derived.Test.YtkoeplgkiogjlaaXAccC
set_option maxRecDepth 20000
set_option maxRecDepth 20000
namespace Go.Proofs.Ytkoeplgkiogjlaa
open Go Go.RowKit
theorem elem34 : Try.prog.elem 45 = 3 := by kernel_rfl
theorem under34 : Try.prog.underlying 45 = some (.slice (Try.prog.elem 45)) := by rw [elem34]; exact Try.underlying45
theorem size3 (W : World) : (sizeOf 3).run Try.prog W = .ok 1 W := by kernel_rfl
/-- The last gaps, cut with their capacity. -/
theorem run_cut {w : World} {base : Nat} {v : Value} {g : List Int} (h : Gaps w base v g) (k : Nat) (hk : k ≤ g.length) :
    ∃ A, (∀ W, (Instr.slice 45 v (some (.int .i64 (k : Int))) (some (.int .i64 (g.length : Int))) (some (.int .i64 (g.length : Int)))).run Try.prog W = .ok (.slice A (g.length - k) (g.length - k)) W) ∧ Rcs encN 1 w (.slice A (g.length - k) (g.length - k)) (g.drop k) := by
  obtain ⟨A, c, rfl, h0, hc, hx⟩ := gaps_rcs h
  refine ⟨if g.length = k then A else A.map (·.add (k * 1)), fun W => ?_, ?_⟩
  · rw [run_slice_lhm (w := W) (P := Try.prog) 45 A g.length c under34 .i64 .i64 .i64 (k : Int) _ _ (by omega) (by omega) (by omega) (by omega), elem34, size3]
    simp [Result.andThen, sliced]
  · refine ⟨_, g.length - k, by rw [List.length_drop], fun e => ?_, by rw [List.length_drop]; omega, fun j hj => ?_⟩
    · by_cases e2 : g.length = k
      · omega
      · rw [if_neg e2] at e
        cases A with
        | none => have := h0 rfl; omega
        | some a => cases e
    · rw [List.length_drop] at hj
      rw [if_neg (by omega)]
      obtain ⟨ad, rfl, h2, h3⟩ := hx (k + j) (by omega)
      refine ⟨_, rfl, by rw [addr_block]; exact h2, fun i u hu => ?_⟩
      rw [List.getElem_drop] at hu
      have h4 := h3 i u hu
      rw [Nat.mul_one] at h4
      show w.cell? ((ad.add (k * 1)).add (j * 1 + i)) = some u
      rw [Nat.mul_one, Nat.mul_one]
      rcases Nat.eq_zero_or_pos k with e | e
      · subst e
        rw [add_zero']
        rwa [Nat.zero_add] at h4
      · rw [addr_add_add _ _ _ e, ← Nat.add_assoc]
        exact h4
theorem flatN_len (l : List Int) : (flatR encN l).length = l.length * 1 := flatR_len encN_len l
/-- append of one number to a list that is cut with its capacity: a new row. -/
theorem wpList_record {ops : Array Oper} {rest : List Oper} {o : Oper} {a : Act} {Q : Exit → Act → World → Prop} (hgd : o.guard = none) (s x : Operand)
    (ho : o.op = .call { callee := .builtin .append, args := #[s, x], argTypes := #[45, 45] })
    (wr : World) (A : Option Addr) (n : Nat) (l : List Int) (y : Int) (hs : a.eval s = .slice A n n) (hx : a.eval x = .slice (some ⟨wr.heap.size, 0, none⟩) 1 1)
    (hI : Rcs encN 1 wr (.slice A n n) l) (hn : n = l.length) (hl : l.length ≤ 100000)
    (h : ∀ v' w', Gaps w' wr.heap.size v' (l ++ [y]) → Below wr.heap.size wr w' → wpList Try.prog ops Q rest (a.put o.dst v') w') :
    wpList Try.prog ops Q (o :: rest) a (wr.alloc (.cells #[.int .i64 y] 3)) := by
  obtain ⟨i0, hi, hz0, hz1, hz2⟩ := info_parts info3
  have hI' := hI.below (below_oneX wr (.cells #[.int .i64 y] 3))
  subst hn
  obtain ⟨A', c', hv, h0, hc, hk⟩ := id hI'
  injection hv with e1 e2 e3
  subst e1 e3
  refine wpList_append_grows _ hgd s x 45 ho 3 i0 (.int .i64 0) 1 8 Try.underlying45 hi hz0 hz1 hz2 rfl (by decide) A l.length l.length (flatR encN l) hs (fun e => ⟨h0 e, h0 e⟩) (flatN_len l)
    (fun b e j u hu => ?_) ⟨wr.heap.size, 0, none⟩ 1 1 [.int .i64 y] hx rfl (fun j u hu => ?_) (by simp [Value.oneCell']) (by omega) (by unfold maxLen; omega) (by omega) ?_
  · subst e
    obtain ⟨k, hlt, i, rfl, hu2⟩ := flatR_split encN_len (by decide) hu
    obtain ⟨ad', e, h1, h2⟩ := hk k hlt
    injection e with e
    subst e
    exact h2 i u hu2
  · cases j with
    | zero =>
      simp at hu
      subst hu
      show (wr.alloc (.cells #[.int .i64 y] 3)).cell? ⟨wr.heap.size, 0, none⟩ = _
      rw [cell_of_row _ _ 0 _ _ _ (heap_alloc_new wr _)]
      rfl
    | succ j => simp at hu
  · intro v' w' h1 h2
    have hb : Below wr.heap.size wr w' := ((Below.refl _ wr).alloc (Nat.le_refl _) _).grown h2 (by simp) fun k hk => by cases hk
    refine h v' w' ?_ hb
    unfold Gaps OwnsR
    rw [flatR_append, List.length_append]
    exact World.ownsRow.mono h1 (by simp)
theorem OwnsR.mono_base {w : World} {base base' : Nat} {v : Value} {g : List Int} (h : Gaps w base v g) (hb : base' ≤ base) : Gaps w base' v g := World.ownsRow.mono h hb
set_option maxHeartbeats 1000000 in
theorem record_any (base l : Nat) (d : Dt) (v : Value) (x : Int) (w : World) (h : Det 81 w base l d v) (hd : d.Ok) (hB : base ≤ w.heap.size) : Calls Try.prog 48 #[.pointer (some ⟨l, 0, none⟩), .int .i64 x] w (Done 81 base l ⟨d.mn, d.mx, d.wi, d.bg, d.la, recd d.wi d.ga x⟩ v w) := by
  have H := Lib.hid h
  have hlen := hd.len
  have hw1 := hd.wi
  have hw2 := hd.wh
  obtain ⟨k, hk⟩ : ∃ k : Nat, clampI ((d.ga.length : Int) + 1 - d.wi) 0 (d.ga.length : Int) = k := ⟨(clampI ((d.ga.length : Int) + 1 - d.wi) 0 (d.ga.length : Int)).toNat, by unfold clampI; omega⟩
  have hkl : k ≤ d.ga.length := by unfold clampI at hk; omega
  have K := Lib.hid (show clampI ((d.ga.length : Int) + 1 - d.wi) 0 (d.ga.length : Int) = k from hk)
  have E := Lib.hid (show recd d.wi d.ga x = d.ga.drop k ++ [x] by unfold recd; rw [hk]; simp)
  obtain ⟨c0, c1, c2, c3, c4, c5⟩ := dbox_cells h.box
  obtain ⟨f3, f4, f5⟩ := dbox_free h.box
  obtain ⟨V, hcut, hR⟩ := run_cut h.gaps k hkl
  have HR := Lib.hid hR
  obtain ⟨A, c, rfl, hc, hnn⟩ := gaps_slice h.gaps
  have HB := Lib.hid hB
  have HK := Lib.hid hkl
  clear h hd hR hk hnn hc f3 f4 hB hkl
  have hwr : IntKind.i64.wrap ((d.ga.length : Int) + 1) = (d.ga.length : Int) + 1 := IntWalk.i64_in _ ⟨by omega, by omega⟩
  have hws : IntKind.i64.wrap ((d.ga.length : Int) + 1 - d.wi) = (d.ga.length : Int) + 1 - d.wi := IntWalk.i64_in _ ⟨by omega, by omega⟩
  go_enter Try.func48, Try.ntmps48
  go_wp2_with fail
  (with_reducible refine (within_any _ _ _ _).mono ?_)
  rintro e w1 ⟨rfl, rfl⟩
  rw [K.out]
  go_wp2_with (refine wpList_record rfl _ _ rfl w1 V _ _ _ rfl rfl HR.out (by simp) (by simp; omega) ?_; intro v' w' hg hb; obtain ⟨A2, n2, c2, rfl⟩ : ∃ A2 n2 c2, v' = .slice A2 n2 c2 := (by obtain ⟨A2, c2, e, _⟩ := gaps_slice hg; exact ⟨A2, _, c2, e⟩); have G := Lib.hid hg; have B := Lib.hid hb; have H2 := Lib.hid (H.out.below hb); have c5' := (dbox_cells H2.out.box).2.2.2.2.2; have f5' := (dbox_free H2.out.box).2.2; clear hg hb)
  go_end0
  have X := H2.out.gap (OwnsR.mono_base G.out HB.out)
  rw [← E.out] at X
  exact ⟨rfl, .slice A2 n2 c2, X.1, grown_trans (grown_below B.out _) X.2, fun g hg => .inr (World.ownsRow.lt G.out g hg).1⟩
end Go.Proofs.Ytkoeplgkiogjlaa
