/-
  A walk over the program's way to find whom a node watches. No statement is proved in this text; it holds for every input that its premises let by.
-/
import Derived.Test.YtbjknjbjldodlaaRingC
namespace Go.Proofs.Ytbjknjbjldodlaa
open Go Go.RowKit Sets
attribute [local go_sem] Oper.semAt_some
/-- What stands behind the row that is watched anyway. -/
structure WatA (w1 W : World) (X : Nat) (v1 : Value) (D : List Id2) : Prop where
  one : One W X 25 v1
  owns : Owns W w1.heap.size v1 D
  far : ∀ g, v1.ownBlock = some g → g ≠ X
  lo : w1.heap.size ≤ X
  below : Below w1.heap.size w1 W
/-- A piece of code that goes on. -/
def onwards (R : Act → World → Prop) : Exit → Act → World → Prop
  | .normal, a, w => R a w
  | _, _, _ => False
set_option maxHeartbeats 4000000 in
theorem watched_any (v u : Value) (l nt : List Id2) (a i n : Int) (w : World) (h : Ids w v l) (h2 : Ids w u nt) (hl : l.length ≤ 10000) (hm : nt.length ≤ 10000) (hn1 : -9223372036854775808 ≤ n) (hn2 : n ≤ 9223372036854775807) :
    Calls Try.prog 11 #[v, .agg #[.int .i64 a, .int .i64 i], u, .int .i64 n] w (Lists (setOf (del (both l nt) (a, i) ++ (rg (without l nt) (a, i)).take n.toNat)) w) := by
  have HI := Lib.hid h
  have HJ := Lib.hid h2
  obtain ⟨A, c, rfl, hz⟩ := h
  obtain ⟨A2, c2, rfl, hz2⟩ := h2
  clear hz hz2
  refine (callsIn_wide (n := 0)).1 ?_
  refine callsIn_of_wp_marks Try.func11 rfl trivial ?_
  simp only [Try.ntmps11, List.size_toArray, List.length_cons, List.length_nil, Nat.reduceAdd, Nat.reduceSub, Array.replicate_succ, Array.replicate_zero, List.push_toArray, List.append_toArray, List.nil_append, List.cons_append]
  gi_wp2
  have M1 := Lib.hid (show Box ((w.alloc (.cells #[.int .i64 a, .int .i64 i] 23)).alloc (.cells #[.int .i64 n] 3)) w.heap.size a i from (Below.heap_alloc _ _ _ (by simp)).trans (box_new w a i))
  have N1 := Lib.hid (show One ((w.alloc (.cells #[.int .i64 a, .int .i64 i] 23)).alloc (.cells #[.int .i64 n] 3)) (w.heap.size + 1) 3 (.int .i64 n) from by have := one_new (w.alloc (.cells #[.int .i64 a, .int .i64 i] 23)) 3 (.int .i64 n); simpa using this)
  have B1 := Lib.hid (below_two w (.cells #[.int .i64 a, .int .i64 i] 23) (.cells #[.int .i64 n] 3))
  have HS1 := Lib.hid (show ((w.alloc (.cells #[.int .i64 a, .int .i64 i] 23)).alloc (.cells #[.int .i64 n] 3)).heap.size = w.heap.size + 2 by simp)
  generalize (w.alloc (.cells #[.int .i64 a, .int .i64 i] 23)).alloc (.cells #[.int .i64 n] 3) = w1 at *
  have I1 := Lib.hid (HI.out.below B1.out)
  have J1 := Lib.hid (HJ.out.below B1.out)
  have HS := Lib.hid fun w' (hb : Below w1.heap.size w1 w') => box_cells (box_below M1.out hb)
  refine wpIn_mono (Q := onwards fun a1 W => ∃ (X : Nat) (u13 v1 : Value), a1 = { tmps := #[.slice A l.length c, .agg #[.int .i64 a, .int .i64 i], .slice A2 nt.length c2, .int .i64 n, undef, .pointer (some ⟨w.heap.size, 0, none⟩), undef, .pointer (some ⟨w.heap.size + 1, 0, none⟩), .slice none 0 0, .pointer (some ⟨X, 0, none⟩), undef, .slice A l.length c, .slice A2 nt.length c2, u13, .agg #[.int .i64 a, .int .i64 i], v1, undef, undef, undef, undef, undef, undef, undef, undef, undef, undef, undef, undef, undef, undef, undef, undef], defers := [] } ∧ WatA w1 W X v1 (del (both l nt) (a, i))) ?reg ?rest
  case reg =>
    refine wpIn_wide.2 ?_
    have KB := Lib.hid (show Below w1.heap.size w1 w1.drew from (Below.refl _ _).drew)
    refine wp_region_held_drew (S := (fun w' : World => w'.cell? ⟨w.heap.size, 0, none⟩ = some (.int .i64 a) ∧ w'.cell? ⟨w.heap.size, 1, none⟩ = some (.int .i64 i))) (by kernel_rfl) ?_ (fun hHeld => ?_)
    · exact HS.out _ (Below.refl _ _).drew
    (refine wpAnyH_take (i := 0) (oi := ⟨_, _, _, _, _, _⟩) (v := ?_) rfl (by kernel_rfl) (by kernel_rfl) (by kernel_rfl) (fun _ _ _ h => h) (Or.inl ⟨by rfl, ?_⟩) (by assumption) ?_; rotate_left 1; · (intro w hSw; (try dsimp only at hSw); go_simp; all_goals with_reducible rfl))
    try simp only [Act.put, List.setIfInBounds_toArray, List.set_cons_zero, List.set_cons_succ]
    (refine wpAnyH_take (i := 1) (oi := ⟨_, _, _, _, _, _⟩) (v := ?_) rfl (by kernel_rfl) (by kernel_rfl) (by kernel_rfl) (fun _ _ _ h => h) (Or.inl ⟨by rfl, ?_⟩) (by assumption) ?_; rotate_left 1; · (intro w hSw; (try dsimp only at hSw); go_simp; all_goals with_reducible rfl))
    try simp only [Act.put, List.setIfInBounds_toArray, List.set_cons_zero, List.set_cons_succ]
    (refine wpAnyH_take (i := 3) (oi := ⟨_, _, _, _, _, _⟩) (v := ?_) rfl (by kernel_rfl) (by kernel_rfl) (by kernel_rfl) (fun _ _ _ h => h) (Or.inl ⟨by rfl, ?_⟩) (by assumption) ?_; rotate_left 1; · (intro w hSw; (try dsimp only at hSw); go_simp; all_goals with_reducible rfl))
    try simp only [Act.put, List.setIfInBounds_toArray, List.set_cons_zero, List.set_cons_succ]
    refine wpAnyH_ready (rs := [2, 5]) (by kernel_rfl) (by simp) ?_
    refine AllReadyH.cons (o := ⟨_, _, _, _, _, _⟩) rfl (fun Kq hKq => ?_) (AllReadyH.cons (o := ⟨_, _, _, _, _, _⟩) rfl (fun Kq hKq => ?_) (AllReadyH.nil))
    · go_simp
      clear hHeld
      go_at_call 23; (with_reducible refine (both_any _ _ l nt _ (I1.out.below KB.out) (J1.out.below KB.out) (by omega) (by omega)).mono ?_); rintro e wb ⟨u13, rfl, hi, hb⟩; have IU := Lib.hid hi; have KB := Lib.hid (KB.out.trans (hb.mono KB.out.size)); have HB2 := Lib.hid hb; clear hi hb
      refine hKq.out _ _ ?_ (fun hHeld => ?_)
      · (try dsimp only); exact HS.out _ KB.out
      clear hKq Kq
      try simp only [Act.put, List.setIfInBounds_toArray, List.set_cons_zero, List.set_cons_succ]
      refine wpAnyH_ready (rs := [4, 5]) (by kernel_rfl) (by simp) ?_
      refine AllReadyH.cons (o := ⟨_, _, _, _, _, _⟩) rfl (fun Kq hKq => ?_) (AllReadyH.cons (o := ⟨_, _, _, _, _, _⟩) rfl (fun Kq hKq => ?_) (AllReadyH.nil))
      · go_simp
        clear hHeld
        go_at_call 22; (with_reducible refine (del_new _ (both l nt) a i _ IU.out (Nat.le_trans (len_both l nt) (by omega))).mono ?_); rintro e wd ⟨v1, rfl, ho, hb⟩; obtain ⟨Av, cv, rfl, hz⟩ := ids_of_owns ho; clear hz; have DV := Lib.hid fun g (hg : (Value.slice Av (del (both l nt) (a, i)).length cv).ownBlock = some g) => World.ownsRow.lt ho g hg; have OV := Lib.hid (ho.mono KB.out.size); have KB := Lib.hid (KB.out.trans (hb.mono KB.out.size)); clear ho hb
        refine hKq.out _ _ ?_ (fun hHeld => ?_)
        · (try dsimp only); exact HS.out _ KB.out
        clear hKq Kq
        try simp only [Act.put, List.setIfInBounds_toArray, List.set_cons_zero, List.set_cons_succ]
        refine wpAnyH_ready (rs := [5]) (by kernel_rfl) (by simp) ?_
        refine AllReadyH.cons (o := ⟨_, _, _, _, _, _⟩) rfl (fun Kq hKq => ?_) (AllReadyH.nil)
        go_simp
        clear hHeld
        have HB5 := Lib.hid (show Below wd.heap.size wd (wd.alloc (.cells #[.slice none 0 0] 25)) from (below_one wd (.cells #[.slice none 0 0] 25))); have XO := Lib.hid (show One (wd.alloc (.cells #[.slice none 0 0] 25)) wd.heap.size 25 (.slice none 0 0) from one_new wd _ _); have XB := Lib.hid (show w1.heap.size ≤ wd.heap.size from KB.out.size); have OD := Lib.hid OV.out; have KD := Lib.hid KB.out; have OV := Lib.hid (OV.out.below HB5.out); have KB := Lib.hid (KB.out.trans (HB5.out.mono KB.out.size))
        refine hKq.out _ _ ?_ (fun hHeld => ?_)
        · (try dsimp only); exact HS.out _ KB.out
        clear hKq Kq
        try simp only [Act.put, List.setIfInBounds_toArray, List.set_cons_zero, List.set_cons_succ]
        refine wpAnyH_ready (rs := [6]) (by kernel_rfl) (by simp) ?_
        refine AllReadyH.cons (o := ⟨_, _, _, _, _, _⟩) rfl (fun Kq hKq => ?_) (AllReadyH.nil)
        have fX := one_free XO.out
        have cX := one_cell XO.out
        go_simp
        clear hHeld
        have FIN := Lib.hid (show WatA w1 (wd.alloc (.cells #[(.slice Av (del (both l nt) (a, i)).length cv)] 25)) wd.heap.size (.slice Av (del (both l nt) (a, i)).length cv) (del (both l nt) (a, i)) from ⟨one_new wd 25 _, OD.out.below (below_one wd _), fun g hg => by have := DV.out g hg; omega, KD.out.size, KD.out.trans ((below_one wd _).mono KD.out.size)⟩)
        refine hKq.out _ _ ?_ (fun hHeld => ?_)
        · (try dsimp only); exact HS.out _ FIN.out.below
        clear hKq Kq
        try simp only [Act.put, List.setIfInBounds_toArray, List.set_cons_zero, List.set_cons_succ]
        refine wpAnyH_done (by kernel_rfl) ?_ _
        exact ⟨_, _, _, rfl, FIN.out⟩
      · go_simp
        clear hHeld
        have HB5 := Lib.hid (show Below wb.heap.size wb (wb.alloc (.cells #[.slice none 0 0] 25)) from (below_one wb (.cells #[.slice none 0 0] 25))); have XO := Lib.hid (show One (wb.alloc (.cells #[.slice none 0 0] 25)) wb.heap.size 25 (.slice none 0 0) from one_new wb _ _); have XB := Lib.hid (show w1.heap.size ≤ wb.heap.size from KB.out.size); have IU := Lib.hid (IU.out.below HB5.out); have KB := Lib.hid (KB.out.trans (HB5.out.mono KB.out.size))
        refine hKq.out _ _ ?_ (fun hHeld => ?_)
        · (try dsimp only); exact HS.out _ KB.out
        clear hKq Kq
        try simp only [Act.put, List.setIfInBounds_toArray, List.set_cons_zero, List.set_cons_succ]
        refine wpAnyH_ready (rs := [4]) (by kernel_rfl) (by simp) ?_
        refine AllReadyH.cons (o := ⟨_, _, _, _, _, _⟩) rfl (fun Kq hKq => ?_) (AllReadyH.nil)
        go_simp
        clear hHeld
        go_at_call 22; (with_reducible refine (del_new _ (both l nt) a i _ IU.out (Nat.le_trans (len_both l nt) (by omega))).mono ?_); rintro e wd ⟨v1, rfl, ho, hb⟩; obtain ⟨Av, cv, rfl, hz⟩ := ids_of_owns ho; clear hz; have DV := Lib.hid fun g (hg : (Value.slice Av (del (both l nt) (a, i)).length cv).ownBlock = some g) => World.ownsRow.lt ho g hg; have OV := Lib.hid (ho.mono KB.out.size); have KB := Lib.hid (KB.out.trans (hb.mono KB.out.size)); have XL := Lib.hid (one_lt XO.out); have XO := Lib.hid (one_below XO.out hb); clear ho hb
        refine hKq.out _ _ ?_ (fun hHeld => ?_)
        · (try dsimp only); exact HS.out _ KB.out
        clear hKq Kq
        try simp only [Act.put, List.setIfInBounds_toArray, List.set_cons_zero, List.set_cons_succ]
        refine wpAnyH_ready (rs := [6]) (by kernel_rfl) (by simp) ?_
        refine AllReadyH.cons (o := ⟨_, _, _, _, _, _⟩) rfl (fun Kq hKq => ?_) (AllReadyH.nil)
        have fX := one_free XO.out
        have cX := one_cell XO.out
        go_simp
        clear hHeld
        have FIN := Lib.hid (show WatA w1 (wd.setCell ⟨wb.heap.size, 0, none⟩ (.slice Av (del (both l nt) (a, i)).length cv)) wb.heap.size (.slice Av (del (both l nt) (a, i)).length cv) (del (both l nt) (a, i)) from ⟨one_set XO.out _, OV.out.kept (grown_set _ _ _ _) (fun g hg e => by have := DV.out g hg; have := XL.out; injection e with e; omega), fun g hg => by have := DV.out g hg; have := XL.out; omega, XB.out, KB.out.setCell (p := ⟨wb.heap.size, 0, none⟩) XB.out _⟩)
        refine hKq.out _ _ ?_ (fun hHeld => ?_)
        · (try dsimp only); exact HS.out _ FIN.out.below
        clear hKq Kq
        try simp only [Act.put, List.setIfInBounds_toArray, List.set_cons_zero, List.set_cons_succ]
        refine wpAnyH_done (by kernel_rfl) ?_ _
        exact ⟨_, _, _, rfl, FIN.out⟩
    · go_simp
      clear hHeld
      have HB5 := Lib.hid (show Below w1.heap.size w1 (w1.alloc (.cells #[.slice none 0 0] 25)).drew from (below_one w1 (.cells #[.slice none 0 0] 25)).drew); have XO := Lib.hid (show One (w1.alloc (.cells #[.slice none 0 0] 25)).drew w1.heap.size 25 (.slice none 0 0) from one_new w1 _ _); have XB := Lib.hid (show w1.heap.size ≤ w1.heap.size from Nat.le_refl _); have KB := Lib.hid (HB5.out)
      refine hKq.out _ _ ?_ (fun hHeld => ?_)
      · (try dsimp only); exact HS.out _ KB.out
      clear hKq Kq
      try simp only [Act.put, List.setIfInBounds_toArray, List.set_cons_zero, List.set_cons_succ]
      refine wpAnyH_ready (rs := [2]) (by kernel_rfl) (by simp) ?_
      refine AllReadyH.cons (o := ⟨_, _, _, _, _, _⟩) rfl (fun Kq hKq => ?_) (AllReadyH.nil)
      go_simp
      clear hHeld
      go_at_call 23; (with_reducible refine (both_any _ _ l nt _ (I1.out.below KB.out) (J1.out.below KB.out) (by omega) (by omega)).mono ?_); rintro e wb ⟨u13, rfl, hi, hb⟩; have IU := Lib.hid hi; have KB := Lib.hid (KB.out.trans (hb.mono KB.out.size)); have XO := Lib.hid (one_below XO.out hb); have HB2 := Lib.hid hb; clear hi hb
      refine hKq.out _ _ ?_ (fun hHeld => ?_)
      · (try dsimp only); exact HS.out _ KB.out
      clear hKq Kq
      try simp only [Act.put, List.setIfInBounds_toArray, List.set_cons_zero, List.set_cons_succ]
      refine wpAnyH_ready (rs := [4]) (by kernel_rfl) (by simp) ?_
      refine AllReadyH.cons (o := ⟨_, _, _, _, _, _⟩) rfl (fun Kq hKq => ?_) (AllReadyH.nil)
      go_simp
      clear hHeld
      go_at_call 22; (with_reducible refine (del_new _ (both l nt) a i _ IU.out (Nat.le_trans (len_both l nt) (by omega))).mono ?_); rintro e wd ⟨v1, rfl, ho, hb⟩; obtain ⟨Av, cv, rfl, hz⟩ := ids_of_owns ho; clear hz; have DV := Lib.hid fun g (hg : (Value.slice Av (del (both l nt) (a, i)).length cv).ownBlock = some g) => World.ownsRow.lt ho g hg; have OV := Lib.hid (ho.mono KB.out.size); have KB := Lib.hid (KB.out.trans (hb.mono KB.out.size)); have XL := Lib.hid (one_lt XO.out); have XO := Lib.hid (one_below XO.out hb); clear ho hb
      refine hKq.out _ _ ?_ (fun hHeld => ?_)
      · (try dsimp only); exact HS.out _ KB.out
      clear hKq Kq
      try simp only [Act.put, List.setIfInBounds_toArray, List.set_cons_zero, List.set_cons_succ]
      refine wpAnyH_ready (rs := [6]) (by kernel_rfl) (by simp) ?_
      refine AllReadyH.cons (o := ⟨_, _, _, _, _, _⟩) rfl (fun Kq hKq => ?_) (AllReadyH.nil)
      have fX := one_free XO.out
      have cX := one_cell XO.out
      go_simp
      clear hHeld
      have FIN := Lib.hid (show WatA w1 (wd.setCell ⟨w1.heap.size, 0, none⟩ (.slice Av (del (both l nt) (a, i)).length cv)) w1.heap.size (.slice Av (del (both l nt) (a, i)).length cv) (del (both l nt) (a, i)) from ⟨one_set XO.out _, OV.out.kept (grown_set _ _ _ _) (fun g hg e => by have := DV.out g hg; have := XL.out; injection e with e; omega), fun g hg => by have := DV.out g hg; have := XL.out; omega, XB.out, KB.out.setCell (p := ⟨w1.heap.size, 0, none⟩) XB.out _⟩)
      refine hKq.out _ _ ?_ (fun hHeld => ?_)
      · (try dsimp only); exact HS.out _ FIN.out.below
      clear hKq Kq
      try simp only [Act.put, List.setIfInBounds_toArray, List.set_cons_zero, List.set_cons_succ]
      refine wpAnyH_done (by kernel_rfl) ?_ _
      exact ⟨_, _, _, rfl, FIN.out⟩
  case rest =>
    rintro e a1 W hQ
    cases e <;> try exact hQ.elim
    obtain ⟨X, u13, v1, rfl, HW⟩ := hQ
    have HW2 := Lib.hid HW
    have I2 := Lib.hid (I1.out.below HW.below)
    have J2 := Lib.hid (J1.out.below HW.below)
    have M2 := Lib.hid (box_below M1.out HW.below)
    have N2 := Lib.hid (one_below N1.out HW.below)
    have B2 := Lib.hid (below_after B1.out HW.below (Nat.le_refl _))
    have HS2 := Lib.hid fun w' (hb : Below W.heap.size W w') => box_cells (box_below M2.out hb)
    clear HW
    gi_wp2
    refine wpIn_mono (Q := onwards fun a1 wt => ∃ (Aw : Option Addr) (cw g0 : Nat), a1 = { tmps := #[.slice A l.length c, .agg #[.int .i64 a, .int .i64 i], .slice A2 nt.length c2, .int .i64 n, undef, .pointer (some ⟨w.heap.size, 0, none⟩), undef, .pointer (some ⟨w.heap.size + 1, 0, none⟩), .slice none 0 0, .pointer (some ⟨X, 0, none⟩), undef, .slice A l.length c, .slice A2 nt.length c2, u13, .agg #[.int .i64 a, .int .i64 i], v1, .slice A l.length c, .slice A2 nt.length c2, .slice Aw (without l nt).length cw, .agg #[.int .i64 a, .int .i64 i], .func (.func 30) #[] #[.pointer (some ⟨g0, 0, none⟩), .pointer (some ⟨g0 + 1, 0, none⟩)], undef, undef, undef, undef, undef, undef, undef, undef, undef, undef, undef], defers := [] } ∧
        One wt g0 25 (.slice Aw (without l nt).length cw) ∧ Box wt (g0 + 1) a i ∧ Owns wt W.heap.size (.slice Aw (without l nt).length cw) (without l nt) ∧ W.heap.size ≤ g0 ∧ Below W.heap.size W wt) ?reg2 ?rest2
    case reg2 =>
      refine wpIn_wide.2 ?_
      have KB := Lib.hid (show Below W.heap.size W W.drew from (Below.refl _ _).drew)
      refine wp_region_held_drew (S := (fun w' : World => w'.cell? ⟨w.heap.size, 0, none⟩ = some (.int .i64 a) ∧ w'.cell? ⟨w.heap.size, 1, none⟩ = some (.int .i64 i))) (by kernel_rfl) ?_ (fun hHeld => ?_)
      · exact HS2.out _ (Below.refl _ _).drew
      (refine wpAnyH_take (i := 0) (oi := ⟨_, _, _, _, _, _⟩) (v := ?_) rfl (by kernel_rfl) (by kernel_rfl) (by kernel_rfl) (fun _ _ _ h => h) (Or.inl ⟨by rfl, ?_⟩) (by assumption) ?_; rotate_left 1; · (intro w hSw; (try dsimp only at hSw); go_simp; all_goals with_reducible rfl))
      try simp only [Act.put, List.setIfInBounds_toArray, List.set_cons_zero, List.set_cons_succ]
      (refine wpAnyH_take (i := 1) (oi := ⟨_, _, _, _, _, _⟩) (v := ?_) rfl (by kernel_rfl) (by kernel_rfl) (by kernel_rfl) (fun _ _ _ h => h) (Or.inl ⟨by rfl, ?_⟩) (by assumption) ?_; rotate_left 1; · (intro w hSw; (try dsimp only at hSw); go_simp; all_goals with_reducible rfl))
      try simp only [Act.put, List.setIfInBounds_toArray, List.set_cons_zero, List.set_cons_succ]
      (refine wpAnyH_take (i := 3) (oi := ⟨_, _, _, _, _, _⟩) (v := ?_) rfl (by kernel_rfl) (by kernel_rfl) (by kernel_rfl) (fun _ _ _ h => h) (Or.inl ⟨by rfl, ?_⟩) (by assumption) ?_; rotate_left 1; · (intro w hSw; (try dsimp only at hSw); go_simp; all_goals with_reducible rfl))
      try simp only [Act.put, List.setIfInBounds_toArray, List.set_cons_zero, List.set_cons_succ]
      refine wpAnyH_ready (rs := [2]) (by kernel_rfl) (by simp) ?_
      refine AllReadyH.cons (o := ⟨_, _, _, _, _, _⟩) rfl (fun Kq hKq => ?_) AllReadyH.nil
      go_simp
      clear hHeld
      go_at_call 24; (with_reducible refine (without_new _ _ l nt _ (I2.out.below KB.out) (J2.out.below KB.out) (by omega) (by omega)).mono ?_); rintro e wb ⟨v8, rfl, ho, hb⟩; obtain ⟨Aw, cw, rfl, hz⟩ := ids_of_owns ho; clear hz; have OW := Lib.hid (show Owns wb W.heap.size _ _ from ho); have KB := Lib.hid (KB.out.trans (hb.mono KB.out.size)); clear ho hb
      refine hKq.out _ _ ?_ (fun hHeld => ?_)
      · (try dsimp only); exact HS2.out _ KB.out
      clear hKq Kq
      try simp only [Act.put, List.setIfInBounds_toArray, List.set_cons_zero, List.set_cons_succ]
      refine wpAnyH_ready (rs := [4]) (by kernel_rfl) (by simp) ?_
      refine AllReadyH.cons (o := ⟨_, _, _, _, _, _⟩) rfl (fun Kq hKq => ?_) AllReadyH.nil
      go_simp
      clear hHeld
      go_at_call 20; (with_reducible refine (around_any Aw (without l nt).length cw a i wb).mono ?_); rintro e wt ⟨rfl, h1, h2, hb⟩; have T1 := Lib.hid h1; have T2 := Lib.hid h2; have OW := Lib.hid (OW.out.below hb); have KW := Lib.hid KB.out.size; have KB := Lib.hid (KB.out.trans (hb.mono KB.out.size)); clear h1 h2 hb
      refine hKq.out _ _ ?_ (fun hHeld => ?_)
      · (try dsimp only); exact HS2.out _ KB.out
      clear hKq Kq
      try simp only [Act.put, List.setIfInBounds_toArray, List.set_cons_zero, List.set_cons_succ]
      refine wpAnyH_done (by kernel_rfl) ?_ _
      exact ⟨_, _, _, rfl, T1.out, T2.out, OW.out, KW.out, KB.out⟩
    rintro e a1 wt hQ
    cases e <;> try exact hQ.elim
    obtain ⟨Aw, cw, g0, rfl, T1, T2, OW, KW, KB⟩ := hQ
    have T1 := Lib.hid T1
    have T2 := Lib.hid T2
    have OW := Lib.hid OW
    have KW := Lib.hid KW
    have KB := Lib.hid KB
    have HXL := one_lt HW2.out.one
    have hs1 := HS1.out
    have hlo := HW2.out.lo
    have hwb := KW.out
    have hl3 := len_without l nt
    have B3 := Lib.hid (below_after B2.out KB.out (Nat.le_refl _))
    have N3 := Lib.hid (one_below N2.out KB.out)
    have hs4 := one_lt T1.out
    have hs5 := box_lt T2.out
    have X3 := Lib.hid (one_below HW2.out.one KB.out)
    have O3 := Lib.hid (HW2.out.owns.below KB.out)
    have F3 := Lib.hid fun g (hg : v1.ownBlock = some g) => (And.intro (HW2.out.far g hg) (World.ownsRow.lt HW2.out.owns g hg).2)
    have hrl := Lib.hid (rg_len (without l nt) (a, i))
    have hdl := Lib.hid (Nat.le_trans (len_del (both l nt) (a, i)) (len_both l nt))
    generalize hxs : rg (without l nt) (a, i) = xs at *
    generalize hD : del (both l nt) (a, i) = D at *
    have TR := Lib.hid fun (A : World) (hb : Span W.heap.size wt.heap.size wt A) => (show RdI g0 (g0 + 1) (.slice Aw (without l nt).length cw) (without l nt) a i A from ⟨(hb.2 _ hwb hs4).trans T1.out, (hb.2 _ (by omega) hs5).trans T2.out, Ids.span OW.out hb (Nat.le_refl _) (Nat.le_refl _)⟩)
    gi_wp2
    refine wp_stop (P := Try.prog) (gf := 30) (lb := #[.pointer (some ⟨g0, 0, none⟩), .pointer (some ⟨g0 + 1, 0, none⟩)]) (xs := xs) rfl (enters_fn Try.func30 (by kernel_rfl) rfl) (hxs ▸ ring_seq g0 (g0 + 1) _ (without l nt) a i (by omega)) (fun _ => rfl)
      (fun pre A => pre.length ≤ n.toNat ∧ One A (w.heap.size + 1) 3 (.int .i64 (n - pre.length)) ∧ RowI wt.heap.size W.heap.size X w1.heap.size A (D ++ pre) ∧ Below w.heap.size w A ∧ Span W.heap.size wt.heap.size wt A)
      (fun c pre A => c = .exit 0 ∧ ∃ p x, pre = p ++ [x] ∧ p.length = n.toNat ∧ RowI wt.heap.size W.heap.size X w1.heap.size A (D ++ p) ∧ Below w.heap.size w A ∧ Span W.heap.size wt.heap.size wt A)
      ?start ?keep ?keepx (fun pre A hb => TR.out A hb.2.2.2.2) (fun c pre A hb => by obtain ⟨_, _, _, _, _, _, _, hb⟩ := hb; exact TR.out A hb) ?round ?done ?stop
    case start =>
      intro A hA hb
      refine ⟨by simp, ?_, ⟨v1, one_below X3.out hb, ?_, fun g hg => ⟨(F3.out g hg).1, .inl (F3.out g hg).2⟩⟩, B3.out.trans (hb.mono B3.out.size), span_below (Span.refl _ _ _) hb (Nat.le_refl _)⟩
      · have := one_below N3.out hb
        simpa using this
      · rw [List.append_nil]
        exact O3.out.below hb
    case keep =>
      rintro pre A B ⟨h0, h1, h2, h3, h4⟩ hg
      exact ⟨h0, h1.grown hg (fun e => by injection e with e; omega), h2.grown hg (fun e => by injection e with e; omega) (fun g e => by injection e with e; left; omega), h3.grown hg h3.size (fun k e => by injection e with e; omega), h4.grown hg (Nat.le_refl _) (fun k e => by injection e with e; right; omega)⟩
    case keepx =>
      rintro cx pre A B ⟨h0, p, x, h1, hp, h2, h3, h4⟩ hg
      exact ⟨h0, p, x, h1, hp, h2.grown hg (fun e => by injection e with e; omega) (fun g e => by injection e with e; left; omega), h3.grown hg h3.size (fun k e => by injection e with e; omega), h4.grown hg (Nat.le_refl _) (fun k e => by injection e with e; right; omega)⟩
    case done =>
      rintro E ⟨h0, _, hr, hb, _⟩ hDD
      have HT := Lib.hid (List.take_of_length_le h0)
      obtain ⟨v', hX, hO, _⟩ := hr
      have cX := one_cell hX
      have HO := Lib.hid (ids_of_owns hO)
      have HBW := Lib.hid hb
      have HDD := Lib.hid hDD
      have hlt := (Array.getElem?_eq_some_iff.1 hDD).1
      clear hX hO hb hDD
      gi_wp2
      refine ⟨trivial, rfl, callsIn_wide.2 ((set_any v' _ E HO.out (by have h1 := hrl.out; have h2 := hdl.out; simp; omega)).mono ?_)⟩
      rintro e w9 ⟨v9, rfl, hi, hb⟩
      have hD9 := (hb.block _ hlt).trans HDD.out
      have HI9 := Lib.hid hi
      have HB9 := Lib.hid (below_after HBW.out hb (Nat.le_refl _))
      clear hi hb
      gi_wp2
      refine ⟨by simp, .inl ⟨_, _, rfl, run_takeDeferred hD9, ?_⟩⟩
      have hgd := grownBy_putObj' w9 wt.heap.size (.deferred none)
      refine ⟨_, results_tmp rfl _ _ _, _, rfl, ?_, HB9.out.grown hgd HB9.out.size fun k hk => by injection hk with hk; omega⟩
      rw [HT.out]
      exact Ids.cells HI9.out hgd.size (cells_deferred hD9 hgd)
    case stop =>
      rintro cx pre suf E hsp ⟨rfl, p, x, rfl, hp, hr, hb, _⟩ hDD
      have HT := Lib.hid (show xs.take n.toNat = p by rw [hsp, ← hp, List.append_assoc, List.take_left])
      obtain ⟨v', hX, hO, _⟩ := hr
      have cX := one_cell hX
      have HO := Lib.hid (ids_of_owns hO)
      have HBW := Lib.hid hb
      have HDD := Lib.hid hDD
      have hlt := (Array.getElem?_eq_some_iff.1 hDD).1
      clear hX hO hb hDD
      gi_wp2
      refine ⟨trivial, rfl, callsIn_wide.2 ((set_any v' _ E HO.out (by have h1 := hrl.out; have h2 := hdl.out; rw [hsp] at h1; simp at h1 ⊢; omega)).mono ?_)⟩
      rintro e w9 ⟨v9, rfl, hi, hb⟩
      have hD9 := (hb.block _ hlt).trans HDD.out
      have HI9 := Lib.hid hi
      have HB9 := Lib.hid (below_after HBW.out hb (Nat.le_refl _))
      clear hi hb
      gi_wp2
      refine ⟨by simp, .inl ⟨_, _, rfl, run_takeDeferred hD9, ?_⟩⟩
      have hgd := grownBy_putObj' w9 wt.heap.size (.deferred none)
      refine ⟨_, results_tmp rfl _ _ _, _, rfl, ?_, HB9.out.grown hgd HB9.out.size fun k hk => by injection hk with hk; omega⟩
      rw [HT.out]
      exact Ids.cells HI9.out hgd.size (cells_deferred hD9 hgd)
    case round =>
      rintro pre x suf A hx ⟨hp0, hn, hr, hb, hsp⟩ hA ⟨rr, hlr⟩
      have e : ∀ t : Array Value, ((#[21] : Array Tmp).zip (encI x)).foldl (fun t (p, v) => t.setIfInBounds p v) t = t.setIfInBounds 21 (.agg #[.int .i64 x.1, .int .i64 x.2]) := fun t => by simp [encI]
      rw [e]
      simp only [List.setIfInBounds_toArray, List.set_cons_zero, List.set_cons_succ]
      clear e
      gi_wp2
      have P1 := Lib.hid (below_one A (.cells #[.int .i64 x.1, .int .i64 x.2] 23))
      have P2 := Lib.hid (box_new A x.1 x.2)
      refine ⟨P1.out.block _ (by omega), P1.out.block _ (by omega), fun C hC => ?_⟩
      have gA : A.grownBy (A.alloc (.cells #[.int .i64 x.1, .int .i64 x.2] 23)) none := World.grownBy_alloc _ _ _
      have hn2 := (hn.grown gA (by simp)).grown hC (fun e => by injection e with e; omega)
      have hr2 := (hr.grown gA (by simp) (fun g e => by cases e)).grown hC (fun e => by injection e with e; omega) (fun g e => by injection e with e; left; omega)
      have hb2 := (hb.grown gA hb.size (fun k e => by cases e)).grown hC (Nat.le_trans hb.size gA.size) (fun k e => by injection e with e; omega)
      have hsp2 := (hsp.grown gA (Nat.le_refl _) (fun k e => by cases e)).grown hC (Nat.le_refl _) (fun k e => by injection e with e; right; omega)
      have hxb := Box.grown P2.out hC (fun e => by injection e with e; omega)
      have hsC : wt.heap.size + 2 ≤ C.heap.size := Nat.le_trans hA (Nat.le_trans gA.size hC.size)
      obtain ⟨x1, x2⟩ := box_cells hxb
      have cN := one_cell hn2
      have fN := one_free hn2
      have HN := Lib.hid hn2
      have HR := Lib.hid hr2
      have HB := Lib.hid hb2
      have HSP := Lib.hid hsp2
      clear hn hr hb hsp hn2 hr2 hb2 hsp2 hxb gA hC P1 P2 hlr
      by_cases hlt : n - (pre.length : Int) < 1
      · have hdec : decide (n - (pre.length : Int) < 1) = true := by simpa using hlt
        have hpl : pre.length = n.toNat := by omega
        gi_wp2
        exact ⟨rfl, rfl, rfl, pre, x, rfl, hpl, HR.out, HB.out, HSP.out⟩
      · have hdec : decide (n - (pre.length : Int) < 1) = false := by simpa using hlt
        have hwr : IntKind.i64.wrap (n - (pre.length : Int) - 1) = n - (pre.length : Int) - 1 := IntWalk.i64_in _ ⟨by omega, by omega⟩
        obtain ⟨L, hL⟩ : ∃ L, D ++ pre = L := ⟨_, rfl⟩
        have HR2 := HR.out
        rw [hL] at HR2
        obtain ⟨v', r1, r2, r3⟩ := HR2
        have HL := Lib.hid hL
        have H1 := Lib.hid r1
        have H2 := Lib.hid r2
        have H3 := Lib.hid r3
        have cX := one_cell r1
        have hpl : L.length ≤ 99999 := by rw [← hL]; have h1 := hrl.out; have h2 := hdl.out; rw [hx] at h1; simp at h1 ⊢; omega
        clear r1 r2 r3 hL
        gi_wp2_with (gi_at_builtin; refine wpListIn_push rfl (.tmp 24) (.tmp 26) rfl C w1.heap.size v' L x.1 x.2 rfl rfl H2.out hpl (by omega) ?_; intro g cap w2 p1 p2 p3 p4; have P1 := Lib.hid p1; have P2 := Lib.hid p2; have P3 := Lib.hid p3; clear p1 p2 p3; have hX2 := H1.out.grown P2.out (fun e => by have := H3.out _ e; omega); have cX := one_cell hX2; have fX := one_free hX2; clear hX2; have HN2 := Lib.hid ((HN.out.grown P2.out (fun e => by have := (World.ownsRow.lt H2.out _ e).1; omega)).grown (grown_set w2 X 0 (.slice (some ⟨g, 0, none⟩) (L.length + 1) cap)) (fun e => by injection e with e; omega)); have cN := one_cell HN2.out; have fN := one_free HN2.out)
        have hfin := RowI.pushed (by omega) hsC H1.out H3.out P1.out P2.out P3.out
        have gN := grown_set (w2.setCell ⟨X, 0, none⟩ (.slice (some ⟨g, 0, none⟩) (L.length + 1) cap)) (w.heap.size + 1) 0 (.int .i64 (n - pre.length - 1))
        have gX := grown_set w2 X 0 (.slice (some ⟨g, 0, none⟩) (L.length + 1) cap)
        have same : ∀ j, j < C.heap.size → j = wt.heap.size ∨ j = wt.heap.size + 1 → ((w2.setCell ⟨X, 0, none⟩ (.slice (some ⟨g, 0, none⟩) (L.length + 1) cap)).setCell ⟨w.heap.size + 1, 0, none⟩ (.int .i64 (n - pre.length - 1))).heap[j]? = C.heap[j]? := fun j hj hjX => by
          rw [Below.heap_setCell _ _ _ _ (show j ≠ w.heap.size + 1 by omega), Below.heap_setCell _ _ _ _ (show j ≠ X by omega), P2.out.block j hj (fun e => by have := H3.out j e.symm; omega)]
        refine ⟨same _ (by omega) (.inl rfl), same _ (by omega) (.inr rfl), ?_, ?_, ?_, ?_, ?_⟩
        · omega
        · have := one_set HN2.out (.int .i64 (n - pre.length - 1))
          rw [show n - ((pre.length : Int) + 1) = n - pre.length - 1 by omega]
          exact this
        · rw [← List.append_assoc, HL.out]
          have h9 := hfin.grown gN (fun e => by injection e with e; omega) (fun g e => by injection e with e; right; omega)
          rw [hs1] at h9
          exact h9
        · exact ((HB.out.grown P2.out HB.out.size (fun k e => by have := (World.ownsRow.lt H2.out k e).1; omega)).grown gX (Nat.le_trans HB.out.size P2.out.size) (fun k e => by injection e with e; omega)).grown gN (Nat.le_trans HB.out.size (Nat.le_trans P2.out.size gX.size)) (fun k e => by injection e with e; omega)
        · exact ((HSP.out.grown P2.out (Nat.le_refl _) (fun k e => by have := H3.out k e; omega)).grown gX (Nat.le_refl _) (fun k e => by injection e with e; left; omega)).grown gN (Nat.le_refl _) (fun k e => by injection e with e; left; omega)
end Go.Proofs.Ytbjknjbjldodlaa
