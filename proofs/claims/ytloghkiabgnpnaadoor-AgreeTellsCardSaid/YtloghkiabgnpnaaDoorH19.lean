/-
  Carried over and put together: contracts of this program's functions, and plain facts. No statement is proved in this text.
-/
import Derived.Deep.QuietTactic
import Derived.Test.YtloghkiabgnpnaaDoorKAgrK
namespace Go.Proofs.YtloghkiabgnpnaaDoor
open Go Go.RowKit
/-- append of a list of rows, in a region that draws its order. -/
theorem step_append_rows {ops : Array Oper} {o : Oper} {a : Act} {K : Act → World → Prop} {Q : Exit → Act → World → Prop} {E : Prop} (hgd : o.guard = none) (s x : Operand)
    (ho : o.op = .call { callee := .builtin .append, args := #[s, x], argTypes := #[26, 26] })
    (W : World) (base : Nat) (v u : Value) (d l : List Raw) (hs : a.eval s = v) (hx : a.eval x = u)
    (hown : OwnsW W base v d) (hI : Rcs encW 4 W u l) (hl : d.length + l.length ≤ 100000) (hb : base ≤ W.heap.size)
    (h : ∀ v' w', OwnsW w' base v' (d ++ l) → W.grownBy w' v.ownBlock → Below base W w' → K (a.put o.dst v') w') :
    if Region.wanted o (yielded ops a.tmps) = true then Oper.wp Tryd.prog o a W K Q else E := by
  have hw : Region.wanted o (yielded ops a.tmps) = true := by simp [Region.wanted, hgd]
  rw [if_pos hw]
  obtain ⟨i0, hi, hz0, hz1, hz2⟩ := info_parts infoW
  obtain ⟨A, c, rfl, hn0, hc, hk⟩ := hI
  cases A with
  | none =>
    obtain rfl := hn0 rfl
    have hn : l = [] := List.eq_nil_of_length_eq_zero (by omega)
    subst hn
    have hrun := run_append_owned_none (P := Tryd.prog) (w := W) base 26 o.type 37 i0 4 Tryd.underlying26 hi v d.length (flatR encW d) hown
    unfold Oper.wp
    simp [execOp, ho, resolve, invoke, builtin, hs, hx, hrun, Result.andThen]
    exact h _ _ (by rw [List.append_nil]; exact hown) (World.grownBy.refl _ _) (Below.refl _ _)
  | some ad =>
    refine wp_append_own W s x 26 ho base 37 i0 (.agg #[.int .i64 0, .int .i64 0, .int .i64 0, .slice none 0 0]) 4 48 Tryd.underlying26 hi hz0 hz1 hz2 rfl (by decide) v d.length (flatR encW d) hs hown ad l.length c (flatR encW l) hx (flatR_len encW_len l)
      (fun j u hu => ?_) (fun u hu => ?_) (by unfold maxLen; omega) (by omega) hb ?_
    · obtain ⟨k, hlt, i, rfl, hu2⟩ := flatR_split encW_len (by omega) hu
      obtain ⟨ad', e, h1, h2⟩ := hk k hlt
      injection e with e
      subst e
      exact h2 i u hu2
    · obtain ⟨x, _, hx⟩ := List.mem_flatMap.1 hu
      exact encW_one x u hx
    · intro v' w' h1 h2 _
      refine h v' w' ?_ h2 ((Below.refl base W).grown h2 hb fun k hk => (World.ownsRow.lt hown k hk).1)
      show w'.ownsRow base 37 4 v' (d ++ l).length (flatR encW (d ++ l))
      rw [flatR_append, List.length_append]
      exact h1
theorem wbox_grown {w w' : World} {g : Nat} {row : Option Nat} {a i n : Int} {v : Value} (h : WBox w g a i n v) (hg : w.grownBy w' row) (hne : row ≠ some g) : WBox w' g a i n v := (hg.block g (wbox_lt h) (fun e => hne e.symm)).trans h
theorem box_grown {w w' : World} {g : Nat} {row : Option Nat} {a i : Int} (h : Box w g a i) (hg : w.grownBy w' row) (hne : row ≠ some g) : Box w' g a i := (hg.block g (box_lt h) (fun e => hne e.symm)).trans h
theorem ownsW_apart {w : World} {base : Nat} {v : Value} {qs : List Raw} {g : Nat} {p q : Int} (h : OwnsW w base v qs) (x : Box w g p q) : v.ownBlock ≠ some g := by
  intro e
  rcases id h.2 with ⟨h1, -⟩ | ⟨g', cap, cur, h1, hb, hh, -⟩
  · rw [h1] at e
    cases e
  · rw [h1] at e
    obtain rfl : g' = g := by injection e
    have := hh.symm.trans x
    injection this with this
    injection this with _ h3 _
    exact absurd h3 (by decide)
theorem rcs_wbox {w : World} {g : Nat} {a i n : Int} {s : SL} (h : WBox w g a i n (.slice s.1 s.2.1 s.2.2)) : Rcs encW 4 w (.slice (some ⟨g, 0, none⟩) 1 1) [((a, i), n, s.1, s.2.1, s.2.2)] := by
  obtain ⟨c0, c1, c2, c3⟩ := wbox_cells h
  refine ⟨some ⟨g, 0, none⟩, 1, rfl, (fun h => by cases h), Nat.le_refl _, fun k hk => ⟨_, rfl, wbox_lt h, fun j u hu => ?_⟩⟩
  obtain rfl : k = 0 := by simpa using hk
  rw [add_lit]
  match j, hu with
  | 0, hu => cases hu; simpa using c0
  | 1, hu => cases hu; simpa using c1
  | 2, hu => cases hu; simpa using c2
  | 3, hu => cases hu; simpa [slc] using c3
  | j + 4, hu => simp [encW] at hu
theorem ids_box {w : World} {g : Nat} {a i : Int} (h : Box w g a i) : Ids w (.slice (some ⟨g, 0, none⟩) 1 1) [(a, i)] := by
  obtain ⟨c0, c1⟩ := box_cells h
  refine ⟨some ⟨g, 0, none⟩, 1, rfl, (fun h => by cases h), Nat.le_refl _, fun k hk => ⟨_, rfl, box_lt h, ?_, ?_⟩⟩
  · obtain rfl : k = 0 := by simpa using hk
    rw [add_lit]
    exact c0
  · obtain rfl : k = 0 := by simpa using hk
    rw [add_lit]
    exact c1
theorem sl_owns {w : World} {base : Nat} {v : Value} {qs : List Raw} (h : OwnsW w base v qs) : ∃ s : SL, v = .slice s.1 s.2.1 s.2.2 := sl_rcs (rcs_owns encW_len h)
theorem rows_of {w : World} {base : Nat} {v : Value} {qs : List Raw} {l : List Agr.Row} {q : Raw} {r : Agr.Row} (h : OwnsW w base v (qs ++ [q])) (h1 : EachReads w qs l) (h2 : Reads w q r) : RowsAt w v (l ++ [r]) := ⟨qs ++ [q], rcs_owns encW_len h, h1.append (EachReads.one h2)⟩
/-- What stands of the world: a view, a row, its list and an ID in blocks. -/
structure RwS (g gr gi : Nat) (a b c d e n1 : SL) (V : Vw) (x1 x2 x3 y1 y2 : Int) (not : List Sets.Id2) (W : World) : Prop where
  v : AgV g a b c d e V W
  r : WBox W gr x1 x2 x3 (.slice n1.1 n1.2.1 n1.2.2)
  n : Ids W (.slice n1.1 n1.2.1 n1.2.2) not
  i : Box W gi y1 y2
theorem RwS.below {g gr gi : Nat} {a b c d e n1 : SL} {V : Vw} {x1 x2 x3 y1 y2 : Int} {not : List Sets.Id2} {W W' : World} (h : RwS g gr gi a b c d e n1 V x1 x2 x3 y1 y2 not W) (hb : Below W.heap.size W W') : RwS g gr gi a b c d e n1 V x1 x2 x3 y1 y2 not W' :=
  ⟨h.v.below hb, wbox_below h.r hb, h.n.below hb, box_below h.i hb⟩
theorem heap_put {w : World} {x g i : Nat} {v : Value} (hx : g ≠ x) : (w.setCell ⟨x, i, none⟩ v).heap[g]? = w.heap[g]? := by
  simp [World.setCell, Array.getElem?_modify]
  intro e
  exact absurd e.symm hx
theorem RwS.put {g gr gi g2 : Nat} {a b c d e n1 p0 p1 p2 p3 p4 : SL} {V : Vw} {x1 x2 x3 y1 y2 : Int} {not : List Sets.Id2} {W : World} (h : RwS g gr gi a b c d e n1 V x1 x2 x3 y1 y2 not W) (y : VBox W g2 p0 p1 p2 p3 p4) (h1 : g ≠ g2) (h2 : gr ≠ g2) (h3 : gi ≠ g2) (k : Nat) (v : Value) : RwS g gr gi a b c d e n1 V x1 x2 x3 y1 y2 not (W.setCell ⟨g2, k, none⟩ v) :=
  ⟨⟨vbox_beside h.v.x h1 k v, h.v.r.kp (kp_cell y k v)⟩, (heap_put h2).trans h.r, h.n.kp (kp_cell y k v), (heap_put h3).trans h.i⟩
end Go.Proofs.YtloghkiabgnpnaaDoor
namespace Go.Proofs.YtloghkiabgnpnaaDoor
open Go Go.RowKit
theorem find_take {α : Type} {p : α → Bool} {l : List α} {k : Nat} (hk : k < l.length) (h : (l.take k).find? p = none) (hp : p l[k] = true) : l.find? p = some l[k] := by
  have e : l = l.take k ++ l[k] :: l.drop (k + 1) := by rw [← List.drop_eq_getElem_cons hk, List.take_append_drop]
  generalize l[k] = z at *
  rw [e, List.find?_append, h, List.find?_cons_of_pos hp]
  rfl
theorem find_next {α : Type} {p : α → Bool} {l : List α} {k : Nat} (hk : k < l.length) (h : (l.take k).find? p = none) (hp : p l[k] = false) : (l.take (k + 1)).find? p = none := by
  rw [List.take_succ_eq_append_getElem hk, List.find?_append, h, List.find?_cons_of_neg (by rw [hp]; simp)]
  rfl
/-- What is answered: a status, and whether there is one. -/
def statV (m : List Agr.Mm) (y : Sets.Id2) : Value := .tuple #[.int .u8 (Agr.st m y), .bool (Agr.isMem m y)]
theorem statV_some {m : List Agr.Mm} {y : Sets.Id2} {x : Agr.Mm} (h : getO m y = some x) : statV m y = .tuple #[.int .u8 x.2.1, .bool true] := by
  unfold statV Agr.st Agr.isMem
  rw [h]
  rfl
theorem statV_none {m : List Agr.Mm} {y : Sets.Id2} (h : getO m y = none) : statV m y = .tuple #[.int .u8 0, .bool false] := by
  unfold statV Agr.st Agr.isMem
  rw [h]
  rfl
theorem isM_yes {a i s n : Int} : isM (a, i) ((a, i), s, n) = true := by simp [isM]
theorem isM_no {x y : Sets.Id2} {s n : Int} (h : x ≠ y) : isM y (x, s, n) = false := by simp [isM, h]
set_option maxHeartbeats 4000000 in
theorem status_any (v : Value) (V : Vw) (x y : Int) (w : World) (h : VAt w v V) (hl : V.m.length ≤ 100000) :
    Calls Tryd.prog 29 #[v, .agg #[.int .i64 x, .int .i64 y]] w fun e w' => e = .returned (statV V.m (x, y)) ∧ Below w.heap.size w w' := by
  obtain ⟨a, b, c, d, e, rfl, hr⟩ := h
  have q1 := below_one w (.cells #[.slice a.1 a.2.1 a.2.2, .slice b.1 b.2.1 b.2.2, .slice c.1 c.2.1 c.2.2, .slice d.1 d.2.1 d.2.2, .slice e.1 e.2.1 e.2.2] 29)
  have q2 := below_one (w.alloc (.cells #[.slice a.1 a.2.1 a.2.2, .slice b.1 b.2.1 b.2.2, .slice c.1 c.2.1 c.2.2, .slice d.1 d.2.1 d.2.2, .slice e.1 e.2.1 e.2.2] 29)) (.cells #[.int .i64 x, .int .i64 y] 32)
  have G1 := Lib.hid ((agV_new hr).below q2)
  have X1 := Lib.hid (box_new (w.alloc (.cells #[.slice a.1 a.2.1 a.2.2, .slice b.1 b.2.1 b.2.2, .slice c.1 c.2.1 c.2.2, .slice d.1 d.2.1 d.2.2, .slice e.1 e.2.1 e.2.2] 29)) x y)
  have BB := Lib.hid (below_after q1 q2 (Nat.le_refl _))
  have HZ := Lib.hid (show (w.alloc (.cells #[.slice a.1 a.2.1 a.2.2, .slice b.1 b.2.1 b.2.2, .slice c.1 c.2.1 c.2.2, .slice d.1 d.2.1 d.2.2, .slice e.1 e.2.1 e.2.2] 29)).heap.size = w.heap.size + 1 by simp)
  have hn := rcs_len hr.m
  have HN := Lib.hid hn
  have hnl : a.2.1 ≤ 100000 := by rw [hn]; exact hl
  clear hr q1 q2 hn hl
  rw [HZ.out] at X1
  obtain ⟨p0, p1, p2, p3, p4⟩ := vbox_cells G1.out.x
  obtain ⟨i0, i1⟩ := box_cells X1.out
  go_enter Tryd.func29, Tryd.ntmps29
  go_wp2_with fail
  generalize (w.alloc (.cells #[.slice a.1 a.2.1 a.2.2, .slice b.1 b.2.1 b.2.2, .slice c.1 c.2.1 c.2.2, .slice d.1 d.2.1 d.2.2, .slice e.1 e.2.1 e.2.2] 29)).alloc (.cells #[.int .i64 x, .int .i64 y] 32) = w1 at *
  obtain ⟨g, hg⟩ : ∃ g, g = w.heap.size := ⟨_, rfl⟩
  obtain ⟨gi, hgi⟩ : ∃ g, g = w.heap.size + 1 := ⟨_, rfl⟩
  rw [← hg] at G1
  rw [← hgi] at X1
  rw [← hgi, ← hg]
  clear HZ p0 p1 p2 p3 p4 i0 i1 hg hgi
  go_loopw [6] (fun s6 wr => ∃ k : Nat, s6 = .int .i64 k ∧ k ≤ a.2.1 ∧ Hid ((V.m.take k).find? (isM (x, y)) = none) ∧ Hid (Below w1.heap.size w1 wr)) (fun s6 _ => a.2.1 - (intOf s6).toNat)
  case atStart => exact ⟨0, rfl, by omega, Lib.hid rfl, Lib.hid (Below.refl _ _)⟩
  case round =>
    obtain ⟨k, rfl, hk, HF, HB⟩ := hrel
    obtain ⟨p0, p1, p2, p3, p4⟩ := vbox_cells (G1.out.below HB.out).x
    obtain ⟨i0, i1⟩ := box_cells (box_below X1.out HB.out)
    by_cases hlt : k < a.2.1
    · have hd : decide (k < a.2.1) = true := decide_eq_true hlt
      have i3 : (0 : Int) ≤ (k : Int) := by omega
      have i4 : (k : Int) < (a.2.1 : Int) := by omega
      have hkm : k < V.m.length := by have := HN.out; omega
      obtain ⟨ad, hA, c1, c2, c3, c4⟩ := G1.out.r.m.at_ HB.out hkm
      have HY := Lib.hid fun (h : isM (x, y) V.m[k] = true) => find_take hkm HF.out h
      have HNx := Lib.hid fun (h : isM (x, y) V.m[k] = false) => find_next hkm HF.out h
      have HE : Hid (V.m[k] = ((V.m[k].1.1, V.m[k].1.2), V.m[k].2.1, V.m[k].2.2)) := Lib.hid rfl
      rw [HE.out] at HY HNx
      have p0' := p0.trans (show some (Value.slice a.1 a.2.1 a.2.2) = some (Value.slice (some ad) a.2.1 a.2.2) by rw [hA])
      clear HE hA p0
      generalize V.m[k].1.1 = x1 at *
      generalize V.m[k].1.2 = x2 at *
      generalize V.m[k].2.1 = x3 at *
      generalize V.m[k].2.2 = x4 at *
      clear hkm
      by_cases hx : x1 = x
      · subst hx
        by_cases hy : x2 = y
        · subst hy
          have HR := Lib.hid (statV_some (HY.out isM_yes))
          clear HY HNx
          go_wp2_with fail
          go_quiet (fail)
          go_wp2_with fail
          go_ret2
          exact ⟨by rw [HR.out]; rfl, below_drewN (below_after BB.out HB.out (Nat.le_refl _))⟩
        · have h2 : (x2 == y) = false := by simpa using hy
          have HF2 := Lib.hid (HNx.out (isM_no fun e => hy (by injection e)))
          clear HY HNx hy
          go_wp2_with fail
          go_quiet (fail)
          go_wp2_with fail
          go_roundw
          case rel => exact ⟨k + 1, by go_num, by omega, HF2, Lib.hid (below_drewN HB.out)⟩
          case measure => simp [intOf]; omega
      · have h2 : (x1 == x) = false := by simpa using hx
        have HF2 := Lib.hid (HNx.out (isM_no fun e => hx (by injection e)))
        clear HY HNx hx
        go_wp2_with fail
        go_quiet (fail)
        go_wp2_with fail
        go_roundw
        case rel => exact ⟨k + 1, by go_num, by omega, HF2, Lib.hid (below_drewN HB.out)⟩
        case measure => simp [intOf]; omega
    · have hd : decide (k < a.2.1) = false := decide_eq_false hlt
      have HR := Lib.hid (statV_none (show getO V.m (x, y) = none from by have := HF.out; rwa [List.take_of_length_le (by have := HN.out; omega)] at this))
      go_wp2_with fail
      go_ret2
      exact ⟨by rw [HR.out]; rfl, below_after BB.out HB.out (Nat.le_refl _)⟩
set_option maxHeartbeats 4000000 in
theorem refStatus_any (v : Value) (V : Vw) (x y : Int) (w : World) (h : VAt w v V) (hl : V.m.length ≤ 100000) :
    Calls Tryd.prog 37 #[v, .agg #[.int .i64 x, .int .i64 y]] w fun e w' => e = .returned (statV V.m (x, y)) ∧ Below w.heap.size w w' := by
  obtain ⟨a, b, c, d, e, rfl, hr⟩ := h
  have q1 := below_one w (.cells #[.slice a.1 a.2.1 a.2.2, .slice b.1 b.2.1 b.2.2, .slice c.1 c.2.1 c.2.2, .slice d.1 d.2.1 d.2.2, .slice e.1 e.2.1 e.2.2] 29)
  have q2 := below_one (w.alloc (.cells #[.slice a.1 a.2.1 a.2.2, .slice b.1 b.2.1 b.2.2, .slice c.1 c.2.1 c.2.2, .slice d.1 d.2.1 d.2.2, .slice e.1 e.2.1 e.2.2] 29)) (.cells #[.int .i64 x, .int .i64 y] 32)
  have G1 := Lib.hid ((agV_new hr).below q2)
  have X1 := Lib.hid (box_new (w.alloc (.cells #[.slice a.1 a.2.1 a.2.2, .slice b.1 b.2.1 b.2.2, .slice c.1 c.2.1 c.2.2, .slice d.1 d.2.1 d.2.2, .slice e.1 e.2.1 e.2.2] 29)) x y)
  have BB := Lib.hid (below_after q1 q2 (Nat.le_refl _))
  have HZ := Lib.hid (show (w.alloc (.cells #[.slice a.1 a.2.1 a.2.2, .slice b.1 b.2.1 b.2.2, .slice c.1 c.2.1 c.2.2, .slice d.1 d.2.1 d.2.2, .slice e.1 e.2.1 e.2.2] 29)).heap.size = w.heap.size + 1 by simp)
  have hn := rcs_len hr.m
  have HN := Lib.hid hn
  have hnl : a.2.1 ≤ 100000 := by rw [hn]; exact hl
  clear hr q1 q2 hn hl
  rw [HZ.out] at X1
  obtain ⟨p0, p1, p2, p3, p4⟩ := vbox_cells G1.out.x
  obtain ⟨i0, i1⟩ := box_cells X1.out
  go_enter Tryd.func37, Tryd.ntmps37
  go_wp2_with fail
  generalize (w.alloc (.cells #[.slice a.1 a.2.1 a.2.2, .slice b.1 b.2.1 b.2.2, .slice c.1 c.2.1 c.2.2, .slice d.1 d.2.1 d.2.2, .slice e.1 e.2.1 e.2.2] 29)).alloc (.cells #[.int .i64 x, .int .i64 y] 32) = w1 at *
  obtain ⟨g, hg⟩ : ∃ g, g = w.heap.size := ⟨_, rfl⟩
  obtain ⟨gi, hgi⟩ : ∃ g, g = w.heap.size + 1 := ⟨_, rfl⟩
  rw [← hg] at G1
  rw [← hgi] at X1
  rw [← hgi, ← hg]
  clear HZ p0 p1 p2 p3 p4 i0 i1 hg hgi
  go_loopw [6] (fun s6 wr => ∃ k : Nat, s6 = .int .i64 k ∧ k ≤ a.2.1 ∧ Hid ((V.m.take k).find? (isM (x, y)) = none) ∧ Hid (Below w1.heap.size w1 wr)) (fun s6 _ => a.2.1 - (intOf s6).toNat)
  case atStart => exact ⟨0, rfl, by omega, Lib.hid rfl, Lib.hid (Below.refl _ _)⟩
  case round =>
    obtain ⟨k, rfl, hk, HF, HB⟩ := hrel
    obtain ⟨p0, p1, p2, p3, p4⟩ := vbox_cells (G1.out.below HB.out).x
    obtain ⟨i0, i1⟩ := box_cells (box_below X1.out HB.out)
    by_cases hlt : k < a.2.1
    · have hd : decide (k < a.2.1) = true := decide_eq_true hlt
      have i3 : (0 : Int) ≤ (k : Int) := by omega
      have i4 : (k : Int) < (a.2.1 : Int) := by omega
      have hkm : k < V.m.length := by have := HN.out; omega
      obtain ⟨ad, hA, c1, c2, c3, c4⟩ := G1.out.r.m.at_ HB.out hkm
      have HY := Lib.hid fun (h : isM (x, y) V.m[k] = true) => find_take hkm HF.out h
      have HNx := Lib.hid fun (h : isM (x, y) V.m[k] = false) => find_next hkm HF.out h
      have HE : Hid (V.m[k] = ((V.m[k].1.1, V.m[k].1.2), V.m[k].2.1, V.m[k].2.2)) := Lib.hid rfl
      rw [HE.out] at HY HNx
      have p0' := p0.trans (show some (Value.slice a.1 a.2.1 a.2.2) = some (Value.slice (some ad) a.2.1 a.2.2) by rw [hA])
      clear HE hA p0
      generalize V.m[k].1.1 = x1 at *
      generalize V.m[k].1.2 = x2 at *
      generalize V.m[k].2.1 = x3 at *
      generalize V.m[k].2.2 = x4 at *
      clear hkm
      by_cases hx : x1 = x
      · subst hx
        by_cases hy : x2 = y
        · subst hy
          have HR := Lib.hid (statV_some (HY.out isM_yes))
          clear HY HNx
          go_wp2_with fail
          go_quiet (fail)
          go_wp2_with fail
          go_ret2
          exact ⟨by rw [HR.out]; rfl, below_drewN (below_after BB.out HB.out (Nat.le_refl _))⟩
        · have h2 : (x2 == y) = false := by simpa using hy
          have HF2 := Lib.hid (HNx.out (isM_no fun e => hy (by injection e)))
          clear HY HNx hy
          go_wp2_with fail
          go_quiet (fail)
          go_wp2_with fail
          go_roundw
          case rel => exact ⟨k + 1, by go_num, by omega, HF2, Lib.hid (below_drewN HB.out)⟩
          case measure => simp [intOf]; omega
      · have h2 : (x1 == x) = false := by simpa using hx
        have HF2 := Lib.hid (HNx.out (isM_no fun e => hx (by injection e)))
        clear HY HNx hx
        go_wp2_with fail
        go_quiet (fail)
        go_wp2_with fail
        go_roundw
        case rel => exact ⟨k + 1, by go_num, by omega, HF2, Lib.hid (below_drewN HB.out)⟩
        case measure => simp [intOf]; omega
    · have hd : decide (k < a.2.1) = false := decide_eq_false hlt
      have HR := Lib.hid (statV_none (show getO V.m (x, y) = none from by have := HF.out; rwa [List.take_of_length_le (by have := HN.out; omega)] at this))
      go_wp2_with fail
      go_ret2
      exact ⟨by rw [HR.out]; rfl, below_after BB.out HB.out (Nat.le_refl _)⟩
end Go.Proofs.YtloghkiabgnpnaaDoor
