/-
  Carried over and put together: contracts of this program's functions, and plain facts. No statement is proved in this text.
-/
import Derived.Test.YtloghkiabgnpnaaDoorH18
namespace Go.Proofs.YtloghkiabgnpnaaDoor
open Go Go.RowKit
/-- A list of one ID of the call's own lies in a row. -/
theorem owns_some {w : World} {base : Nat} {v : Value} {x : Int} (h : Owns w base v (allOf [x])) : ∃ g c, v = .slice (some ⟨g, 0, none⟩) 1 c := by
  rcases owns_split h with ⟨-, h2⟩ | ⟨g, cap, h1, -, -⟩
  · cases h2
  · exact ⟨g, cap, h1⟩
set_option maxHeartbeats 4000000 in
theorem rowsOf_any (x : Int) (u : Value) (l : List Int) (w : World) (h : Nums w u l) (hl : l.length ≤ 1000) : Calls Tryd.prog 14 #[.int .i64 x, u] w fun e w' => ∃ s : SL, e = .returned (.slice s.1 s.2.1 s.2.2) ∧ RowsAt w' (.slice s.1 s.2.1 s.2.2) [((x, 1), 0, allOf l)] ∧ Below w.heap.size w w' := by
  have PB0 := Lib.hid (Below.refl w.heap.size w).drew
  have PB := PB0
  have UB := Lib.hid (h.below PB0.out)
  clear h
  go_enter Tryd.func14, Tryd.ntmps14
  go_upto_region 1 with fail
  refine wp_region_held_drew (S := fun w' => Below w.heap.size w w') (by kernel_rfl) ?_ (fun hHeld => ?_)
  · exact PB0.out
  generalize w.drew = W0 at *
  (refine wpAnyH_take (i := 0) (oi := ⟨_, _, _, _, _, _⟩) (v := ?_) rfl (by kernel_rfl) (by kernel_rfl) (by kernel_rfl) (fun _ _ _ h => h) (Or.inl ⟨by rfl, ?_⟩) (by assumption) ?_; rotate_left 1; · (intro w hSw; (try dsimp only at hSw); go_simp; all_goals with_reducible rfl))
  try simp only [Act.put, List.setIfInBounds_toArray, List.set_cons_zero, List.set_cons_succ]
  (refine wpAnyH_take (i := 5) (oi := ⟨_, _, _, _, _, _⟩) (v := ?_) rfl (by kernel_rfl) (by kernel_rfl) (by kernel_rfl) (fun _ _ _ h => h) (Or.inl ⟨by rfl, ?_⟩) (by assumption) ?_; rotate_left 1; · (intro w hSw; (try dsimp only at hSw); go_simp; all_goals with_reducible rfl))
  try simp only [Act.put, List.setIfInBounds_toArray, List.set_cons_zero, List.set_cons_succ]
  refine wpAnyH_ready (rs := [1]) (by kernel_rfl) (by simp) ?_
  refine AllReadyH.cons (o := ⟨_, _, _, _, _, _⟩) rfl (fun Kq hKq => ?_) (AllReadyH.nil)
  go_simp
  clear hHeld
  have hq := below_one W0 (.cells #[.int .i64 x] 3); have P1 := Lib.hid (below_after PB.out hq (Nat.le_refl _)); have U1 := Lib.hid (UB.out.below hq); have N1 := Lib.hid (show Nums (W0.alloc (.cells #[.int .i64 x] 3)) (.slice (some ⟨W0.heap.size, 0, none⟩) 1 1) [x] from nums_lit W0 [x]); generalize W0.alloc (.cells #[.int .i64 x] 3) = v1 at *; clear hq
  refine hKq.out _ _ ?_ (fun hHeld => ?_)
  · (try dsimp only); exact P1.out
  clear hKq Kq
  try simp only [Act.put, List.setIfInBounds_toArray, List.set_cons_zero, List.set_cons_succ]
  refine wpAnyH_ready (rs := [2]) (by kernel_rfl) (by simp) ?_
  refine AllReadyH.cons (o := ⟨_, _, _, _, _, _⟩) rfl (fun Kq hKq => ?_) (AllReadyH.nil)
  go_simp
  clear hHeld
  (with_reducible refine (allOf_any _ [x] _ N1.out (by simp)).mono ?_); rintro e v2 ⟨u2, rfl, ho, hb⟩; have P2 := Lib.hid (below_after P1.out hb (Nat.le_refl _)); have U2 := Lib.hid (U1.out.below hb); obtain ⟨g2, c2, rfl⟩ := owns_some ho; have O2 := Lib.hid ho; clear ho hb
  refine hKq.out _ _ ?_ (fun hHeld => ?_)
  · (try dsimp only); exact P2.out
  clear hKq Kq
  try simp only [Act.put, List.setIfInBounds_toArray, List.set_cons_zero, List.set_cons_succ]
  (refine wpAnyH_take (i := 3) (oi := ⟨_, _, _, _, _, _⟩) (v := ?_) rfl (by kernel_rfl) (by kernel_rfl) (by kernel_rfl) (fun _ _ _ h => h) (Or.inl ⟨by rfl, ?_⟩) (by assumption) ?_; rotate_left 1; · (intro w hSw; (try dsimp only at hSw); go_simp; all_goals with_reducible rfl))
  try simp only [Act.put, List.setIfInBounds_toArray, List.set_cons_zero, List.set_cons_succ]
  refine wpAnyH_ready (rs := [4, 6]) (by kernel_rfl) (by simp) ?_
  refine AllReadyH.cons (o := ⟨_, _, _, _, _, _⟩) rfl (fun Kq hKq => ?_) (AllReadyH.cons (o := ⟨_, _, _, _, _, _⟩) rfl (fun Kq hKq => ?_) (AllReadyH.nil))
  · obtain ⟨k0, k1⟩ := owns_head O2.out
    go_simp
    clear hHeld
    clear k0 k1
    refine hKq.out _ _ ?_ (fun hHeld => ?_)
    · (try dsimp only); exact P2.out
    clear hKq Kq
    try simp only [Act.put, List.setIfInBounds_toArray, List.set_cons_zero, List.set_cons_succ]
    refine wpAnyH_ready (rs := [6]) (by kernel_rfl) (by simp) ?_
    refine AllReadyH.cons (o := ⟨_, _, _, _, _, _⟩) rfl (fun Kq hKq => ?_) (AllReadyH.nil)
    go_simp
    clear hHeld
    (with_reducible refine (allOf_any _ l _ U2.out hl).mono ?_); rintro e v6 ⟨u6, rfl, ho, hb⟩; have P6 := Lib.hid (below_after P2.out hb (Nat.le_refl _)); have O6 := Lib.hid (O2.out.below hb); have I6 := Lib.hid (ids_of_owns ho); obtain ⟨n6, hn6⟩ := sl_ids I6.out; subst hn6; clear ho hb
    refine hKq.out _ _ ?_ (fun hHeld => ?_)
    · (try dsimp only); exact P6.out
    clear hKq Kq
    try simp only [Act.put, List.setIfInBounds_toArray, List.set_cons_zero, List.set_cons_succ]
    (refine wpAnyH_take (i := 7) (oi := ⟨_, _, _, _, _, _⟩) (v := ?_) rfl (by kernel_rfl) (by kernel_rfl) (by kernel_rfl) (fun _ _ _ h => h) (Or.inl ⟨by rfl, ?_⟩) (by assumption) ?_; rotate_left 1; · (intro w hSw; (try dsimp only at hSw); go_simp; all_goals with_reducible rfl))
    try simp only [Act.put, List.setIfInBounds_toArray, List.set_cons_zero, List.set_cons_succ]
    refine wpAnyH_ready (rs := [8]) (by kernel_rfl) (by simp) ?_
    refine AllReadyH.cons (o := ⟨_, _, _, _, _, _⟩) rfl (fun Kq hKq => ?_) (AllReadyH.nil)
    go_simp
    clear hHeld
    have hq := below_one v6 (.cells #[.int .i64 x, .int .i64 1, .int .i64 0, .slice n6.1 n6.2.1 n6.2.2] 37); have P8 := Lib.hid (below_after P6.out hq (Nat.le_refl _)); have R8 := Lib.hid (show RowsAt (v6.alloc (.cells #[.int .i64 x, .int .i64 1, .int .i64 0, .slice n6.1 n6.2.1 n6.2.2] 37)) (.slice (some ⟨v6.heap.size, 0, none⟩) 1 1) [((x, 1), 0, allOf l)] from rows_one (a := x) (i := 1) (n := 0) I6.out); generalize v6.alloc (.cells #[.int .i64 x, .int .i64 1, .int .i64 0, .slice n6.1 n6.2.1 n6.2.2] 37) = v8 at *; clear hq
    refine hKq.out _ _ ?_ (fun hHeld => ?_)
    · (try dsimp only); exact P8.out
    clear hKq Kq
    try simp only [Act.put, List.setIfInBounds_toArray, List.set_cons_zero, List.set_cons_succ]
    (refine wpAnyH_take (i := 9) (oi := ⟨_, _, _, _, _, _⟩) (v := ?_) rfl (by kernel_rfl) (by kernel_rfl) (by kernel_rfl) (fun _ _ _ h => h) (Or.inl ⟨by rfl, ?_⟩) (by assumption) ?_; rotate_left 1; · (intro w hSw; (try dsimp only at hSw); go_simp; all_goals with_reducible rfl))
    try simp only [Act.put, List.setIfInBounds_toArray, List.set_cons_zero, List.set_cons_succ]
    refine wpAnyH_done (by kernel_rfl) ?_ _
    go_wp2_with fail
    go_ret
    exact ⟨(_, 1, 1), rfl, R8.out, P8.out⟩
  · go_simp
    clear hHeld
    (with_reducible refine (allOf_any _ l _ U2.out hl).mono ?_); rintro e v6 ⟨u6, rfl, ho, hb⟩; have P6 := Lib.hid (below_after P2.out hb (Nat.le_refl _)); have O6 := Lib.hid (O2.out.below hb); have I6 := Lib.hid (ids_of_owns ho); obtain ⟨n6, hn6⟩ := sl_ids I6.out; subst hn6; clear ho hb
    refine hKq.out _ _ ?_ (fun hHeld => ?_)
    · (try dsimp only); exact P6.out
    clear hKq Kq
    try simp only [Act.put, List.setIfInBounds_toArray, List.set_cons_zero, List.set_cons_succ]
    refine wpAnyH_ready (rs := [4]) (by kernel_rfl) (by simp) ?_
    refine AllReadyH.cons (o := ⟨_, _, _, _, _, _⟩) rfl (fun Kq hKq => ?_) (AllReadyH.nil)
    obtain ⟨k0, k1⟩ := owns_head O6.out
    go_simp
    clear hHeld
    clear k0 k1
    refine hKq.out _ _ ?_ (fun hHeld => ?_)
    · (try dsimp only); exact P6.out
    clear hKq Kq
    try simp only [Act.put, List.setIfInBounds_toArray, List.set_cons_zero, List.set_cons_succ]
    (refine wpAnyH_take (i := 7) (oi := ⟨_, _, _, _, _, _⟩) (v := ?_) rfl (by kernel_rfl) (by kernel_rfl) (by kernel_rfl) (fun _ _ _ h => h) (Or.inl ⟨by rfl, ?_⟩) (by assumption) ?_; rotate_left 1; · (intro w hSw; (try dsimp only at hSw); go_simp; all_goals with_reducible rfl))
    try simp only [Act.put, List.setIfInBounds_toArray, List.set_cons_zero, List.set_cons_succ]
    refine wpAnyH_ready (rs := [8]) (by kernel_rfl) (by simp) ?_
    refine AllReadyH.cons (o := ⟨_, _, _, _, _, _⟩) rfl (fun Kq hKq => ?_) (AllReadyH.nil)
    go_simp
    clear hHeld
    have hq := below_one v6 (.cells #[.int .i64 x, .int .i64 1, .int .i64 0, .slice n6.1 n6.2.1 n6.2.2] 37); have P8 := Lib.hid (below_after P6.out hq (Nat.le_refl _)); have R8 := Lib.hid (show RowsAt (v6.alloc (.cells #[.int .i64 x, .int .i64 1, .int .i64 0, .slice n6.1 n6.2.1 n6.2.2] 37)) (.slice (some ⟨v6.heap.size, 0, none⟩) 1 1) [((x, 1), 0, allOf l)] from rows_one (a := x) (i := 1) (n := 0) I6.out); generalize v6.alloc (.cells #[.int .i64 x, .int .i64 1, .int .i64 0, .slice n6.1 n6.2.1 n6.2.2] 37) = v8 at *; clear hq
    refine hKq.out _ _ ?_ (fun hHeld => ?_)
    · (try dsimp only); exact P8.out
    clear hKq Kq
    try simp only [Act.put, List.setIfInBounds_toArray, List.set_cons_zero, List.set_cons_succ]
    (refine wpAnyH_take (i := 9) (oi := ⟨_, _, _, _, _, _⟩) (v := ?_) rfl (by kernel_rfl) (by kernel_rfl) (by kernel_rfl) (fun _ _ _ h => h) (Or.inl ⟨by rfl, ?_⟩) (by assumption) ?_; rotate_left 1; · (intro w hSw; (try dsimp only at hSw); go_simp; all_goals with_reducible rfl))
    try simp only [Act.put, List.setIfInBounds_toArray, List.set_cons_zero, List.set_cons_succ]
    refine wpAnyH_done (by kernel_rfl) ?_ _
    go_wp2_with fail
    go_ret
    exact ⟨(_, 1, 1), rfl, R8.out, P8.out⟩

/-- A view, what it tells, and where its lists lie. -/
structure Itm where
  a : SL
  b : SL
  c : SL
  d : SL
  e : SL
  V : Vw
  ev : Bool
  re : Bool
  ld : Int
  u : SL
  l : List Int
instance : Inhabited Itm := ⟨⟨nl, nl, nl, nl, nl, ⟨[], [], [], [], []⟩, false, false, 0, nl, []⟩⟩
def encX (x : Itm) : List Value := [.slice x.a.1 x.a.2.1 x.a.2.2, .slice x.b.1 x.b.2.1 x.b.2.2, .slice x.c.1 x.c.2.1 x.c.2.2, .slice x.d.1 x.d.2.1 x.d.2.2, .slice x.e.1 x.e.2.1 x.e.2.2, .bool x.ev, .bool x.re, .int .i64 x.ld, .slice x.u.1 x.u.2.1 x.u.2.2]
theorem encX_len (x : Itm) : (encX x).length = 9 := rfl
/-- It lies there. -/
structure ItmOk (w : World) (x : Itm) : Prop where
  v : VAt w (.agg #[.slice x.a.1 x.a.2.1 x.a.2.2, .slice x.b.1 x.b.2.1 x.b.2.2, .slice x.c.1 x.c.2.1 x.c.2.2, .slice x.d.1 x.d.2.1 x.d.2.2, .slice x.e.1 x.e.2.1 x.e.2.2]) x.V
  n : Nums w (.slice x.u.1 x.u.2.1 x.u.2.2) x.l
theorem ItmOk.below {w w' : World} {x : Itm} (h : ItmOk w x) (hb : Below w.heap.size w w') : ItmOk w' x := ⟨h.v.below hb, h.n.below hb⟩
/-- It tells what it should. -/
structure ItmTells (x : Itm) : Prop where
  t : Tells x.V x.ev x.re x.ld x.l
  f : FitA x.V
  l : x.l.length ≤ 1000
theorem itm_cells {w : World} {ad : Addr} {n c : Nat} {xs : List Itm} (h : Rcs encX 9 w (.slice (some ad) n c) xs) {k : Nat} (hk : k < xs.length) {x : Itm} (hx : x = xs[k]) :
    w.cell? (ad.add (k * 9)) = some (.slice x.a.1 x.a.2.1 x.a.2.2) ∧ w.cell? ⟨(ad.add (k * 9)).block, (ad.add (k * 9)).off + 1, none⟩ = some (.slice x.b.1 x.b.2.1 x.b.2.2) ∧ w.cell? ⟨(ad.add (k * 9)).block, (ad.add (k * 9)).off + 2, none⟩ = some (.slice x.c.1 x.c.2.1 x.c.2.2) ∧ w.cell? ⟨(ad.add (k * 9)).block, (ad.add (k * 9)).off + 3, none⟩ = some (.slice x.d.1 x.d.2.1 x.d.2.2) ∧ w.cell? ⟨(ad.add (k * 9)).block, (ad.add (k * 9)).off + 4, none⟩ = some (.slice x.e.1 x.e.2.1 x.e.2.2) ∧
      w.cell? ⟨(ad.add (k * 9)).block, (ad.add (k * 9)).off + 5, none⟩ = some (.bool x.ev) ∧ w.cell? ⟨(ad.add (k * 9)).block, (ad.add (k * 9)).off + 6, none⟩ = some (.bool x.re) ∧ w.cell? ⟨(ad.add (k * 9)).block, (ad.add (k * 9)).off + 7, none⟩ = some (.int .i64 x.ld) ∧ w.cell? ⟨(ad.add (k * 9)).block, (ad.add (k * 9)).off + 8, none⟩ = some (.slice x.u.1 x.u.2.1 x.u.2.2) := by
  subst hx
  exact ⟨h.first (Below.refl _ _) hk rfl, h.cell (Below.refl _ _) hk 1 (by omega) rfl, h.cell (Below.refl _ _) hk 2 (by omega) rfl, h.cell (Below.refl _ _) hk 3 (by omega) rfl, h.cell (Below.refl _ _) hk 4 (by omega) rfl, h.cell (Below.refl _ _) hk 5 (by omega) rfl, h.cell (Below.refl _ _) hk 6 (by omega) rfl, h.cell (Below.refl _ _) hk 7 (by omega) rfl, h.cell (Below.refl _ _) hk 8 (by omega) rfl⟩
theorem nine_cells (w : World) (v0 v1 v2 v3 v4 v5 v6 v7 v8 : Value) : (w.alloc (.cells #[v0, v1, v2, v3, v4, v5, v6, v7, v8] 40)).cell? ⟨w.heap.size, 0, none⟩ = some v0 ∧ (w.alloc (.cells #[v0, v1, v2, v3, v4, v5, v6, v7, v8] 40)).cell? ⟨w.heap.size, 1, none⟩ = some v1 ∧ (w.alloc (.cells #[v0, v1, v2, v3, v4, v5, v6, v7, v8] 40)).cell? ⟨w.heap.size, 2, none⟩ = some v2 ∧ (w.alloc (.cells #[v0, v1, v2, v3, v4, v5, v6, v7, v8] 40)).cell? ⟨w.heap.size, 3, none⟩ = some v3 ∧ (w.alloc (.cells #[v0, v1, v2, v3, v4, v5, v6, v7, v8] 40)).cell? ⟨w.heap.size, 4, none⟩ = some v4 ∧
    (w.alloc (.cells #[v0, v1, v2, v3, v4, v5, v6, v7, v8] 40)).cell? ⟨w.heap.size, 5, none⟩ = some v5 ∧ (w.alloc (.cells #[v0, v1, v2, v3, v4, v5, v6, v7, v8] 40)).cell? ⟨w.heap.size, 6, none⟩ = some v6 ∧ (w.alloc (.cells #[v0, v1, v2, v3, v4, v5, v6, v7, v8] 40)).cell? ⟨w.heap.size, 7, none⟩ = some v7 ∧ (w.alloc (.cells #[v0, v1, v2, v3, v4, v5, v6, v7, v8] 40)).cell? ⟨w.heap.size, 8, none⟩ = some v8 := by
  have h := heap_alloc_new w (.cells #[v0, v1, v2, v3, v4, v5, v6, v7, v8] 40)
  exact ⟨by rw [cell_of_row _ _ 0 _ _ _ h]; rfl, by rw [cell_of_row _ _ 1 _ _ _ h]; rfl, by rw [cell_of_row _ _ 2 _ _ _ h]; rfl, by rw [cell_of_row _ _ 3 _ _ _ h]; rfl, by rw [cell_of_row _ _ 4 _ _ _ h]; rfl, by rw [cell_of_row _ _ 5 _ _ _ h]; rfl, by rw [cell_of_row _ _ 6 _ _ _ h]; rfl, by rw [cell_of_row _ _ 7 _ _ _ h]; rfl, by rw [cell_of_row _ _ 8 _ _ _ h]; rfl⟩
theorem itm_tells {a b c d e u : SL} {V : Vw} {ev re : Bool} {ld : Int} {l : List Int} (h1 : Tells V ev re ld l) (h2 : FitA V) (h3 : l.length ≤ 1000) : ItmTells ⟨a, b, c, d, e, V, ev, re, ld, u, l⟩ := ⟨h1, h2, h3⟩
theorem rcs_itms (w : World) (l : List Itm) (cs : Array Value) (n : Nat) (hn : l.length = n) (h : cs.toList = flatR encX l) : Rcs encX 9 (w.alloc (.cells cs 40)) (.slice (some ⟨w.heap.size, 0, none⟩) n n) l := by
  subst hn
  exact rcs_lit encX_len w l cs 40 h
theorem all_none {α : Type} {p : α → Prop} : ∀ x ∈ ([] : List α), p x := fun _ h => by cases h
theorem all_more1 {α : Type} {p : α → Prop} {y : α} {l : List α} (h : p y) (k : ∀ x ∈ l, p x) : ∀ x ∈ y :: l, p x := fun x hx => by
  rcases List.mem_cons.1 hx with rfl | hx
  · exact h
  · exact k x hx
end Go.Proofs.YtloghkiabgnpnaaDoor
