/-
  Carried over and put together: contracts of this program's functions, and plain facts. No statement is proved in this text.
-/
import Derived.Lib.AppendStr
import Derived.Test.YtkeiekljedhllaaGreatF02
import Derived.Test.YtkeiekljedhllaaGreatF04
import Derived.Test.YtkeiekljedhllaaGreatF14
set_option maxRecDepth 20000
namespace Go.Proofs.YtkeiekljedhllaaGreat
open Go Go.RowKit
/-- What a frame says. -/
structure Fr where
  k : Int
  f : Sets.Id2
  t : Sets.Id2
  n : Int
  q : Int
  b : Sets.Id2
  v : Vw
/-- Bytes that were gathered, and what was wrong. -/
abbrev WS := List UInt8 × Nat
def putS (s : WS) (b : List UInt8) (e : Nat) : WS := (s.1 ++ b, if e = 0 then s.2 else e)
def outN (n : Int) : List UInt8 := if good n = true then encICOD n else []
def errN (n : Int) : Nat := if good n = true then 0 else 1
def wNum (s : WS) (n : Int) : WS := putS s (outN n) (errN n)
def wId (s : WS) (x : Sets.Id2) : WS := wNum (wNum s x.1) x.2
def wIds (s : WS) (l : List Sets.Id2) : WS := putS s (outL l) (errL l)
def wMem (s : WS) (m : Ros.Mm) : WS := wNum (wNum (wId s m.1) m.2.1) m.2.2
def wRow (s : WS) (r : RowSets.Row) : WS := wIds (wNum (wId s r.1) r.2.1) r.2.2
def wTick (s : WS) (t : Clocks.Tick) : WS := wNum (wId s t.1) t.2
def wList {α : Type} (g : WS → α → WS) (s : WS) (l : List α) : WS := l.foldl g (wNum s (l.length : Int))
def wView (s : WS) (V : Vw) : WS := wIds (wList wTick (wList wRow (wIds (wList wMem s V.m) V.f) V.r) V.c) V.s
def wFr (F : Fr) : WS := wView (wId (wNum (wNum (wId (wId (wNum ([], 0) F.k) F.f) F.t) F.n) F.q) F.b) F.v
/-- What is left of a reader, what it failed by, and whether the frame's reader failed. -/
abbrev RS := List UInt8 × Nat × Bool
def rUp (most : Int) (s : RS) : Int × RS :=
  if (numS s.1 s.2.1).2.1 ≠ 0 ∨ most < ((numS s.1 s.2.1).1 : Int) then (0, (numS s.1 s.2.1).2.2, (numS s.1 s.2.1).2.1, true)
  else (((numS s.1 s.2.1).1 : Int), (numS s.1 s.2.1).2.2, (numS s.1 s.2.1).2.1, s.2.2)
def rNum (s : RS) : Int × RS := rUp 1099511627776 s
def rSmall (s : RS) : Int × RS := rUp 255 s
def rId (s : RS) : Sets.Id2 × RS := (((rNum s).1, (rNum (rNum s).2).1), (rNum (rNum s).2).2)
def rMem (s : RS) : Ros.Mm × RS := (((rId s).1, (rSmall (rId s).2).1, (rNum (rSmall (rId s).2).2).1), (rNum (rSmall (rId s).2).2).2)
def rLoop {α : Type} (e : RS → α × RS) : Nat → RS → List α × RS
  | 0, s => ([], s)
  | k + 1, s => ((rLoop e k s).1 ++ [(e (rLoop e k s).2).1], (e (rLoop e k s).2).2)
def rList {α : Type} (e : RS → α × RS) (s : RS) : List α × RS := rLoop e (rUp 64 s).1.toNat (rUp 64 s).2
def rIds (s : RS) : List Sets.Id2 × RS := rList rId s
def rRow (s : RS) : RowSets.Row × RS := (((rId s).1, (rNum (rId s).2).1, (rIds (rNum (rId s).2).2).1), (rIds (rNum (rId s).2).2).2)
def rTick (s : RS) : Clocks.Tick × RS := (((rId s).1, (rNum (rId s).2).1), (rNum (rId s).2).2)
def rView (s : RS) : Vw × RS :=
  let m := rList rMem s
  let f := rIds m.2
  let r := rList rRow f.2
  let c := rList rTick r.2
  let x := rIds c.2
  (⟨m.1, f.1, r.1, c.1, x.1⟩, x.2)
def rFr (s : RS) : Fr × RS :=
  let k := rSmall s
  let f := rId k.2
  let t := rId f.2
  let n := rNum t.2
  let q := rNum n.2
  let b := rId q.2
  let v := rView b.2
  (⟨k.1, f.1, t.1, n.1, q.1, b.1, v.1⟩, v.2)
/-- What w writes r reads, whatever stands behind it. -/
def BackAt {α : Type} (w : WS → α → WS) (r : RS → α × RS) (x : α) : Prop :=
  ∀ s : WS, (w s x).2 = 0 → s.2 = 0 ∧ ∃ b : List UInt8, (w s x).1 = s.1 ++ b ∧ ∀ t, r (b ++ t, 0, false) = (x, t, 0, false)
theorem num_back {n : Int} (h : good n = true) (t : List UInt8) : numS (encICOD n ++ t) 0 = (n.toNat, 0, t) := by
  exact numS_enc n t (good_yes h).1 (good_yes h).2
theorem back_up {most n : Int} (h : good n = true → n ≤ most) : BackAt wNum (rUp most) n := by
  intro s hs
  unfold wNum putS errN outN at *
  cases hg : good n
  · rw [hg] at hs
    exact absurd hs (by simp)
  · rw [hg] at hs
    refine ⟨by simpa using hs, encICOD n, by simp, fun t => ?_⟩
    have h0 := (good_yes hg).1
    unfold rUp
    rw [num_back hg]
    rw [if_neg (by have := h hg; simp; omega)]
    simp
    omega
theorem back_num (n : Int) : BackAt wNum rNum n := back_up fun h => (good_yes h).2
theorem back_id (x : Sets.Id2) : BackAt wId rId x := by
  intro s hs
  obtain ⟨h1, b, e1, k1⟩ := back_num x.2 _ hs
  obtain ⟨h2, c, e2, k2⟩ := back_num x.1 _ h1
  refine ⟨h2, c ++ b, by unfold wId; rw [e1, e2, List.append_assoc], fun t => ?_⟩
  unfold rId
  rw [List.append_assoc, k2]
  simp only [k1]
theorem back_mem (m : Ros.Mm) (h : m.2.1 ≤ 255) : BackAt wMem rMem m := by
  intro s hs
  obtain ⟨h1, b, e1, k1⟩ := back_num m.2.2 _ hs
  obtain ⟨h2, c, e2, k2⟩ := back_up (most := 255) (n := m.2.1) (fun _ => h) _ h1
  obtain ⟨h3, d, e3, k3⟩ := back_id m.1 _ h2
  refine ⟨h3, d ++ (c ++ b), by unfold wMem; rw [e1, e2, e3]; simp, fun t => ?_⟩
  unfold rMem rSmall
  rw [List.append_assoc, List.append_assoc, k3]
  simp only [k2, k1]
theorem back_tick (x : Clocks.Tick) : BackAt wTick rTick x := by
  intro s hs
  obtain ⟨h1, b, e1, k1⟩ := back_num x.2 _ hs
  obtain ⟨h2, c, e2, k2⟩ := back_id x.1 _ h1
  refine ⟨h2, c ++ b, by unfold wTick; rw [e1, e2, List.append_assoc], fun t => ?_⟩
  unfold rTick
  rw [List.append_assoc, k2]
  simp only [k1]
theorem snoc_ind {α : Type} {P : List α → Prop} (h0 : P []) (h1 : ∀ l x, P l → P (l ++ [x])) (l : List α) : P l := by
  have h : ∀ m : List α, P m.reverse := by
    intro m
    induction m with
    | nil => exact h0
    | cons x m ih => rw [List.reverse_cons]; exact h1 _ _ ih
  have := h l.reverse
  rwa [List.reverse_reverse] at this
theorem back_fold {α : Type} {w : WS → α → WS} {r : RS → α × RS} (l : List α) (h : ∀ x ∈ l, BackAt w r x) :
    ∀ s : WS, (l.foldl w s).2 = 0 → s.2 = 0 ∧ ∃ b : List UInt8, (l.foldl w s).1 = s.1 ++ b ∧ ∀ t, rLoop r l.length (b ++ t, 0, false) = (l, t, 0, false) := by
  revert h
  refine snoc_ind (P := fun l => (∀ x ∈ l, BackAt w r x) → ∀ s : WS, (l.foldl w s).2 = 0 → s.2 = 0 ∧ ∃ b : List UInt8, (l.foldl w s).1 = s.1 ++ b ∧ ∀ t, rLoop r l.length (b ++ t, 0, false) = (l, t, 0, false)) ?_ ?_ l
  · exact fun _ s hs => ⟨hs, [], by simp, fun t => rfl⟩
  · intro l x ih h s hs
    rw [List.foldl_append] at hs ⊢
    obtain ⟨h1, b, e1, k1⟩ := h x (by simp) _ hs
    obtain ⟨h2, c, e2, k2⟩ := ih (fun y hy => h y (by simp [hy])) s h1
    refine ⟨h2, c ++ b, ?_, fun t => ?_⟩
    · show (w (l.foldl w s) x).1 = _
      rw [e1, e2, List.append_assoc]
    · rw [List.length_append]
      show rLoop r (l.length + 1) _ = _
      unfold rLoop
      rw [List.append_assoc, k2]
      simp only [k1]
theorem back_list {α : Type} {w : WS → α → WS} {r : RS → α × RS} (l : List α) (hl : l.length ≤ 64) (h : ∀ x ∈ l, BackAt w r x) : BackAt (wList w) (rList r) l := by
  intro s hs
  obtain ⟨h1, b, e1, k1⟩ := back_fold l h _ hs
  obtain ⟨h2, c, e2, k2⟩ := back_up (most := 64) (n := (l.length : Int)) (fun _ => by omega) _ h1
  refine ⟨h2, c ++ b, by unfold wList; rw [e1, e2, List.append_assoc], fun t => ?_⟩
  unfold rList
  rw [List.append_assoc, k2]
  exact k1 t
theorem encAll_fold (l : List Sets.Id2) (h : ∀ x ∈ l, good x.1 = true ∧ good x.2 = true) : ∀ s : WS, s.2 = 0 → l.foldl wId s = (s.1 ++ encAll l, 0) := by
  induction l with
  | nil => intro s hs; simp [encAll, ← hs]
  | cons x l ih =>
    intro s hs
    rw [List.foldl_cons, ih (fun y hy => h y (by simp [hy]))]
    · have := h x (by simp)
      unfold wId wNum putS outN errN
      rw [this.1, this.2]
      simp [encAll, encID]
    · have := h x (by simp)
      unfold wId wNum putS errN
      rw [this.1, this.2]
      simpa using hs
theorem vid_good {a i : Int} (h : vidCOD a i = true) : good a = true ∧ good i = true := by
  unfold vidCOD at h
  unfold good
  simp at h ⊢
  omega
theorem back_ids (l : List Sets.Id2) : BackAt wIds rIds l := by
  intro s hs
  unfold wIds putS at *
  cases hg : listOk l
  · have := (listOk_no hg).2
    simp [this] at hs
  · obtain ⟨h1, h2, _, h4, h5⟩ := listOk_yes hg
    rw [h5] at hs
    rw [h4]
    have hs0 : s.2 = 0 := by simpa using hs
    have hx : ∀ x ∈ l, good x.1 = true ∧ good x.2 = true := fun x hx => by
      obtain ⟨k, hk, e⟩ := List.getElem_of_mem hx
      have := allVid_at h2 hk
      rw [e] at this
      exact vid_good this
    have hgl : good (l.length : Int) = true := by unfold good; simp; omega
    have e1 : wList wId s l = (s.1 ++ encIDs l, 0) := by
      unfold wList
      rw [encAll_fold l hx]
      · unfold wNum putS outN
        rw [hgl]
        simp [encIDs]
      · unfold wNum putS errN
        rw [hgl]
        simpa using hs0
    obtain ⟨_, b, k1, k2⟩ := back_list l h1 (fun x _ => back_id x) s (by rw [e1])
    rw [e1] at k1
    obtain rfl : encIDs l = b := List.append_cancel_left k1
    exact ⟨hs0, _, rfl, k2⟩
theorem back_row (r : RowSets.Row) : BackAt wRow rRow r := by
  intro s hs
  obtain ⟨h1, b, e1, k1⟩ := back_ids r.2.2 _ hs
  obtain ⟨h2, c, e2, k2⟩ := back_num r.2.1 _ h1
  obtain ⟨h3, d, e3, k3⟩ := back_id r.1 _ h2
  refine ⟨h3, d ++ (c ++ b), by unfold wRow; rw [e1, e2, e3]; simp, fun t => ?_⟩
  unfold rRow
  rw [List.append_assoc, List.append_assoc, k3]
  simp only [k2, k1]
/-- What is asked of a view so that it comes back. -/
structure Short (V : Vw) : Prop where
  m : V.m.length ≤ 64
  r : V.r.length ≤ 64
  c : V.c.length ≤ 64
  s : ∀ x ∈ V.m, x.2.1 ≤ 255
theorem back_view (V : Vw) (h : Short V) : BackAt wView rView V := by
  intro s hs
  obtain ⟨h1, b1, e1, k1⟩ := back_ids V.s _ hs
  obtain ⟨h2, b2, e2, k2⟩ := back_list V.c h.c (fun x _ => back_tick x) _ h1
  obtain ⟨h3, b3, e3, k3⟩ := back_list V.r h.r (fun x _ => back_row x) _ h2
  obtain ⟨h4, b4, e4, k4⟩ := back_ids V.f _ h3
  obtain ⟨h5, b5, e5, k5⟩ := back_list V.m h.m (fun x hx => back_mem x (h.s x hx)) _ h4
  refine ⟨h5, b5 ++ (b4 ++ (b3 ++ (b2 ++ b1))), by unfold wView; rw [e1, e2, e3, e4, e5]; simp, fun t => ?_⟩
  unfold rView
  simp only [List.append_assoc, k5, k4, k3, k2, k1]
theorem back_fr (F : Fr) (hk : F.k ≤ 255) (h : Short F.v) (hs : (wFr F).2 = 0) : rFr ((wFr F).1, 0, false) = (F, [], 0, false) := by
  obtain ⟨h1, b1, e1, k1⟩ := back_view F.v h _ hs
  obtain ⟨h2, b2, e2, k2⟩ := back_id F.b _ h1
  obtain ⟨h3, b3, e3, k3⟩ := back_num F.q _ h2
  obtain ⟨h4, b4, e4, k4⟩ := back_num F.n _ h3
  obtain ⟨h5, b5, e5, k5⟩ := back_id F.t _ h4
  obtain ⟨h6, b6, e6, k6⟩ := back_id F.f _ h5
  obtain ⟨h7, b7, e7, k7⟩ := back_up (most := 255) (n := F.k) (fun _ => hk) _ h6
  have e : (wFr F).1 = b7 ++ (b6 ++ (b5 ++ (b4 ++ (b3 ++ (b2 ++ (b1 ++ [])))))) := by
    unfold wFr
    rw [e1, e2, e3, e4, e5, e6, e7]
    simp
  rw [e]
  unfold rFr rSmall
  simp only [k7, k6, k5, k4, k3, k2, k1]
/-- Four bytes of a number, the lowest first. -/
def le4 (x : Nat) : List UInt8 := [UInt8.ofNat x, UInt8.ofNat (x / 256), UInt8.ofNat (x / 65536), UInt8.ofNat (x / 16777216)]
end Go.Proofs.YtkeiekljedhllaaGreat
namespace Go.Proofs.YtkeiekljedhllaaGreat
open Go Go.RowKit
theorem strCells_bts (s : ByteArray) : Lib.strCells s = bts s.data.toList := rfl
/-- append of a string's bytes: where they lie. -/
theorem run_append_str (base : Nat) (w : World) (v : Value) (l : List UInt8) (s : ByteArray) (hown : OwnsC w base v l) (hl : l.length + s.size ≤ 100000000000000) (hb : base ≤ w.heap.size) :
    ∃ v' w', (Builtin.append_ #[63, 9] 63 #[v, .string s]).run Tryz.prog w = .ok v' w' ∧ OwnsC w' base v' (l ++ s.data.toList) ∧ Wrote w v w' v' := by
  obtain ⟨i0, hi, hz0, hz1, hz2⟩ := info_parts info5
  obtain ⟨v', w', hr, h2, h3, _⟩ := Lib.run_append_own_string (P := Tryz.prog) w base 63 9 63 5 i0 Tryz.underlying63 Tryz.underlying9 hi hz0 hz1 hz2 v l.length (bts l) hown s (by unfold maxLen; omega) (by omega) hb
  refine ⟨v', w', hr, ?_, h3, ?_⟩
  · unfold OwnsC
    rw [bts_append, List.length_append]
    rw [strCells_bts] at h2
    exact h2
  · rcases id hown.2 with ⟨rfl, hn⟩ | ⟨g, cap, cur, rfl, hbg, hg, hnc, hcm, hcs, htake⟩
    · obtain ⟨v2, w2, hr2, k2, _, _⟩ := Lib.run_append_own_string (P := Tryz.prog) w w.heap.size 63 9 63 5 i0 Tryz.underlying63 Tryz.underlying9 hi hz0 hz1 hz2 (.slice none 0 0) l.length (bts l) ⟨hown.1, .inl ⟨rfl, hn⟩⟩ s (by unfold maxLen; omega) (by omega) (Nat.le_refl _)
      rw [hr] at hr2
      injection hr2 with e1 e2
      subst e1 e2
      cases hv : v'.ownBlock with
      | none => exact .inl rfl
      | some k => exact .inr ⟨k, rfl, (World.ownsRow.lt k2 k hv).1⟩
    · by_cases hroom : l.length + s.size ≤ cap
      · have hr2 := Lib.run_append_room_string (P := Tryz.prog) w 63 9 63 5 i0 Tryz.underlying63 Tryz.underlying9 hi hz1 g l.length cap cur hg s hroom (by unfold maxLen at hcm; omega)
        rw [hr] at hr2
        injection hr2 with e1 e2
        subst e1
        exact .inl rfl
      · have hr2 := Lib.run_append_grow_string (P := Tryz.prog) w 63 9 63 5 i0 (.int .u8 0) Tryz.underlying63 Tryz.underlying9 hi hz0 ⟨g, 0, none⟩ l.length cap (bts l) (by rw [hz1]; simpa using hown.1) (hown.cells (g := g) rfl) s (by omega) (by omega) (by rw [hz2]; exact growslice_fits (by omega) (by omega))
        rw [hr] at hr2
        injection hr2 with e1 e2
        subst e1
        exact .inr ⟨_, rfl, by simp⟩
theorem wpList_append_str {ops : Array Oper} {rest : List Oper} {o : Oper} {a : Act} {Q : Exit → Act → World → Prop} (hgd : o.guard = none) (sl x : Operand) (hty : o.type = 63)
    (ho : o.op = .call { callee := .builtin .append, args := #[sl, x], argTypes := #[63, 9] })
    (w : World) (base : Nat) (v : Value) (l : List UInt8) (s : ByteArray) (hs : a.eval sl = v) (hx : a.eval x = .string s) (hown : OwnsC w base v l) (hl : l.length + s.size ≤ 100000000000000) (hb : base ≤ w.heap.size)
    (h : ∀ v' w', OwnsC w' base v' (l ++ s.data.toList) → Wrote w v w' v' → wpList Tryz.prog ops Q rest (a.put o.dst v') w') : wpList Tryz.prog ops Q (o :: rest) a w := by
  refine wpList_plain hgd fun K hK => ?_
  obtain ⟨v', w', hr, h2, h3⟩ := run_append_str base w v l s hown hl hb
  unfold Oper.wp execOp
  simp only [ho, resolve, invoke, builtin, Sem.run_bind, Sem.run_pure, Result.andThen_ok, List.map_toArray, List.map_cons, List.map_nil, hs, hx, hty, hr]
  exact hK _ _ (h v' w' h2 h3)
/-- Block g is the writer: its bytes are v, and e was wrong. -/
def GBox (w : World) (g : Nat) (v : Value) (e : Nat) : Prop := w.heap[g]? = some (.cells #[v, .int .i64 e] 74 (0, 0))
theorem gbox_cells {w : World} {g e : Nat} {v : Value} (h : GBox w g v e) : w.cell? ⟨g, 0, none⟩ = some v ∧ w.cell? ⟨g, 1, none⟩ = some (.int .i64 e) := by
  unfold GBox at h
  exact ⟨by rw [cell_of_row _ _ 0 _ _ _ h]; rfl, by rw [cell_of_row _ _ 1 _ _ _ h]; rfl⟩
theorem gbox_free {w : World} {g e : Nat} {v : Value} (h : GBox w g v e) : w.frozen? ⟨g, 0, none⟩ = false ∧ w.frozen? ⟨g, 1, none⟩ = false := by
  unfold GBox at h
  exact ⟨by simp [World.frozen?, h], by simp [World.frozen?, h]⟩
theorem gbox_set0 {w : World} {g e : Nat} {v : Value} (h : GBox w g v e) (v' : Value) : GBox (w.setCell ⟨g, 0, none⟩ v') g v' e := by
  unfold GBox at *
  simp [World.setCell, Array.getElem?_modify, h]
theorem gbox_set1 {w : World} {g e : Nat} {v : Value} (h : GBox w g v e) (e' : Nat) : GBox (w.setCell ⟨g, 1, none⟩ (.int .i64 e')) g v e' := by
  unfold GBox at *
  simp [World.setCell, Array.getElem?_modify, h]
theorem gbox_new (w : World) : GBox (w.alloc (.cells #[.slice none 0 0, .int .i64 0] 74)) w.heap.size (.slice none 0 0) 0 := heap_alloc_new w _
theorem ownsC_shape {w : World} {base : Nat} {v : Value} {l : List UInt8} (h : OwnsC w base v l) : ∃ A n c, v = .slice A n c := by
  rcases h.2 with ⟨rfl, _⟩ | ⟨g, cap, _, rfl, _⟩
  · exact ⟨_, _, _, rfl⟩
  · exact ⟨_, _, _, rfl⟩
/-- A block of another type than bytes is none that a slice of bytes owns. -/
theorem ownsC_ne {w : World} {base g : Nat} {v : Value} {l : List UInt8} {cs : Array Value} {T : TypeId} {fr : Nat × Nat} (h : OwnsC w base v l) (hb : w.heap[g]? = some (.cells cs T fr)) (hT : T ≠ 5) : v.ownBlock ≠ some g := by
  rcases h.2 with ⟨rfl, _⟩ | ⟨g', cap, cur, rfl, _, hh, _⟩
  · simp [Value.ownBlock]
  · intro e
    have e2 : g' = g := by simpa [Value.ownBlock] using e
    subst e2
    rw [hh] at hb
    injection hb with hb
    injection hb with _ ht
    exact hT ht.symm
/-- From one world to a later one: but for new blocks only the writer's block and its bytes were written. -/
structure Puts (w : World) (g : Nat) (v : Value) (w' : World) (v' : Value) : Prop where
  os : w'.os = w.os
  tape : w'.tape = w.tape
  output : w'.output = w.output
  size : w.heap.size ≤ w'.heap.size
  block : ∀ k, k < w.heap.size → k ≠ g → some k ≠ v.ownBlock → w'.heap[k]? = w.heap[k]?
  lies : v'.ownBlock = v.ownBlock ∨ ∃ k, v'.ownBlock = some k ∧ w.heap.size ≤ k
theorem Puts.refl (w : World) (g : Nat) (v : Value) : Puts w g v w v := ⟨rfl, rfl, rfl, Nat.le_refl _, fun _ _ _ _ => rfl, .inl rfl⟩
theorem Puts.trans {w w1 w2 : World} {g : Nat} {v v1 v2 : Value} (h : Puts w g v w1 v1) (k : Puts w1 g v1 w2 v2) : Puts w g v w2 v2 := by
  refine ⟨k.os.trans h.os, k.tape.trans h.tape, k.output.trans h.output, Nat.le_trans h.size k.size, fun i hi hg hne => ?_, ?_⟩
  · rw [k.block i (Nat.lt_of_lt_of_le hi h.size) hg ?_, h.block i hi hg hne]
    rcases h.lies with e | ⟨j, e, hj⟩
    · rw [e]; exact hne
    · rw [e]; intro e2; injection e2; omega
  · rcases k.lies with e | ⟨j, e, hj⟩
    · rcases h.lies with e2 | ⟨j, e2, hj⟩
      · exact .inl (e.trans e2)
      · exact .inr ⟨j, e.trans e2, hj⟩
    · exact .inr ⟨j, e, Nat.le_trans h.size hj⟩
theorem Puts.wrote {w w' : World} {g : Nat} {v v' : Value} (h : Wrote w v w' v') : Puts w g v w' v' := ⟨h.grown.os, h.grown.tape, h.grown.output, h.grown.size, fun k hk _ hne => h.grown.block k hk hne, h.lies⟩
theorem Puts.set {w : World} {g : Nat} (v : Value) (i : Nat) (u : Value) : Puts w g v (w.setCell ⟨g, i, none⟩ u) v :=
  ⟨rfl, rfl, rfl, by simp [World.setCell], fun k _ hg _ => Below.heap_setCell _ _ _ _ (fun e => hg (by rw [e])), .inl rfl⟩
theorem Puts.drew (w : World) (g : Nat) (v : Value) : Puts w g v w.drew v := ⟨rfl, rfl, rfl, Nat.le_refl _, fun _ _ _ _ => rfl, .inl rfl⟩
theorem Puts.grown {w w' : World} (g : Nat) (v : Value) (h : Below w.heap.size w w') : Puts w g v w' v := ⟨h.os, h.tape, h.output, h.size, fun k hk _ _ => h.block k hk, .inl rfl⟩
theorem Puts.boxed {w w' : World} {g : Nat} {v v' : Value} {o : Obj} (h : Puts (w.alloc o) g v w' v') : Puts w g v w' v' := by
  refine ⟨h.os, h.tape, h.output, by have := h.size; simp at this; omega, fun k hk hg hne => (h.block k (by simp; omega) hg hne).trans (Below.heap_alloc w _ k hk), ?_⟩
  rcases h.lies with e | ⟨j, e, hj⟩
  · exact .inl e
  · exact .inr ⟨j, e, by simp at hj; omega⟩
/-- What stands of the writer. -/
structure WSt (w : World) (base g : Nat) (v : Value) (s : WS) : Prop where
  x : GBox w g v s.2
  o : OwnsC w base v s.1
  b : base ≤ g
theorem WSt.lt {w : World} {base g : Nat} {v : Value} {s : WS} (h : WSt w base g v s) : g < w.heap.size := row_lt h.x
theorem WSt.base {w : World} {base g : Nat} {v : Value} {s : WS} (h : WSt w base g v s) : base ≤ w.heap.size := Nat.le_trans h.b (Nat.le_of_lt h.lt)
theorem WSt.below {w w' : World} {base g : Nat} {v : Value} {s : WS} (h : WSt w base g v s) (hb : Below w.heap.size w w') : WSt w' base g v s := ⟨(hb.block g h.lt).trans h.x, h.o.below hb, h.b⟩
/-- A block of another type stays. -/
theorem Puts.kept {w w' : World} {base g k : Nat} {v v' : Value} {s : WS} (h : Puts w g v w' v') (hs : WSt w base g v s) {cs : Array Value} {T : TypeId} {fr : Nat × Nat} (hk : w.heap[k]? = some (.cells cs T fr)) (h5 : T ≠ 5) (h74 : T ≠ 74) : w'.heap[k]? = some (.cells cs T fr) := by
  refine (h.block k (row_lt hk) (fun e => ?_) (fun e => ownsC_ne hs.o hk h5 e.symm)).trans hk
  subst e
  have hx := hs.x
  unfold GBox at hx
  rw [hx] at hk
  injection hk with hk
  injection hk with _ ht
  exact h74 ht.symm
/-- All that was there ahead of the writer stays. -/
theorem Puts.ahead {w0 w w' : World} {base g : Nat} {v v' : Value} {s : WS} (hb : Below base w0 w) (h : Puts w g v w' v') (hs : WSt w base g v s) : Below base w0 w' :=
  hb.trans ⟨h.os, h.tape, h.output, h.size, fun k hk => h.block k (Nat.lt_of_lt_of_le hk hs.base) (fun e => by have := hs.b; omega) (fun e => by have := (World.ownsRow.lt hs.o k e.symm).1; omega)⟩
/-- What a method of the writer leaves. -/
def PutTo (base g : Nat) (v : Value) (s : WS) (w : World) (e : Ending) (w' : World) : Prop := e = .returned (.tuple #[]) ∧ ∃ v', WSt w' base g v' s ∧ Puts w g v w' v'
set_option maxHeartbeats 1000000 in
theorem put_any (base g : Nat) (v : Value) (s : WS) (b : List UInt8) (e : Nat) (w : World) (h : WSt w base g v s) (hl : s.1.length ≤ 10000000000000) (hb : b.length ≤ 10000000) :
    Calls Tryz.prog 67 #[.pointer (some ⟨g, 0, none⟩), .string (bs b), .int .i64 e] w (PutTo base g v (putS s b e) w) := by
  have HS := Lib.hid h
  have HL := Lib.hid (show s.1.length + (bs b).size ≤ 100000000000000 by rw [bs_size]; omega)
  have HB := Lib.hid h.base
  obtain ⟨c0, c1⟩ := gbox_cells h.x
  obtain ⟨f0, f1⟩ := gbox_free h.x
  clear h hl hb
  have hd : (bs b).data.toList = b := by simp [bs]
  have HD := Lib.hid hd
  clear hd
  generalize bs b = t at *
  by_cases he : e = 0
  · have de : ((e : Int) == 0) = true := by simp; omega
    have HE := Lib.hid he
    clear he
    have HS1 := Lib.hid (show WSt w base g v (s.1, (putS s b e).2) from ⟨by rw [show (putS s b e).2 = s.2 by simp [putS, HE.out]]; exact HS.out.x, HS.out.o, HS.out.b⟩)
    have HB1 := HB
    go_enter Tryz.func67, Tryz.ntmps67
    go_wp2_with (at_builtin; refine wpList_append_str rfl (.tmp 16) (.tmp 17) rfl rfl w base v s.1 t rfl rfl HS1.out.o HL.out HB1.out ?_; intro v' w' h1 h2; obtain ⟨A', n', cc', rfl⟩ := ownsC_shape h1; have H1 := Lib.hid h1; have H2 := Lib.hid h2; have H3 := Lib.hid (show GBox w' g v (putS s b e).2 from (h2.grown.block g HS1.out.lt (fun e => ownsC_ne HS1.out.o HS1.out.x (by decide) e.symm)).trans HS1.out.x); obtain ⟨c0', c1'⟩ := gbox_cells H3.out; obtain ⟨f0', f1'⟩ := gbox_free H3.out; clear h1 h2)
    go_end0
    refine ⟨rfl, _, ⟨gbox_set0 H3.out _, ?_, HS.out.b⟩, (Puts.wrote H2.out).trans (Puts.set _ 0 _)⟩
    have h := H1.out
    rw [HD.out] at h
    exact World.ownsRow.kept h (row := some g) ⟨rfl, rfl, rfl, by simp [World.setCell], fun k _ hne => Below.heap_setCell _ _ _ _ (fun e => hne (by rw [e]))⟩ (.inr (ownsC_ne h H3.out (by decide)))
  · have de : ((e : Int) == 0) = false := by simp; omega
    have HE := Lib.hid he
    clear he
    have HS1 := Lib.hid (show WSt (w.setCell ⟨g, 1, none⟩ (.int .i64 e)) base g v (s.1, (putS s b e).2) from ⟨by rw [show (putS s b e).2 = e by simp [putS, HE.out]]; exact gbox_set1 HS.out.x e, World.ownsRow.kept HS.out.o (row := some g) ⟨rfl, rfl, rfl, by simp [World.setCell], fun k _ hne => Below.heap_setCell _ _ _ _ (fun e => hne (by rw [e]))⟩ (.inr (ownsC_ne HS.out.o HS.out.x (by decide))), HS.out.b⟩)
    have HB1 := Lib.hid HS1.out.base
    obtain ⟨d0, d1⟩ := gbox_cells HS1.out.x
    obtain ⟨k0, k1⟩ := gbox_free HS1.out.x
    go_enter Tryz.func67, Tryz.ntmps67
    go_wp2_with (at_builtin; refine wpList_append_str rfl (.tmp 16) (.tmp 17) rfl rfl (w.setCell ⟨g, 1, none⟩ (.int .i64 e)) base v s.1 t rfl rfl HS1.out.o HL.out HB1.out ?_; intro v' w' h1 h2; obtain ⟨A', n', cc', rfl⟩ := ownsC_shape h1; have H1 := Lib.hid h1; have H2 := Lib.hid h2; have H3 := Lib.hid (show GBox w' g v (putS s b e).2 from (h2.grown.block g HS1.out.lt (fun e => ownsC_ne HS1.out.o HS1.out.x (by decide) e.symm)).trans HS1.out.x); obtain ⟨c0', c1'⟩ := gbox_cells H3.out; obtain ⟨f0', f1'⟩ := gbox_free H3.out; clear h1 h2)
    go_end0
    refine ⟨rfl, _, ⟨gbox_set0 H3.out _, ?_, HS.out.b⟩, ((Puts.set _ 1 _).trans (Puts.wrote H2.out)).trans (Puts.set _ 0 _)⟩
    have h := H1.out
    rw [HD.out] at h
    exact World.ownsRow.kept h (row := some g) ⟨rfl, rfl, rfl, by simp [World.setCell], fun k _ hne => Below.heap_setCell _ _ _ _ (fun e => hne (by rw [e]))⟩ (.inr (ownsC_ne h H3.out (by decide)))
theorem num_q (n : Int) (w : World) : Calls Tryz.prog 68 #[.string ⟨#[]⟩, .int .i64 n] w fun e w' => e = .returned (.tuple #[.string (bs (outN n)), .int .i64 (errN n : Nat)]) ∧ Below w.heap.size w w' := by
  unfold outN errN
  cases hg : good n
  · have hn := good_no hg
    refine (numB n w hn ⟨#[]⟩).mono ?_
    rintro e w' ⟨rfl, rfl⟩
    exact ⟨rfl, Below.refl _ _⟩
  · exact num_new n w (good_yes hg).1 (good_yes hg).2
theorem outN_len (n : Int) : (outN n).length ≤ 6 := by
  unfold outN
  split
  · exact (encI_lenCOD n).2
  · simp
theorem putS_len (s : WS) (b : List UInt8) (e : Nat) : (putS s b e).1.length = s.1.length + b.length := by simp [putS]
theorem wNum_len (s : WS) (n : Int) : (wNum s n).1.length ≤ s.1.length + 6 := by
  unfold wNum
  rw [putS_len]
  have := outN_len n
  omega
theorem wId_len (s : WS) (x : Sets.Id2) : (wId s x).1.length ≤ s.1.length + 12 := by
  unfold wId
  have := wNum_len s x.1
  have := wNum_len (wNum s x.1) x.2
  omega
theorem wIds_len (s : WS) (l : List Sets.Id2) : (wIds s l).1.length ≤ s.1.length + 1000 := by
  unfold wIds
  rw [putS_len]
  have := outL_len l
  omega
set_option maxHeartbeats 1000000 in
theorem wNum_any (base g : Nat) (v : Value) (s : WS) (n : Int) (w : World) (h : WSt w base g v s) (hl : s.1.length ≤ 1000000000000) :
    Calls Tryz.prog 33 #[.pointer (some ⟨g, 0, none⟩), .int .i64 n] w (PutTo base g v (wNum s n) w) := by
  have HS := Lib.hid h
  have HL := Lib.hid hl
  clear h hl
  go_enter Tryz.func33, Tryz.ntmps33
  go_wp2_with (go_at_call 68; (with_reducible refine (num_q n _).mono ?_); rintro e1 w1 ⟨rfl, hb⟩; have HB := Lib.hid hb; clear hb)
  (with_reducible refine (put_any base g v s (outN n) (errN n) _ (HS.out.below HB.out) (by have := HL.out; omega) (by have := outN_len n; omega)).mono ?_)
  rintro e2 w2 ⟨rfl, v', h1, h2⟩
  have H1 := Lib.hid h1
  have H2 := Lib.hid h2
  clear h1 h2
  go_wp2_with fail
  go_end0
  exact ⟨rfl, v', H1.out, (Puts.grown g v HB.out).trans H2.out⟩
theorem Ids.cod {w : World} {v : Value} {l : List (Int × Int)} (h : Ids w v l) : IdsC w v l := by
  obtain ⟨A, c, h1, h2, _, h4⟩ := h
  exact ⟨A, c, h1, h2, h4⟩
set_option maxHeartbeats 1000000 in
theorem wIds_any (base g : Nat) (v u : Value) (s : WS) (l : List Sets.Id2) (w : World) (h : WSt w base g v s) (hl : s.1.length ≤ 1000000000000) (hu : Ids w u l) :
    Calls Tryz.prog 69 #[.pointer (some ⟨g, 0, none⟩), u] w (PutTo base g v (wIds s l) w) := by
  have HS := Lib.hid h
  have HL := Lib.hid hl
  have HU := Lib.hid hu.cod
  clear h hl hu
  go_enter Tryz.func69, Tryz.ntmps69
  go_wp2_with (go_at_call 92; (with_reducible refine (ids_gen ⟨#[]⟩ u l _ HU.out (by decide)).mono ?_); rw [show (⟨#[]⟩ : ByteArray) ++ bs (outL l) = bs (outL l) from WideShapes.bytes_inj (by simp)]; rintro e1 w1 ⟨rfl, hb⟩; have HB := Lib.hid hb; clear hb)
  (with_reducible refine (put_any base g v s (outL l) (errL l) _ (HS.out.below HB.out) (by have := HL.out; omega) (by have := outL_len l; omega)).mono ?_)
  rintro e2 w2 ⟨rfl, v', h1, h2⟩
  have H1 := Lib.hid h1
  have H2 := Lib.hid h2
  clear h1 h2
  go_wp2_with fail
  go_end0
  exact ⟨rfl, v', H1.out, (Puts.grown g v HB.out).trans H2.out⟩
set_option maxHeartbeats 1000000 in
theorem wId_any (base g : Nat) (v : Value) (s : WS) (x : Sets.Id2) (w : World) (h : WSt w base g v s) (hl : s.1.length ≤ 100000000000) :
    Calls Tryz.prog 34 #[.pointer (some ⟨g, 0, none⟩), .agg #[.int .i64 x.1, .int .i64 x.2]] w (PutTo base g v (wId s x) w) := by
  have HX := Lib.hid (box_new w x.1 x.2)
  have HS := Lib.hid (h.below (below_one w (.cells #[.int .i64 x.1, .int .i64 x.2] 24)))
  have HL := Lib.hid hl
  clear h hl
  obtain ⟨c0, c1⟩ := box_cells HX.out
  go_enter Tryz.func34, Tryz.ntmps34
  go_wp2_with fail
  (with_reducible refine (wNum_any base g v s x.1 _ HS.out (by have := HL.out; omega)).mono ?_)
  rintro e1 w1 ⟨rfl, v1, h1, h2⟩
  have H1 := Lib.hid h1
  have H2 := Lib.hid h2
  have HX2 := Lib.hid (show Box w1 w.heap.size x.1 x.2 from h2.kept HS.out HX.out (by decide) (by decide))
  clear h1 h2 c0 c1
  obtain ⟨c0, c1⟩ := box_cells HX2.out
  go_wp2_with fail
  (with_reducible refine (wNum_any base g v1 (wNum s x.1) x.2 _ H1.out (by have := HL.out; have := wNum_len s x.1; omega)).mono ?_)
  rintro e2 w2 ⟨rfl, v2, h3, h4⟩
  have H3 := Lib.hid h3
  have H4 := Lib.hid h4
  clear h3 h4 c0 c1
  go_wp2_with fail
  go_end0
  exact ⟨rfl, v2, H3.out, (H2.out.trans H4.out).boxed⟩
end Go.Proofs.YtkeiekljedhllaaGreat
