/-
  Contracts and plain facts.
-/
import Derived.Test.YthkkipbmlafdiaaGreatOy
import Derived.Test.YthkkipbmlafdiaaGreatB27
set_option maxRecDepth 20000
namespace Go.Proofs.YthkkipbmlafdiaaGreat
section
open Go.RowKit Sets Clocks
theorem wpList_push3 {ops : Array Oper} {rest : List Oper} {o : Oper} {a : Act} {Q : Exit → Act → World → Prop} (hgd : o.guard = none) (s x : Operand)
  (ho : o.op = .call { callee := .builtin .append, args := #[s, x], argTypes := #[25, 25] })
  (wr : World) (base : Nat) (v : Value) (l : List Tick) (p q n : Int) (H : Nat) (hH : wr.heap.size = H) (hs : a.eval s = v) (hx : a.eval x = .slice (some ⟨H, 0, none⟩) 1 1)
  (hown : OwnsR encT 3 53 wr base v l) (hl : l.length ≤ 99999) (hb : base ≤ wr.heap.size)
  (h : ∀ g cap w', OwnsR encT 3 53 w' base (.slice (some ⟨g, 0, none⟩) (l.length + 1) cap) (l ++ [((p, q), n)]) → wr.grownBy w' v.ownBlock → (v.ownBlock = some g ∨ wr.heap.size ≤ g) → wpList Tryz.prog ops Q rest (a.put o.dst (.slice (some ⟨g, 0, none⟩) (l.length + 1) cap)) w') :
  wpList Tryz.prog ops Q (o :: rest) a (wr.alloc (.cells #[.int .i64 p, .int .i64 q, .int .i64 n] 53)) := by
 subst hH;obtain ⟨i0, hi, hz0, hz1, hz2⟩ := info_parts info35;have hown1 : (wr.alloc (.cells #[.int .i64 p, .int .i64 q, .int .i64 n] 53)).ownsRow base 53 3 v l.length (flatR encT l) := World.ownsRow.alloc hown _
 refine wpList_append_lies _ hgd s x 25 ho base 53 i0 (.agg #[.int .i64 0, .int .i64 0, .int .i64 0]) 3 0x18 Tryz.underlying25 hi hz0 hz1 hz2 rfl (by decide) v l.length (flatR encT l) hs hown1 ⟨wr.heap.size, 0, none⟩ 1 1 (encT ((p, q), n)) hx rfl
  (fun j u hu => ?_) (encT_one _) (by decide) (by unfold maxLen; omega) (by omega) (by simp; omega) _ rfl ?_
 ·obtain ⟨c1, c2, c3⟩ := tbox_cells (tbox_new wr p q n)
  have hj : j < 3 := (List.getElem?_eq_some_iff.1 hu).1
  rw [add_lit];match j, hj with
  | 0, _ => rw [← (Option.some.inj hu)]; exact c1
  | 1, _ => rw [← (Option.some.inj hu)]; exact c2
  | 2, _ => rw [← (Option.some.inj hu)]; exact c3
 ·intro g cap w' h1 h2 h3 _
  refine h g cap w' ?_ ⟨h2.os, h2.tape, h2.output, by have := h2.size; simp at this; omega, fun k hk hne => (h2.block k (by simp; omega) hne).trans (Below.heap_alloc wr _ k hk)⟩ ?_
  ·unfold OwnsR
   rw [flatR_append, List.length_append];have e : flatR encT [((p, q), n)] = encT ((p, q), n) := by simp [flatR]
   rw [e];exact h1
  ·rcases h3 with e | e
   ·exact .inl e
   ·exact .inr (by rw [e]; simp)
def Gather (B X lo hi : Nat) (w : World) (V : List Visit) : Prop :=
 ∃ out, w.heap[X]? = some (.cells #[out] 25 (0, 0)) ∧ OwnsR encT 3 53 w B out (V.map tickOf) ∧ ∀ g, out.ownBlock = some g → g ≠ X ∧ (g < lo ∨ hi ≤ g)
theorem Gather.below {B X lo hi : Nat} {w w' : World} {V : List Visit} (h : Gather B X lo hi w V) (hb : Below w.heap.size w w') : Gather B X lo hi w' V := by
 obtain ⟨out, h1, h2, h3⟩ := h;exact ⟨out, (hb.block _ (row_lt h1)).trans h1, h2.below hb, h3⟩
theorem kept_var {X lo hi : Nat} {w w' : World} {out : Value} (h : w.heap[X]? = some (.cells #[out] 25 (0, 0))) (hg : w.grownBy w' out.ownBlock) (hl : ∀ g, out.ownBlock = some g → g ≠ X ∧ (g < lo ∨ hi ≤ g)) : w'.heap[X]? = some (.cells #[out] 25 (0, 0)) := by
 rw [hg.block X (row_lt h) (fun e => (hl _ e.symm).1 rfl)]
 exact h
set_option maxHeartbeats 2000000 in
theorem gather_step (B X lo hi : Nat) (W : World) (V : List Visit) (x y p q : Int) (h : Gather B X lo hi W V) (hX : B ≤ X ∧ X < lo) (h1 : lo ≤ hi) (h2 : hi ≤ W.heap.size) (hV : V.length ≤ 90000) :
  Calls Tryz.prog 127 #[.agg #[.int .i64 x, .int .i64 y], .int .i64 p, .int .i64 q, .pointer (some ⟨X, 0, none⟩)] W fun e w' =>
   e = .returned (.tuple #[]) ∧ Gather B X lo hi w' (V ++ [((x, y), p, q)]) ∧ Below B W w' ∧ Mid lo hi W w' := by
 obtain ⟨out, ho, hown, hlie⟩ := h;have HL := hd_ hlie;have hb : Below W.heap.size W (W.alloc (.cells #[.int .i64 x, .int .i64 y] 29)) := (Below.refl _ _).alloc (Nat.le_refl _) _
 have HW := hd_ (hown.below hb);have HX := hd_ ((hb.block _ (row_lt ho)).trans ho);have HB := hd_ hb;have hmax := max_two p q;have HE := hd_ (show V.map tickOf ++ [((x, y), max p q)] = (V ++ [((x, y), p, q)]).map tickOf by simp [tickOf])
 have hlen : (V.map tickOf).length = V.length := by simp
 obtain ⟨c1, f1⟩ := one_freeCLK HX.out;clear hlie hown ho hb;generalize max p q = z at *;go_enter Tryz.func127, Tryz.ntmps127
 go_wp2_with (at_builtin; refine wpList_push3 rfl (.tmp 7) (.tmp 13) rfl _ B out (V.map tickOf) x y z (W.heap.size + 1) (by simp) rfl rfl HW.out (by omega) (by simp; omega) ?_; intro g cap w3 k1 k2 k3; have O3 := hd_ k1; have G3 := hd_ k2; have D3 := hd_ k3; have X3 := hd_ (kept_var HX.out G3.out HL.out); obtain ⟨c3, f3⟩ := one_freeCLK X3.out; clear k1 k2 k3)
 go_end0
 have hg : g ≠ X ∧ (g < lo ∨ hi ≤ g) := by
  rcases D3.out with e | e
  ·exact HL.out g e
  ·have e2 : W.heap.size + 1 ≤ g := by simpa using e
   exact ⟨by omega, .inr (by omega)⟩
 have hB3 : Below B W w3 := (HB.out.mono (show B ≤ W.heap.size by omega)).grown G3.out (by simp; omega) fun k hk => (World.ownsRow.lt HW.out k hk).1
 have hM3 : Mid lo hi W w3 := by
  refine ⟨by have := G3.out.size; simp at this; omega, fun k k1 k2 => ?_⟩
  rw [G3.out.block k (by simp; omega) (fun e => by have := (HL.out k e.symm).2; omega)]
  exact HB.out.block k (by omega)
 refine ⟨rfl, ⟨_, one_setCLK X3.out _, ?_, fun g' e => ?_⟩, hB3.setCell (p := ⟨X, 0, none⟩) hX.1 _, hM3.set (by omega) _⟩
 ·rw [← HE.out]
  rw [hlen] at *;exact World.ownsRow.kept O3.out (row := some X) ⟨rfl, rfl, rfl, by simp [World.setCell], fun k _ hne => Below.heap_setCell _ _ _ _ (fun e => hne (by rw [e]))⟩ (.inr (fun e => by injection e with e; exact hg.1 e))
 ·injection e with e
  have e' : g = g' := e
  rw [← e'];exact hg
theorem gather_visits (B X lo : Nat) (hX : B ≤ X ∧ X < lo) : Visits 127 #[.pointer (some ⟨X, 0, none⟩)] B lo (Gather B X lo) where
 enters := enters_of Tryz.func127 (by kernel_rfl) rfl
 kept _ _ _ _ h hb := h.below hb
 step hi W V x y p q h1 h2 h hV := gather_step B X lo hi W V x y p q h hX h1 h2 hV
def ListsCLK (l : List Tick) (w : World) (e : Ending) (w' : World) : Prop := ∃ v', e = .returned v' ∧ Rcs encT 3 w' v' l ∧ Below w.heap.size w w'
theorem wpList_make_spelled {P : Program} {α : Type} {enc : α → List Value} {sz : Nat} {ops : Array Oper} {rest : List Oper} {o : Oper} {a : Act} {Q : Exit → Act → World → Prop} (t e : TypeId) {z : Value} {bytes : Nat} (ht : P.underlying t = some (.slice e))
  (hinfo : (P.info? e).map (fun i => (i.zero, i.size, i.bytes)) = some (some z, sz, bytes)) (hby : bytes ≤ 1000)
  (w : World) (hgd : o.guard = none) (x : Operand) (hop : o.op = .makeSlice t (.const (.int .i64 0)) x) (C : Int) (hx : a.eval x = .int .i64 C) (h0 : 0 ≤ C) (hn : C ≤ 100000)
  (h : ∀ g cap w', OwnsR enc sz e w' w.heap.size (.slice (some ⟨g, 0, none⟩) 0 cap) [] → Below w.heap.size w w' → wpList P ops Q rest (a.put o.dst (.slice (some ⟨g, 0, none⟩) 0 cap)) w') : wpList P ops Q (o :: rest) a w := by
 obtain ⟨i0, hi, hz0, hz1, hz2⟩ := info_parts hinfo;obtain ⟨n, rfl⟩ := Int.eq_ofNat_of_zero_le h0;have hnb : n * bytes ≤ 100000 * 1000 := Nat.mul_le_mul (by omega) hby
 exact wpList_make_own w hgd _ x t hop w.heap.size e i0 z sz ht hi hz0 hz1 .i64 .i64 n n rfl hx rfl (by rw [hz2]; have := Nat.mul_comm n bytes; omega) (by unfold maxLen; omega) (Nat.le_refl _)
  fun w' h1 h2 => h _ _ w' h1 ((Below.refl w.heap.size w).grown h2 (Nat.le_refl _) (fun k hk => by cases hk))
set_option maxHeartbeats 2000000 in
theorem join_anyCLK (v u : Value) (l m : List Tick) (w : World) (h : Rcs encT 3 w v l) (h2 : Rcs encT 3 w u m) (hl : l.length ≤ 40000) (hm : m.length ≤ 40000) :
  Calls Tryz.prog 59 #[v, u] w (ListsCLK (joinC l m) w) := by
 have HI := hd_ h;have HJ := hd_ h2;have HE := hd_ (both_join l m);obtain ⟨A, c, rfl, hz⟩ := h;obtain ⟨A2, c2, rfl, hz2⟩ := h2;clear hz hz2;go_enter Tryz.func59, Tryz.ntmps59
 go_wp2_with (at_make; refine wpList_make_spelled (enc := encT) 25 53 Tryz.underlying25 info35 (by omega) _ rfl (.tmp 10) rfl _ rfl (by omega) (by omega) ?_; intro g cap w1 h1 h2; have O1 := hd_ h1; have B1 := hd_ h2; clear h1 h2)
 have B2 := hd_ (B1.out.alloc B1.out.size (.cells #[.slice (some ⟨g, 0, none⟩) 0 cap] 25));have hsz : (w1.alloc (.cells #[.slice (some ⟨g, 0, none⟩) 0 cap] 25)).heap.size = w1.heap.size + 1 := by simp
 have hX : w.heap.size ≤ w1.heap.size ∧ w1.heap.size < (w1.alloc (.cells #[.slice (some ⟨g, 0, none⟩) 0 cap] 25)).heap.size := ⟨B1.out.size, by omega⟩
 have HV := hd_ (gather_visits w.heap.size w1.heap.size (w1.alloc (.cells #[.slice (some ⟨g, 0, none⟩) 0 cap] 25)).heap.size hX);have hv1 : ∀ k, (Value.slice (some ⟨g, 0, none⟩) 0 cap).ownBlock = some k → k < w1.heap.size := fun k e => (World.ownsRow.lt O1.out k e).2
 have HS := hd_ (show ∀ hi W, (w1.alloc (.cells #[.slice (some ⟨g, 0, none⟩) 0 cap] 25)).heap.size ≤ hi → Below (w1.alloc (.cells #[.slice (some ⟨g, 0, none⟩) 0 cap] 25)).heap.size (w1.alloc (.cells #[.slice (some ⟨g, 0, none⟩) 0 cap] 25)) W → Gather w.heap.size w1.heap.size (w1.alloc (.cells #[.slice (some ⟨g, 0, none⟩) 0 cap] 25)).heap.size hi W [] from fun hi W _ hb =>
  ⟨.slice (some ⟨g, 0, none⟩) 0 cap, (hb.block _ (by omega)).trans (heap_alloc_new w1 _), (O1.out.below ((Below.refl _ _).alloc (Nat.le_refl _) _)).below hb, fun k e => by have := hv1 k e; omega⟩)
 have HC := hd_ (each_any 127 #[.pointer (some ⟨w1.heap.size, 0, none⟩)] w.heap.size (Gather w.heap.size w1.heap.size (w1.alloc (.cells #[.slice (some ⟨g, 0, none⟩) 0 cap] 25)).heap.size) (.slice A l.length c) (.slice A2 m.length c2) l m (w1.alloc (.cells #[.slice (some ⟨g, 0, none⟩) 0 cap] 25)) HV.out B2.out.size HS.out (HI.out.below B2.out) (HJ.out.below B2.out) hl hm);clear hsz hX hv1;go_wp2_with fail;(with_reducible refine HC.out.mono ?_)
 rintro e w3 ⟨rfl, ⟨hi, out, h1, h2, _⟩, hb⟩;have X3 := hd_ h1;have O3 := hd_ h2;have B3 := hd_ (B2.out.trans hb);clear h1 h2 hb;obtain ⟨c3, f3⟩ := one_freeCLK X3.out;go_wp2_with fail;go_ret;exact ⟨out, rfl, by rw [← HE.out]; exact rcs_owns encT_len O3.out, B3.out⟩
set_option maxHeartbeats 2000000 in
theorem compare_clocks (v u : Value) (l m : List Tick) (w : World) (h : Rcs encT 3 w v l) (h2 : Rcs encT 3 w u m) (hl : l.length ≤ 40000) (hm : m.length ≤ 40000) :
  Calls Tryz.prog 41 #[v, u] w fun e w' => e = .returned (.int .u8 (cmp l m : Nat)) ∧ Below w.heap.size w w' := by
 have hb : Below w.heap.size w ((w.alloc (.cells #[.bool false] 4)).alloc (.cells #[.bool false] 4)) := below_two w _ _
 have hsz : ((w.alloc (.cells #[.bool false] 4)).alloc (.cells #[.bool false] 4)).heap.size = w.heap.size + 2 := by simp
 have hv := note_visits w.heap.size;rw [← hsz] at hv
 have HS : ∀ (hi : Nat) W, ((w.alloc (.cells #[.bool false] 4)).alloc (.cells #[.bool false] 4)).heap.size ≤ hi → Below ((w.alloc (.cells #[.bool false] 4)).alloc (.cells #[.bool false] 4)).heap.size ((w.alloc (.cells #[.bool false] 4)).alloc (.cells #[.bool false] 4)) W → Notes w.heap.size W [] := fun hi W _ hb =>
  Notes.below ⟨(Below.heap_alloc _ _ _ (by simp)).trans (heap_alloc_new w _), by have := heap_alloc_new (w.alloc (.cells #[.bool false] 4)) (.cells #[.bool false] 4); simpa using this⟩ hb
 have HC := hd_ (each_any 91 #[.pointer (some ⟨w.heap.size, 0, none⟩), .pointer (some ⟨w.heap.size + 1, 0, none⟩)] w.heap.size (fun _ w' V => Notes w.heap.size w' V) v u l m _ hv (by omega) HS (h.below hb) (h2.below hb) hl hm)
 have HB := hd_ hb;clear h h2 hb hv HS hsz;go_enter Tryz.func41, Tryz.ntmps41
 go_wp2_with fail;(with_reducible refine HC.out.mono ?_)
 rintro e w3 ⟨rfl, ⟨hi, h1, h2⟩, hb⟩;rw [both_less] at h1;rw [both_more] at h2;have B3 := hd_ (HB.out.trans hb);have HM : Hid (cmp l m = cmpB (more l m) (more m l)) := hd_ rfl
 generalize more l m = b1 at *;generalize more m l = b2 at *;obtain ⟨c1, f1⟩ := one_freeCLK h1;obtain ⟨c2, f2⟩ := one_freeCLK h2;clear h1 h2 hb;cases b1 <;> cases b2
 all_goals
  go_wp2_with fail;go_ret;exact ⟨by rw [HM.out]; rfl, B3.out⟩
end
section
open Go.RowKit Sets Clocks
theorem may_any' (a i : Int) (w : World) (b : Bool) (h : vidCLK a i = b) : Calls Tryz.prog 64 #[.agg #[.int .i64 a, .int .i64 i]] w fun e w' => e = .returned (.bool b) ∧ Below w.heap.size w w' := by
 rw [← h];exact may_anyCLK a i w
def okT (t : Tick) : Bool := vidCLK t.1.1 t.1.2 && (decide (1 ≤ t.2) && decide (t.2 ≤ 1099511627776))
def risesT : List Tick → Bool
 | x :: y :: l => lss x.1.1 x.1.2 y.1.1 y.1.2 && risesT (y :: l)
 | _ => true
theorem risesT_iff : ∀ l : List Tick, risesT l = true ↔ Rises (l.map (·.1))
 | [] => by simp [risesT, Rises]
 | [x] => by simp [risesT, Rises]
 | x :: y :: l => by
  rw [risesT, Bool.and_eq_true, lss_iff, risesT_iff (y :: l), List.map_cons, List.map_cons, ax_ (x := x.1)];constructor
  ·rintro ⟨h1, h2⟩
   refine ⟨fun z hz => ?_, h2⟩
   rcases List.mem_cons.1 hz with e | e
   ·exact e ▸ h1
   ·exact lt_trans h1 ((ax_.1 h2).1 z e)
  ·rintro ⟨h1, h2⟩
   exact ⟨h1 y.1 (List.mem_cons_self ..), h2⟩
theorem risesT_take {l : List Tick} : ∀ {k : Nat} (h : k + 1 < l.length), risesT (l.take (k + 2)) = (risesT (l.take (k + 1)) && lss l[k].1.1 l[k].1.2 l[k+1].1.1 l[k+1].1.2) := by
 induction l with
 | nil => intro k h; simp at h
 | cons x l ih =>
  intro k h;cases l with
  | nil => simp at h
  | cons y l =>
   cases k with
   | zero => simp [risesT]
   | succ k =>
    have := ih (k := k) (by simpa using h)
    simp only [List.take_succ_cons, risesT] at this ⊢;rw [this, Bool.and_assoc];rfl
theorem risesT_not {l : List Tick} : ∀ {k : Nat} (h : k + 1 < l.length), lss l[k].1.1 l[k].1.2 l[k+1].1.1 l[k+1].1.2 = false → risesT l = false := by
 induction l with
 | nil => intro k h; simp at h
 | cons x l ih =>
  intro k h hv;cases l with
  | nil => simp at h
  | cons y l =>
   cases k with
   | zero => simp only [risesT, Bool.and_eq_false_iff]; exact .inl hv
   | succ k => simp only [risesT, Bool.and_eq_false_iff]; exact .inr (ih (k := k) (by simpa using h) hv)
theorem risesT_one (l : List Tick) : risesT (l.take 1) = true := by
 cases l <;> rfl
def mayBCLK (l : List Tick) : Bool := decide (l.length ≤ 64) && (l.all okT && risesT l)
theorem mayB_longCLK {l : List Tick} (h : 64 < l.length) : mayBCLK l = false := by
 unfold mayBCLK;rw [decide_eq_false (by omega)]
 rfl
theorem mayB_bad {l : List Tick} {k : Nat} (hk : k < l.length) (h : okT l[k] = false) : mayBCLK l = false := by
 unfold mayBCLK
 have : l.all okT = false := by
  rw [← Bool.not_eq_true, List.all_eq_true];exact fun h2 => by rw [h2 _ (List.getElem_mem hk)] at h; cases h
 rw [this];simp
theorem mayB_turn {l : List Tick} {k : Nat} (hk : k + 1 < l.length) (h : lss l[k].1.1 l[k].1.2 l[k+1].1.1 l[k+1].1.2 = false) : mayBCLK l = false := by
 unfold mayBCLK;rw [risesT_not hk h];simp
theorem mayB_yesCLK {l : List Tick} (h : l.length ≤ 64) (h1 : l.all okT = true) (h2 : risesT l = true) : mayBCLK l = true := by
 unfold mayBCLK;rw [decide_eq_true h, h1, h2];rfl
theorem all_more {l : List Tick} {k : Nat} (hk : k < l.length) (h : (l.take k).all okT = true) (h2 : okT l[k] = true) : (l.take (k + 1)).all okT = true := by
 rw [List.take_succ_eq_append_getElem hk, List.all_append, h];simp [h2]
set_option maxHeartbeats 4000000 in
theorem mayClock_any (v : Value) (l : List Tick) (w : World) (h : Rcs encT 3 w v l) (hl : l.length ≤ 100000) :
  Calls Tryz.prog 46 #[v] w fun e w' => e = .returned (.bool (mayBCLK l)) ∧ Below w.heap.size w w' := by
 have HI := hd_ h;obtain ⟨A, c, rfl, hz⟩ := h;clear hz;by_cases h64 : 64 < l.length
 ·have HF := hd_ (mayB_longCLK h64)
  have hd : decide ((64 : Int) < (l.length : Int)) = true := by simp; omega
  go_enter Tryz.func46, Tryz.ntmps46
  go_wp2_with fail;go_ret;exact ⟨af_ HF.out.symm, Below.refl _ _⟩
 ·have hd : decide ((64 : Int) < (l.length : Int)) = false := by simp; omega
  go_enter Tryz.func46, Tryz.ntmps46
  go_wp2_with fail;go_loopw [10] (fun s3 wr => ∃ k : Nat, k ≤ l.length ∧ s3 = .int .i64 k ∧ Hid ((l.take k).all okT = true) ∧ Hid (risesT (l.take k) = true) ∧ Hid (Below w.heap.size w wr)) (fun s3 _ => l.length - (intOf s3).toNat)
  case atStart => exact ⟨0, by omega, rfl, hd_ (by simp), hd_ (by simp [risesT]), hd_ (Below.refl _ _)⟩
  case round =>
   obtain ⟨k, hkl, rfl, HA, HR, HW⟩ := hrel;have i3 : (0 : Int) ≤ (k : Int) := by omega
   by_cases hlt : k < l.length
   ·have hdk : decide ((k : Int) < (l.length : Int)) = true := by simp; omega
    have i4 : (k : Int) < (l.length : Int) := by omega
    obtain ⟨ad, rfl, c1, c2, c3⟩ := HI.out.tick HW.out hlt;have HN := hd_ fun h => mayB_bad hlt h
    have HO := hd_ fun h => all_more hlt HA.out h
    have HX := hd_ (tbox_new wr l[k].1.1 l[k].1.2 l[k].2);have HB := hd_ (HW.out.alloc HW.out.size (.cells #[.int .i64 l[k].1.1, .int .i64 l[k].1.2, .int .i64 l[k].2] 53));have HL : Hid (∀ q, k = q + 1 → ∀ (hq : q < l.length) W, Calls Tryz.prog 97 #[.agg #[.int .i64 l[q].1.1, .int .i64 l[q].1.2], .agg #[.int .i64 l[k].1.1, .int .i64 l[k].1.2]] W fun e w' => e = .returned (.bool (lss l[q].1.1 l[q].1.2 l[k].1.1 l[k].1.2)) ∧ Below W.heap.size W w') := hd_ fun q _ hq W => less_anyCLK _ _ _ _ W
    have HT : Hid (∀ q, k = q + 1 → ∀ (hq : q < l.length), (lss l[q].1.1 l[q].1.2 l[k].1.1 l[k].1.2 = false → mayBCLK l = false) ∧ (lss l[q].1.1 l[q].1.2 l[k].1.1 l[k].1.2 = true → risesT (l.take (k + 1)) = true)) := hd_ (by
     intro q e hq;subst e;exact ⟨fun h => mayB_turn hlt h, fun h => by rw [risesT_take hlt, HR.out, h]; rfl⟩)
    have HK : Hid (okT l[k] = (vidCLK l[k].1.1 l[k].1.2 && (decide (1 ≤ l[k].2) && decide (l[k].2 ≤ 1099511627776)))) := hd_ rfl
    rw [HK.out] at HN HO;clear HK;generalize l[k].1.1 = a at *;generalize l[k].1.2 = i at *;generalize l[k].2 = n at *;have HM := hd_ fun W b h => may_any' a i W b h
    cases hv : vidCLK a i
    ·have HF := hd_ (HN.out (by rw [hv]; rfl))
     have HV := hd_ hv;clear hv;go_wp2_with fail;(with_reducible refine (HM.out _ _ HV.out).mono ?_)
     rintro e w2 ⟨rfl, hb⟩;have B2 := hd_ (ba_ HB.out hb);clear hb;go_wp2_with fail;go_ret;exact ⟨af_ HF.out.symm, B2.out⟩
    ·by_cases hn1 : n < 1
     ·have HF := hd_ (HN.out (by rw [decide_eq_false (show ¬ 1 ≤ n by omega)]; simp))
      have hdn : decide (n < 1) = true := decide_eq_true hn1
      have HV := hd_ hv;clear hv;go_wp2_with fail;(with_reducible refine (HM.out _ _ HV.out).mono ?_)
      rintro e w2 ⟨rfl, hb⟩;have B2 := hd_ (ba_ HB.out hb);have X2 := hd_ (tbox_below HX.out hb);clear hb c1 c2 c3;obtain ⟨c1, c2, c3⟩ := tbox_cells X2.out;go_wp2_with fail;go_ret;exact ⟨af_ HF.out.symm, B2.out⟩
     ·have hdn : decide (n < 1) = false := decide_eq_false hn1
      by_cases hn2 : 1099511627776 < n
      ·have HF := hd_ (HN.out (by rw [decide_eq_false (show ¬ n ≤ 1099511627776 by omega)]; simp))
       have hdm : decide (1099511627776 < n) = true := decide_eq_true hn2
       have HV := hd_ hv;clear hv;go_wp2_with fail;(with_reducible refine (HM.out _ _ HV.out).mono ?_)
       rintro e w2 ⟨rfl, hb⟩;have B2 := hd_ (ba_ HB.out hb);have X2 := hd_ (tbox_below HX.out hb);clear hb c1 c2 c3;obtain ⟨c1, c2, c3⟩ := tbox_cells X2.out;go_wp2_with fail;go_ret;exact ⟨af_ HF.out.symm, B2.out⟩
      ·have HG := hd_ (HO.out (by rw [hv, decide_eq_true (show 1 ≤ n by omega), decide_eq_true (show n ≤ 1099511627776 by omega)]; rfl))
       have hdm : decide (1099511627776 < n) = false := decide_eq_false hn2
       have HV := hd_ hv;clear hv;rcases Nat.eq_zero_or_pos k with hk0 | hk0
       ·have HR1 := hd_ (show risesT (l.take (k + 1)) = true by rw [hk0]; exact risesT_one l)
        have hdz : decide ((0 : Int) < (k : Int)) = false := decide_eq_false (by omega)
        have hdz2 : decide (0 < k) = false := decide_eq_false (by omega)
        clear HL HT hk0;go_wp2_with fail;(with_reducible refine (HM.out _ _ HV.out).mono ?_)
        rintro e w2 ⟨rfl, hb⟩;have B2 := hd_ (ba_ HB.out hb);have X2 := hd_ (tbox_below HX.out hb);clear hb c1 c2 c3;obtain ⟨c1, c2, c3⟩ := tbox_cells X2.out;go_wp2_with fail;refine wp_region_held_drew (S := fun w' => Hid (Below w.heap.size w w')) (by kernel_rfl) ?_ (fun hHeld => ?_)
        ·exact hd_ B2.out.drew
        refine ty_ 0 ?_;refine ty_ 1 ?_;refine ty_ 2 ?_;(try simp only [Act.put, si0, si1, si2]);refine tn_ 3 ?_;(try simp only [Act.put, si0, si1, si2]);refine tn_ 4 ?_;(try simp only [Act.put, si0, si1, si2]);refine tn_ 5 ?_;(try simp only [Act.put, si0, si1, si2]);refine tn_ 6 ?_;(try simp only [Act.put, si0, si1, si2]);refine tn_ 7 ?_;(try simp only [Act.put, si0, si1, si2]);refine tn_ 8 ?_;(try simp only [Act.put, si0, si1, si2]);refine tn_ 9 ?_;(try simp only [Act.put, si0, si1, si2]);refine tn_ 10 ?_;(try simp only [Act.put, si0, si1, si2]);refine tn_ 11 ?_;(try simp only [Act.put, si0, si1, si2]);refine tn_ 12 ?_;(try simp only [Act.put, si0, si1, si2]);refine ty_ 13 ?_;(try simp only [Act.put, si0, si1, si2]);refine wd_ ?_;go_wp2_with fail;go_roundw
        case rel => exact ⟨k + 1, by omega, by go_num, HG, HR1, by assumption⟩
        case measure => simp [intOf]; omega
       ·obtain ⟨q, rfl⟩ : ∃ q, k = q + 1 := ⟨k - 1, by omega⟩
        have hq : q < l.length := by omega
        have HS : Hid (∀ w', Below w.heap.size w w' → w'.cell? (ad.add (q * 3)) = some (.int .i64 l[q].1.1) ∧ w'.cell? ⟨(ad.add (q * 3)).block, (ad.add (q * 3)).off + 1, none⟩ = some (.int .i64 l[q].1.2)) := hd_ fun w' hb => ⟨HI.out.first hb hq rfl, HI.out.cell hb hq 1 (by omega) rfl⟩
        have HLL := hd_ (HL.out q rfl hq);have HTT := hd_ (HT.out q rfl hq);clear HL HT;have i5 : (0 : Int) ≤ (q : Int) := by omega
        have i6 : (q : Int) < (l.length : Int) := by omega
        have i7 : ((q : Int) + 1).toNat = q + 1 := by omega
        have i8 : IntKind.i64.wrap ((q : Int) + 1 - 1) = (q : Int) := by rw [IntWalk.i64_in _ ⟨by omega, by omega⟩]; omega
        have i9 : IntKind.i64.wrap (q : Int) = (q : Int) := IntWalk.i64_in _ ⟨by omega, by omega⟩
        have hd0 : decide ((0 : Int) < (q : Int) + 1) = true := decide_eq_true (by omega)
        generalize l[q].1.1 = a0 at *;generalize l[q].1.2 = i0 at *;generalize l[q].2 = n0 at *;cases hs : lss a0 i0 a i
        all_goals
         rw [hs] at HTT HLL;clear hs;go_wp2_with fail;(with_reducible refine (HM.out _ _ HV.out).mono ?_)
         rintro e w2 ⟨rfl, hb⟩;have B2 := hd_ (ba_ HB.out hb);have X2 := hd_ (tbox_below HX.out hb);clear hb c1 c2 c3;obtain ⟨c1, c2, c3⟩ := tbox_cells X2.out;go_wp2_with fail;have HQ := hd_ fun w' (hb : Below w2.heap.size w2 w') => And.intro (HS.out w' (ba_ B2.out hb)) (tbox_cells (tbox_below X2.out hb))
         clear c1 c2 c3
         go_region_held3 (fun w' => (w'.cell? (ad.add (q * 3)) = some (.int .i64 a0) ∧ w'.cell? ⟨(ad.add (q * 3)).block, (ad.add (q * 3)).off + 1, none⟩ = some (.int .i64 i0)) ∧ (w'.cell? ⟨wr.heap.size, 0, none⟩ = some (.int .i64 a) ∧ w'.cell? ⟨wr.heap.size, 1, none⟩ = some (.int .i64 i)) ∧ Hid (Below w2.heap.size w2 w'))
          (first | exact ⟨(HQ.out _ (Below.refl _ _).drew).1, ⟨(HQ.out _ (Below.refl _ _).drew).2.1, (HQ.out _ (Below.refl _ _).drew).2.2.1⟩, hd_ (Below.refl _ _).drew⟩ | exact ⟨(HQ.out _ HJ.out).1, ⟨(HQ.out _ HJ.out).2.1, (HQ.out _ HJ.out).2.2.1⟩, HJ⟩)
          (first | (go_at_call 97; (with_reducible refine (HLL.out _).mono ?_); rintro e w' ⟨rfl, hb⟩; have HJ := hd_ (ah_ (Below.refl _ _).drew hb (Nat.le_refl _)); clear hb))
         have B3 := hd_ (ba_ B2.out HJ.out);go_wp2_with fail
        ·go_ret
         exact ⟨af_ (HTT.out.1 (by simp)).symm, B3.out⟩
        ·go_roundw
         case rel => exact ⟨q + 1 + 1, by omega, by go_num, HG, hd_ (HTT.out.2 (by simp)), B3⟩
         case measure => simp [intOf]; omega
   ·have hdk : decide ((k : Int) < (l.length : Int)) = false := by simp; omega
    have HF := hd_ (mayB_yesCLK (l := l) (by omega) (by have := HA.out; rwa [List.take_of_length_le (by omega)] at this) (by have := HR.out; rwa [List.take_of_length_le (by omega)] at this))
    go_wp2_with fail;go_ret;exact ⟨af_ HF.out.symm, HW.out⟩
end
section
open Go.RowKit Sets Clocks
theorem says_snoc {l : List Tick} {k : Nat} (hk : k < l.length) (z : Id2) : says (l.take (k + 1)) z = if l[k].1 = z then max (says (l.take k) z) l[k].2 else says (l.take k) z := by
 rw [List.take_succ_eq_append_getElem hk, says_append];have h := says_pos (l.take k) z;simp only [says];split <;> omega
set_option maxHeartbeats 2000000 in
theorem get_any (v : Value) (l : List Tick) (x y : Int) (w : World) (h : Rcs encT 3 w v l) (hl : l.length ≤ 100000) :
  Calls Tryz.prog 168 #[v, .agg #[.int .i64 x, .int .i64 y]] w fun e w' => e = .returned (.int .i64 (says l (x, y))) ∧ Below w.heap.size w w' := by
 have HI := hd_ h;have HX0 := hd_ (ao_ w x y);have HW0 := hd_ (show Below w.heap.size w (w.alloc (.cells #[.int .i64 x, .int .i64 y] 29)) from (Below.refl _ _).alloc (Nat.le_refl _) _)
 obtain ⟨A, c, rfl, hz⟩ := h;clear hz;go_enter Tryz.func168, Tryz.ntmps168
 go_wp2_with fail;go_loopw [5, 10] (fun s5 s3 wr => ∃ k : Nat, k ≤ l.length ∧ s3 = .int .i64 k ∧ s5 = .int .i64 (says (l.take k) (x, y)) ∧ Hid (Box wr w.heap.size x y) ∧ Hid (Below w.heap.size w wr)) (fun _ s3 _ => l.length - (intOf s3).toNat)
 case atStart => exact ⟨0, by omega, rfl, by simp [says], HX0, HW0⟩
 case round =>
  obtain ⟨k, hkl, rfl, rfl, HX, HW⟩ := hrel;have i3 : (0 : Int) ≤ (k : Int) := by omega
  by_cases hlt : k < l.length
  ·have hdk : decide ((k : Int) < (l.length : Int)) = true := by simp; omega
   have i4 : (k : Int) < (l.length : Int) := by omega
   obtain ⟨ad, rfl, c1, c2, c3⟩ := HI.out.tick HW.out hlt;have HS := hd_ (says_snoc hlt (x, y));have HB := hd_ (HW.out.alloc HW.out.size (.cells #[.int .i64 l[k].1.1, .int .i64 l[k].1.2, .int .i64 l[k].2] 53));have HX2 := hd_ (ag_ HX.out ((Below.refl _ _).alloc (Nat.le_refl _) (.cells #[.int .i64 l[k].1.1, .int .i64 l[k].1.2, .int .i64 l[k].2] 53)));obtain ⟨b1, b2⟩ := ae_ HX2.out;have HE : Hid (l[k].1 = (l[k].1.1, l[k].1.2)) := hd_ rfl
   rw [HE.out] at HS;clear HE;generalize l[k].1.1 = a at *;generalize l[k].1.2 = i at *;generalize l[k].2 = n at *;generalize hg : says (l.take k) (x, y) = s at *;clear hg;have hmax := max_two s n;by_cases h1 : a = x
   ·subst h1
    by_cases h2 : i = y
    ·subst h2
     rw [if_pos rfl] at HS;generalize max s n = z at *;go_wp2_with fail;go_roundw
     case rel => exact ⟨k + 1, by omega, by go_num, by rw [HS.out], HX2, HB⟩
     case measure => simp [intOf]; omega
    ·have h3 : (i == y) = false := by simpa using h2
     rw [if_neg (fun e => h2 (by injection e))] at HS
     go_wp2_with fail;go_roundw
     case rel => exact ⟨k + 1, by omega, by go_num, by rw [HS.out], HX2, HB⟩
     case measure => simp [intOf]; omega
   ·have h3 : (a == x) = false := by simpa using h1
    rw [if_neg (fun e => h1 (by injection e))] at HS
    go_wp2_with fail;go_roundw
    case rel => exact ⟨k + 1, by omega, by go_num, by rw [HS.out], HX2, HB⟩
    case measure => simp [intOf]; omega
  ·have hdk : decide ((k : Int) < (l.length : Int)) = false := by simp; omega
   have HF := hd_ (show says (l.take k) (x, y) = says l (x, y) by rw [List.take_of_length_le (by omega)])
   go_wp2_with fail;go_ret;exact ⟨ret_int HF.out, HW.out⟩
end
end Go.Proofs.YthkkipbmlafdiaaGreat
