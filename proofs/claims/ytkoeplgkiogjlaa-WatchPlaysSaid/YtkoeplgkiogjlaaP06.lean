/-
  Carried over and put together: contracts of this program's functions, and plain facts. No statement is proved in this text.
-/
import Derived.Carry
import Derived.RangeFuncNested
import Derived.RangeFuncBound
import Derived.RangeFuncCalls
import Derived.RangeFuncLeaves
import Derived.RangeFuncFrom
import Derived.RangeFuncGives
import Derived.OwnWalkIn
import Derived.Lib.Hide
import Derived.Test.YtkoeplgkiogjlaaP03
import Derived.Test.YtkoeplgkiogjlaaP04
import Derived.Test.YtkoeplgkiogjlaaP05
set_option maxRecDepth 20000
namespace Go.Proofs.Ytkoeplgkiogjlaa
open Go Go.RowKit Sets Go.Maps Go.ChangeMaps Go.MapKept
variable {S S2 : Nat → Prop} {W W' : World} {p f n : Nat} {mb : Option Nat} {e : Dt} {K : List Id2} {D : Id2 → Dt} {L : Id2 → Nat}
theorem mapOf_perm {K K' : List Id2} (hK : ∀ q, q ∈ K ↔ q ∈ K') (L : Id2 → Nat) : mapOf K L = mapOf K' L := by
  funext q
  unfold mapOf
  by_cases h : q ∈ K
  · rw [if_pos h, if_pos ((hK q).1 h)]
  · rw [if_neg h, if_neg (fun x => h ((hK q).2 x))]
theorem Inn.perm {K' : List Id2} (h : Inn S W p f mb n e K D L) (hK : ∀ q, q ∈ K ↔ q ∈ K') : Inn S W p f mb n e K' D L := by
  refine ⟨h.box, h.inp, h.fresh, ?_, fun q hq => h.dets q ((hK q).2 hq), fun q hq r hr => h.inj q ((hK q).2 hq) r ((hK r).2 hr), fun q hq => h.far q ((hK q).2 hq), fun q hq => h.in2 q ((hK q).2 hq), h.lt⟩
  have := h.map
  cases mb with
  | none =>
    have hk : K = [] := this
    subst hk
    exact List.eq_nil_iff_forall_not_mem.2 fun q hq => by cases (hK q).2 hq
  | some b => exact ⟨this.1, by rw [← mapOf_perm hK]; exact this.2⟩
theorem Inn.mono {m : Nat} (h : Inn S W p f mb n e K D L) (hn : n ≤ m) : Inn S W p f mb m e K D L := by
  refine ⟨h.box, h.inp, h.fresh, ?_, h.dets, h.inj, h.far, h.in2, h.lt⟩
  have := h.map
  cases mb with
  | none => exact this
  | some b => exact ⟨this.1, this.2.mono hn⟩
/-- The map of a watch that has none. -/
def withMap (W : World) (p : Nat) : World := (W.alloc (.map #[] 0)).setCell ⟨p, 1, none⟩ (.map (some W.heap.size))
theorem Inn.mapped (h : Inn S W p f none n e K D L) : Inn (fun k => S k ∨ k = W.heap.size) (withMap W p) p f (some W.heap.size) 0 e K D L ∧ Upd S W (withMap W p) (fun k => S k ∨ k = W.heap.size) := by
  have hK : K = [] := h.map
  subst hK
  have B : Below W.heap.size W (W.alloc (.map #[] 0)) := below_one W _
  have hF : Fr S W (withMap W p) := (Fr.of_below B).step (.of_set _ _ h.inp)
  have hF2 : Fr (fun k => k = p) (W.alloc (.map #[] 0)) (withMap W p) := .of_set _ _ rfl
  have hp := h.lt _ h.inp
  refine ⟨⟨?_, .inl h.inp, ?_, ⟨.inr rfl, ?_⟩, fun q hq => (by cases hq), fun q hq => (by cases hq), fun q hq => (by cases hq), fun q hq => (by cases hq), ?_⟩, ⟨fun k hk => ?_, hF⟩⟩
  · have h1 := (B.block _ hp).trans h.box
    unfold withMap
    simp [World.setCell, Array.getElem?_modify, h1]
  · obtain ⟨v, h1, h2, h3, h4⟩ := h.fresh
    refine ⟨v, (h1.below B).frame hF2 (fun e => ?_) (fun g hg e => ?_), .inl h2, fun g hg => .inl (h3 g hg), h4⟩
    · exact absurd (dbox_type h1.box (by rw [show f = p from e]; exact h.box)) (by decide)
    · obtain ⟨cs, hc⟩ := gaps_type h1.gaps hg
      rw [show g = p from e, h.box] at hc
      injection hc with hc
      injection hc with _ h3
      exact absurd h3 (by decide)
  · refine (MapI.made ElP W).same (hF2.same _ (by simp) (fun e => by have e2 : W.heap.size = p := e; omega))
  · rintro k (hk | rfl)
    · exact Nat.lt_of_lt_of_le (h.lt k hk) hF.size
    · exact Nat.lt_of_lt_of_le (by simp) hF2.size
  · rcases hk with hk | rfl
    · exact .inl hk
    · exact .inr (Nat.le_refl _)
theorem Inn.det_turned {b l' : Nat} {d' : Dt} (h : Inn S W p f (some b) n e K D L) (k : Fr (fun i => i = b) W W') (hd : Dw 81 Dt.Ok S W l' d') : Dw 81 Dt.Ok S W' l' d' := by
  have hb : ∀ cs t x, W.heap[b]? ≠ some (.cells cs t x) := h.map.2.cells_not
  exact hd.other k (fun e => by
    obtain ⟨v, hx⟩ := hd.box
    unfold DBox at hx
    rw [show l' = b from e] at hx
    exact hb _ _ _ hx) (fun g cs e => by rw [show g = b from e]; exact hb _ _ _)
/-- Somebody is watched from now on. -/
theorem Inn.added {W1 W2 : World} {b m l' : Nat} {d' : Dt} {v' : Value} {q : Id2} (h : Inn S W p f (some b) n e K D L) (hb : Below W.heap.size W W1) (hd : Det 81 W1 W.heap.size l' d' v') (ok : d'.Ok) (hq : ¬ q ∈ K) (h2 : In2 q) (hD : D q = d')
    (ht : Fr (fun i => i = b) W1 W2) (hm : MapI ElP W2 b m (putI (mapOf K L) q (some (some l')))) :
    ∃ S', Inn S' W2 p f (some b) m e (K ++ [q]) D (fun r => if r = q then l' else L r) ∧ Upd S W W2 S' := by
  have hSb := h.map.1
  have hbl := h.map.2.lt
  have hF : Fr S W W2 := (Fr.of_below hb).step (ht.mono fun k e => by rw [show k = b from e]; exact hSb)
  have hmo : mapOf (K ++ [q]) (fun r => if r = q then l' else L r) = putI (mapOf K L) q (some (some l')) := by
    funext r
    unfold mapOf putI
    by_cases e : r = q
    · subst e
      simp
    · by_cases hr : r ∈ K <;> simp [e, hr]
  have h1 := h.keep hb
  have hS' : ∀ k, S k → S k ∨ (W.heap.size ≤ k ∧ k < W2.heap.size) := fun k h => .inl h
  have hlL : ∀ r ∈ K, L r < W.heap.size := fun r hr => (h.dets r hr).lt
  have hcb : ∀ cs t x, W1.heap[b]? ≠ some (.cells cs t x) := h1.map.2.cells_not
  have hpb : p ≠ b := fun e => hcb _ _ _ (e ▸ h1.box)
  refine ⟨fun k => S k ∨ (W.heap.size ≤ k ∧ k < W2.heap.size), ⟨(ht.same p (h1.lt p h1.inp) hpb).trans h1.box, .inl h.inp, (h1.det_turned ht h1.fresh).mono hS', ⟨.inl hSb, by rw [hmo]; exact hm⟩, ?_, ?_, ?_, ?_, ?_⟩, ⟨fun k hk => hk.imp id fun x => x.1, hF⟩⟩
  · intro r hr
    by_cases e : r = q
    · subst e
      rw [if_pos rfl, hD]
      have hlo := hd.lo
      refine ⟨v', (hd.mono (Nat.zero_le _)).frame ht (fun e => by have e2 : l' = b := e; omega) (fun g hg e => ?_), .inr ⟨hlo, Nat.lt_of_lt_of_le hd.lt ht.size⟩, fun g hg => ?_, ok⟩
      · have := (World.ownsRow.lt hd.gaps g hg).1
        have e2 : g = b := e
        omega
      · have h4 := (World.ownsRow.lt hd.gaps g hg).1
        obtain ⟨cs, hc⟩ := gaps_type hd.gaps hg
        exact .inr ⟨h4, Nat.lt_of_lt_of_le (row_lt hc) ht.size⟩
    · rw [if_neg e]
      rcases List.mem_append.1 hr with hr | hr
      · exact (h1.det_turned ht (h1.dets r hr)).mono hS'
      · exact absurd (List.mem_singleton.1 hr) e
  · intro r hr s hs hrs
    rcases List.mem_append.1 hr with hr | hr
    · have e1 : r ≠ q := fun e => hq (e ▸ hr)
      rw [if_neg e1] at hrs
      rcases List.mem_append.1 hs with hs | hs
      · have e2 : s ≠ q := fun e => hq (e ▸ hs)
        rw [if_neg e2] at hrs
        exact h.inj r hr s hs hrs
      · rw [if_pos (List.mem_singleton.1 hs)] at hrs
        have := hlL r hr
        have := hd.lo
        omega
    · rw [if_pos (List.mem_singleton.1 hr)] at hrs
      rcases List.mem_append.1 hs with hs | hs
      · have e2 : s ≠ q := fun e => hq (e ▸ hs)
        rw [if_neg e2] at hrs
        have := hlL s hs
        have := hd.lo
        omega
      · rw [List.mem_singleton.1 hr, List.mem_singleton.1 hs]
  · intro r hr
    have hf := h.fresh.lt
    have hlo := hd.lo
    by_cases e : r = q
    · rw [if_pos e]
      omega
    · rw [if_neg e]
      rcases List.mem_append.1 hr with hr | hr
      · exact h.far r hr
      · exact absurd (List.mem_singleton.1 hr) e
  · intro r hr
    rcases List.mem_append.1 hr with hr | hr
    · exact h.in2 r hr
    · rw [List.mem_singleton.1 hr]
      exact h2
  · rintro k (hk | hk)
    · exact Nat.lt_of_lt_of_le (h.lt k hk) hF.size
    · exact hk.2
/-- Who is watched by which detector, when some more are watched from x on. -/
def withD (e : Dt) (K : List Id2) (D : Id2 → Dt) (x : Int) : Id2 → Dt := fun q => if q ∈ K then D q else e.start x
theorem withD_in {e : Dt} {K : List Id2} {D : Id2 → Dt} {x : Int} {q : Id2} (h : q ∈ K) : withD e K D x q = D q := by unfold withD; rw [if_pos h]
theorem withD_out {e : Dt} {K : List Id2} {D : Id2 → Dt} {x : Int} {q : Id2} (h : ¬ q ∈ K) : withD e K D x q = e.start x := by unfold withD; rw [if_neg h]
theorem take_in {l : List Id2} {K : List Id2} {k : Nat} (hk : k < l.length) (h : l[k] ∈ K ++ l.take k) : ∀ q, q ∈ K ++ l.take k ↔ q ∈ K ++ l.take (k + 1) := by
  intro q
  rw [List.take_succ_eq_append_getElem hk, ← List.append_assoc, List.mem_append (s := K ++ l.take k)]
  constructor
  · exact .inl
  · rintro (h1 | h1)
    · exact h1
    · rw [List.mem_singleton.1 h1]; exact h
theorem take_add {l : List Id2} {K : List Id2} {k : Nat} (hk : k < l.length) : ∀ q, q ∈ K ++ l.take k ++ [l[k]] ↔ q ∈ K ++ l.take (k + 1) := by
  intro q
  rw [List.take_succ_eq_append_getElem hk, ← List.append_assoc]
theorem map_nil (mb : Option Nat) (W : World) : (binOp .eql 55 (.map mb) (.map none)).run Try.prog W = .ok (.bool mb.isNone) W := by
  cases mb <;> kernel_rfl
set_option maxHeartbeats 4000000 in
theorem begins_any (h : Inn S W p f mb n e K D L) (v : Value) (l : List Id2) (x : Int) (hv : Ids W v l) (hl : l.length ≤ 40000) (hvS : ∀ g, v.ownBlock = some g → ¬ S g) (hi : ∀ q ∈ l, In2 q) (hn : n ≤ 100000) :
    Calls Try.prog 35 #[.pointer (some ⟨p, 0, none⟩), v, .int .i64 x] W fun en W' => en = .returned (.tuple #[]) ∧ ∃ (S' : Nat → Prop) (b m : Nat) (L' : Id2 → Nat), Inn S' W' p f (some b) m e (K ++ l) (withD e K D x) L' ∧ m ≤ n + l.length ∧ Upd S W W' S' := by
  have H := Lib.hid h
  have HI := Lib.hid hv
  have HV := Lib.hid hvS
  have H2 := Lib.hid hi
  have hmm := @run_makeMap Try.prog
  have hqq : ∀ W, (binOp .eql 55 (.map mb) (.map none)).run Try.prog W = .ok (.bool mb.isNone) W := map_nil mb
  obtain ⟨A, c, rfl, hz⟩ := id hv
  obtain ⟨c0, c1⟩ := h.cells
  have f1 := h.free
  clear hz hv h hvS hi
  go_enter Try.func35, Try.ntmps35
  go_upto_if 15 with fail
  go_cut [16] (fun _ wx => ∃ (S' : Nat → Prop) (b m : Nat), Hid (Inn S' wx p f (some b) m e K D L) ∧ Hid (m ≤ n) ∧ Hid (Upd S W wx S'))
  case first =>
    cases mb with
    | none =>
      have B1 := Lib.hid (below_one W (.map #[] 0))
      have HW := Lib.hid H.out.mapped
      have c1' := (H.out.keep B1.out).cells.2
      have f1' := (H.out.keep B1.out).free
      go_wp2_with fail
      go_meet
      exact ⟨_, _, _, Lib.hid HW.out.1, Lib.hid (Nat.zero_le _), Lib.hid HW.out.2⟩
    | some b =>
      go_wp2_with fail
      go_meet
      exact ⟨_, _, _, H, Lib.hid (Nat.le_refl _), Lib.hid (.of_fr (Fr.refl _ _))⟩
  case rest =>
    obtain ⟨S1, b, m, H1, HM, U1⟩ := hcut
    clear c0 c1 f1
    have HB1 := Lib.hid (H1.out.congr (D' := withD e K D x) fun q hq => withD_in hq)
    clear H1
    go_wp2_with fail
    go_loopw [22] (fun s22 wr => ∃ (k : Nat) (S' : Nat → Prop) (m' : Nat) (L' : Id2 → Nat), k ≤ l.length ∧ s22 = .int .i64 k ∧ Hid (Inn S' wr p f (some b) m' e (K ++ l.take k) (withD e K D x) L') ∧ Hid (m' ≤ n + k) ∧ Hid (Upd S W wr S')) (fun s22 _ => l.length - (intOf s22).toNat)
    case atStart => exact ⟨0, S1, m, L, by omega, rfl, Lib.hid (by simpa using HB1.out), HM, U1⟩
    case round =>
      obtain ⟨k, S', m', L', hkl, rfl, HH, HN, HU⟩ := hrel
      clear HB1 HM U1
      have i3 : (0 : Int) ≤ (k : Int) := by omega
      by_cases hlt : k < l.length
      · have hd : decide ((k : Int) < (l.length : Int)) = true := by simp; omega
        have i4 : (k : Int) < (l.length : Int) := by omega
        have I1 := Lib.hid (HI.out.frame HU.out.fr HV.out)
        obtain ⟨ad, rfl, c1, c2⟩ := I1.out.at_ (Below.refl _ _) hlt
        have TI := Lib.hid (take_in (K := K) hlt)
        have TA := Lib.hid (take_add (K := K) hlt)
        have HQ := Lib.hid (H2.out _ (List.getElem_mem hlt))
        generalize l[k] = q at *
        obtain ⟨a, i⟩ := q
        have B1 := Lib.hid (below_one wr (.cells #[.int .i64 a, .int .i64 i] 35))
        have X1 := Lib.hid (box_new wr a i)
        have G1 := Lib.hid (HH.out.keep B1.out)
        have U2 := Lib.hid (HU.out.trans (.keep B1.out))
        go_upto_region 5 with fail
        clear c1 c2 I1 HH HU B1
        generalize wr.alloc (.cells #[.int .i64 a, .int .i64 i] 35) = w1 at *
        generalize wr.heap.size = gb at *
        have HS : Hid (∀ w', Below w1.heap.size w1 w' → (w'.cell? ⟨gb, 0, none⟩ = some (.int .i64 a) ∧ w'.cell? ⟨gb, 1, none⟩ = some (.int .i64 i) ∧ w'.cell? ⟨p, 1, none⟩ = some (.map (some b)) ∧ (Instr.lookup 55 (.map (some b)) (.agg #[.int .i64 a, .int .i64 i]) true).run Try.prog w' = .ok (.tuple #[ptV (if (a, i) ∈ K ++ l.take k then some (L' (a, i)) else none), .bool (hasB (a, i) (K ++ l.take k))]) w' ∧ Hid (Below w1.heap.size w1 w'))) := Lib.hid fun w' hb => by
          have h1 := G1.out.keep hb
          obtain ⟨c0, c1⟩ := box_cells (box_below X1.out hb)
          exact ⟨c0, c1, h1.cells.2, h1.look HQ.out, Lib.hid hb⟩
        by_cases hk : (a, i) ∈ K ++ l.take k
        · rw [if_pos hk, hasB_in hk] at HS
          have HK := Lib.hid hk
          clear hk
          simp only [ptV, Option.map_some] at HS
          refine wp_region_held_drew (S := fun w' => w'.cell? ⟨gb, 0, none⟩ = some (.int .i64 a) ∧ w'.cell? ⟨gb, 1, none⟩ = some (.int .i64 i) ∧ w'.cell? ⟨p, 1, none⟩ = some (.map (some b)) ∧ (Instr.lookup 55 (.map (some b)) (.agg #[.int .i64 a, .int .i64 i]) true).run Try.prog w' = .ok (.tuple #[.pointer (some ⟨L' (a, i), 0, none⟩), .bool true]) w' ∧ Hid (Below w1.heap.size w1 w')) (by kernel_rfl) ?_ (fun hHeld => ?_)
          · exact HS.out _ (below_drewN (n := 1) (Below.refl _ _))
          (refine wpAnyH_take (i := 0) (oi := ⟨_, _, _, _, _, _⟩) (v := ?_) rfl (by kernel_rfl) (by kernel_rfl) (by kernel_rfl) (fun _ _ _ h => h) (Or.inl ⟨by rfl, ?_⟩) (by assumption) ?_; rotate_left 1; · (intro w hSw; (try dsimp only at hSw); go_simp; all_goals with_reducible rfl))
          try simp only [Act.put, List.setIfInBounds_toArray, List.set_cons_zero, List.set_cons_succ]
          (refine wpAnyH_take (i := 1) (oi := ⟨_, _, _, _, _, _⟩) (v := ?_) rfl (by kernel_rfl) (by kernel_rfl) (by kernel_rfl) (fun _ _ _ h => h) (Or.inl ⟨by rfl, ?_⟩) (by assumption) ?_; rotate_left 1; · (intro w hSw; (try dsimp only at hSw); go_simp; all_goals with_reducible rfl))
          try simp only [Act.put, List.setIfInBounds_toArray, List.set_cons_zero, List.set_cons_succ]
          (refine wpAnyH_take (i := 2) (oi := ⟨_, _, _, _, _, _⟩) (v := ?_) rfl (by kernel_rfl) (by kernel_rfl) (by kernel_rfl) (fun _ _ _ h => h) (Or.inl ⟨by rfl, ?_⟩) (by assumption) ?_; rotate_left 1; · (intro w hSw; (try dsimp only at hSw); go_simp; all_goals with_reducible rfl))
          try simp only [Act.put, List.setIfInBounds_toArray, List.set_cons_zero, List.set_cons_succ]
          (refine wpAnyH_take (i := 3) (oi := ⟨_, _, _, _, _, _⟩) (v := ?_) rfl (by kernel_rfl) (by kernel_rfl) (by kernel_rfl) (fun _ _ _ h => h) (Or.inl ⟨by rfl, ?_⟩) (by assumption) ?_; rotate_left 1; · (intro w hSw; (try dsimp only at hSw); go_simp; all_goals with_reducible rfl))
          try simp only [Act.put, List.setIfInBounds_toArray, List.set_cons_zero, List.set_cons_succ]
          (refine wpAnyH_take (i := 4) (oi := ⟨_, _, _, _, _, _⟩) (v := ?_) rfl (by kernel_rfl) (by kernel_rfl) (by kernel_rfl) (fun _ _ _ h => h) (Or.inl ⟨by rfl, ?_⟩) (by assumption) ?_; rotate_left 1; · (intro w hSw; (try dsimp only at hSw); go_simp; all_goals with_reducible rfl))
          try simp only [Act.put, List.setIfInBounds_toArray, List.set_cons_zero, List.set_cons_succ]
          (refine wpAnyH_take (i := 5) (oi := ⟨_, _, _, _, _, _⟩) (v := ?_) rfl (by kernel_rfl) (by kernel_rfl) (by kernel_rfl) (fun _ _ _ h => h) (Or.inl ⟨by rfl, ?_⟩) (by assumption) ?_; rotate_left 1; · (intro w hSw; (try dsimp only at hSw); go_simp; all_goals with_reducible rfl))
          try simp only [Act.put, List.setIfInBounds_toArray, List.set_cons_zero, List.set_cons_succ]
          (refine wpAnyH_take (i := 6) (oi := ⟨_, _, _, _, _, _⟩) (v := ?_) rfl (by kernel_rfl) (by kernel_rfl) (by kernel_rfl) (fun _ _ _ h => h) (Or.inl ⟨by rfl, ?_⟩) (by assumption) ?_; rotate_left 1; · (intro w hSw; (try dsimp only at hSw); go_simp; all_goals with_reducible rfl))
          try simp only [Act.put, List.setIfInBounds_toArray, List.set_cons_zero, List.set_cons_succ]
          (refine wpAnyH_take (i := 7) (oi := ⟨_, _, _, _, _, _⟩) (v := ?_) rfl (by kernel_rfl) (by kernel_rfl) (by kernel_rfl) (fun _ _ _ h => h) (Or.inl ⟨by rfl, ?_⟩) (by assumption) ?_; rotate_left 1; · (intro w hSw; (try dsimp only at hSw); go_simp; all_goals with_reducible rfl))
          try simp only [Act.put, List.setIfInBounds_toArray, List.set_cons_zero, List.set_cons_succ]
          (refine wpAnyH_take (i := 8) (oi := ⟨_, _, _, _, _, _⟩) (v := ?_) rfl (by kernel_rfl) (by kernel_rfl) (by kernel_rfl) (fun _ _ _ h => h) (Or.inl ⟨by rfl, ?_⟩) (by assumption) ?_; rotate_left 1; · (intro w hSw; (try dsimp only at hSw); go_simp; all_goals with_reducible rfl))
          try simp only [Act.put, List.setIfInBounds_toArray, List.set_cons_zero, List.set_cons_succ]
          (refine wpAnyH_take (i := 9) (oi := ⟨_, _, _, _, _, _⟩) (v := ?_) rfl (by kernel_rfl) (by kernel_rfl) (by kernel_rfl) (fun _ _ _ h => h) (Or.inl ⟨by rfl, ?_⟩) (by assumption) ?_; rotate_left 1; · (intro w hSw; (try dsimp only at hSw); go_simp; all_goals with_reducible rfl))
          try simp only [Act.put, List.setIfInBounds_toArray, List.set_cons_zero, List.set_cons_succ]
          (refine wpAnyH_take (i := 10) (oi := ⟨_, _, _, _, _, _⟩) (v := ?_) rfl (by kernel_rfl) (by kernel_rfl) (by kernel_rfl) (fun _ _ _ h => h) (Or.inl ⟨by rfl, ?_⟩) (by assumption) ?_; rotate_left 1; · (intro w hSw; (try dsimp only at hSw); go_simp; all_goals with_reducible rfl))
          try simp only [Act.put, List.setIfInBounds_toArray, List.set_cons_zero, List.set_cons_succ]
          refine wpAnyH_done (by kernel_rfl) ?_ _
          obtain ⟨c0, c1, c2, c3, HB⟩ := hHeld
          have G3 := Lib.hid (G1.out.keep HB.out)
          have U3 := Lib.hid (U2.out.trans (.keep HB.out))
          have X3 := Lib.hid (box_below X1.out HB.out)
          clear c0 c1 c2 c3 HS G1 U2 X1
          go_wp2_with fail
          go_roundw
          case rel => exact ⟨k + 1, S', m', L', by omega, by go_num, Lib.hid (G3.out.perm (TI.out HK.out)), Lib.hid (by have := HN.out; omega), U3⟩
          case measure => simp [intOf]; omega
        · rw [if_neg hk, hasB_not hk] at HS
          have HK := Lib.hid hk
          clear hk
          simp only [ptV, Option.map_none] at HS
          refine wp_region_held_drew (S := fun w' => w'.cell? ⟨gb, 0, none⟩ = some (.int .i64 a) ∧ w'.cell? ⟨gb, 1, none⟩ = some (.int .i64 i) ∧ w'.cell? ⟨p, 1, none⟩ = some (.map (some b)) ∧ (Instr.lookup 55 (.map (some b)) (.agg #[.int .i64 a, .int .i64 i]) true).run Try.prog w' = .ok (.tuple #[.pointer none, .bool false]) w' ∧ Hid (Below w1.heap.size w1 w')) (by kernel_rfl) ?_ (fun hHeld => ?_)
          · exact HS.out _ (below_drewN (n := 1) (Below.refl _ _))
          (refine wpAnyH_take (i := 0) (oi := ⟨_, _, _, _, _, _⟩) (v := ?_) rfl (by kernel_rfl) (by kernel_rfl) (by kernel_rfl) (fun _ _ _ h => h) (Or.inl ⟨by rfl, ?_⟩) (by assumption) ?_; rotate_left 1; · (intro w hSw; (try dsimp only at hSw); go_simp; all_goals with_reducible rfl))
          try simp only [Act.put, List.setIfInBounds_toArray, List.set_cons_zero, List.set_cons_succ]
          (refine wpAnyH_take (i := 1) (oi := ⟨_, _, _, _, _, _⟩) (v := ?_) rfl (by kernel_rfl) (by kernel_rfl) (by kernel_rfl) (fun _ _ _ h => h) (Or.inl ⟨by rfl, ?_⟩) (by assumption) ?_; rotate_left 1; · (intro w hSw; (try dsimp only at hSw); go_simp; all_goals with_reducible rfl))
          try simp only [Act.put, List.setIfInBounds_toArray, List.set_cons_zero, List.set_cons_succ]
          (refine wpAnyH_take (i := 2) (oi := ⟨_, _, _, _, _, _⟩) (v := ?_) rfl (by kernel_rfl) (by kernel_rfl) (by kernel_rfl) (fun _ _ _ h => h) (Or.inl ⟨by rfl, ?_⟩) (by assumption) ?_; rotate_left 1; · (intro w hSw; (try dsimp only at hSw); go_simp; all_goals with_reducible rfl))
          try simp only [Act.put, List.setIfInBounds_toArray, List.set_cons_zero, List.set_cons_succ]
          (refine wpAnyH_take (i := 3) (oi := ⟨_, _, _, _, _, _⟩) (v := ?_) rfl (by kernel_rfl) (by kernel_rfl) (by kernel_rfl) (fun _ _ _ h => h) (Or.inl ⟨by rfl, ?_⟩) (by assumption) ?_; rotate_left 1; · (intro w hSw; (try dsimp only at hSw); go_simp; all_goals with_reducible rfl))
          try simp only [Act.put, List.setIfInBounds_toArray, List.set_cons_zero, List.set_cons_succ]
          (refine wpAnyH_take (i := 4) (oi := ⟨_, _, _, _, _, _⟩) (v := ?_) rfl (by kernel_rfl) (by kernel_rfl) (by kernel_rfl) (fun _ _ _ h => h) (Or.inl ⟨by rfl, ?_⟩) (by assumption) ?_; rotate_left 1; · (intro w hSw; (try dsimp only at hSw); go_simp; all_goals with_reducible rfl))
          try simp only [Act.put, List.setIfInBounds_toArray, List.set_cons_zero, List.set_cons_succ]
          (refine wpAnyH_take (i := 5) (oi := ⟨_, _, _, _, _, _⟩) (v := ?_) rfl (by kernel_rfl) (by kernel_rfl) (by kernel_rfl) (fun _ _ _ h => h) (Or.inl ⟨by rfl, ?_⟩) (by assumption) ?_; rotate_left 1; · (intro w hSw; (try dsimp only at hSw); go_simp; all_goals with_reducible rfl))
          try simp only [Act.put, List.setIfInBounds_toArray, List.set_cons_zero, List.set_cons_succ]
          (refine wpAnyH_take (i := 6) (oi := ⟨_, _, _, _, _, _⟩) (v := ?_) rfl (by kernel_rfl) (by kernel_rfl) (by kernel_rfl) (fun _ _ _ h => h) (Or.inl ⟨by rfl, ?_⟩) (by assumption) ?_; rotate_left 1; · (intro w hSw; (try dsimp only at hSw); go_simp; all_goals with_reducible rfl))
          try simp only [Act.put, List.setIfInBounds_toArray, List.set_cons_zero, List.set_cons_succ]
          (refine wpAnyH_take (i := 7) (oi := ⟨_, _, _, _, _, _⟩) (v := ?_) rfl (by kernel_rfl) (by kernel_rfl) (by kernel_rfl) (fun _ _ _ h => h) (Or.inl ⟨by rfl, ?_⟩) (by assumption) ?_; rotate_left 1; · (intro w hSw; (try dsimp only at hSw); go_simp; all_goals with_reducible rfl))
          try simp only [Act.put, List.setIfInBounds_toArray, List.set_cons_zero, List.set_cons_succ]
          (refine wpAnyH_take (i := 8) (oi := ⟨_, _, _, _, _, _⟩) (v := ?_) rfl (by kernel_rfl) (by kernel_rfl) (by kernel_rfl) (fun _ _ _ h => h) (Or.inl ⟨by rfl, ?_⟩) (by assumption) ?_; rotate_left 1; · (intro w hSw; (try dsimp only at hSw); go_simp; all_goals with_reducible rfl))
          try simp only [Act.put, List.setIfInBounds_toArray, List.set_cons_zero, List.set_cons_succ]
          (refine wpAnyH_take (i := 9) (oi := ⟨_, _, _, _, _, _⟩) (v := ?_) rfl (by kernel_rfl) (by kernel_rfl) (by kernel_rfl) (fun _ _ _ h => h) (Or.inl ⟨by rfl, ?_⟩) (by assumption) ?_; rotate_left 1; · (intro w hSw; (try dsimp only at hSw); go_simp; all_goals with_reducible rfl))
          try simp only [Act.put, List.setIfInBounds_toArray, List.set_cons_zero, List.set_cons_succ]
          (refine wpAnyH_take (i := 10) (oi := ⟨_, _, _, _, _, _⟩) (v := ?_) rfl (by kernel_rfl) (by kernel_rfl) (by kernel_rfl) (fun _ _ _ h => h) (Or.inl ⟨by rfl, ?_⟩) (by assumption) ?_; rotate_left 1; · (intro w hSw; (try dsimp only at hSw); go_simp; all_goals with_reducible rfl))
          try simp only [Act.put, List.setIfInBounds_toArray, List.set_cons_zero, List.set_cons_succ]
          refine wpAnyH_done (by kernel_rfl) ?_ _
          obtain ⟨c0, c1, c2, c3, HB⟩ := hHeld
          have G3 := Lib.hid (G1.out.keep HB.out)
          have U3 := Lib.hid (U2.out.trans (.keep HB.out))
          have X3 := Lib.hid (box_below X1.out HB.out)
          clear c0 c1 c2 c3 HS G1 U2 X1
          go_upto_region 7 with fail
          generalize World.drew _ = w3 at *
          clear HB
          obtain ⟨c0, c1⟩ := G3.out.cells
          obtain ⟨fv, hfv, hf1, hf2, hok⟩ := G3.out.fresh
          have HFV := Lib.hid hfv
          have HOK := Lib.hid hok
          clear hfv hf1 hf2 hok
          go_wp2_with fail
          (with_reducible refine (copy_any 0 f e fv _ HFV.out HOK.out).mono ?_)
          rintro en w4 ⟨l', v', rfl, h1, h2⟩
          have D4 := Lib.hid h1
          have B4 := Lib.hid h2
          clear h1 h2 c0 c1
          go_wp2_with fail
          (with_reducible refine (begin_any w3.heap.size l' e v' x _ D4.out).mono ?_)
          rintro en w5 ⟨rfl, v5, h1, h2, -⟩
          have D5 := Lib.hid h1
          have B5 := Lib.hid (below_grown B4.out h2 (Nat.le_refl _) D4.out.lo)
          clear h1 h2 D4 B4
          go_upto_region 9 with fail
          have G5 := Lib.hid (G3.out.keep B5.out)
          have X5 := Lib.hid (box_below X3.out B5.out)
          have hgb : Hid (gb ≠ b) := Lib.hid fun e => G5.out.map.2.cells_not _ _ _ (e ▸ X5.out)
          have hpb : Hid (p ≠ b) := Lib.hid fun e => G5.out.map.2.cells_not _ _ _ (e ▸ G5.out.box)
          have HS : Hid (∀ w', Fr (fun i => i = b) w5 w' → (w'.cell? ⟨gb, 0, none⟩ = some (.int .i64 a) ∧ w'.cell? ⟨gb, 1, none⟩ = some (.int .i64 i) ∧ w'.cell? ⟨p, 1, none⟩ = some (.map (some b)))) := Lib.hid fun w' hf => by
            obtain ⟨c0, c1⟩ := box_cells (X5.out.fr hf hgb.out)
            have h1 := (hf.same _ (G5.out.lt _ G5.out.inp) hpb.out).trans G5.out.box
            exact ⟨c0, c1, by rw [cell_of_row _ _ 1 _ _ _ h1]; rfl⟩
          refine wp_region_held_drew (S := fun w' => w'.cell? ⟨gb, 0, none⟩ = some (.int .i64 a) ∧ w'.cell? ⟨gb, 1, none⟩ = some (.int .i64 i) ∧ w'.cell? ⟨p, 1, none⟩ = some (.map (some b))) (by kernel_rfl) ?_ (fun hHeld => ?_)
          · exact HS.out _ (.of_below (Below.refl _ _).drew)
          (refine wpAnyH_take (i := 0) (oi := ⟨_, _, _, _, _, _⟩) (v := ?_) rfl (by kernel_rfl) (by kernel_rfl) (by kernel_rfl) (fun _ _ _ h => h) (Or.inl ⟨by rfl, ?_⟩) (by assumption) ?_; rotate_left 1; · (intro w hSw; (try dsimp only at hSw); go_simp; all_goals with_reducible rfl))
          try simp only [Act.put, List.setIfInBounds_toArray, List.set_cons_zero, List.set_cons_succ]
          (refine wpAnyH_take (i := 1) (oi := ⟨_, _, _, _, _, _⟩) (v := ?_) rfl (by kernel_rfl) (by kernel_rfl) (by kernel_rfl) (fun _ _ _ h => h) (Or.inl ⟨by rfl, ?_⟩) (by assumption) ?_; rotate_left 1; · (intro w hSw; (try dsimp only at hSw); go_simp; all_goals with_reducible rfl))
          try simp only [Act.put, List.setIfInBounds_toArray, List.set_cons_zero, List.set_cons_succ]
          (refine wpAnyH_take (i := 2) (oi := ⟨_, _, _, _, _, _⟩) (v := ?_) rfl (by kernel_rfl) (by kernel_rfl) (by kernel_rfl) (fun _ _ _ h => h) (Or.inl ⟨by rfl, ?_⟩) (by assumption) ?_; rotate_left 1; · (intro w hSw; (try dsimp only at hSw); go_simp; all_goals with_reducible rfl))
          try simp only [Act.put, List.setIfInBounds_toArray, List.set_cons_zero, List.set_cons_succ]
          (refine wpAnyH_take (i := 3) (oi := ⟨_, _, _, _, _, _⟩) (v := ?_) rfl (by kernel_rfl) (by kernel_rfl) (by kernel_rfl) (fun _ _ _ h => h) (Or.inl ⟨by rfl, ?_⟩) (by assumption) ?_; rotate_left 1; · (intro w hSw; (try dsimp only at hSw); go_simp; all_goals with_reducible rfl))
          try simp only [Act.put, List.setIfInBounds_toArray, List.set_cons_zero, List.set_cons_succ]
          (refine wpAnyH_take (i := 4) (oi := ⟨_, _, _, _, _, _⟩) (v := ?_) rfl (by kernel_rfl) (by kernel_rfl) (by kernel_rfl) (fun _ _ _ h => h) (Or.inl ⟨by rfl, ?_⟩) (by assumption) ?_; rotate_left 1; · (intro w hSw; (try dsimp only at hSw); go_simp; all_goals with_reducible rfl))
          try simp only [Act.put, List.setIfInBounds_toArray, List.set_cons_zero, List.set_cons_succ]
          (refine wpAnyH_take (i := 5) (oi := ⟨_, _, _, _, _, _⟩) (v := ?_) rfl (by kernel_rfl) (by kernel_rfl) (by kernel_rfl) (fun _ _ _ h => h) (Or.inl ⟨by rfl, ?_⟩) (by assumption) ?_; rotate_left 1; · (intro w hSw; (try dsimp only at hSw); go_simp; all_goals with_reducible rfl))
          try simp only [Act.put, List.setIfInBounds_toArray, List.set_cons_zero, List.set_cons_succ]
          refine wpAnyH_ready (rs := [6]) (by kernel_rfl) (by simp) ?_
          refine AllReadyH.cons (o := ⟨_, _, _, _, _, _⟩) rfl (fun Kq hKq => ?_) (AllReadyH.nil)
          clear hHeld
          refine step_puts (by rfl) (.tmp 48) (.tmp 49) (.tmp 50) (by rfl) Try.underlying55 _ (G5.out.keep (Below.refl _ _).drew).map.2 (by have := HN.out; unfold maxLen; omega) HQ.out (some l') (by rfl) (by rfl) (by rfl) ?_; intro w6 hm6 ht6; have M6 := Lib.hid hm6; have HF6 : Hid (Fr (fun i => i = b) w5 w6) := Lib.hid ((Fr.of_below (Below.refl _ _).drew).step (.of_turned ht6 rfl)); clear hm6 ht6
          refine hKq.out _ _ ?_ (fun hHeld => ?_)
          · (try dsimp only); exact HS.out _ HF6.out
          clear hKq Kq
          try simp only [Act.put]
          refine wpAnyH_done (by kernel_rfl) ?_ _
          clear hHeld HS
          obtain ⟨S6, k1, k2⟩ := G3.out.added B5.out D5.out (Dt.start_ok HOK.out x) HK.out HQ.out (withD_out fun h => HK.out (List.mem_append_left _ h)) HF6.out M6.out
          have G6 := Lib.hid (k1.perm TA.out)
          have U6 := Lib.hid (U3.out.trans k2)
          clear k1 k2 G3 U3 G5 X5 M6 HF6
          go_wp2_with fail
          go_roundw
          case rel => exact ⟨k + 1, S6, m' + 1, _, by omega, by go_num, G6, Lib.hid (by have := HN.out; omega), U6⟩
          case measure => simp [intOf]; omega
      · obtain rfl : k = l.length := by omega
        have hd : decide ((l.length : Int) < (l.length : Int)) = false := by simp
        have HE : Hid (Inn S' wr p f (some b) m' e (K ++ l) (withD e K D x) L') := Lib.hid (by have := HH.out; rwa [List.take_length] at this)
        go_wp2_with fail
        go_end0
        exact ⟨rfl, S', b, m', L', HE.out, HN.out, HU.out⟩
end Go.Proofs.Ytkoeplgkiogjlaa
namespace Go.Proofs.Ytkoeplgkiogjlaa
open Go Go.RowKit
variable {P : Program} {α : Type}
/-- How a round ends. -/
def givePost (L D : Nat) (C : World) (I : World → Prop) : Exit → Act → World → Prop
  | .normal, _, E => E.heap[D]? = C.heap[D]? ∧ E.heap[L]? = C.heap[L]? ∧ I E ∧ KeepsWalks C E
  | _, _, _ => False
theorem wp_gives {g : Operand} {ps : Array Tmp} {assign body : Code} {Q : Exit → Act → World → Prop} {a : Act} {w w00 : World} {gf : Nat} {lb : Array Value} (hg : a.eval g = .func (.func gf) #[] lb)
    (eg : ∀ args w, (callFunc gf args).run P w = .ok (.enter gf args) w) {enc : α → Value} {S : List α → Prop} {N : Nat} (hseq : SeqGives Fence.wide 1 P gf lb enc S N w00) (hw00 : Below w00.heap.size w00 w) (hps : ps.size = 1)
    (I : List α → World → Prop)
    (h0 : ∀ W, w.heap.size + 2 ≤ W.heap.size → Below w.heap.size w W → I [] W)
    (hI : ∀ pre A B row, I pre A → A.grownBy B row → (∀ r, row = some r → r = w.heap.size + 1 ∨ (w.heap.size + 2 ≤ r ∧ ∃ o : Obj, A.heap[r]? = some o ∧ o.isWalk = true)) → I pre B)
    (hround : ∀ pre x A, pre.length < N → I pre A → w.heap.size + 2 ≤ A.heap.size → (∃ r, A.heap[w.heap.size + 1]? = some (.loop r)) →
      assign.wpIn (Fence.wide.inRound (w.heap.size + 1)) 0 P
        (Exit.then (fun a1 B => B.heap[w.heap.size]? = A.heap[w.heap.size]? ∧ B.heap[w.heap.size + 1]? = A.heap[w.heap.size + 1]? ∧ KeepsWalks A B ∧
            ∀ C, B.grownBy C (some (w.heap.size + 1)) → body.wpIn (Fence.wide.inRound (w.heap.size + 1)) 0 P (givePost (w.heap.size + 1) w.heap.size C (I (pre ++ [x]))) a1 C)
          (fun _ _ _ => False)) { tmps := (ps.zip #[enc x]).foldl (fun t (p, v) => t.setIfInBounds p v) a.tmps, defers := [] } A)
    (hdone : ∀ xs W, S xs → xs.length ≤ N → I xs W → W.heap[w.heap.size]? = some (.deferred (some [])) → Q .normal { a with defers := { target := .collected w.heap.size, args := #[] } :: a.defers } W) :
    (Code.rangeFunc g ps assign body).wpIn Fence.wide 0 P Q a w := by
  refine wpIn_rangeFunc ?_
  intro fn _
  obtain ⟨rec, hrec⟩ : ∃ rec : LoopState → Option Code → Loop, rec = fun st pe => { state := st, pending := pe, fn, tmps := a.tmps, params := ps, assign, body, defers := w.heap.size } := ⟨_, rfl⟩
  obtain ⟨W1, hW1⟩ : ∃ W1, (w.alloc (.deferred (some []))).alloc (.loop (rec .ready none)) = W1 := ⟨_, rfl⟩
  have hs1 : W1.heap.size = w.heap.size + 2 := by rw [← hW1]; simp
  have hL1 : W1.heap[w.heap.size + 1]? = some (.loop (rec .ready none)) := by
    rw [← hW1]
    have := World.alloc_heap_new (w.alloc (.deferred (some []))) (.loop (rec .ready none))
    rwa [World.size_alloc] at this
  have hD1 : W1.heap[w.heap.size]? = some (.deferred (some [])) := by
    rw [← hW1]
    exact (Below.heap_alloc _ _ _ (by simp)).trans (World.alloc_heap_new w _)
  have hb1 : Below w.heap.size w W1 := by
    rw [← hW1]
    exact ((Below.refl _ w).alloc (Nat.le_refl _) _).alloc (by simp) _
  have put : ∀ (A : World) (o : Obj), A.grownBy (A.putObj (w.heap.size + 1) o) (some (w.heap.size + 1)) := fun A o => grownBy_putObj' A _ o
  have keepI : ∀ pre (A : World) (o : Obj), I pre A → I pre (A.putObj (w.heap.size + 1) o) := fun pre A o h => hI pre A _ _ h (put A o) (fun r e => .inl (by injection e with e; exact e.symm))
  refine ⟨w.heap.size + 1, [{ target := .collected w.heap.size, args := #[] }], W1, { target := .fn (.func gf) lb, args := #[.func (.yield (w.heap.size + 1)) #[] #[]] }, W1, gf,
    #[.func (.yield (w.heap.size + 1)) #[] #[]] ++ lb, W1, ?_, ?_, ?_, ?_, (fun h => by simp [Fence.wide] at h), ?_⟩
  · rw [← hW1, hrec]
    exact run_enterLoop_outer _ _ _ _ _
  · simp only [resolve, hg]
    simp [go_sem]
  · exact fun _ _ => trivial
  · simp [invoke, go_sem, eg]
  · refine ((callsIn_wide (n := 0)).2 ((callsIn_wide (n := 1)).1 (hseq.bounded (w.heap.size + 1) (fun pre W => w.heap.size + 2 ≤ W.heap.size ∧ W.heap[w.heap.size]? = some (.deferred (some [])) ∧ I pre W ∧ W.heap[w.heap.size + 1]? = some (.loop (rec .ready none))) W1 (hw00.trans (hb1.mono hw00.size)) ?_ ?_ ⟨by omega, hD1, h0 W1 (by omega) hb1, hL1⟩))).mono ?_
    · rintro pre A B row ⟨hs, hd, hi, hl⟩ hgr hrow
      have hne : ∀ k, k < w.heap.size + 2 → some k ≠ row := fun k hk e => by have := (hrow k e.symm).1; omega
      exact ⟨Nat.le_trans hs hgr.size, (hgr.block _ (by omega) (hne _ (by omega))).trans hd, hI pre A B row hi hgr (fun r e => .inr ⟨by have := (hrow r e).1; omega, (hrow r e).2⟩), (hgr.block _ (by omega) (hne _ (by omega))).trans hl⟩
    · rintro pre x A ⟨hs, hd, hi, hl⟩ hN
      have hy := run_yield (P := P) (args := #[enc x]) hl (by rw [hrec]; simp [hps])
      rw [hrec] at hy
      refine ⟨fn, _, assign, body, hy, roundIn_of_wpIn trivial ?_⟩
      have hr := hround pre x A hN hi hs ⟨_, hl⟩
      refine wpIn_mono hr ?_
      rintro e a1 B hpost
      cases e with
      | normal =>
        obtain ⟨kd1, hl1, hkw, hbody⟩ := hpost
        have hlB : B.heap[w.heap.size + 1]? = some (.loop (rec .ready none)) := hl1.trans hl
        have hltB : w.heap.size + 1 < B.heap.size := (Array.getElem?_eq_some_iff.1 hlB).1
        refine ⟨_, run_beginRound hlB (by rw [hrec]), ?_⟩
        refine wpIn_mono (hbody _ (put B _)) ?_
        have hkw2 := hkw.trans (KeepsWalks.putObj (W := B) (r := w.heap.size + 1) (.loop { rec .ready none with state := .busy }) hlB rfl)
        have hC1 : (B.putObj (w.heap.size + 1) (.loop { rec .ready none with state := .busy })).heap[w.heap.size + 1]? = some (.loop { rec .ready none with state := .busy }) := World.putObj_heap_same hltB
        have hC2 : (B.putObj (w.heap.size + 1) (.loop { rec .ready none with state := .busy })).heap[w.heap.size]? = some (.deferred (some [])) := (World.putObj_heap_other (by omega)).trans (kd1.trans hd)
        rintro e2 a2 E hpost2
        cases e2 with
        | normal =>
          obtain ⟨kd3, hl3, hiE, hkw3⟩ := hpost2
          have hl4 := hl3.trans hC1
          have hk4 := kd3.trans hC2
          have hr2 := run_endRound (P := P) none hl4
          have hlt3 := (Array.getElem?_eq_some_iff.1 hl4).1
          have hsz := (put E (.loop (rec .ready none))).size
          have hkw4 := (hkw2.trans hkw3).trans (KeepsWalks.putObj (W := E) (r := w.heap.size + 1) (.loop (rec .ready none)) hl4 rfl)
          rw [hrec] at hr2 hkw4 hsz ⊢
          refine ⟨_, _, hr2, rfl, ⟨?_, (World.putObj_heap_other (by omega)).trans hk4, keepI _ E _ hiE, World.putObj_heap_same hlt3⟩, hkw4⟩
          exact Nat.le_trans (by omega) hsz
        | ret => exact hpost2.elim
        | exit id => exact hpost2.elim
        | goto t => exact hpost2.elim
        | panic ch => exact hpost2.elim
        | outgrown => exact hpost2.elim
      | ret => exact hpost.elim
      | exit id => exact hpost.elim
      | goto t => exact hpost.elim
      | panic ch => exact hpost.elim
      | outgrown => exact hpost.elim
    · rintro e W2 ⟨⟨v, rfl⟩, xs, ⟨hS, hlen⟩, hs, hd, hi, hl⟩
      have hle := run_endLoop (P := P) hl (by rw [hrec]; simp)
      have hpn : (rec .ready none).pending = none := by rw [hrec]
      rw [hpn] at hle
      exact ⟨none, _, hle, hdone xs _ hS hlen (keepI _ W2 _ hi) ((World.putObj_heap_other (by omega)).trans hd)⟩
end Go.Proofs.Ytkoeplgkiogjlaa
namespace Go.Proofs.Ytkoeplgkiogjlaa
open Go Go.RowKit Sets Go.Maps Go.ChangeMaps Go.MapKept
attribute [local go_sem] Oper.semAt_some
variable {S S2 : Nat → Prop} {W W' : World} {p f n : Nat} {mb : Option Nat} {e : Dt} {K : List Id2} {D : Id2 → Dt} {L : Id2 → Nat}
theorem owns_walk {w : World} {base : Nat} {v : Value} {l : List Id2} (h : Owns w base v l) {r : Nat} {o : Obj} (hr : w.heap[r]? = some o) (hw : o.isWalk = true) : v.ownBlock ≠ some r := fun e => by
  rcases h.2 with ⟨rfl, _⟩ | ⟨g, cap, cur, rfl, _, hg, _⟩
  · cases e
  · injection e with e
    have e2 : g = r := e
    subst e2
    rw [hg] at hr
    cases hr
    cases hw
theorem RowI.walks {n0 lo X b r : Nat} {A B : World} {l : List Id2} (h : RowI n0 lo X b A l) (hg : A.grownBy B (some r)) {o : Obj} (hr : A.heap[r]? = some o) (hw : o.isWalk = true) : RowI n0 lo X b B l := by
  obtain ⟨v, h1, h2, h3⟩ := h
  refine ⟨v, h1.grown hg (fun e => ?_), h2.kept hg (fun g hv e => ?_), h3⟩
  · injection e with e
    unfold One at h1
    rw [e, h1] at hr
    cases hr
    cases hw
  · injection e with e
    exact owns_walk h2 hr hw (by rw [hv, e])
theorem owns_keeps {w w' : World} {base : Nat} {v : Value} {l : List Id2} (h : Owns w base v l) (hg : w.grownBy w' v.ownBlock) : KeepsWalks w w' :=
  ⟨hg.size, fun k _ hk ho => (hg.block k (row_lt hk) (fun e => owns_walk h hk ho e.symm)).trans hk⟩
set_option maxHeartbeats 4000000 in
theorem appendSeq_gives (tA N : Nat) (Sx : List Id2 → Prop) (w : World) (hN : N ≤ 99999) (hS : SeqGives Fence.wide 1 Try.prog 57 #[.pointer (some ⟨tA, 0, none⟩)] idv Sx N w) :
    Calls Try.prog 56 #[.slice none 0 0, .func (.func 57) #[] #[.pointer (some ⟨tA, 0, none⟩)]] w fun e w' => ∃ xs, Sx xs ∧ xs.length ≤ N ∧ Lists xs w e w' := by
  have HSq := Lib.hid hS
  clear hS
  refine (callsIn_wide (n := 0)).1 ?_
  refine callsIn_of_wp_marks Try.func56 rfl trivial ?_
  simp only [Try.ntmps56, List.size_toArray, List.length_cons, List.length_nil, Nat.reduceAdd, Nat.reduceSub, Array.replicate_succ, Array.replicate_zero, List.push_toArray, List.append_toArray, List.nil_append, List.cons_append]
  gi_wp2
  have X0 := Lib.hid (one_new w 36 (.slice none 0 0))
  have B0 := Lib.hid (below_one w (.cells #[.slice none 0 0] 36))
  have hs0 : (w.alloc (.cells #[.slice none 0 0] 36)).heap.size = w.heap.size + 1 := by simp
  generalize hw1 : w.alloc (.cells #[.slice none 0 0] 36) = w1 at *
  clear hw1
  refine wp_gives (P := Try.prog) (gf := 57) (lb := #[.pointer (some ⟨tA, 0, none⟩)]) rfl (enters_fn Try.func57 (by kernel_rfl) rfl) HSq.out B0.out rfl
    (fun pre A => Below w.heap.size w A ∧ RowI w1.heap.size (w.heap.size + 1) w.heap.size w.heap.size A pre) ?start ?keep ?round ?done
  case start =>
    intro W hW hb
    exact ⟨B0.out.trans (hb.mono (by omega)), _, one_below X0.out hb, owns_nil _ _, fun g e => by cases e⟩
  case keep =>
    rintro pre A B row ⟨h1, h2⟩ hg hrow
    rcases row with _ | r
    · exact ⟨h1.grown hg h1.size (fun k e => by cases e), h2.grown hg (fun e => by cases e) (fun g e => by cases e)⟩
    · rcases hrow r rfl with e | ⟨e, o, ho, hw⟩
      · exact ⟨h1.grown hg h1.size (fun k e2 => by injection e2 with e2; omega), h2.grown hg (fun e2 => by injection e2 with e2; omega) (fun g e2 => by injection e2 with e2; left; omega)⟩
      · exact ⟨h1.grown hg h1.size (fun k e2 => by injection e2 with e2; omega), h2.walks hg ho hw⟩
  case done =>
    rintro xs W hSx hlen ⟨h1, h2⟩ hD
    obtain ⟨v', hX, hO, _⟩ := h2
    have cX := one_cell hX
    have HO := Lib.hid hO
    have HBW := Lib.hid h1
    have HX2 := Lib.hid hSx
    have HL2 := Lib.hid hlen
    clear hX hO h1 hSx hlen
    gi_wp2
    refine ⟨by simp, .inl ⟨_, _, rfl, run_takeDeferred hD, ?_⟩⟩
    have hgd := grownBy_putObj' W w1.heap.size (.deferred none)
    refine ⟨_, results_tmp rfl _ _ _, xs, HX2.out, HL2.out, _, rfl, Ids.cells (ids_of_owns HO.out) hgd.size (cells_deferred hD hgd), ?_⟩
    exact HBW.out.grown hgd HBW.out.size fun k hk => by injection hk with hk; omega
  case round =>
    rintro pre x A hpN ⟨hbA, hI⟩ hA ⟨r, hlr⟩
    have e : ∀ t : Array Value, ((#[7] : Array Tmp).zip #[idv x]).foldl (fun t (p, v) => t.setIfInBounds p v) t = t.setIfInBounds 7 (.agg #[.int .i64 x.1, .int .i64 x.2]) := fun t => by simp [idv]
    rw [e]
    simp only [List.setIfInBounds_toArray, List.set_cons_zero, List.set_cons_succ]
    clear e
    gi_wp2
    have N1 := Lib.hid (below_one A (.cells #[.int .i64 x.1, .int .i64 x.2] 35))
    have N2 := Lib.hid (box_new A x.1 x.2)
    refine ⟨N1.out.block _ (by omega), N1.out.block _ (by omega), KeepsWalks.alloc _ _, fun C hC => ?_⟩
    have gA : A.grownBy (A.alloc (.cells #[.int .i64 x.1, .int .i64 x.2] 35)) none := World.grownBy_alloc _ _ _
    have hI2 := (hI.grown gA (by simp) (fun g e => by cases e)).grown hC (fun e => by injection e with e; omega) (fun g e => by injection e with e; left; omega)
    have hb2 := (hbA.grown gA hbA.size (fun k e => by cases e)).grown hC (Nat.le_trans hbA.size gA.size) (fun k e => by injection e with e; omega)
    have hxb := Box.grown N2.out hC (fun e => by injection e with e; omega)
    obtain ⟨v', h1, h2, h3⟩ := hI2
    have hsC : w1.heap.size + 2 ≤ C.heap.size := Nat.le_trans hA (Nat.le_trans gA.size hC.size)
    have H1 := Lib.hid h1
    have H2 := Lib.hid h2
    have H3 := Lib.hid h3
    have HB2 := Lib.hid hb2
    obtain ⟨x1, x2⟩ := box_cells hxb
    have cX := one_cell h1
    have hpl : pre.length ≤ 99999 := by omega
    clear h1 h2 h3 hb2 hxb hI hbA gA hC N1 N2 hlr
    gi_wp2_with (gi_at_builtin; refine wpListIn_push rfl (.tmp 8) (.tmp 10) rfl C w.heap.size v' pre x.1 x.2 rfl rfl H2.out hpl (by omega) ?_; intro g cap w2 p1 p2 p3 p4; have P1 := Lib.hid p1; have P2 := Lib.hid p2; have P3 := Lib.hid p3; clear p1 p2 p3; have hX2 := H1.out.grown P2.out (fun e => by have := H3.out _ e; omega); have cX := one_cell hX2; have fX := one_free hX2; clear hX2)
    have hfin := RowI.pushed (by omega) hsC H1.out H3.out P1.out P2.out P3.out
    have same : ∀ j, j < C.heap.size → j = w1.heap.size ∨ j = w1.heap.size + 1 → (w2.setCell ⟨w.heap.size, 0, none⟩ (.slice (some ⟨g, 0, none⟩) (pre.length + 1) cap)).heap[j]? = C.heap[j]? := fun j hj hjX => by
      rw [Below.heap_setCell _ _ _ _ (show j ≠ w.heap.size by omega), P2.out.block j hj (fun e => by have := H3.out j e.symm; omega)]
    refine ⟨same _ (by omega) (.inl rfl), same _ (by omega) (.inr rfl), ⟨?_, hfin⟩, (owns_keeps H2.out P2.out).trans (KeepsWalks.setCell _ _ _)⟩
    exact (HB2.out.grown P2.out HB2.out.size (fun k e => (World.ownsRow.lt H2.out k e).1)).grown (grown_set _ _ _ _) (Nat.le_trans HB2.out.size P2.out.size) (fun k e => by injection e with e; exact Nat.le_of_eq e)
theorem collect_gives (tA N : Nat) (Sx : List Id2 → Prop) (w : World) (hN : N ≤ 99999) (hS : SeqGives Fence.wide 1 Try.prog 57 #[.pointer (some ⟨tA, 0, none⟩)] idv Sx N w) :
    Calls Try.prog 41 #[.func (.func 57) #[] #[.pointer (some ⟨tA, 0, none⟩)]] w fun e w' => ∃ xs, Sx xs ∧ xs.length ≤ N ∧ Lists xs w e w' := by
  go_enter Try.func41, Try.ntmps41
  go_wp2_with fail
  refine (appendSeq_gives tA N Sx w hN hS).mono ?_
  rintro e w1 ⟨xs, h0, h3, r, rfl, h1, h2⟩
  have H0 := Lib.hid h0
  have H1 := Lib.hid h1
  have H2 := Lib.hid h2
  have H3 := Lib.hid h3
  clear h0 h1 h2 h3
  go_wp2_with fail
  go_ret
  exact ⟨xs, H0.out, H3.out, _, rfl, H1.out, H2.out⟩
/-- The keys of a map that there is none of. -/
theorem keys_none (tA : Nat) (w : World) (hm : w.cell? ⟨tA, 0, none⟩ = some (.map none)) (hA : tA < w.heap.size) : SeqGives Fence.wide 1 Try.prog 57 #[.pointer (some ⟨tA, 0, none⟩)] idv (fun xs => xs = []) 0 w := fun l J W hW hJ hY h0 => by
  have hc : W.cell? ⟨tA, 0, none⟩ = some (.map none) := (hW.cell (p := ⟨tA, 0, none⟩) hA).trans hm
  have hrg : ∀ wx : World, (Instr.range 55 (.map none)).run Try.prog wx = _ := fun wx => run_range_nilMap wx 55 35 52 Try.underlying55
  have hnx : ∀ ty, (Instr.next (.pointer (some ⟨W.heap.size, 0, none⟩)) false ty).run Try.prog (W.alloc (.mapIter none 0 #[] 0)) = .ok (.tuple #[.bool false]) (W.alloc (.mapIter none 0 #[] 0)) := fun ty => run_next_nilMap W ty 0 0 #[]
  refine (callsIn_wide (n := 1)).2 ?_
  have HJ := Lib.hid (hJ [] W _ none h0 (World.grownBy_alloc W (.mapIter none 0 #[] 0) none) (fun r e => by cases e))
  clear hW hJ hY h0 hm hA
  go_enter Try.func57, Try.ntmps57
  go_wp2_with fail
  go_loopw [6] (fun _ wr => wr = W.alloc (.mapIter none 0 #[] 0)) (fun _ _ => 0)
  case atStart => rfl
  case round =>
    subst hrel
    go_wp2_with fail
    go_end0
    exact ⟨⟨_, rfl⟩, [], rfl, HJ.out⟩
theorem keysF_any (mb : Option Nat) (w : World) : Calls Try.prog 42 #[.map mb] w fun e w' => e = .returned (.func (.func 57) #[] #[.pointer (some ⟨w.heap.size, 0, none⟩)]) ∧ One w' w.heap.size 55 (.map mb) ∧ Below w.heap.size w w' := by
  have h1 := Lib.hid (one_new w 55 (.map mb))
  have h2 := Lib.hid (below_one w (.cells #[.map mb] 55))
  go_enter Try.func42, Try.ntmps42
  go_wp2_with fail
  go_ret
  exact ⟨rfl, h1.out, h2.out⟩
theorem gives_to {α : Type} {F : Fence} {m : Nat} {P : Program} {g : Nat} {lb : Array Value} {enc : α → Value} {A B : List α → Prop} {N M : Nat} {w : World} (h : SeqGives F m P g lb enc A N w) (hAB : ∀ xs, A xs → B xs) (hN : N ≤ M) : SeqGives F m P g lb enc B M w :=
  fun l J W hW hJ hY h0 => (h l J W hW hJ (fun pre x W1 hj hl => hY pre x W1 hj (Nat.lt_of_lt_of_le hl hN)) h0).mono fun _ _ ⟨h1, xs, h2, h3⟩ => ⟨h1, xs, hAB xs h2, h3⟩
theorem Inn.gives (h : Inn S W p f mb n e K D L) {tA : Nat} (hA : One W tA 55 (.map mb)) : SeqGives Fence.wide 1 Try.prog 57 #[.pointer (some ⟨tA, 0, none⟩)] idv (fun xs => ∀ q, q ∈ xs ↔ q ∈ K) n W := by
  have hm := h.map
  cases mb with
  | none =>
    have hK : K = [] := hm
    subst hK
    exact gives_to (keys_none tA W (one_cell hA) (one_lt hA)) (fun xs e => by subst e; exact fun q => Iff.rfl) (Nat.zero_le _)
  | some b =>
    refine gives_to (keysI_gives Fence.wide 1 trivial rfl (Nat.le_refl _) tA b n W (one_lt hA) (one_cell hA) hm.2) (fun xs ⟨_, h2, h3⟩ q => ?_) (Nat.le_refl _)
    have he : (mapOf K L q).isSome = true ↔ q ∈ K := by
      unfold mapOf
      by_cases hq : q ∈ K <;> simp [hq]
    constructor
    · exact fun hq => he.1 ((h3 q (h2 q hq)).1 hq)
    · exact fun hq => (h3 q (h.in2 q hq)).2 (he.2 hq)
/-- THE PROGRAM's Watched. -/
theorem watched_any (h : Inn S W p f mb n e K D L) (hn : n ≤ 40000) (hK : Rises K) : Calls Try.prog 19 #[.pointer (some ⟨p, 0, none⟩)] W (News K W) := by
  have H := Lib.hid h
  have HK := Lib.hid hK
  obtain ⟨c0, c1⟩ := h.cells
  clear h hK
  go_enter Try.func19, Try.ntmps19
  go_wp2_with fail
  (with_reducible refine (keysF_any mb _).mono ?_)
  rintro en w1 ⟨rfl, h1, h2⟩
  have B1 := Lib.hid h2
  have G1 := Lib.hid ((H.out.keep h2).gives h1)
  clear h1 h2 c0 c1
  go_wp2_with fail
  (with_reducible refine (collect_gives _ n _ w1 (by omega) G1.out).mono ?_)
  rintro en w2 ⟨xs, hx, hlx, r, rfl, h1, h2⟩
  have E2 := Lib.hid (show setOf xs = K from (setOf_ext hx).trans (setOf_self HK.out))
  have I2 := Lib.hid h1
  have B2 := Lib.hid (below_after B1.out h2 (Nat.le_refl _))
  clear h1 h2 hx
  go_wp2_with fail
  (with_reducible refine (set_new r xs _ I2.out (by omega)).mono ?_)
  rintro en w3 ⟨r3, rfl, h1, h2⟩
  rw [E2.out] at h1
  have O3 := Lib.hid (h1.mono B2.out.size)
  have B3 := Lib.hid (below_after B2.out h2 (Nat.le_refl _))
  clear h1 h2
  go_wp2_with fail
  go_ret
  exact ⟨r3, rfl, O3.out, B3.out⟩
end Go.Proofs.Ytkoeplgkiogjlaa
namespace Go.Proofs.Ytkoeplgkiogjlaa
open Go Go.RowKit Sets Go.Maps Go.ChangeMaps Go.MapKept
variable {S S2 : Nat → Prop} {W W' : World} {p f n : Nat} {mb : Option Nat} {e : Dt} {K : List Id2} {D : Id2 → Dt} {L : Id2 → Nat}
/-- A list of IDs that lies in new memory, apart from the blocks of S. -/
def Apart (S : Nat → Prop) (W : World) (base : Nat) (v : Value) (l : List Id2) : Prop := Owns W base v l ∧ ∀ g, v.ownBlock = some g → ¬ S g
theorem look_late {e : Dt} {K l : List Id2} {D : Id2 → Dt} {x : Int} : lateL (withD e (K.filter fun q => decide (q ∈ l)) D x) x l = lateL (withD e K D x) x l := by
  unfold lateL
  refine List.filter_congr fun q hq => ?_
  unfold withD
  by_cases h : q ∈ K <;> simp [h, hq]
set_option maxHeartbeats 2000000 in
/-- THE PROGRAM's Look. -/
theorem look_any (h : Wat S W p n e K D) (v : Value) (l : List Id2) (x : Int) (hv : Ids W v l) (hl : l.length ≤ 40000) (hi : ∀ q ∈ l, In2 q) (hn : n ≤ 100000) :
    Calls Try.prog 16 #[.pointer (some ⟨p, 0, none⟩), v, .int .i64 x] W fun en W' => ∃ S' v', en = .returned v' ∧ Wat S' W' p (n + l.length) e (setOf l) (withD e K D x) ∧ Upd S W W' S' ∧ Apart S' W' W.heap.size v' (lateL (withD e K D x) x (setOf l)) := by
  obtain ⟨f, mb, L, h⟩ := h
  have H := Lib.hid h
  have HI := Lib.hid hv
  have H2 : Hid (∀ q ∈ setOf l, In2 q) := Lib.hid fun q hq => hi q ((mem_setOf l q).1 hq)
  have hsl := setOf_len l
  clear h hv hi
  go_enter Try.func16, Try.ntmps16
  go_wp2_with fail
  (with_reducible refine (set_new v l _ HI.out hl).mono ?_)
  rintro en w1 ⟨r, rfl, h1, h2⟩
  have O1 := Lib.hid h1
  have B1 := Lib.hid h2
  have G1 := Lib.hid (H.out.keep h2)
  have N1 : Hid (∀ g, r.ownBlock = some g → W.heap.size ≤ g ∧ g < w1.heap.size) := Lib.hid fun g hg => ⟨(World.ownsRow.lt h1 g hg).1, (World.ownsRow.lt h1 g hg).2⟩
  have F1 : Hid (∀ g, r.ownBlock = some g → ¬ S g) := Lib.hid fun g hg hS => by
    have := (N1.out g hg).1
    have := H.out.lt g hS
    omega
  clear h1 h2
  go_wp2_with fail
  (with_reducible refine (keep_any G1.out r (setOf l) (ids_of_owns O1.out) (rises_setOf l) (by omega) F1.out).mono ?_)
  rintro en w2 ⟨rfl, h1, h2⟩
  have G2 := Lib.hid h1
  have U2 := Lib.hid ((Upd.keep (S := S) B1.out).trans (.of_fr h2))
  have I2 := Lib.hid ((ids_of_owns O1.out).frame h2 F1.out)
  have Z2 := Lib.hid h2.size
  clear h1 h2 G1 O1
  go_wp2_with fail
  (with_reducible refine (begins_any G2.out r (setOf l) x I2.out (by omega) F1.out H2.out hn).mono ?_)
  rintro en w3 ⟨rfl, S3, b, m, L3, h1, h2, h3⟩
  have G3 := Lib.hid (h1.perm (K' := setOf l) fun q => by simp)
  have F3 : Hid (∀ g, r.ownBlock = some g → ¬ S3 g) := Lib.hid fun g hg hS => by
    rcases h3.sub g hS with e | e
    · exact F1.out g hg e
    · have := (N1.out g hg).2
      have := Z2.out
      omega
  have U3 := Lib.hid (U2.out.trans h3)
  have I3 := Lib.hid (I2.out.frame h3.fr F1.out)
  have M3 := Lib.hid h2
  clear h1 h2 h3 G2 U2 I2
  go_wp2_with fail
  (with_reducible refine (wlate_any G3.out r (setOf l) x I3.out (by omega) (fun q hq => hq)).mono ?_)
  rw [look_late]
  rintro en w4 ⟨u, rfl, h1, h2⟩
  have O4 := Lib.hid h1
  have G4 := Lib.hid (G3.out.keep h2)
  have U4 := Lib.hid (U3.out.trans (.keep h2))
  have A4 : Hid (∀ g, u.ownBlock = some g → ¬ S3 g) := Lib.hid fun g hg hS => by
    have := (World.ownsRow.lt h1 g hg).1
    have := G3.out.lt g hS
    omega
  clear h1 h2
  go_wp2_with fail
  go_ret
  refine ⟨S3, u, rfl, ⟨f, some b, L3, (G4.out.mono (by have := M3.out; omega)).congr fun q hq => ?_⟩, U4.out, O4.out.mono U3.out.fr.size, A4.out⟩
  unfold withD
  by_cases hk : q ∈ K <;> simp [hk, hq]
end Go.Proofs.Ytkoeplgkiogjlaa
