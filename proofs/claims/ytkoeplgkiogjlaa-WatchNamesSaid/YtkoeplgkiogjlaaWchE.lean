/-
  Walks over the program's watch: those of a set who are not watched yet are watched from now on. No statement is proved in this text; it holds for every input that its premises let by.
-/
import Derived.Test.YtkoeplgkiogjlaaWchD
import Derived.Carry
set_option maxRecDepth 20000
namespace Go.Proofs.Ytkoeplgkiogjlaa
open Go Go.RowKit Sets Go.Maps Go.ChangeMaps Go.MapKept
variable {S S2 : Nat → Prop} {W W' : World} {p f n : Nat} {mb : Option Nat} {e : Dt} {K : List Id2} {D : Id2 → Dt} {L : Id2 → Nat}
theorem mapOf_perm {K K' : List Id2} (hK : ∀ q, q ∈ K ↔ q ∈ K') (L : Id2 → Nat) : mapOf K L = mapOf K' L := by
  funext q
  unfold mapOf
  by_cases h : q ∈ K
  · rw [if_pos h, if_pos ((hK q).1 h)]
  · rw [if_neg h, if_neg (fun x => h ((hK q).2 x))]
theorem Inn.perm {K' : List Id2} (h : Inn S W p f mb n e K D L) (hK : ∀ q, q ∈ K ↔ q ∈ K') : Inn S W p f mb n e K' D L := by
  refine ⟨h.box, h.inp, h.fresh, ?_, fun q hq => h.dets q ((hK q).2 hq), fun q hq r hr => h.inj q ((hK q).2 hq) r ((hK r).2 hr), fun q hq => h.far q ((hK q).2 hq), fun q hq => h.in2 q ((hK q).2 hq), h.lt⟩
  have := h.map
  cases mb with
  | none =>
    have hk : K = [] := this
    subst hk
    exact List.eq_nil_iff_forall_not_mem.2 fun q hq => by cases (hK q).2 hq
  | some b => exact ⟨this.1, by rw [← mapOf_perm hK]; exact this.2⟩
theorem Inn.mono {m : Nat} (h : Inn S W p f mb n e K D L) (hn : n ≤ m) : Inn S W p f mb m e K D L := by
  refine ⟨h.box, h.inp, h.fresh, ?_, h.dets, h.inj, h.far, h.in2, h.lt⟩
  have := h.map
  cases mb with
  | none => exact this
  | some b => exact ⟨this.1, this.2.mono hn⟩
/-- The map of a watch that has none. -/
def withMap (W : World) (p : Nat) : World := (W.alloc (.map #[] 0)).setCell ⟨p, 1, none⟩ (.map (some W.heap.size))
theorem Inn.mapped (h : Inn S W p f none n e K D L) : Inn (fun k => S k ∨ k = W.heap.size) (withMap W p) p f (some W.heap.size) 0 e K D L ∧ Upd S W (withMap W p) (fun k => S k ∨ k = W.heap.size) := by
  have hK : K = [] := h.map
  subst hK
  have B : Below W.heap.size W (W.alloc (.map #[] 0)) := below_one W _
  have hF : Fr S W (withMap W p) := (Fr.of_below B).step (.of_set _ _ h.inp)
  have hF2 : Fr (fun k => k = p) (W.alloc (.map #[] 0)) (withMap W p) := .of_set _ _ rfl
  have hp := h.lt _ h.inp
  refine ⟨⟨?_, .inl h.inp, ?_, ⟨.inr rfl, ?_⟩, fun q hq => (by cases hq), fun q hq => (by cases hq), fun q hq => (by cases hq), fun q hq => (by cases hq), ?_⟩, ⟨fun k hk => ?_, hF⟩⟩
  · have h1 := (B.block _ hp).trans h.box
    unfold withMap
    simp [World.setCell, Array.getElem?_modify, h1]
  · obtain ⟨v, h1, h2, h3, h4⟩ := h.fresh
    refine ⟨v, (h1.below B).frame hF2 (fun e => ?_) (fun g hg e => ?_), .inl h2, fun g hg => .inl (h3 g hg), h4⟩
    · exact absurd (dbox_type h1.box (by rw [show f = p from e]; exact h.box)) (by decide)
    · obtain ⟨cs, hc⟩ := gaps_type h1.gaps hg
      rw [show g = p from e, h.box] at hc
      injection hc with hc
      injection hc with _ h3
      exact absurd h3 (by decide)
  · refine (MapI.made ElP W).same (hF2.same _ (by simp) (fun e => by have e2 : W.heap.size = p := e; omega))
  · rintro k (hk | rfl)
    · exact Nat.lt_of_lt_of_le (h.lt k hk) hF.size
    · exact Nat.lt_of_lt_of_le (by simp) hF2.size
  · rcases hk with hk | rfl
    · exact .inl hk
    · exact .inr (Nat.le_refl _)
theorem Inn.det_turned {b l' : Nat} {d' : Dt} (h : Inn S W p f (some b) n e K D L) (k : Fr (fun i => i = b) W W') (hd : Dw 81 Dt.Ok S W l' d') : Dw 81 Dt.Ok S W' l' d' := by
  have hb : ∀ cs t x, W.heap[b]? ≠ some (.cells cs t x) := h.map.2.cells_not
  exact hd.other k (fun e => by
    obtain ⟨v, hx⟩ := hd.box
    unfold DBox at hx
    rw [show l' = b from e] at hx
    exact hb _ _ _ hx) (fun g cs e => by rw [show g = b from e]; exact hb _ _ _)
/-- Somebody is watched from now on. -/
theorem Inn.added {W1 W2 : World} {b m l' : Nat} {d' : Dt} {v' : Value} {q : Id2} (h : Inn S W p f (some b) n e K D L) (hb : Below W.heap.size W W1) (hd : Det 81 W1 W.heap.size l' d' v') (ok : d'.Ok) (hq : ¬ q ∈ K) (h2 : In2 q) (hD : D q = d')
    (ht : Fr (fun i => i = b) W1 W2) (hm : MapI ElP W2 b m (putI (mapOf K L) q (some (some l')))) :
    ∃ S', Inn S' W2 p f (some b) m e (K ++ [q]) D (fun r => if r = q then l' else L r) ∧ Upd S W W2 S' := by
  have hSb := h.map.1
  have hbl := h.map.2.lt
  have hF : Fr S W W2 := (Fr.of_below hb).step (ht.mono fun k e => by rw [show k = b from e]; exact hSb)
  have hmo : mapOf (K ++ [q]) (fun r => if r = q then l' else L r) = putI (mapOf K L) q (some (some l')) := by
    funext r
    unfold mapOf putI
    by_cases e : r = q
    · subst e
      simp
    · by_cases hr : r ∈ K <;> simp [e, hr]
  have h1 := h.keep hb
  have hS' : ∀ k, S k → S k ∨ (W.heap.size ≤ k ∧ k < W2.heap.size) := fun k h => .inl h
  have hlL : ∀ r ∈ K, L r < W.heap.size := fun r hr => (h.dets r hr).lt
  have hcb : ∀ cs t x, W1.heap[b]? ≠ some (.cells cs t x) := h1.map.2.cells_not
  have hpb : p ≠ b := fun e => hcb _ _ _ (e ▸ h1.box)
  refine ⟨fun k => S k ∨ (W.heap.size ≤ k ∧ k < W2.heap.size), ⟨(ht.same p (h1.lt p h1.inp) hpb).trans h1.box, .inl h.inp, (h1.det_turned ht h1.fresh).mono hS', ⟨.inl hSb, by rw [hmo]; exact hm⟩, ?_, ?_, ?_, ?_, ?_⟩, ⟨fun k hk => hk.imp id fun x => x.1, hF⟩⟩
  · intro r hr
    by_cases e : r = q
    · subst e
      rw [if_pos rfl, hD]
      have hlo := hd.lo
      refine ⟨v', (hd.mono (Nat.zero_le _)).frame ht (fun e => by have e2 : l' = b := e; omega) (fun g hg e => ?_), .inr ⟨hlo, Nat.lt_of_lt_of_le hd.lt ht.size⟩, fun g hg => ?_, ok⟩
      · have := (World.ownsRow.lt hd.gaps g hg).1
        have e2 : g = b := e
        omega
      · have h4 := (World.ownsRow.lt hd.gaps g hg).1
        obtain ⟨cs, hc⟩ := gaps_type hd.gaps hg
        exact .inr ⟨h4, Nat.lt_of_lt_of_le (row_lt hc) ht.size⟩
    · rw [if_neg e]
      rcases List.mem_append.1 hr with hr | hr
      · exact (h1.det_turned ht (h1.dets r hr)).mono hS'
      · exact absurd (List.mem_singleton.1 hr) e
  · intro r hr s hs hrs
    rcases List.mem_append.1 hr with hr | hr
    · have e1 : r ≠ q := fun e => hq (e ▸ hr)
      rw [if_neg e1] at hrs
      rcases List.mem_append.1 hs with hs | hs
      · have e2 : s ≠ q := fun e => hq (e ▸ hs)
        rw [if_neg e2] at hrs
        exact h.inj r hr s hs hrs
      · rw [if_pos (List.mem_singleton.1 hs)] at hrs
        have := hlL r hr
        have := hd.lo
        omega
    · rw [if_pos (List.mem_singleton.1 hr)] at hrs
      rcases List.mem_append.1 hs with hs | hs
      · have e2 : s ≠ q := fun e => hq (e ▸ hs)
        rw [if_neg e2] at hrs
        have := hlL s hs
        have := hd.lo
        omega
      · rw [List.mem_singleton.1 hr, List.mem_singleton.1 hs]
  · intro r hr
    have hf := h.fresh.lt
    have hlo := hd.lo
    by_cases e : r = q
    · rw [if_pos e]
      omega
    · rw [if_neg e]
      rcases List.mem_append.1 hr with hr | hr
      · exact h.far r hr
      · exact absurd (List.mem_singleton.1 hr) e
  · intro r hr
    rcases List.mem_append.1 hr with hr | hr
    · exact h.in2 r hr
    · rw [List.mem_singleton.1 hr]
      exact h2
  · rintro k (hk | hk)
    · exact Nat.lt_of_lt_of_le (h.lt k hk) hF.size
    · exact hk.2
/-- Who is watched by which detector, when some more are watched from x on. -/
def withD (e : Dt) (K : List Id2) (D : Id2 → Dt) (x : Int) : Id2 → Dt := fun q => if q ∈ K then D q else e.start x
theorem withD_in {e : Dt} {K : List Id2} {D : Id2 → Dt} {x : Int} {q : Id2} (h : q ∈ K) : withD e K D x q = D q := by unfold withD; rw [if_pos h]
theorem withD_out {e : Dt} {K : List Id2} {D : Id2 → Dt} {x : Int} {q : Id2} (h : ¬ q ∈ K) : withD e K D x q = e.start x := by unfold withD; rw [if_neg h]
theorem take_in {l : List Id2} {K : List Id2} {k : Nat} (hk : k < l.length) (h : l[k] ∈ K ++ l.take k) : ∀ q, q ∈ K ++ l.take k ↔ q ∈ K ++ l.take (k + 1) := by
  intro q
  rw [List.take_succ_eq_append_getElem hk, ← List.append_assoc, List.mem_append (s := K ++ l.take k)]
  constructor
  · exact .inl
  · rintro (h1 | h1)
    · exact h1
    · rw [List.mem_singleton.1 h1]; exact h
theorem take_add {l : List Id2} {K : List Id2} {k : Nat} (hk : k < l.length) : ∀ q, q ∈ K ++ l.take k ++ [l[k]] ↔ q ∈ K ++ l.take (k + 1) := by
  intro q
  rw [List.take_succ_eq_append_getElem hk, ← List.append_assoc]
theorem map_nil (mb : Option Nat) (W : World) : (binOp .eql 55 (.map mb) (.map none)).run Try.prog W = .ok (.bool mb.isNone) W := by
  cases mb <;> kernel_rfl
set_option maxHeartbeats 4000000 in
theorem begins_any (h : Inn S W p f mb n e K D L) (v : Value) (l : List Id2) (x : Int) (hv : Ids W v l) (hl : l.length ≤ 40000) (hvS : ∀ g, v.ownBlock = some g → ¬ S g) (hi : ∀ q ∈ l, In2 q) (hn : n ≤ 100000) :
    Calls Try.prog 35 #[.pointer (some ⟨p, 0, none⟩), v, .int .i64 x] W fun en W' => en = .returned (.tuple #[]) ∧ ∃ (S' : Nat → Prop) (b m : Nat) (L' : Id2 → Nat), Inn S' W' p f (some b) m e (K ++ l) (withD e K D x) L' ∧ m ≤ n + l.length ∧ Upd S W W' S' := by
  have H := Lib.hid h
  have HI := Lib.hid hv
  have HV := Lib.hid hvS
  have H2 := Lib.hid hi
  have hmm := @run_makeMap Try.prog
  have hqq : ∀ W, (binOp .eql 55 (.map mb) (.map none)).run Try.prog W = .ok (.bool mb.isNone) W := map_nil mb
  obtain ⟨A, c, rfl, hz⟩ := id hv
  obtain ⟨c0, c1⟩ := h.cells
  have f1 := h.free
  clear hz hv h hvS hi
  go_enter Try.func35, Try.ntmps35
  go_upto_if 15 with fail
  go_cut [16] (fun _ wx => ∃ (S' : Nat → Prop) (b m : Nat), Hid (Inn S' wx p f (some b) m e K D L) ∧ Hid (m ≤ n) ∧ Hid (Upd S W wx S'))
  case first =>
    cases mb with
    | none =>
      have B1 := Lib.hid (below_one W (.map #[] 0))
      have HW := Lib.hid H.out.mapped
      have c1' := (H.out.keep B1.out).cells.2
      have f1' := (H.out.keep B1.out).free
      go_wp2_with fail
      go_meet
      exact ⟨_, _, _, Lib.hid HW.out.1, Lib.hid (Nat.zero_le _), Lib.hid HW.out.2⟩
    | some b =>
      go_wp2_with fail
      go_meet
      exact ⟨_, _, _, H, Lib.hid (Nat.le_refl _), Lib.hid (.of_fr (Fr.refl _ _))⟩
  case rest =>
    obtain ⟨S1, b, m, H1, HM, U1⟩ := hcut
    clear c0 c1 f1
    have HB1 := Lib.hid (H1.out.congr (D' := withD e K D x) fun q hq => withD_in hq)
    clear H1
    go_wp2_with fail
    go_loopw [22] (fun s22 wr => ∃ (k : Nat) (S' : Nat → Prop) (m' : Nat) (L' : Id2 → Nat), k ≤ l.length ∧ s22 = .int .i64 k ∧ Hid (Inn S' wr p f (some b) m' e (K ++ l.take k) (withD e K D x) L') ∧ Hid (m' ≤ n + k) ∧ Hid (Upd S W wr S')) (fun s22 _ => l.length - (intOf s22).toNat)
    case atStart => exact ⟨0, S1, m, L, by omega, rfl, Lib.hid (by simpa using HB1.out), HM, U1⟩
    case round =>
      obtain ⟨k, S', m', L', hkl, rfl, HH, HN, HU⟩ := hrel
      clear HB1 HM U1
      have i3 : (0 : Int) ≤ (k : Int) := by omega
      by_cases hlt : k < l.length
      · have hd : decide ((k : Int) < (l.length : Int)) = true := by simp; omega
        have i4 : (k : Int) < (l.length : Int) := by omega
        have I1 := Lib.hid (HI.out.frame HU.out.fr HV.out)
        obtain ⟨ad, rfl, c1, c2⟩ := I1.out.at_ (Below.refl _ _) hlt
        have TI := Lib.hid (take_in (K := K) hlt)
        have TA := Lib.hid (take_add (K := K) hlt)
        have HQ := Lib.hid (H2.out _ (List.getElem_mem hlt))
        generalize l[k] = q at *
        obtain ⟨a, i⟩ := q
        have B1 := Lib.hid (below_one wr (.cells #[.int .i64 a, .int .i64 i] 35))
        have X1 := Lib.hid (box_new wr a i)
        have G1 := Lib.hid (HH.out.keep B1.out)
        have U2 := Lib.hid (HU.out.trans (.keep B1.out))
        go_upto_region 5 with fail
        clear c1 c2 I1 HH HU B1
        generalize wr.alloc (.cells #[.int .i64 a, .int .i64 i] 35) = w1 at *
        generalize wr.heap.size = gb at *
        have HS : Hid (∀ w', Below w1.heap.size w1 w' → (w'.cell? ⟨gb, 0, none⟩ = some (.int .i64 a) ∧ w'.cell? ⟨gb, 1, none⟩ = some (.int .i64 i) ∧ w'.cell? ⟨p, 1, none⟩ = some (.map (some b)) ∧ (Instr.lookup 55 (.map (some b)) (.agg #[.int .i64 a, .int .i64 i]) true).run Try.prog w' = .ok (.tuple #[ptV (if (a, i) ∈ K ++ l.take k then some (L' (a, i)) else none), .bool (hasB (a, i) (K ++ l.take k))]) w' ∧ Hid (Below w1.heap.size w1 w'))) := Lib.hid fun w' hb => by
          have h1 := G1.out.keep hb
          obtain ⟨c0, c1⟩ := box_cells (box_below X1.out hb)
          exact ⟨c0, c1, h1.cells.2, h1.look HQ.out, Lib.hid hb⟩
        by_cases hk : (a, i) ∈ K ++ l.take k
        · rw [if_pos hk, hasB_in hk] at HS
          have HK := Lib.hid hk
          clear hk
          simp only [ptV, Option.map_some] at HS
          refine wp_region_held_drew (S := fun w' => w'.cell? ⟨gb, 0, none⟩ = some (.int .i64 a) ∧ w'.cell? ⟨gb, 1, none⟩ = some (.int .i64 i) ∧ w'.cell? ⟨p, 1, none⟩ = some (.map (some b)) ∧ (Instr.lookup 55 (.map (some b)) (.agg #[.int .i64 a, .int .i64 i]) true).run Try.prog w' = .ok (.tuple #[.pointer (some ⟨L' (a, i), 0, none⟩), .bool true]) w' ∧ Hid (Below w1.heap.size w1 w')) (by kernel_rfl) ?_ (fun hHeld => ?_)
          · exact HS.out _ (below_drewN (n := 1) (Below.refl _ _))
          (refine wpAnyH_take (i := 0) (oi := ⟨_, _, _, _, _, _⟩) (v := ?_) rfl (by kernel_rfl) (by kernel_rfl) (by kernel_rfl) (fun _ _ _ h => h) (Or.inl ⟨by rfl, ?_⟩) (by assumption) ?_; rotate_left 1; · (intro w hSw; (try dsimp only at hSw); go_simp; all_goals with_reducible rfl))
          try simp only [Act.put, List.setIfInBounds_toArray, List.set_cons_zero, List.set_cons_succ]
          (refine wpAnyH_take (i := 1) (oi := ⟨_, _, _, _, _, _⟩) (v := ?_) rfl (by kernel_rfl) (by kernel_rfl) (by kernel_rfl) (fun _ _ _ h => h) (Or.inl ⟨by rfl, ?_⟩) (by assumption) ?_; rotate_left 1; · (intro w hSw; (try dsimp only at hSw); go_simp; all_goals with_reducible rfl))
          try simp only [Act.put, List.setIfInBounds_toArray, List.set_cons_zero, List.set_cons_succ]
          (refine wpAnyH_take (i := 2) (oi := ⟨_, _, _, _, _, _⟩) (v := ?_) rfl (by kernel_rfl) (by kernel_rfl) (by kernel_rfl) (fun _ _ _ h => h) (Or.inl ⟨by rfl, ?_⟩) (by assumption) ?_; rotate_left 1; · (intro w hSw; (try dsimp only at hSw); go_simp; all_goals with_reducible rfl))
          try simp only [Act.put, List.setIfInBounds_toArray, List.set_cons_zero, List.set_cons_succ]
          (refine wpAnyH_take (i := 3) (oi := ⟨_, _, _, _, _, _⟩) (v := ?_) rfl (by kernel_rfl) (by kernel_rfl) (by kernel_rfl) (fun _ _ _ h => h) (Or.inl ⟨by rfl, ?_⟩) (by assumption) ?_; rotate_left 1; · (intro w hSw; (try dsimp only at hSw); go_simp; all_goals with_reducible rfl))
          try simp only [Act.put, List.setIfInBounds_toArray, List.set_cons_zero, List.set_cons_succ]
          (refine wpAnyH_take (i := 4) (oi := ⟨_, _, _, _, _, _⟩) (v := ?_) rfl (by kernel_rfl) (by kernel_rfl) (by kernel_rfl) (fun _ _ _ h => h) (Or.inl ⟨by rfl, ?_⟩) (by assumption) ?_; rotate_left 1; · (intro w hSw; (try dsimp only at hSw); go_simp; all_goals with_reducible rfl))
          try simp only [Act.put, List.setIfInBounds_toArray, List.set_cons_zero, List.set_cons_succ]
          (refine wpAnyH_take (i := 5) (oi := ⟨_, _, _, _, _, _⟩) (v := ?_) rfl (by kernel_rfl) (by kernel_rfl) (by kernel_rfl) (fun _ _ _ h => h) (Or.inl ⟨by rfl, ?_⟩) (by assumption) ?_; rotate_left 1; · (intro w hSw; (try dsimp only at hSw); go_simp; all_goals with_reducible rfl))
          try simp only [Act.put, List.setIfInBounds_toArray, List.set_cons_zero, List.set_cons_succ]
          (refine wpAnyH_take (i := 6) (oi := ⟨_, _, _, _, _, _⟩) (v := ?_) rfl (by kernel_rfl) (by kernel_rfl) (by kernel_rfl) (fun _ _ _ h => h) (Or.inl ⟨by rfl, ?_⟩) (by assumption) ?_; rotate_left 1; · (intro w hSw; (try dsimp only at hSw); go_simp; all_goals with_reducible rfl))
          try simp only [Act.put, List.setIfInBounds_toArray, List.set_cons_zero, List.set_cons_succ]
          (refine wpAnyH_take (i := 7) (oi := ⟨_, _, _, _, _, _⟩) (v := ?_) rfl (by kernel_rfl) (by kernel_rfl) (by kernel_rfl) (fun _ _ _ h => h) (Or.inl ⟨by rfl, ?_⟩) (by assumption) ?_; rotate_left 1; · (intro w hSw; (try dsimp only at hSw); go_simp; all_goals with_reducible rfl))
          try simp only [Act.put, List.setIfInBounds_toArray, List.set_cons_zero, List.set_cons_succ]
          (refine wpAnyH_take (i := 8) (oi := ⟨_, _, _, _, _, _⟩) (v := ?_) rfl (by kernel_rfl) (by kernel_rfl) (by kernel_rfl) (fun _ _ _ h => h) (Or.inl ⟨by rfl, ?_⟩) (by assumption) ?_; rotate_left 1; · (intro w hSw; (try dsimp only at hSw); go_simp; all_goals with_reducible rfl))
          try simp only [Act.put, List.setIfInBounds_toArray, List.set_cons_zero, List.set_cons_succ]
          (refine wpAnyH_take (i := 9) (oi := ⟨_, _, _, _, _, _⟩) (v := ?_) rfl (by kernel_rfl) (by kernel_rfl) (by kernel_rfl) (fun _ _ _ h => h) (Or.inl ⟨by rfl, ?_⟩) (by assumption) ?_; rotate_left 1; · (intro w hSw; (try dsimp only at hSw); go_simp; all_goals with_reducible rfl))
          try simp only [Act.put, List.setIfInBounds_toArray, List.set_cons_zero, List.set_cons_succ]
          (refine wpAnyH_take (i := 10) (oi := ⟨_, _, _, _, _, _⟩) (v := ?_) rfl (by kernel_rfl) (by kernel_rfl) (by kernel_rfl) (fun _ _ _ h => h) (Or.inl ⟨by rfl, ?_⟩) (by assumption) ?_; rotate_left 1; · (intro w hSw; (try dsimp only at hSw); go_simp; all_goals with_reducible rfl))
          try simp only [Act.put, List.setIfInBounds_toArray, List.set_cons_zero, List.set_cons_succ]
          refine wpAnyH_done (by kernel_rfl) ?_ _
          obtain ⟨c0, c1, c2, c3, HB⟩ := hHeld
          have G3 := Lib.hid (G1.out.keep HB.out)
          have U3 := Lib.hid (U2.out.trans (.keep HB.out))
          have X3 := Lib.hid (box_below X1.out HB.out)
          clear c0 c1 c2 c3 HS G1 U2 X1
          go_wp2_with fail
          go_roundw
          case rel => exact ⟨k + 1, S', m', L', by omega, by go_num, Lib.hid (G3.out.perm (TI.out HK.out)), Lib.hid (by have := HN.out; omega), U3⟩
          case measure => simp [intOf]; omega
        · rw [if_neg hk, hasB_not hk] at HS
          have HK := Lib.hid hk
          clear hk
          simp only [ptV, Option.map_none] at HS
          refine wp_region_held_drew (S := fun w' => w'.cell? ⟨gb, 0, none⟩ = some (.int .i64 a) ∧ w'.cell? ⟨gb, 1, none⟩ = some (.int .i64 i) ∧ w'.cell? ⟨p, 1, none⟩ = some (.map (some b)) ∧ (Instr.lookup 55 (.map (some b)) (.agg #[.int .i64 a, .int .i64 i]) true).run Try.prog w' = .ok (.tuple #[.pointer none, .bool false]) w' ∧ Hid (Below w1.heap.size w1 w')) (by kernel_rfl) ?_ (fun hHeld => ?_)
          · exact HS.out _ (below_drewN (n := 1) (Below.refl _ _))
          (refine wpAnyH_take (i := 0) (oi := ⟨_, _, _, _, _, _⟩) (v := ?_) rfl (by kernel_rfl) (by kernel_rfl) (by kernel_rfl) (fun _ _ _ h => h) (Or.inl ⟨by rfl, ?_⟩) (by assumption) ?_; rotate_left 1; · (intro w hSw; (try dsimp only at hSw); go_simp; all_goals with_reducible rfl))
          try simp only [Act.put, List.setIfInBounds_toArray, List.set_cons_zero, List.set_cons_succ]
          (refine wpAnyH_take (i := 1) (oi := ⟨_, _, _, _, _, _⟩) (v := ?_) rfl (by kernel_rfl) (by kernel_rfl) (by kernel_rfl) (fun _ _ _ h => h) (Or.inl ⟨by rfl, ?_⟩) (by assumption) ?_; rotate_left 1; · (intro w hSw; (try dsimp only at hSw); go_simp; all_goals with_reducible rfl))
          try simp only [Act.put, List.setIfInBounds_toArray, List.set_cons_zero, List.set_cons_succ]
          (refine wpAnyH_take (i := 2) (oi := ⟨_, _, _, _, _, _⟩) (v := ?_) rfl (by kernel_rfl) (by kernel_rfl) (by kernel_rfl) (fun _ _ _ h => h) (Or.inl ⟨by rfl, ?_⟩) (by assumption) ?_; rotate_left 1; · (intro w hSw; (try dsimp only at hSw); go_simp; all_goals with_reducible rfl))
          try simp only [Act.put, List.setIfInBounds_toArray, List.set_cons_zero, List.set_cons_succ]
          (refine wpAnyH_take (i := 3) (oi := ⟨_, _, _, _, _, _⟩) (v := ?_) rfl (by kernel_rfl) (by kernel_rfl) (by kernel_rfl) (fun _ _ _ h => h) (Or.inl ⟨by rfl, ?_⟩) (by assumption) ?_; rotate_left 1; · (intro w hSw; (try dsimp only at hSw); go_simp; all_goals with_reducible rfl))
          try simp only [Act.put, List.setIfInBounds_toArray, List.set_cons_zero, List.set_cons_succ]
          (refine wpAnyH_take (i := 4) (oi := ⟨_, _, _, _, _, _⟩) (v := ?_) rfl (by kernel_rfl) (by kernel_rfl) (by kernel_rfl) (fun _ _ _ h => h) (Or.inl ⟨by rfl, ?_⟩) (by assumption) ?_; rotate_left 1; · (intro w hSw; (try dsimp only at hSw); go_simp; all_goals with_reducible rfl))
          try simp only [Act.put, List.setIfInBounds_toArray, List.set_cons_zero, List.set_cons_succ]
          (refine wpAnyH_take (i := 5) (oi := ⟨_, _, _, _, _, _⟩) (v := ?_) rfl (by kernel_rfl) (by kernel_rfl) (by kernel_rfl) (fun _ _ _ h => h) (Or.inl ⟨by rfl, ?_⟩) (by assumption) ?_; rotate_left 1; · (intro w hSw; (try dsimp only at hSw); go_simp; all_goals with_reducible rfl))
          try simp only [Act.put, List.setIfInBounds_toArray, List.set_cons_zero, List.set_cons_succ]
          (refine wpAnyH_take (i := 6) (oi := ⟨_, _, _, _, _, _⟩) (v := ?_) rfl (by kernel_rfl) (by kernel_rfl) (by kernel_rfl) (fun _ _ _ h => h) (Or.inl ⟨by rfl, ?_⟩) (by assumption) ?_; rotate_left 1; · (intro w hSw; (try dsimp only at hSw); go_simp; all_goals with_reducible rfl))
          try simp only [Act.put, List.setIfInBounds_toArray, List.set_cons_zero, List.set_cons_succ]
          (refine wpAnyH_take (i := 7) (oi := ⟨_, _, _, _, _, _⟩) (v := ?_) rfl (by kernel_rfl) (by kernel_rfl) (by kernel_rfl) (fun _ _ _ h => h) (Or.inl ⟨by rfl, ?_⟩) (by assumption) ?_; rotate_left 1; · (intro w hSw; (try dsimp only at hSw); go_simp; all_goals with_reducible rfl))
          try simp only [Act.put, List.setIfInBounds_toArray, List.set_cons_zero, List.set_cons_succ]
          (refine wpAnyH_take (i := 8) (oi := ⟨_, _, _, _, _, _⟩) (v := ?_) rfl (by kernel_rfl) (by kernel_rfl) (by kernel_rfl) (fun _ _ _ h => h) (Or.inl ⟨by rfl, ?_⟩) (by assumption) ?_; rotate_left 1; · (intro w hSw; (try dsimp only at hSw); go_simp; all_goals with_reducible rfl))
          try simp only [Act.put, List.setIfInBounds_toArray, List.set_cons_zero, List.set_cons_succ]
          (refine wpAnyH_take (i := 9) (oi := ⟨_, _, _, _, _, _⟩) (v := ?_) rfl (by kernel_rfl) (by kernel_rfl) (by kernel_rfl) (fun _ _ _ h => h) (Or.inl ⟨by rfl, ?_⟩) (by assumption) ?_; rotate_left 1; · (intro w hSw; (try dsimp only at hSw); go_simp; all_goals with_reducible rfl))
          try simp only [Act.put, List.setIfInBounds_toArray, List.set_cons_zero, List.set_cons_succ]
          (refine wpAnyH_take (i := 10) (oi := ⟨_, _, _, _, _, _⟩) (v := ?_) rfl (by kernel_rfl) (by kernel_rfl) (by kernel_rfl) (fun _ _ _ h => h) (Or.inl ⟨by rfl, ?_⟩) (by assumption) ?_; rotate_left 1; · (intro w hSw; (try dsimp only at hSw); go_simp; all_goals with_reducible rfl))
          try simp only [Act.put, List.setIfInBounds_toArray, List.set_cons_zero, List.set_cons_succ]
          refine wpAnyH_done (by kernel_rfl) ?_ _
          obtain ⟨c0, c1, c2, c3, HB⟩ := hHeld
          have G3 := Lib.hid (G1.out.keep HB.out)
          have U3 := Lib.hid (U2.out.trans (.keep HB.out))
          have X3 := Lib.hid (box_below X1.out HB.out)
          clear c0 c1 c2 c3 HS G1 U2 X1
          go_upto_region 7 with fail
          generalize World.drew _ = w3 at *
          clear HB
          obtain ⟨c0, c1⟩ := G3.out.cells
          obtain ⟨fv, hfv, hf1, hf2, hok⟩ := G3.out.fresh
          have HFV := Lib.hid hfv
          have HOK := Lib.hid hok
          clear hfv hf1 hf2 hok
          go_wp2_with fail
          (with_reducible refine (copy_any 0 f e fv _ HFV.out HOK.out).mono ?_)
          rintro en w4 ⟨l', v', rfl, h1, h2⟩
          have D4 := Lib.hid h1
          have B4 := Lib.hid h2
          clear h1 h2 c0 c1
          go_wp2_with fail
          (with_reducible refine (begin_any w3.heap.size l' e v' x _ D4.out).mono ?_)
          rintro en w5 ⟨rfl, v5, h1, h2, -⟩
          have D5 := Lib.hid h1
          have B5 := Lib.hid (below_grown B4.out h2 (Nat.le_refl _) D4.out.lo)
          clear h1 h2 D4 B4
          go_upto_region 9 with fail
          have G5 := Lib.hid (G3.out.keep B5.out)
          have X5 := Lib.hid (box_below X3.out B5.out)
          have hgb : Hid (gb ≠ b) := Lib.hid fun e => G5.out.map.2.cells_not _ _ _ (e ▸ X5.out)
          have hpb : Hid (p ≠ b) := Lib.hid fun e => G5.out.map.2.cells_not _ _ _ (e ▸ G5.out.box)
          have HS : Hid (∀ w', Fr (fun i => i = b) w5 w' → (w'.cell? ⟨gb, 0, none⟩ = some (.int .i64 a) ∧ w'.cell? ⟨gb, 1, none⟩ = some (.int .i64 i) ∧ w'.cell? ⟨p, 1, none⟩ = some (.map (some b)))) := Lib.hid fun w' hf => by
            obtain ⟨c0, c1⟩ := box_cells (X5.out.fr hf hgb.out)
            have h1 := (hf.same _ (G5.out.lt _ G5.out.inp) hpb.out).trans G5.out.box
            exact ⟨c0, c1, by rw [cell_of_row _ _ 1 _ _ _ h1]; rfl⟩
          refine wp_region_held_drew (S := fun w' => w'.cell? ⟨gb, 0, none⟩ = some (.int .i64 a) ∧ w'.cell? ⟨gb, 1, none⟩ = some (.int .i64 i) ∧ w'.cell? ⟨p, 1, none⟩ = some (.map (some b))) (by kernel_rfl) ?_ (fun hHeld => ?_)
          · exact HS.out _ (.of_below (Below.refl _ _).drew)
          (refine wpAnyH_take (i := 0) (oi := ⟨_, _, _, _, _, _⟩) (v := ?_) rfl (by kernel_rfl) (by kernel_rfl) (by kernel_rfl) (fun _ _ _ h => h) (Or.inl ⟨by rfl, ?_⟩) (by assumption) ?_; rotate_left 1; · (intro w hSw; (try dsimp only at hSw); go_simp; all_goals with_reducible rfl))
          try simp only [Act.put, List.setIfInBounds_toArray, List.set_cons_zero, List.set_cons_succ]
          (refine wpAnyH_take (i := 1) (oi := ⟨_, _, _, _, _, _⟩) (v := ?_) rfl (by kernel_rfl) (by kernel_rfl) (by kernel_rfl) (fun _ _ _ h => h) (Or.inl ⟨by rfl, ?_⟩) (by assumption) ?_; rotate_left 1; · (intro w hSw; (try dsimp only at hSw); go_simp; all_goals with_reducible rfl))
          try simp only [Act.put, List.setIfInBounds_toArray, List.set_cons_zero, List.set_cons_succ]
          (refine wpAnyH_take (i := 2) (oi := ⟨_, _, _, _, _, _⟩) (v := ?_) rfl (by kernel_rfl) (by kernel_rfl) (by kernel_rfl) (fun _ _ _ h => h) (Or.inl ⟨by rfl, ?_⟩) (by assumption) ?_; rotate_left 1; · (intro w hSw; (try dsimp only at hSw); go_simp; all_goals with_reducible rfl))
          try simp only [Act.put, List.setIfInBounds_toArray, List.set_cons_zero, List.set_cons_succ]
          (refine wpAnyH_take (i := 3) (oi := ⟨_, _, _, _, _, _⟩) (v := ?_) rfl (by kernel_rfl) (by kernel_rfl) (by kernel_rfl) (fun _ _ _ h => h) (Or.inl ⟨by rfl, ?_⟩) (by assumption) ?_; rotate_left 1; · (intro w hSw; (try dsimp only at hSw); go_simp; all_goals with_reducible rfl))
          try simp only [Act.put, List.setIfInBounds_toArray, List.set_cons_zero, List.set_cons_succ]
          (refine wpAnyH_take (i := 4) (oi := ⟨_, _, _, _, _, _⟩) (v := ?_) rfl (by kernel_rfl) (by kernel_rfl) (by kernel_rfl) (fun _ _ _ h => h) (Or.inl ⟨by rfl, ?_⟩) (by assumption) ?_; rotate_left 1; · (intro w hSw; (try dsimp only at hSw); go_simp; all_goals with_reducible rfl))
          try simp only [Act.put, List.setIfInBounds_toArray, List.set_cons_zero, List.set_cons_succ]
          (refine wpAnyH_take (i := 5) (oi := ⟨_, _, _, _, _, _⟩) (v := ?_) rfl (by kernel_rfl) (by kernel_rfl) (by kernel_rfl) (fun _ _ _ h => h) (Or.inl ⟨by rfl, ?_⟩) (by assumption) ?_; rotate_left 1; · (intro w hSw; (try dsimp only at hSw); go_simp; all_goals with_reducible rfl))
          try simp only [Act.put, List.setIfInBounds_toArray, List.set_cons_zero, List.set_cons_succ]
          refine wpAnyH_ready (rs := [6]) (by kernel_rfl) (by simp) ?_
          refine AllReadyH.cons (o := ⟨_, _, _, _, _, _⟩) rfl (fun Kq hKq => ?_) (AllReadyH.nil)
          clear hHeld
          refine step_puts (by rfl) (.tmp 48) (.tmp 49) (.tmp 50) (by rfl) Try.underlying55 _ (G5.out.keep (Below.refl _ _).drew).map.2 (by have := HN.out; unfold maxLen; omega) HQ.out (some l') (by rfl) (by rfl) (by rfl) ?_; intro w6 hm6 ht6; have M6 := Lib.hid hm6; have HF6 : Hid (Fr (fun i => i = b) w5 w6) := Lib.hid ((Fr.of_below (Below.refl _ _).drew).step (.of_turned ht6 rfl)); clear hm6 ht6
          refine hKq.out _ _ ?_ (fun hHeld => ?_)
          · (try dsimp only); exact HS.out _ HF6.out
          clear hKq Kq
          try simp only [Act.put]
          refine wpAnyH_done (by kernel_rfl) ?_ _
          clear hHeld HS
          obtain ⟨S6, k1, k2⟩ := G3.out.added B5.out D5.out (Dt.start_ok HOK.out x) HK.out HQ.out (withD_out fun h => HK.out (List.mem_append_left _ h)) HF6.out M6.out
          have G6 := Lib.hid (k1.perm TA.out)
          have U6 := Lib.hid (U3.out.trans k2)
          clear k1 k2 G3 U3 G5 X5 M6 HF6
          go_wp2_with fail
          go_roundw
          case rel => exact ⟨k + 1, S6, m' + 1, _, by omega, by go_num, G6, Lib.hid (by have := HN.out; omega), U6⟩
          case measure => simp [intOf]; omega
      · obtain rfl : k = l.length := by omega
        have hd : decide ((l.length : Int) < (l.length : Int)) = false := by simp
        have HE : Hid (Inn S' wr p f (some b) m' e (K ++ l) (withD e K D x) L') := Lib.hid (by have := HH.out; rwa [List.take_length] at this)
        go_wp2_with fail
        go_end0
        exact ⟨rfl, S', b, m', L', HE.out, HN.out, HU.out⟩
end Go.Proofs.Ytkoeplgkiogjlaa
