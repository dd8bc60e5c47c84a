/-
  Carried over and put together: contracts of this program's functions, and plain facts. No statement is proved in this text.
-/
import Derived.Deep.DeepCutAuto
import Derived.Test.YtloghkiabgnpnaaDoorRows
import Derived.ProofKit
import Derived.SizedLaws
import Derived.Below
import Derived.Carry
import Derived.WalkKit
import Derived.WalkSpells
import Derived.WalkLawsBesides
import Derived.OwnWalk
import Derived.Deep.AppendLies
import Derived.Outline
import Derived.IntWalk
import Derived.Deep.LoopGhost
import Derived.Handy
import Derived.Lib.Hide
import Derived.Deep.RegionWith
import Derived.Deep.RegionHeld3
import Derived.BigQuiet
import Derived.Deep.QuietTactic
import Derived.Sort.Grow
import Derived.Laws.AppendOwnNone
import Derived.Deep.Slices
import Derived.Test.YtloghkiabgnpnaaDoorH00
import Derived.Test.YtloghkiabgnpnaaDoorH01
import Derived.Test.YtloghkiabgnpnaaDoorH03
import Derived.Test.YtloghkiabgnpnaaDoorH05
import Derived.Test.YtloghkiabgnpnaaDoorH10
namespace Go.Proofs.YtloghkiabgnpnaaDoor
open Go Go.RowKit Ros
theorem find_head {l : List Mm} {y : Id2} : l.find? (isM y) = (l.filter fun x => decide (kM x = y)).head? := by
  rw [List.head?_filter]
  rfl
theorem same_find {l m : List Mm} (h : Stab.Same kM l m) (y : Id2) : m.find? (isM y) = l.find? (isM y) := by rw [find_head, find_head, h.2 y]
theorem isM_iff {y : Id2} {x : Mm} : isM y x = true ↔ x.1 = y := by simp [isM]
/-- Of a list that is sorted: one of each ID is kept, the first. -/
theorem cptM_spec : ∀ (l : List Mm) (p : Option Id2), Stab.Sorted kM l → (∀ q, p = some q → ∀ t ∈ l, ¬ Sets.lt t.1 q) →
    Sets.Rises ((cptM p l).map (·.1)) ∧ (∀ q, p = some q → ∀ t ∈ cptM p l, Sets.lt q t.1) ∧ (∀ t ∈ cptM p l, t ∈ l) ∧ (∀ y, (∀ q, p = some q → q ≠ y) → (cptM p l).find? (isM y) = l.find? (isM y))
  | [], _, _, _ => ⟨Sets.rises_nil, (fun _ _ t h => by cases h), (fun t h => by cases h), fun _ _ => rfl⟩
  | t :: l, p, hs, hp => by
    obtain ⟨h1, h2⟩ := Stab.sorted_cons.1 hs
    rw [cptM]
    by_cases e : p = some t.1
    · rw [if_pos e]
      obtain ⟨r1, r2, r3, r4⟩ := cptM_spec l p h2 (fun q hq x hx => hp q hq x (List.mem_cons_of_mem _ hx))
      refine ⟨r1, r2, fun x hx => List.mem_cons_of_mem _ (r3 x hx), fun y hy => ?_⟩
      rw [r4 y hy, List.find?_cons_of_neg (fun hz => hy t.1 e (isM_iff.1 hz))]
    · rw [if_neg e]
      obtain ⟨r1, r2, r3, r4⟩ := cptM_spec l (some t.1) h2 (fun q hq x hx => by
        obtain rfl : t.1 = q := Option.some.inj hq
        exact h1 x hx)
      refine ⟨?_, ?_, ?_, ?_⟩
      · rw [List.map_cons, Sets.rises_cons]
        refine ⟨fun y hy => ?_, r1⟩
        obtain ⟨x, hx, rfl⟩ := List.mem_map.1 hy
        exact r2 t.1 rfl x hx
      · intro q hq x hx
        have hqt : Sets.lt q t.1 := by
          have := hp q hq t (by simp)
          rcases Sets.lt_total q t.1 with h | h | h
          · exact h
          · exact absurd (by rw [hq, h]) e
          · exact absurd h this
        rcases List.mem_cons.1 hx with rfl | hx
        · exact hqt
        · exact Sets.lt_trans hqt (r2 t.1 rfl x hx)
      · intro x hx
        rcases List.mem_cons.1 hx with rfl | hx
        · exact List.mem_cons_self
        · exact List.mem_cons_of_mem _ (r3 x hx)
      · intro y hy
        by_cases c : t.1 = y
        · rw [List.find?_cons_of_pos (isM_iff.2 c), List.find?_cons_of_pos (isM_iff.2 c)]
        · rw [List.find?_cons_of_neg (fun h => c (isM_iff.1 h)), List.find?_cons_of_neg (fun h => c (isM_iff.1 h))]
          exact r4 y (fun q hq => by
            obtain rfl : t.1 = q := Option.some.inj hq
            exact c)
/-- The IDs of members. -/
def idsM (l : List Mm) : List Id2 := l.map (·.1)
/-- The first one of each ID, in the row of the IDs. -/
def firstsL (l : List Mm) : List Mm := (Sets.setOf (idsM l)).map fun y => (getO l y).getD noneM
theorem getO_some {l : List Mm} {x : Mm} (h : Sets.Rises (idsM l)) (hx : x ∈ l) : getO l x.1 = some x := by
  induction l with
  | nil => cases hx
  | cons a l ih =>
    unfold idsM at h
    rw [List.map_cons, Sets.rises_cons] at h
    unfold getO
    rcases List.mem_cons.1 hx with rfl | hx
    · exact List.find?_cons_of_pos (isM_iff.2 rfl)
    · have hl := h.1 x.1 (List.mem_map.2 ⟨x, hx, rfl⟩)
      rw [List.find?_cons_of_neg (fun e => Stab.lt_ne hl (isM_iff.1 e))]
      exact ih h.2 hx
theorem firsts_is {l M : List Mm} (h : Stab.Sorted kM M) (hs : Stab.Same kM l M) : cptM none M = firstsL l := by
  obtain ⟨r1, -, r3, r4⟩ := cptM_spec M none h (fun q hq => by cases hq)
  have hf : ∀ y, getO (cptM none M) y = getO l y := fun y => (r4 y (fun q hq => by cases hq)).trans (same_find hs y)
  have hm : idsM (cptM none M) = Sets.setOf (idsM l) := by
    refine Sets.rises_ext r1 (Sets.rises_setOf _) fun y => ?_
    rw [Sets.mem_setOf]
    constructor
    · intro hy
      obtain ⟨x, hx, rfl⟩ := List.mem_map.1 hy
      exact List.mem_map.2 ⟨x, hs.mem.2 (r3 x hx), rfl⟩
    · intro hy
      obtain ⟨x, hx, rfl⟩ := List.mem_map.1 hy
      have h1 := hf x.1
      have h2 : (getO l x.1).isSome := by
        unfold getO
        rw [List.find?_isSome]
        exact ⟨x, hx, isM_iff.2 rfl⟩
      rw [← h1] at h2
      obtain ⟨z, hz⟩ := Option.isSome_iff_exists.1 h2
      have h3 := List.find?_some hz
      exact List.mem_map.2 ⟨z, List.mem_of_find?_eq_some hz, isM_iff.1 h3⟩
  unfold firstsL
  rw [← hm]
  unfold idsM
  rw [List.map_map]
  conv => lhs; rw [← List.map_id (cptM none M)]
  refine List.map_congr_left fun x hx => ?_
  show x = (getO l x.1).getD noneM
  rw [← hf, getO_some r1 hx]
  rfl
theorem firstsL_len (l : List Mm) : (firstsL l).length ≤ l.length := by
  unfold firstsL
  rw [List.length_map]
  exact Nat.le_trans (Sets.setOf_len _) (by simp [idsM])
abbrev OwnsMm (w : World) (base : Nat) (v : Value) (l : List Mm) : Prop := OwnsR encM 4 52 w base v l
set_option maxHeartbeats 1000000 in
theorem cloneM_any (v : Value) (l : List Mm) (w : World) (h : Ms w v l) (hl : l.length ≤ 100000) :
    Calls Tryd.prog 66 #[v] w fun e w' => ∃ v', e = .returned v' ∧ OwnsMm w' w.heap.size v' l ∧ Below w.heap.size w w' := by
  have q24 : ∀ (w : World) (a : Option Addr) (n c n' c' : Nat), (binOp .eql 24 (.slice a n c) (.slice none n' c')).run Tryd.prog w = .ok (.bool a.isNone) w := fun w a n c n' c' => Lib.run_eql_slice_nil w _ _ a n c n' c' Tryd.underlying24
  rcases h.shape with ⟨rfl, rfl⟩ | ⟨ad, c, rfl, hc⟩
  · go_enter Tryd.func66, Tryd.ntmps66
    go_wp2
    go_ret
    exact ⟨_, rfl, OwnsR.nil _ _ _, Below.refl _ _⟩
  · have HI := Lib.hid h
    clear h
    go_enter Tryd.func66, Tryd.ntmps66
    go_wp2_with (at_builtin; refine wpList_append_recs 24 52 Tryd.underlying24 info32 rfl encM_len (by omega) encM_one (by omega) rfl (.tmp 5) (.tmp 6) rfl _ w.heap.size _ _ [] l rfl rfl (World.ownsRow_made w #[] 0 (Nat.le_refl _) (Nat.zero_le _) (by simp)) (HI.out.below ((Below.refl _ _).alloc (Nat.le_refl _) _)) (by simp; omega) (by simp) ?_; intro v' w' h1 h2)
    go_wp2
    go_ret
    exact ⟨_, rfl, h1, ((Below.refl _ _).alloc (Nat.le_refl _) _).trans h2⟩
theorem insertion_nil (w : World) : Calls Tryd.prog 75 #[.slice none 0 0, .int .i64 0, .int .i64 0, .func (.func 68) #[] #[]] w fun e w' => e = .returned (.tuple #[]) ∧ w = w' := by
  go_enter Tryd.func75, Tryd.ntmps75
  go_wp2_with fail
  refine wp_loop_rounds 1 ?_
  rw [rounds_succ]
  go_wp2_with fail
  go_end0
  exact ⟨rfl, rfl⟩
theorem stable_nil (w : World) : Calls Tryd.prog 74 #[.slice none 0 0, .int .i64 0, .func (.func 68) #[] #[]] w fun e w' => e = .returned (.tuple #[]) ∧ w = w' := by
  go_enter Tryd.func74, Tryd.ntmps74
  go_wp2_with fail
  refine wp_loop_rounds 1 ?_
  rw [rounds_succ]
  go_wp2_with fail
  (with_reducible refine (insertion_nil _).mono ?_)
  rintro e w' ⟨rfl, rfl⟩
  go_wp2_with fail
  refine wp_loop_rounds 1 ?_
  rw [rounds_succ]
  go_wp2_with fail
  go_end0
  exact ⟨rfl, rfl⟩
theorem sortStable_nil (w : World) : Calls Tryd.prog 67 #[.slice none 0 0, .func (.func 68) #[] #[]] w fun e w' => e = .returned (.tuple #[]) ∧ w = w' := by
  go_enter Tryd.func67, Tryd.ntmps67
  go_wp2_with fail
  (with_reducible refine (stable_nil _).mono ?_)
  rintro e w' ⟨rfl, rfl⟩
  go_wp2_with fail
  go_end0
  exact ⟨rfl, rfl⟩
theorem compact_nil (w : World) : Calls Tryd.prog 69 #[.slice none 0 0, .func (.func 70) #[] #[]] w fun e w' => e = .returned (.slice none 0 0) ∧ w = w' := by
  go_enter Tryd.func69, Tryd.ntmps69
  go_wp2_with fail
  go_ret
  exact ⟨rfl, rfl⟩
theorem ownsM_row {w : World} {base g n c : Nat} {l : List Mm} (h : OwnsMm w base (.slice (some ⟨g, 0, none⟩) n c) l) : n = l.length ∧ RowL w g l ∧ l.length ≤ c := by
  obtain ⟨A, c', hv, -, hc, -⟩ := rcs_owns encM_len h
  injection hv with e1 e2 e3
  subst e2 e3
  exact ⟨rfl, rowAtR_owns encM_len (d := l.toArray) (c := c) (by simpa using h), hc⟩
theorem firsts_any (v : Value) (l : List Mm) (w : World) (h : Ms w v l) (hl : l.length ≤ 100000) :
    Calls Tryd.prog 59 #[v] w fun e w' => ∃ v', e = .returned v' ∧ Ms w' v' (firstsL l) ∧ Below w.heap.size w w' := by
  have HI := Lib.hid h
  clear h
  go_enter Tryd.func59, Tryd.ntmps59
  go_wp2_with fail
  (with_reducible refine (cloneM_any v l w HI.out hl).mono ?_)
  rintro e w1 ⟨v1, rfl, ho, hb⟩
  rcases ownsR_split ho with ⟨rfl, hn⟩ | ⟨g, cap, rfl, hg, hc⟩
  · have e0 : l = [] := List.eq_nil_of_length_eq_zero (by omega)
    subst e0
    have B1 := Lib.hid hb
    clear ho hb
    go_wp2_with fail
    (with_reducible refine (sortStable_nil _).mono ?_)
    rintro e w2 ⟨rfl, rfl⟩
    go_wp2_with fail
    (with_reducible refine (compact_nil _).mono ?_)
    rintro e w2 ⟨rfl, rfl⟩
    go_wp2_with fail
    go_ret
    exact ⟨_, rfl, Rcs.nil _, B1.out⟩
  · obtain ⟨-, hr, hcc⟩ := ownsM_row ho
    have HR := Lib.hid hr
    have HC := Lib.hid hcc
    have B1 := Lib.hid hb
    have HG := Lib.hid (World.ownsRow.lt ho g rfl).1
    clear ho hb hr hcc hc hg
    go_wp2_with fail
    (with_reducible refine (sortStable_any g cap l w1 HR.out hl).mono ?_)
    rintro e w2 ⟨rfl, M, s1, s2, s3, s4⟩
    have S1 := Lib.hid s1
    have S2 := Lib.hid s2
    have S3 := Lib.hid s3
    have S4 := Lib.hid s4
    have HL := Lib.hid s2.1
    clear s1 s2 s3 s4 HR
    have HK : Hid (Calls Tryd.prog 69 #[.slice (some ⟨g, 0, none⟩) l.length cap, .func (.func 70) #[] #[]] w2 fun e w' => ∃ d' : Array Mm, e = .returned (.slice (some ⟨g, 0, none⟩) d'.size cap) ∧ d'.toList = cptM none M ∧ RowAtR encM 4 w' g d' ∧ w2.grownBy w' (some g)) := Lib.hid (by
      have := compact_any g cap M.toArray w2 S3.out (by have := HL.out; have := HC.out; simp; omega) (by have := HL.out; simp; omega)
      rw [show M.toArray.size = l.length by have := HL.out; simp; omega] at this
      simpa using this)
    go_wp2_with fail
    (with_reducible refine HK.out.mono ?_)
    rintro e w3 ⟨d', rfl, hd, hr, hg⟩
    have HD := Lib.hid (hd.trans (firsts_is S1.out S2.out))
    have HR := Lib.hid hr
    have HB := Lib.hid (show Below w.heap.size w w3 from B1.out.trans (below_grown (grown_trans S4.out hg) HG.out B1.out.size))
    clear hd hr hg
    have HZ : Hid (d'.size ≤ cap) := Lib.hid (by
      have h1 := firstsL_len l
      rw [← HD.out] at h1
      have := HC.out
      simp at h1
      omega)
    go_wp2_with fail
    go_ret
    exact ⟨_, rfl, by rw [← HD.out]; exact rowAtR_rcs HR.out HZ.out, HB.out⟩
end Go.Proofs.YtloghkiabgnpnaaDoor
set_option maxRecDepth 20000
namespace Go.Proofs.YtloghkiabgnpnaaDoor
open Go.RowKit Go.WideShapes Go.ChangeShapes Go.ChangeAt
theorem Tryd.own : ownKnob Tryd.prog.godebug = none := by kernel_rfl
theorem Tryd.laidOut : laidOutB Tryd.prog = true := by kernel_rfl
theorem in_i64 {n : Int} (h : (Lit.int .i64 n).wf = true) : -9223372036854775808 ≤ n ∧ n ≤ 9223372036854775807 := by
  simp [Lit.wf, IntKind.min, IntKind.max, IntKind.signed, IntKind.bits] at h
  omega
theorem in_u32 {n : Int} (h : (Lit.int .u32 n).wf = true) : 0 ≤ n ∧ n < 4294967296 := by
  simp [Lit.wf, IntKind.min, IntKind.max, IntKind.signed, IntKind.bits] at h
  omega
theorem reach_is : reachBytes = 140737488351232 := rfl
section
variable {H : Type} {enc : TypeId × Value → H}
theorem trodAll_five {w : World} {base : Nat} {spare : Nat → Bool} {held : Bool} {t0 t1 t2 t3 t4 : TypeId} {args : Array Value} {ds : List (DataW H)} {ps : List MemPlace} (h : DataW.TrodAll enc Tryd.prog w base spare held [t0, t1, t2, t3, t4] args.toList ds ps) :
    ∃ v0 v1 v2 v3 v4 d0 d1 d2 d3 d4 p0 p1 p2 p3 p4, args = #[v0, v1, v2, v3, v4] ∧ ds = [d0, d1, d2, d3, d4] ∧ ps = p0 ++ p1 ++ p2 ++ p3 ++ p4 ∧ DataW.Trod enc Tryd.prog w base spare held t0 v0 d0 p0 ∧ DataW.Trod enc Tryd.prog w base spare held t1 v1 d1 p1 ∧ DataW.Trod enc Tryd.prog w base spare held t2 v2 d2 p2 ∧ DataW.Trod enc Tryd.prog w base spare held t3 v3 d3 p3 ∧ DataW.Trod enc Tryd.prog w base spare held t4 v4 d4 p4 := by
  obtain ⟨v0, _, d0, _, p0, _, e, rfl, rfl, h0, r0⟩ := trodAll_cons h
  obtain ⟨v1, _, d1, _, p1, _, rfl, rfl, rfl, h1, r1⟩ := trodAll_cons r0
  obtain ⟨v2, _, d2, _, p2, _, rfl, rfl, rfl, h2, r2⟩ := trodAll_cons r1
  obtain ⟨v3, _, d3, _, p3, _, rfl, rfl, rfl, h3, r3⟩ := trodAll_cons r2
  obtain ⟨v4, _, d4, _, p4, _, rfl, rfl, rfl, h4, r4⟩ := trodAll_cons r3
  obtain ⟨rfl, rfl, rfl⟩ := trodAll_nil r4
  exact ⟨v0, v1, v2, v3, v4, d0, d1, d2, d3, d4, p0, p1, p2, p3, p4, by cases args; simp_all, rfl, by simp, h0, h1, h2, h3, h4⟩
/-- May each of these types be read as data, to the bottom? -/
def Legible (ts : List TypeId) : Prop := (ts.all fun t => Tryd.prog.readableRec t && decide (t < Tryd.prog.types.size)) = true
/-- All arguments read behind the call as they did, where nothing that was there has turned. -/
theorem read_again {W W' : World} (hb : Below W.heap.size W W') (ts : List TypeId) (hts : Legible ts) : ∀ (vs : List Value) (ds : List (DataW H)) (ps : List MemPlace),
    DataW.TrodAll enc Tryd.prog W 0 (fun _ => true) true ts vs ds ps → (∀ x ∈ ps, x.block < W.heap.size) →
    DataW.TrodAll enc Tryd.prog W' 0 (fun b => decide (b < W.heap.size)) true ts vs ds ps := by
  induction ts with
  | nil =>
    intro vs ds ps h _
    obtain ⟨rfl, rfl, rfl⟩ := trodAll_nil h
    rfl
  | cons t ts ih =>
    intro vs ds ps h hlt
    obtain ⟨v, vs', d, ds', p, q, rfl, rfl, rfl, h1, h2⟩ := trodAll_cons h
    simp only [Legible, List.all_cons, Bool.and_eq_true, decide_eq_true_eq] at hts
    exact ⟨p, q, Below.trod Tryd.laidOut hts.1.1 hts.1.2 h1 hb (fun x hx => hlt x (List.mem_append_left _ hx)),
      ih (by simpa [Legible] using hts.2) vs' ds' q h2 (fun x hx => hlt x (List.mem_append_right _ hx)), rfl⟩
/-- The statement's last step: true was answered, and all old memory stands. -/
theorem law_post {f : Func} {s : ChangeSpec} {W W' : World} {args : Array Value} {ds gs : List (DataW H)} {before : List MemPlace} {t : TypeId}
    (hW : DataW.Whole enc Tryd.prog f.params.toList s.vars false W args.toList ds gs before) (hvars : s.vars = []) (hres : f.resultTypes = #[t]) (ht : Tryd.prog.underlying t = some .bool)
    (hspec : s.fn H (ds ++ gs) = { results := [.lit (.bool true)], args := ds }) (hts : Legible f.params.toList) (hb : Below W.heap.size W W') :
    s.post enc Tryd.prog f false true false false W args (.bool true) W' := by
  have hlt := hW.lt
  obtain ⟨p, q, hA, hV, rfl, hz, hn⟩ := hW
  refine ⟨ds, gs, p ++ q, [], p, [], ⟨p, q, hA, hV, rfl, hz, hn⟩, ?_, ?_, ?_, hb.frame _, fun h => by cases h⟩
  · rw [hspec, hres]
    exact trodAll_mk1 (shut_bool ht true)
  · rw [hspec]
    exact read_again hb _ hts _ _ _ hA fun x hx => hlt x (List.mem_append_left _ hx)
  · rw [hspec, hvars]
    rfl
end
end Go.Proofs.YtloghkiabgnpnaaDoor
set_option maxRecDepth 20000
namespace Go.Proofs.YtloghkiabgnpnaaDoor.Clocks
open Go.Proofs.YtloghkiabgnpnaaDoor.Sets
abbrev Tick := Id2 × Int
/-- What a list says of an ID: the greatest count, 0 at least. -/
def says : List Tick → Id2 → Int
  | [], _ => 0
  | t :: c, x => if t.1 = x then max t.2 (says c x) else says c x
theorem says_nil (x : Id2) : says [] x = 0 := rfl
theorem says_pos (c : List Tick) (x : Id2) : 0 ≤ says c x := by
  induction c with
  | nil => exact Int.le_refl _
  | cons t c ih =>
    rw [says]
    split <;> omega
theorem says_append (a b : List Tick) (x : Id2) : says (a ++ b) x = max (says a x) (says b x) := by
  induction a with
  | nil => have := says_pos b x; simp only [List.nil_append, says]; omega
  | cons t a ih =>
    simp only [List.cons_append, says, ih]
    split <;> omega
theorem says_mem {c : List Tick} {x : Id2} (h : 0 < says c x) : (x, says c x) ∈ c := by
  induction c with
  | nil => simp [says] at h
  | cons t c ih =>
    rw [says] at h ⊢
    by_cases e : t.1 = x
    · rw [if_pos e] at h ⊢
      rcases Int.le_total t.2 (says c x) with h1 | h1
      · rw [Int.max_eq_right h1] at h ⊢
        exact List.mem_cons_of_mem _ (ih h)
      · rw [Int.max_eq_left h1, ← e]
        exact List.mem_cons_self ..
    · rw [if_neg e] at h ⊢
      exact List.mem_cons_of_mem _ (ih h)
theorem says_ge {c : List Tick} {t : Tick} (h : t ∈ c) : t.2 ≤ says c t.1 := by
  induction c with
  | nil => cases h
  | cons u c ih =>
    rw [says]
    rcases List.mem_cons.1 h with rfl | h
    · rw [if_pos rfl]; omega
    · have := ih h
      split <;> omega
theorem says_zero {c : List Tick} {x : Id2} (h : ∀ t ∈ c, t.1 = x → t.2 ≤ 0) : says c x = 0 := by
  rcases Int.lt_or_le 0 (says c x) with h1 | h1
  · have := h _ (says_mem h1) rfl
    simp at this
    omega
  · have := says_pos c x
    omega
/-- IDs that rise, each with a count above 0. -/
def Norm (c : List Tick) : Prop := Rises (c.map (·.1)) ∧ ∀ t ∈ c, 0 < t.2
theorem norm_nil : Norm [] := ⟨rises_nil, fun _ h => by cases h⟩
theorem norm_cons {t : Tick} {c : List Tick} : Norm (t :: c) ↔ (∀ u ∈ c, lt t.1 u.1) ∧ 0 < t.2 ∧ Norm c := by
  unfold Norm
  rw [List.map_cons, rises_cons]
  constructor
  · rintro ⟨⟨h1, h2⟩, h3⟩
    exact ⟨fun u hu => h1 _ (List.mem_map_of_mem hu), h3 t (List.mem_cons_self ..), h2, fun u hu => h3 u (List.mem_cons_of_mem _ hu)⟩
  · rintro ⟨h1, h2, h3, h4⟩
    refine ⟨⟨fun y hy => ?_, h3⟩, fun u hu => ?_⟩
    · obtain ⟨u, hu, rfl⟩ := List.mem_map.1 hy
      exact h1 u hu
    · rcases List.mem_cons.1 hu with rfl | hu
      · exact h2
      · exact h4 u hu
theorem norm_says {c : List Tick} (h : Norm c) {t : Tick} (ht : t ∈ c) : says c t.1 = t.2 := by
  induction c with
  | nil => cases ht
  | cons u c ih =>
    obtain ⟨h1, h2, h3⟩ := norm_cons.1 h
    rw [says]
    rcases List.mem_cons.1 ht with rfl | ht
    · rw [if_pos rfl, says_zero (fun v hv e => absurd (e ▸ h1 v hv) (lt_irrefl _))]
      omega
    · rw [if_neg (fun e => absurd (e ▸ h1 t ht) (lt_irrefl _))]
      exact ih h3 ht
theorem norm_mem {c : List Tick} (h : Norm c) (t : Tick) : t ∈ c ↔ 0 < t.2 ∧ says c t.1 = t.2 := by
  constructor
  · exact fun ht => ⟨h.2 t ht, norm_says h ht⟩
  · rintro ⟨h1, h2⟩
    have := says_mem (c := c) (x := t.1) (by omega)
    rw [h2] at this
    exact this
/-- Two such lists that say the same are the same. -/
theorem norm_ext : ∀ {a b : List Tick}, Norm a → Norm b → (∀ x, says a x = says b x) → a = b
  | [], [], _, _, _ => rfl
  | [], u :: b, _, hb, h => by
    have h1 := (norm_mem hb u).1 (List.mem_cons_self ..)
    have := h u.1
    rw [h1.2] at this
    simp only [says] at this
    omega
  | t :: a, [], ha, _, h => by
    have h1 := (norm_mem ha t).1 (List.mem_cons_self ..)
    have := h t.1
    rw [h1.2] at this
    simp only [says] at this
    omega
  | t :: a, u :: b, ha, hb, h => by
    obtain ⟨a1, a2, a3⟩ := norm_cons.1 ha
    obtain ⟨b1, b2, b3⟩ := norm_cons.1 hb
    have hm : ∀ v, v ∈ t :: a ↔ v ∈ u :: b := fun v => by rw [norm_mem ha, norm_mem hb, h]
    have e : t = u := by
      rcases List.mem_cons.1 ((hm t).1 (List.mem_cons_self ..)) with e | e
      · exact e
      · rcases List.mem_cons.1 ((hm u).2 (List.mem_cons_self ..)) with e2 | e2
        · exact e2.symm
        · exact absurd (a1 u e2) (lt_asymm (b1 t e))
    subst e
    congr 1
    refine norm_ext a3 b3 fun x => ?_
    have hx := h x
    rw [says, says] at hx
    by_cases e : t.1 = x
    · subst e
      rw [says_zero (fun v hv e => absurd (e ▸ a1 v hv) (lt_irrefl _)), says_zero (fun v hv e => absurd (e ▸ b1 v hv) (lt_irrefl _))]
    · rwa [if_neg e, if_neg e] at hx
/-- The clock that says of these IDs what f says. -/
def clk (f : Id2 → Int) (ids : List Id2) : List Tick := ((setOf ids).filter fun x => decide (0 < f x)).map fun x => (x, f x)
theorem clk_ids (f : Id2 → Int) (ids : List Id2) : (clk f ids).map (·.1) = (setOf ids).filter fun x => decide (0 < f x) := by
  unfold clk
  rw [List.map_map]
  exact List.map_id _
theorem norm_clk (f : Id2 → Int) (ids : List Id2) : Norm (clk f ids) := by
  refine ⟨?_, fun t ht => ?_⟩
  · rw [clk_ids]
    exact List.Pairwise.filter _ (rises_setOf ids)
  · obtain ⟨x, hx, rfl⟩ := List.mem_map.1 ht
    simpa using (List.mem_filter.1 hx).2
theorem says_clk {f : Id2 → Int} {ids : List Id2} (h0 : ∀ x, 0 ≤ f x) (h : ∀ x, 0 < f x → x ∈ ids) (x : Id2) : says (clk f ids) x = f x := by
  rcases Int.lt_or_le 0 (f x) with h1 | h1
  · have hm : (x, f x) ∈ clk f ids := List.mem_map.2 ⟨x, List.mem_filter.2 ⟨(mem_setOf ids x).2 (h x h1), by simpa using h1⟩, rfl⟩
    exact norm_says (norm_clk f ids) hm
  · have h2 := h0 x
    have h3 : f x = 0 := by omega
    rw [h3]
    refine says_zero fun t ht e => ?_
    obtain ⟨y, hy, rfl⟩ := List.mem_map.1 ht
    simp only at e ⊢
    subst e
    omega
/-- Join. -/
def joinC (a b : List Tick) : List Tick := clk (fun x => max (says a x) (says b x)) ((a ++ b).map (·.1))
theorem says_ids {c : List Tick} {x : Id2} (h : 0 < says c x) : x ∈ c.map (·.1) := List.mem_map.2 ⟨_, says_mem h, rfl⟩
theorem says_join (a b : List Tick) (x : Id2) : says (joinC a b) x = max (says a x) (says b x) := by
  refine says_clk (fun x => by have := says_pos a x; omega) (fun x h => ?_) x
  rw [← says_append] at h
  exact says_ids h
theorem norm_join (a b : List Tick) : Norm (joinC a b) := norm_clk _ _
theorem join_comm (a b : List Tick) : joinC a b = joinC b a := norm_ext (norm_join _ _) (norm_join _ _) fun x => by rw [says_join, says_join]; omega
theorem join_assoc (a b c : List Tick) : joinC (joinC a b) c = joinC a (joinC b c) := norm_ext (norm_join _ _) (norm_join _ _) fun x => by simp only [says_join]; omega
theorem join_self {a : List Tick} (h : Norm a) : joinC a a = a := norm_ext (norm_join _ _) h fun x => by rw [says_join]; omega
theorem join_nil {a : List Tick} (h : Norm a) : joinC a [] = a := norm_ext (norm_join _ _) h fun x => by rw [says_join]; have := says_pos a x; simp only [says]; omega
theorem clk_len (f : Id2 → Int) (ids : List Id2) : (clk f ids).length ≤ ids.length := by
  unfold clk
  rw [List.length_map]
  exact Nat.le_trans (List.length_filter_le _ _) (setOf_len ids)
theorem join_len (a b : List Tick) : (joinC a b).length ≤ a.length + b.length := Nat.le_trans (clk_len _ _) (by simp)
/-- Does a say more than b of some ID? -/
def more (a b : List Tick) : Bool := a.any fun t => decide (says b t.1 < says a t.1)
theorem more_iff (a b : List Tick) : more a b = true ↔ ∃ x, says b x < says a x := by
  unfold more
  rw [List.any_eq_true]
  constructor
  · rintro ⟨t, _, h⟩
    exact ⟨t.1, by simpa using h⟩
  · rintro ⟨x, h⟩
    have := says_pos b x
    exact ⟨_, says_mem (c := a) (x := x) (by omega), by simpa using h⟩
theorem more_not (a b : List Tick) : more a b = false ↔ ∀ x, says a x ≤ says b x := by
  rw [← Bool.not_eq_true, more_iff]
  constructor
  · exact fun h x => by rcases Int.lt_or_le (says b x) (says a x) with h1 | h1; exact absurd ⟨x, h1⟩ h; exact h1
  · rintro h ⟨x, hx⟩
    have := h x
    omega
/-- How two clocks stand: 1 the same, 2 behind, 3 ahead, 4 apart. -/
def cmpB (x y : Bool) : Nat := if x then (if y then 4 else 3) else (if y then 2 else 1)
def cmp (a b : List Tick) : Nat := cmpB (more a b) (more b a)
theorem cmp_turn (a b : List Tick) : cmp b a = cmpB (more b a) (more a b) := rfl
theorem cmp_same (a b : List Tick) : cmp a b = 1 ↔ ∀ x, says a x = says b x := by
  unfold cmp cmpB
  rcases h1 : more a b with _ | _ <;> rcases h2 : more b a with _ | _
  · rw [more_not] at h1 h2
    simp only [if_neg Bool.false_ne_true, true_iff]
    exact fun x => by have := h1 x; have := h2 x; omega
  · obtain ⟨x, hx⟩ := (more_iff _ _).1 h2
    simp only [if_neg Bool.false_ne_true, if_true]
    exact ⟨fun h => by omega, fun h => by have := h x; omega⟩
  · obtain ⟨x, hx⟩ := (more_iff _ _).1 h1
    simp only [if_neg Bool.false_ne_true, if_true]
    exact ⟨fun h => by omega, fun h => by have := h x; omega⟩
  · obtain ⟨x, hx⟩ := (more_iff _ _).1 h1
    simp only [if_true]
    exact ⟨fun h => by omega, fun h => by have := h x; omega⟩
/-- Not behind, nor apart. -/
def above (a b : List Tick) : Bool := !more b a
theorem above_iff (a b : List Tick) : above a b = true ↔ ∀ x, says b x ≤ says a x := by
  unfold above
  rw [Bool.not_eq_true', more_not]
theorem cmp_above (a b : List Tick) : (cmp a b = 3 ∨ cmp a b = 1) ↔ above a b = true := by
  unfold cmp cmpB above
  rcases more a b with _ | _ <;> rcases more b a with _ | _ <;> simp
theorem cmp_behind (a b : List Tick) : cmp a b = 2 ↔ (∀ x, says a x ≤ says b x) ∧ ∃ x, says a x < says b x := by
  rw [← more_not, ← more_iff b a]
  unfold cmp cmpB
  rcases more a b with _ | _ <;> rcases more b a with _ | _ <;> simp
theorem cmp_ahead (a b : List Tick) : cmp a b = 3 ↔ (∀ x, says b x ≤ says a x) ∧ ∃ x, says b x < says a x := by
  rw [← more_not, ← more_iff a b]
  unfold cmp cmpB
  rcases more a b with _ | _ <;> rcases more b a with _ | _ <;> simp
theorem cmp_apart (a b : List Tick) : cmp a b = 4 ↔ (∃ x, says b x < says a x) ∧ ∃ x, says a x < says b x := by
  rw [← more_iff a b, ← more_iff b a]
  unfold cmp cmpB
  rcases more a b with _ | _ <;> rcases more b a with _ | _ <;> simp
/-- One more of an ID. -/
def up (c : List Tick) (y : Id2) : List Tick := clk (fun x => if x = y then says c x + 1 else says c x) (y :: c.map (·.1))
theorem says_up (c : List Tick) (y x : Id2) : says (up c y) x = if x = y then says c x + 1 else says c x := by
  refine says_clk (f := fun x => if x = y then says c x + 1 else says c x) (fun x => ?_) (fun x h => ?_) x
  · have := says_pos c x
    split <;> omega
  · split at h
    · rename_i e; rw [e]; exact List.mem_cons_self ..
    · exact List.mem_cons_of_mem _ (says_ids h)
theorem norm_up (c : List Tick) (y : Id2) : Norm (up c y) := norm_clk _ _
theorem up_len (c : List Tick) (y : Id2) : (up c y).length ≤ c.length + 1 := Nat.le_trans (clk_len _ _) (by simp)
/-- The stage's theorem, plainly. -/
theorem apart_up (c : List Tick) {a b : Id2} (h : a ≠ b) : cmp (up c a) (up c b) = 4 := by
  rw [cmp_apart]
  refine ⟨⟨a, ?_⟩, ⟨b, ?_⟩⟩
  · rw [says_up, says_up, if_pos rfl, if_neg h]; omega
  · rw [says_up, says_up, if_pos rfl, if_neg (Ne.symm h)]; omega
theorem behind_left (c : List Tick) {a b : Id2} (h : a ≠ b) : cmp (up c a) (joinC (up c a) (up c b)) = 2 := by
  rw [cmp_behind]
  refine ⟨fun x => by rw [says_join]; omega, b, ?_⟩
  rw [says_join, says_up, says_up, if_pos rfl, if_neg (Ne.symm h)]; omega
theorem behind_right (c : List Tick) {a b : Id2} (h : a ≠ b) : cmp (up c b) (joinC (up c a) (up c b)) = 2 := by
  rw [join_comm]
  exact behind_left c (Ne.symm h)
theorem up_up (c : List Tick) {a b : Id2} (h : a ≠ b) : up (up c a) b = joinC (up c a) (up c b) :=
  norm_ext (norm_up _ _) (norm_join _ _) fun x => by
    simp only [says_join, says_up]
    by_cases e1 : x = a
    · rw [if_neg (e1 ▸ h), if_pos e1, if_neg (e1 ▸ h)]; omega
    · by_cases e2 : x = b
      · rw [if_pos e2, if_neg e1, if_pos e2]; omega
      · rw [if_neg e2, if_neg e1, if_neg e2]; omega
theorem cmp_self (a : List Tick) : cmp a a = 1 := (cmp_same a a).2 fun _ => rfl
theorem behind_trans {a b c : List Tick} (h : cmp a b = 2) (k : cmp b c = 2) : cmp a c = 2 := by
  rw [cmp_behind] at *
  obtain ⟨h1, x, h2⟩ := h
  refine ⟨fun y => ?_, x, ?_⟩
  · have := h1 y; have := k.1 y; omega
  · have := k.1 x; omega
theorem join_above (a b : List Tick) : above (joinC a b) a = true := (above_iff _ _).2 fun x => by rw [says_join]; omega
theorem join_above' (a b : List Tick) : above (joinC a b) b = true := (above_iff _ _).2 fun x => by rw [says_join]; omega
theorem above_join {a b c : List Tick} (h : above c a = true) (k : above c b = true) : above c (joinC a b) = true := by
  rw [above_iff] at *
  intro x
  have := h x
  have := k x
  rw [says_join]
  omega
theorem behind_or_same (a b : List Tick) : (cmp a b = 2 ∨ cmp a b = 1) ↔ ∀ x, says a x ≤ says b x := by
  rw [← more_not]
  unfold cmp cmpB
  rcases more a b with _ | _ <;> rcases more b a with _ | _ <;> simp
theorem join_same_iff (a b : List Tick) : (cmp a b = 2 ∨ cmp a b = 1) ↔ cmp (joinC a b) b = 1 := by
  rw [behind_or_same, cmp_same]
  refine forall_congr' fun x => ?_
  rw [says_join]
  omega
theorem join_behind {a b : List Tick} (h : cmp a b = 2) (hb : Norm b) : joinC a b = b :=
  norm_ext (norm_join _ _) hb fun x => by
    have := ((cmp_behind a b).1 h).1 x
    rw [says_join]
    omega
theorem cmp_turned (a b : List Tick) : cmp b a = if cmp a b = 2 then 3 else if cmp a b = 3 then 2 else cmp a b := by
  unfold cmp cmpB
  rcases more a b with _ | _ <;> rcases more b a with _ | _ <;> rfl
theorem cmp_range (a b : List Tick) : 1 ≤ cmp a b ∧ cmp a b ≤ 4 := by
  unfold cmp cmpB
  rcases more a b with _ | _ <;> rcases more b a with _ | _ <;> decide
end Go.Proofs.YtloghkiabgnpnaaDoor.Clocks
set_option maxRecDepth 20000
namespace Go.Proofs.YtloghkiabgnpnaaDoor
open Go.RowKit Sets Clocks
/-- A world that has come of another one by draws and new memory alone. -/
def Grew (w w' : World) : Prop := ∃ q os, w' = Go.Sort.grow (w.drewN q) os
theorem Grew.refl (w : World) : Grew w w := ⟨0, #[], by rw [Go.Sort.grow_empty]; rfl⟩
theorem Grew.drew {w w' : World} (h : Grew w w') : Grew w w'.drew := by
  obtain ⟨q, os, rfl⟩ := h
  exact ⟨q + 1, os, rfl⟩
theorem Grew.drewN {w w' : World} (h : Grew w w') (n : Nat) : Grew w (w'.drewN n) := by
  obtain ⟨q, os, rfl⟩ := h
  refine ⟨q + n, os, ?_⟩
  simp [World.drewN, Go.Sort.grow, Nat.add_assoc]
theorem Grew.grow {w w' : World} (h : Grew w w') (os : Array Obj) : Grew w (Go.Sort.grow w' os) := by
  obtain ⟨q, os', rfl⟩ := h
  exact ⟨q, os' ++ os, Go.Sort.grow_grow _ _ _⟩
theorem Grew.alloc {w w' : World} (h : Grew w w') (o : Obj) : Grew w (w'.alloc o) := by rw [Go.Sort.alloc_eq_grow]; exact h.grow _
theorem Grew.trans {w w' w'' : World} (h : Grew w w') (k : Grew w' w'') : Grew w w'' := by
  obtain ⟨q, os, rfl⟩ := k
  exact (h.drewN q).grow os
theorem Grew.size {w w' : World} (h : Grew w w') : w.heap.size ≤ w'.heap.size := by
  obtain ⟨q, os, rfl⟩ := h
  simp [Go.Sort.grow, World.drewN]
theorem Grew.below {w w' : World} (h : Grew w w') : Below w.heap.size w w' := by
  obtain ⟨q, os, rfl⟩ := h
  exact ⟨rfl, rfl, rfl, by simp [Go.Sort.grow, World.drewN], fun k hk => Go.Sort.heap_grow_old (w.drewN q) os hk⟩
theorem grew_two (w : World) (o o' : Obj) : Grew w ((w.alloc o).alloc o') := ((Grew.refl w).alloc o).alloc o'
theorem less_grew (a i b j : Int) (w : World) :
    Calls Tryd.prog 30 #[.agg #[.int .i64 a, .int .i64 i], .agg #[.int .i64 b, .int .i64 j]] w fun e w' => e = .returned (.bool (lss a i b j)) ∧ Grew w w' := by
  have hb := Lib.hid (grew_two w)
  by_cases h1 : a < b
  · have h5 := Lib.hid (show lss a i b j = true by simp [lss]; omega)
    go_enter Tryd.func30, Tryd.ntmps30
    go_wp2_with fail
    go_ret
    exact ⟨by rw [h5.out]; rfl, hb.out _ _⟩
  · by_cases h2 : a = b
    · subst h2
      by_cases h3 : i < j
      · have h5 := Lib.hid (show lss a i a j = true by simp [lss]; omega)
        go_enter Tryd.func30, Tryd.ntmps30
        go_wp2_with fail
        go_ret
        exact ⟨by rw [h5.out]; rfl, hb.out _ _⟩
      · have h5 := Lib.hid (show lss a i a j = false by simp [lss]; omega)
        go_enter Tryd.func30, Tryd.ntmps30
        go_wp2_with fail
        go_ret
        exact ⟨by rw [h5.out]; rfl, hb.out _ _⟩
    · have h5 := Lib.hid (show lss a i b j = false by simp [lss]; omega)
      have h3 : (a == b) = false := by simpa using h2
      go_enter Tryd.func30, Tryd.ntmps30
      go_wp2_with fail
      go_ret
      exact ⟨by rw [h5.out]; rfl, hb.out _ _⟩
theorem less_anyCLK (a i b j : Int) (w : World) :
    Calls Tryd.prog 30 #[.agg #[.int .i64 a, .int .i64 i], .agg #[.int .i64 b, .int .i64 j]] w fun e w' => e = .returned (.bool (lss a i b j)) ∧ Below w.heap.size w w' :=
  (less_grew a i b j w).mono fun _ _ ⟨h1, h2⟩ => ⟨h1, h2.below⟩
set_option maxHeartbeats 1000000 in
theorem compare_grew (a i b j : Int) (w : World) :
    Calls Tryd.prog 43 #[.agg #[.int .i64 a, .int .i64 i], .agg #[.int .i64 b, .int .i64 j]] w fun e w' => e = .returned (.int .i64 (cmpZ a i b j)) ∧ Grew w w' := by
  have X0 := Lib.hid (two_boxes w a i b j)
  have B0 := Lib.hid (grew_two w (.cells #[.int .i64 a, .int .i64 i] 32) (.cells #[.int .i64 b, .int .i64 j] 32))
  cases h1 : lss a i b j
  · cases h2 : lss b j a i
    · have h5 := Lib.hid (show cmpZ a i b j = 0 by simp [cmpZ, h1, h2])
      have H1 := Lib.hid h1
      have H2 := Lib.hid h2
      clear h1 h2
      go_enter Tryd.func43, Tryd.ntmps43
      go_wp2_with fail
      refine (less_grew _ _ _ _ _).mono ?_
      rintro e w1 ⟨rfl, h⟩
      rw [H1.out]
      have X1 := Lib.hid (And.intro (box_below X0.out.1 h.below) (box_below X0.out.2 h.below))
      have B1 := Lib.hid (B0.out.trans h)
      clear h
      obtain ⟨c1, c2⟩ := box_cells X1.out.1
      obtain ⟨c3, c4⟩ := box_cells X1.out.2
      go_wp2_with fail
      refine (less_grew _ _ _ _ _).mono ?_
      rintro e w2 ⟨rfl, h⟩
      rw [H2.out]
      have B2 := Lib.hid (B1.out.trans h)
      clear h c1 c2 c3 c4
      go_wp2_with fail
      go_ret
      exact ⟨ret_int h5.out.symm, B2.out⟩
    · have h5 := Lib.hid (show cmpZ a i b j = 1 by simp [cmpZ, h1, h2])
      have H1 := Lib.hid h1
      have H2 := Lib.hid h2
      clear h1 h2
      go_enter Tryd.func43, Tryd.ntmps43
      go_wp2_with fail
      refine (less_grew _ _ _ _ _).mono ?_
      rintro e w1 ⟨rfl, h⟩
      rw [H1.out]
      have X1 := Lib.hid (And.intro (box_below X0.out.1 h.below) (box_below X0.out.2 h.below))
      have B1 := Lib.hid (B0.out.trans h)
      clear h
      obtain ⟨c1, c2⟩ := box_cells X1.out.1
      obtain ⟨c3, c4⟩ := box_cells X1.out.2
      go_wp2_with fail
      refine (less_grew _ _ _ _ _).mono ?_
      rintro e w2 ⟨rfl, h⟩
      rw [H2.out]
      have B2 := Lib.hid (B1.out.trans h)
      clear h c1 c2 c3 c4
      go_wp2_with fail
      go_ret
      exact ⟨ret_int h5.out.symm, B2.out⟩
  · have h5 := Lib.hid (show cmpZ a i b j = -1 by simp [cmpZ, h1])
    have H1 := Lib.hid h1
    clear h1
    go_enter Tryd.func43, Tryd.ntmps43
    go_wp2_with fail
    refine (less_grew _ _ _ _ _).mono ?_
    rintro e w1 ⟨rfl, h⟩
    rw [H1.out]
    have B1 := Lib.hid (B0.out.trans h)
    clear h
    go_wp2_with fail
    go_ret
    exact ⟨ret_int h5.out.symm, B1.out⟩
/-- A tick's three cells. -/
def encT (t : Tick) : List Value := [.int .i64 t.1.1, .int .i64 t.1.2, .int .i64 t.2]
theorem encT_len (t : Tick) : (encT t).length = 3 := rfl
theorem encT_one (t : Tick) : ∀ u ∈ encT t, u.oneCell' = true := by
  intro u hu
  simp [encT] at hu
  rcases hu with rfl | rfl | rfl <;> rfl
/-- Block g holds a tick. -/
def TBox (w : World) (g : Nat) (a i n : Int) : Prop := w.heap[g]? = some (.cells #[.int .i64 a, .int .i64 i, .int .i64 n] 106 (0, 0))
theorem tbox_cells {w : World} {g : Nat} {a i n : Int} (h : TBox w g a i n) : w.cell? ⟨g, 0, none⟩ = some (.int .i64 a) ∧ w.cell? ⟨g, 1, none⟩ = some (.int .i64 i) ∧ w.cell? ⟨g, 2, none⟩ = some (.int .i64 n) := by
  unfold TBox at h
  exact ⟨by rw [cell_of_row _ _ 0 _ _ _ h]; rfl, by rw [cell_of_row _ _ 1 _ _ _ h]; rfl, by rw [cell_of_row _ _ 2 _ _ _ h]; rfl⟩
theorem tbox_new (w : World) (a i n : Int) : TBox (w.alloc (.cells #[.int .i64 a, .int .i64 i, .int .i64 n] 106)) w.heap.size a i n := heap_alloc_new w _
theorem tbox_lt {w : World} {g : Nat} {a i n : Int} (h : TBox w g a i n) : g < w.heap.size := row_lt h
theorem tbox_below {w w' : World} {g : Nat} {a i n : Int} (h : TBox w g a i n) (hb : Below w.heap.size w w') : TBox w' g a i n := (hb.block _ (tbox_lt h)).trans h
/-- Block g holds two numbers. -/
def Two (w : World) (g : Nat) (a b : Int) : Prop := w.heap[g]? = some (.cells #[.int .i64 a, .int .i64 b] 3 (0, 0))
theorem two_cells {w : World} {g : Nat} {a b : Int} (h : Two w g a b) : w.cell? ⟨g, 0, none⟩ = some (.int .i64 a) ∧ w.cell? ⟨g, 1, none⟩ = some (.int .i64 b) := by
  unfold Two at h
  exact ⟨by rw [cell_of_row _ _ 0 _ _ _ h]; rfl, by rw [cell_of_row _ _ 1 _ _ _ h]; rfl⟩
end Go.Proofs.YtloghkiabgnpnaaDoor
set_option maxRecDepth 20000
set_option maxRecDepth 200000
namespace Go.Proofs.YtloghkiabgnpnaaDoor
open Go Go.RowKit
/-- The cells of a tick. -/
theorem ticks_at {w w' : World} {A : Option Addr} {n c : Nat} {l : List Clocks.Tick} (h : Rcs encT 3 w (.slice A n c) l) (hw : Below w.heap.size w w') {k : Nat} (hk : k < l.length) :
    ∃ ad, A = some ad ∧ w'.cell? (ad.add (k * 3)) = some (.int .i64 l[k].1.1) ∧ w'.cell? ⟨(ad.add (k * 3)).block, (ad.add (k * 3)).off + 1, none⟩ = some (.int .i64 l[k].1.2) ∧ w'.cell? ⟨(ad.add (k * 3)).block, (ad.add (k * 3)).off + 2, none⟩ = some (.int .i64 l[k].2) := by
  obtain ⟨ad, rfl⟩ := h.addr (by omega)
  exact ⟨ad, rfl, h.first hw hk rfl, h.cell hw hk 1 (by omega) rfl, h.cell hw hk 2 (by omega) rfl⟩
theorem all_same {α : Type} {l m : List α} {k : Nat} (hl : l.length = m.length) (hk : l.length ≤ k) (ht : l.take k = m.take k) : l = m := by
  rwa [List.take_of_length_le hk, List.take_of_length_le (by omega)] at ht
/-- Two rows are the same: whose they are, their versions, and whom they do not reach, as sets. -/
def sameW (r s : RowSets.Row) : Bool := decide (r.1.1 = s.1.1) && (decide (r.1.2 = s.1.2) && (decide (r.2.1 = s.2.1) && sameB (Sets.setOf r.2.2) (Sets.setOf s.2.2)))
/-- Rows are the same, one by one. -/
def sameR : List RowSets.Row → List RowSets.Row → Bool
  | [], [] => true
  | r :: l, s :: m => sameW r s && sameR l m
  | _, _ => false
theorem sameR_len : ∀ {l m : List RowSets.Row}, l.length ≠ m.length → sameR l m = false
  | [], [], h => absurd rfl h
  | [], _ :: _, _ => rfl
  | _ :: _, [], _ => rfl
  | r :: l, s :: m, h => by rw [sameR, sameR_len (fun e => h (by simp [e])), Bool.and_false]
theorem sameR_at : ∀ {l m : List RowSets.Row} {k : Nat} (h : k < l.length) (h2 : k < m.length), sameW l[k] m[k] = false → sameR l m = false
  | r :: l, s :: m, 0, _, _, e => by
    have e : sameW r s = false := e
    rw [sameR, e, Bool.false_and]
  | r :: l, s :: m, k + 1, h, h2, e => by
    rw [sameR, sameR_at (l := l) (m := m) (k := k) (by simpa using h) (by simpa using h2) (by simpa using e), Bool.and_false]
theorem sameR_all : ∀ {l m : List RowSets.Row}, l.length = m.length → (∀ (k : Nat) (h : k < l.length) (h2 : k < m.length), sameW l[k] m[k] = true) → sameR l m = true
  | [], [], _, _ => rfl
  | [], _ :: _, h, _ => by simp at h
  | _ :: _, [], h, _ => by simp at h
  | r :: l, s :: m, h, e => by
    have e0 : sameW r s = true := e 0 (by simp) (by simp)
    rw [sameR, e0, Bool.true_and]
    exact sameR_all (by simpa using h) fun k h1 h2 => by
      have := e (k + 1) (by simpa using h1) (by simpa using h2)
      simpa using this
/-- A row's cells, whatever comes, and its list. -/
theorem rows_cells {w : World} {A : Option Addr} {n c : Nat} {l : List RowSets.Row} (h : RowsAt w (.slice A n c) l) {k : Nat} (hk : k < l.length) :
    ∃ ad B x d, A = some ad ∧ Ids w (.slice B x d) l[k].2.2 ∧ ∀ W, Below w.heap.size w W → W.cell? (ad.add (k * 4)) = some (.int .i64 l[k].1.1) ∧ W.cell? ⟨(ad.add (k * 4)).block, (ad.add (k * 4)).off + 1, none⟩ = some (.int .i64 l[k].1.2) ∧
      W.cell? ⟨(ad.add (k * 4)).block, (ad.add (k * 4)).off + 2, none⟩ = some (.int .i64 l[k].2.1) ∧ W.cell? ⟨(ad.add (k * 4)).block, (ad.add (k * 4)).off + 3, none⟩ = some (.slice B x d) := by
  obtain ⟨qs, h1, h2⟩ := h
  have hl := h2.len
  have hq : k < qs.length := by omega
  obtain ⟨r1, r2, r3⟩ := h2.at_ k hq hk
  obtain ⟨ad, rfl⟩ := h1.addr (by omega)
  refine ⟨ad, qs[k].2.2.1, qs[k].2.2.2.1, qs[k].2.2.2.2, rfl, r3, fun W hb => ?_⟩
  rw [← r1, ← r2]
  exact ⟨h1.first hb hq rfl, h1.cell hb hq 1 (by omega) rfl, h1.cell hb hq 2 (by omega) rfl, h1.cell hb hq 3 (by omega) rfl⟩
end Go.Proofs.YtloghkiabgnpnaaDoor
