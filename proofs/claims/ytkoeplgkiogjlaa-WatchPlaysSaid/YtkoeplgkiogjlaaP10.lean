/-
  Carried over and put together: contracts of this program's functions, and plain facts. No statement is proved in this text.
-/
import Derived.Test.YtkoeplgkiogjlaaP09
set_option maxRecDepth 20000
namespace Go.Proofs.Ytkoeplgkiogjlaa
open Go Go.RowKit Sets Go.Maps Go.ChangeMaps Go.MapKept
variable {S S2 S' : Nat → Prop} {W W' w : World} {p n : Nat} {mn mx wi : Int} {K : List Id2} {X X' : Id2 → Dt} {L : Id2 → Nat} {v : Value}
/-- What is remembered of detectors that remember all. -/
def cutX (X : Id2 → Dt) : Id2 → Dt := fun q => (X q).cut
/-- A look, under way: those of l are gone over, by the detectors at M. -/
structure Lk (S : Nat → Prop) (W wr : World) (m : Nat) (K l : List Id2) (L M : Id2 → Nat) (X : Id2 → Dt) (va : Value) : Prop where
  all : OwnsR encO 3 66 wr W.heap.size va (oneL l M)
  dets : ∀ q ∈ l, Dw 83 (ROk m) (fun b => S b ∨ (W.heap.size ≤ b ∧ b < wr.heap.size)) wr (M q) (X q)
  old : ∀ q ∈ K, M q = L q
  new : ∀ q ∈ l, ¬ q ∈ K → W.heap.size ≤ M q
  inj : ∀ q ∈ l, ∀ r ∈ l, M q = M r → q = r
  below : Below W.heap.size W wr
variable {wr wr' : World} {m : Nat} {l : List Id2} {M : Id2 → Nat} {va : Value}
theorem Lk.keep (h : Lk S W wr m K l L M X va) (hb : Below wr.heap.size wr wr') : Lk S W wr' m K l L M X va :=
  ⟨OwnsR.below h.all hb, fun q hq => ((h.dets q hq).keep hb).mono fun _ hS => hS.imp id fun e => ⟨e.1, Nat.lt_of_lt_of_le e.2 hb.size⟩, h.old, h.new, h.inj, below_after h.below hb (Nat.le_refl _)⟩
theorem Lk.start (L : Id2 → Nat) (X : Id2 → Dt) : Lk S W W m K [] L L X (.slice none 0 0) := ⟨OwnsR.nil _ _ _, (fun q hq => by cases hq), fun _ _ => rfl, (fun q hq => by cases hq), (fun q hq => by cases hq), Below.refl _ _⟩
theorem take_not {l : List Id2} (hr : Rises l) {k : Nat} (hk : k < l.length) : ¬ l[k] ∈ l.take k := fun h => by
  obtain ⟨j, hj, e⟩ := List.mem_iff_getElem.1 h
  rw [List.length_take] at hj
  rw [List.getElem_take] at e
  have := rises_at hr hk (show j < k by omega)
  rw [e] at this
  exact lt_irrefl _ this
theorem oneL_snoc {l : List Id2} {k : Nat} (hk : k < l.length) (M : Id2 → Nat) : oneL (l.take (k + 1)) M = oneL (l.take k) M ++ [(l[k], M l[k])] := by
  unfold oneL
  rw [List.take_succ_eq_append_getElem hk, List.map_append]
  rfl
theorem oneL_congr {l : List Id2} {M N : Id2 → Nat} (h : ∀ q ∈ l, M q = N q) : oneL l M = oneL l N := by
  unfold oneL
  exact List.map_congr_left fun q hq => by rw [h q hq]
/-- One more who was watched. -/
theorem Lk.stays {l : List Id2} {k : Nat} {va' : Value} (h : Lk S W wr m K (l.take k) L M X va) (hR : Rin S W p n mn mx wi K X' L v) (hk : k < l.length) (hq : l[k] ∈ K) (hX : X l[k] = X' l[k]) (hn : n ≤ m) (hm : m ≤ 300)
    (hb : Below W.heap.size wr wr') (hB2 : ∀ q ∈ l.take k, Dw 83 (ROk m) (fun b => S b ∨ (W.heap.size ≤ b ∧ b < wr.heap.size)) wr' (M q) (X q)) (ha : OwnsR encO 3 66 wr' W.heap.size va' (oneL (l.take k) M ++ [(l[k], L l[k])])) : Lk S W wr' m K (l.take (k + 1)) L M X va' := by
  have hbb : Below W.heap.size W wr' := h.below.trans hb
  refine ⟨?_, ?_, h.old, ?_, ?_, hbb⟩
  · rw [oneL_snoc hk, h.old _ hq]
    exact ha
  · intro q hql
    rw [List.take_succ_eq_append_getElem hk] at hql
    rcases List.mem_append.1 hql with hql | hql
    · exact (hB2 q hql).mono fun _ hS => hS.imp id fun e => ⟨e.1, Nat.lt_of_lt_of_le e.2 hb.size⟩
    · rw [List.mem_singleton.1 hql, h.old _ hq, hX]
      exact (((hR.dets _ hq).keep hbb).mono fun _ hS => Or.inl hS).okMono fun k => k.mono hn hm
  · intro q hql hqK
    rw [List.take_succ_eq_append_getElem hk] at hql
    rcases List.mem_append.1 hql with hql | hql
    · exact h.new q hql hqK
    · exact absurd (List.mem_singleton.1 hql ▸ hq) hqK
  · have one : ∀ q ∈ l.take k, M q = M l[k] → q = l[k] := fun q hql e => by
      by_cases hqK : q ∈ K
      · rw [h.old _ hq, h.old _ hqK] at e
        exact hR.inj q hqK _ hq e
      · have h1 := h.new q hql hqK
        have h2 := (hR.dets _ hq).lt
        rw [h.old _ hq] at e
        omega
    intro q hql r hrl e
    rw [List.take_succ_eq_append_getElem hk] at hql hrl
    rcases List.mem_append.1 hql with hql | hql
    · rcases List.mem_append.1 hrl with hrl | hrl
      · exact h.inj q hql r hrl e
      · rw [List.mem_singleton.1 hrl] at e ⊢
        exact one q hql e
    · rw [List.mem_singleton.1 hql] at e ⊢
      rcases List.mem_append.1 hrl with hrl | hrl
      · exact (one r hrl e.symm).symm
      · exact (List.mem_singleton.1 hrl).symm
/-- One more who was not watched. -/
theorem Lk.comes {l : List Id2} {k l' : Nat} {va' u : Value} (h : Lk S W wr m K (l.take k) L M X va) (hr : Rises l) (hk : k < l.length) (hq : ¬ l[k] ∈ K) (hb : Below W.heap.size wr wr')
    (hB2 : ∀ q ∈ l.take k, Dw 83 (ROk m) (fun b => S b ∨ (W.heap.size ≤ b ∧ b < wr.heap.size)) wr' (M q) (X q)) (hd : Det 83 wr' wr.heap.size l' (X l[k]) u) (ok : ROk m (X l[k]))
    (ha : OwnsR encO 3 66 wr' W.heap.size va' (oneL (l.take k) M ++ [(l[k], l')])) : Lk S W wr' m K (l.take (k + 1)) L (fun q => if q = l[k] then l' else M q) X va' := by
  have hbb : Below W.heap.size W wr' := h.below.trans hb
  have hnt := take_not hr hk
  have hM : ∀ q ∈ l.take k, (if q = l[k] then l' else M q) = M q := fun q hql => if_neg (fun (e : q = l[k]) => hnt (e ▸ hql))
  have hlt : ∀ q ∈ l.take k, M q < wr.heap.size := fun q hql => (h.dets q hql).lt
  have hlo := hd.lo
  have hsz := h.below.size
  refine ⟨?_, ?_, ?_, ?_, ?_, hbb⟩
  · rw [oneL_snoc hk, if_pos rfl, oneL_congr hM]
    exact ha
  · intro q hql
    rw [List.take_succ_eq_append_getElem hk] at hql
    rcases List.mem_append.1 hql with hql | hql
    · rw [hM q hql]
      exact (hB2 q hql).mono fun _ hS => hS.imp id fun e => ⟨e.1, Nat.lt_of_lt_of_le e.2 hb.size⟩
    · rw [List.mem_singleton.1 hql, if_pos rfl]
      refine ⟨u, hd.mono (Nat.zero_le _), .inr ⟨by omega, hd.lt⟩, fun g hg => .inr ⟨?_, ?_⟩, ok⟩
      · have := (World.ownsRow.lt hd.gaps g hg).1
        omega
      · obtain ⟨cs, hc⟩ := gaps_type hd.gaps hg
        exact row_lt hc
  · intro q hqK
    rw [if_neg (fun (e : q = l[k]) => hq (e ▸ hqK))]
    exact h.old q hqK
  · intro q hql hqK
    rw [List.take_succ_eq_append_getElem hk] at hql
    rcases List.mem_append.1 hql with hql | hql
    · rw [hM q hql]
      exact h.new q hql hqK
    · rw [List.mem_singleton.1 hql, if_pos rfl]
      omega
  · intro q hql r hrl e
    rw [List.take_succ_eq_append_getElem hk] at hql hrl
    rcases List.mem_append.1 hql with hql | hql
    · rw [hM q hql] at e
      rcases List.mem_append.1 hrl with hrl | hrl
      · rw [hM r hrl] at e
        exact h.inj q hql r hrl e
      · rw [List.mem_singleton.1 hrl, if_pos rfl] at e
        have := hlt q hql
        omega
    · rw [List.mem_singleton.1 hql, if_pos rfl] at e
      rcases List.mem_append.1 hrl with hrl | hrl
      · rw [hM r hrl] at e
        have := hlt r hrl
        omega
      · rw [List.mem_singleton.1 hql, List.mem_singleton.1 hrl]
theorem Dw.sharp {T : TypeId} {Ok : Dt → Prop} {lb lo hi : Nat} {d : Dt} (h : Dw T Ok (fun b => S b ∨ (lo ≤ b ∧ b < hi)) W lb d) (hT : T ≠ 35) : Dw T Ok (fun b => S b ∨ (lo ≤ b ∧ b < hi ∧ ∀ cs, W.heap[b]? ≠ some (.cells cs 35 (0, 0)))) W lb d := by
  obtain ⟨u, h1, h2, h3, h4⟩ := h
  refine ⟨u, h1, h2.imp id fun e => ⟨e.1, e.2, fun cs hc => hT (dbox_type h1.box hc).symm⟩, fun g hg => (h3 g hg).imp id fun e => ⟨e.1, e.2, fun cs hc => ?_⟩, h4⟩
  obtain ⟨cs2, h5⟩ := gaps_type h1.gaps hg
  exact absurd (ty_ne h5 hc) (by decide)
/-- The look is over. -/
theorem Lk.over {A : Option Addr} {k c : Nat} (h : Lk S W wr m K l L M X (.slice A k c)) (hR : Rin S W p n mn mx wi K X' L v) :
    Rin (fun b => S b ∨ (W.heap.size ≤ b ∧ b < wr.heap.size ∧ ∀ cs, wr.heap[b]? ≠ some (.cells cs 35 (0, 0)))) (wr.setCell ⟨p, 3, none⟩ (.slice A k c)) p m mn mx wi l X M (.slice A k c) ∧ Upd S W (wr.setCell ⟨p, 3, none⟩ (.slice A k c)) (fun b => S b ∨ (W.heap.size ≤ b ∧ b < wr.heap.size ∧ ∀ cs, wr.heap[b]? ≠ some (.cells cs 35 (0, 0)))) := by
  have hp := hR.lt p hR.inp
  have hbx := (h.below.block p hp).trans hR.box
  have hF : Fr (fun i => i = p) wr (wr.setCell ⟨p, 3, none⟩ (.slice A k c)) := .of_set _ _ rfl
  have hs : (wr.setCell ⟨p, 3, none⟩ (.slice A k c)).heap.size = wr.heap.size := by simp [World.setCell]
  refine ⟨⟨?_, .inl hR.inp, ?_, ?_, ?_, h.inj, ?_⟩, ⟨fun i hi => hi.imp id fun e => e.1, (Fr.of_below h.below).step (.of_set _ _ hR.inp)⟩⟩
  · simp [World.setCell, Array.getElem?_modify, hbx]
  · refine ownsO_fr (World.ownsRow.mono h.all (Nat.zero_le _)) hF fun b hb e => ?_
    have := (World.ownsRow.lt h.all b hb).1
    have e2 : b = p := e
    omega
  · intro g hg
    obtain ⟨cs, hc⟩ := owns_ty h.all hg
    exact .inr ⟨(World.ownsRow.lt h.all g hg).1, row_lt hc, fun cs2 h2 => absurd (ty_ne hc h2) (by decide)⟩
  · intro q hq
    refine ((h.dets q hq).sharp (by decide)).other hF (fun e => ?_) (fun g cs e => ?_)
    · obtain ⟨u, hu⟩ := (h.dets q hq).box
      rw [show M q = p from e] at hu
      exact absurd (dbox_type hu hbx) (by decide)
    · rw [show g = p from e, hbx]
      intro e
      injection e with e
      injection e with _ e2
      exact absurd e2 (by decide)
  · rintro i (hi | hi)
    · have := hR.lt i hi
      have := h.below.size
      omega
    · omega
/-- append of one record to a row of one's own, told by what is written. -/
theorem wpList_push_rec {P : Program} {α : Type} {enc : α → List Value} {sz : Nat} {ops : Array Oper} {rest : List Oper} {o : Oper} {a : Act} {Q : Exit → Act → World → Prop} (t e : TypeId) {z : Value} {bytes : Nat} (ht : P.underlying t = some (.slice e))
    (hinfo : (P.info? e).map (fun i => (i.zero, i.size, i.bytes)) = some (some z, sz, bytes)) (hz : z.cells.size = sz) (hs : ∀ a, (enc a).length = sz) (h0 : 0 < sz) (h1 : ∀ a, ∀ u ∈ enc a, u.oneCell' = true) (hby : bytes ≤ 1000)
    (hgd : o.guard = none) (s x : Operand) (ho : o.op = .call { callee := .builtin .append, args := #[s, x], argTypes := #[t, t] })
    (wr : World) (base : Nat) (v : Value) (d : List α) (r : α) (cs : Array Value) (hcs : cs.toList = enc r) (hsv : a.eval s = v) (hx : a.eval x = .slice (some ⟨wr.heap.size, 0, none⟩) 1 1)
    (hown : OwnsR enc sz e wr base v d) (hl : d.length ≤ 99999) (hb : base ≤ wr.heap.size)
    (h : ∀ g cap w', OwnsR enc sz e w' base (.slice (some ⟨g, 0, none⟩) (d.length + 1) cap) (d ++ [r]) → wr.grownBy w' v.ownBlock → wpList P ops Q rest (a.put o.dst (.slice (some ⟨g, 0, none⟩) (d.length + 1) cap)) w') :
    wpList P ops Q (o :: rest) a (wr.alloc (.cells cs e)) := by
  obtain ⟨i0, hi, hz0, hz1, hz2⟩ := info_parts hinfo
  refine wpList_plain hgd fun K' hK' => ?_
  have hown2 : OwnsR enc sz e (wr.alloc (.cells cs e)) base v d := OwnsR.below hown (below_oneX wr _)
  obtain ⟨g, cap, w', hrun, r1, r2, r3, r4⟩ := run_append_lies (P := P) (wr.alloc (.cells cs e)) t o.type base e i0 z sz bytes ht hi hz0 hz1 hz2 hz h0 v d.length (flatR enc d) hown2
    ⟨wr.heap.size, 0, none⟩ 1 1 (enc r) (by rw [hs]; omega) (by rw [← hcs]; exact World.news_of_block (heap_alloc_new wr (.cells cs e))) (h1 r) (by omega) (by unfold maxLen; omega) (by
      have h5 : (d.length + 1) * bytes ≤ 100000 * 1000 := Nat.mul_le_mul (by omega) hby
      omega) (by simp; omega) _ rfl
  unfold Oper.wp
  simp [execOp, ho, resolve, invoke, builtin, hsv, hx, hrun, Result.andThen]
  refine hK' _ _ (h g cap w' ?_ ?_)
  · unfold OwnsR
    rw [flatR_append, List.length_append]
    have : flatR enc [r] = enc r := by simp [flatR]
    rw [this]
    exact r1
  · refine ⟨r2.os, r2.tape, r2.output, Nat.le_trans (by simp) r2.size, fun k hk hne => ?_⟩
    rw [r2.block k (by simp; omega) hne, Below.heap_alloc _ _ _ hk]
/-- Blocks of another type are written. -/
theorem Dw.ty {T : TypeId} {Ok : Dt → Prop} {lb : Nat} {d : Dt} (h : Dw T Ok S W lb d) (k : Fr S2 W W') (hty : ∀ g, S2 g → ∃ cs t, W.heap[g]? = some (.cells cs t (0, 0)) ∧ t ≠ T ∧ t ≠ 3) : Dw T Ok S W' lb d :=
  h.other k (fun e => by
    obtain ⟨u, hu⟩ := h.box
    obtain ⟨cs, t, h1, h2, _⟩ := hty _ e
    exact h2 (dbox_type hu h1)) (fun g cs e hc => by
    obtain ⟨cs', t, h1, _, h3⟩ := hty _ e
    exact h3 (ty_ne h1 hc))
/-- A list of IDs, as records. -/
def encQ (q : Id2) : List Value := [.int .i64 q.1, .int .i64 q.2]
theorem encQ_len (q : Id2) : (encQ q).length = 2 := rfl
theorem encQ_one (q : Id2) : ∀ u ∈ encQ q, u.oneCell' = true := fun u hu => by
  simp [encQ] at hu
  rcases hu with rfl | rfl <;> rfl
theorem flatQ (l : List Id2) : flatR encQ l = flat l := by
  induction l with
  | nil => rfl
  | cons q l ih =>
    show encQ q ++ flatR encQ l = _
    rw [ih]
    rfl
theorem owns_q {base : Nat} : Owns W base v l ↔ OwnsR encQ 2 35 W base v l := by
  unfold Owns OwnsR
  rw [flatQ]
theorem Lk.ty {t : TypeId} (h : Lk S W wr m K l L M X va) (k : Fr S2 wr wr') (ht : t ≠ 66 ∧ t ≠ 83 ∧ t ≠ 3) (hty : ∀ g, S2 g → W.heap.size ≤ g ∧ ∃ cs, wr.heap[g]? = some (.cells cs t (0, 0))) : Lk S W wr' m K l L M X va := by
  refine ⟨ownsO_fr h.all k fun b hb hS => ?_, fun q hq => ((h.dets q hq).ty k fun g hg => ?_).mono fun _ hS => hS.imp id fun e => ⟨e.1, Nat.lt_of_lt_of_le e.2 k.size⟩, h.old, h.new, h.inj, h.below.trans (k.below h.below.size fun g hg => (hty g hg).1)⟩
  · obtain ⟨cs, h1⟩ := owns_ty h.all hb
    obtain ⟨_, cs2, h2⟩ := hty b hS
    exact ht.1 (ty_ne h2 h1)
  · obtain ⟨_, cs, h1⟩ := hty g hg
    exact ⟨cs, t, h1, ht.2.1, ht.2.2⟩
end Go.Proofs.Ytkoeplgkiogjlaa
namespace Go.Proofs.Ytkoeplgkiogjlaa
open Go Go.RowKit Sets Go.Maps Go.ChangeMaps Go.MapKept
variable {S S2 S' : Nat → Prop} {W W' w : World} {p n : Nat} {mn mx wi : Int} {K : List Id2} {X X' : Id2 → Dt} {L : Id2 → Nat} {v : Value}
set_option maxHeartbeats 4000000 in
/-- THE DOCUMENT's Look. -/
theorem rlook_any (h : Rw S W p n mn mx wi K X) (v0 : Value) (l : List Id2) (x : Int) (hv : Ids W v0 l) (hl : l.length ≤ 10000) (hr : Rises l) (hK : K.length ≤ 40000) (hn : n < 300) (hok : newOk mn mx wi = true) :
    Calls Try.prog 18 #[.pointer (some ⟨p, 0, none⟩), v0, .int .i64 x] W fun en W' => ∃ S' A c, en = .returned (.slice A (lateL (cutX (withD (Dt.new mn mx wi) K X x)) x l).length c) ∧ Rw S' W' p (n + 1) mn mx wi l (withD (Dt.new mn mx wi) K X x) ∧ Upd S W W' S' ∧ IL S' W' (.slice A (lateL (cutX (withD (Dt.new mn mx wi) K X x)) x l).length c) (lateL (cutX (withD (Dt.new mn mx wi) K X x)) x l) := by
  obtain ⟨L, v, h⟩ := h
  have H := Lib.hid h
  have HI := Lib.hid hv
  have HRl := Lib.hid hr
  have HOK := Lib.hid hok
  have HRA := Lib.hid (rcs_owns encO_len h.all)
  obtain ⟨Aa, ca, rfl, -⟩ := id HRA.out
  rw [oneL_len] at HRA
  obtain ⟨A, c, rfl, hz⟩ := id hv
  clear hz hv h hr hok
  obtain ⟨XX, hXX⟩ : ∃ XX, withD (Dt.new mn mx wi) K X x = XX := ⟨_, rfl⟩
  rw [hXX]
  have HXi : Hid (∀ q ∈ K, XX q = X q) := Lib.hid fun q hq => by rw [← hXX]; exact withD_in hq
  have HXo : Hid (∀ q, ¬ q ∈ K → XX q = (Dt.new mn mx wi).start x) := Lib.hid fun q hq => by rw [← hXX]; exact withD_out hq
  clear hXX
  go_enter Try.func18, Try.ntmps18
  go_wp2_with fail
  go_loopw [7, 8, 9] (fun s7 s8 s9 wr => ∃ (k : Nat) (M : Id2 → Nat) (A7 : Option Addr) (c7 : Nat), k ≤ l.length ∧ s9 = .int .i64 k ∧ s7 = .slice A7 k c7 ∧ Hid (Lk S W wr (n + 1) K (l.take k) L M XX (.slice A7 k c7)) ∧ Hid (Owns wr W.heap.size s8 (lateL (cutX XX) x (l.take k)))) (fun _ _ s9 _ => l.length - (intOf s9).toNat)
  case atStart => exact ⟨0, L, none, 0, by omega, rfl, rfl, Lib.hid (Lk.start L XX), Lib.hid (owns_nil _ _)⟩
  case round =>
    obtain ⟨k, M, A7, c7, hkl, rfl, rfl, HL, HO⟩ := hrel
    rename World => w2
    have i3 : (0 : Int) ≤ (k : Int) := by omega
    by_cases hlt : k < l.length
    · have hd : decide ((k : Int) < (l.length : Int)) = true := by simp; omega
      have i4 : (k : Int) < (l.length : Int) := by omega
      obtain ⟨ad, rfl, c1, c2⟩ := HI.out.at_ HL.out.below hlt
      have HC := Lib.hid (fun W' (hb : Below W.heap.size W W') => And.intro (cell1 HI.out hb hlt) (cell2 HI.out hb hlt))
      have ES := Lib.hid (lateL_take (D := cutX XX) (x := x) hlt)
      have HZ := Lib.hid (lateL_len (cutX XX) x l k)
      have HS1 := Lib.hid (fun (wr' : World) (va' : Value) hq hb hB2 ha => HL.out.stays (wr' := wr') (va' := va') H.out hlt hq (HXi.out _ hq) (Nat.le_succ n) hn hb hB2 ha)
      have HS2 := Lib.hid (fun (wr' : World) (va' u : Value) (l' : Nat) hq hb hB2 hd ok ha => HL.out.comes (wr' := wr') (va' := va') (u := u) (l' := l') HRl.out hlt hq hb hB2 hd ok ha)
      have HG := Lib.hid (show ∀ M' (h : k < (oneL (l.take (k + 1)) M').length), (oneL (l.take (k + 1)) M')[k] = (l[k], M' l[k]) from fun M' h => by simp only [oneL, List.getElem_map, List.getElem_take])
      have HME := Lib.hid (show l[k] ∈ l.take (k + 1) by rw [List.take_succ_eq_append_getElem hlt]; exact List.mem_append_right _ (List.mem_singleton.2 rfl))
      generalize hqq : l[k] = q at *
      obtain ⟨a, i⟩ := q
      clear hqq
      go_wp2_with fail
      (with_reducible refine (find_any (H.out.keep HL.out.below) a i hK).mono ?_)
      rintro en w3 ⟨hf, hb⟩
      obtain ⟨z, rfl, hz⟩ : ∃ z : Int, en = .returned (.int .i64 z) ∧ (¬ (a, i) ∈ K ∧ z = -1 ∨ ∃ j, ∃ h : j < K.length, K[j] = (a, i) ∧ z = (j : Int)) := by
        rcases hf with ⟨h1, h2⟩ | ⟨j, hj, h1, h2⟩
        · exact ⟨-1, h2, .inl ⟨h1, rfl⟩⟩
        · exact ⟨j, h2, .inr ⟨j, hj, h1, rfl⟩⟩
      have HF := Lib.hid hz
      have B3 := Lib.hid hb
      have O3 := Lib.hid (HO.out.below hb)
      have D3 := Lib.hid (fun (W' : World) (hb2 : Below w3.heap.size w3 W') q hq => (HL.out.dets q hq).keep (below_after B3.out hb2 (Nat.le_refl _)))
      have A3 := Lib.hid (OwnsR.below HL.out.all hb)
      have BW3 := Lib.hid (below_after HL.out.below hb (Nat.le_refl _))
      have Z3 := Lib.hid HL.out.below.size
      clear hf hz hb c1 c2 HO HL
      go_upto_if 26 with fail
      go_cut [7] (fun s7 wx => ∃ (M' : Id2 → Nat) (A8 : Option Addr) (c8 : Nat), s7 = .slice A8 (k + 1) c8 ∧ Hid (Lk S W wx (n + 1) K (l.take (k + 1)) L M' XX (.slice A8 (k + 1) c8)) ∧ Hid (Owns wx W.heap.size u8 (lateL (cutX XX) x (l.take k))))
      case first =>
        have LEN : (oneL (l.take k) M).length + 1 = k + 1 := by rw [oneL_len, List.length_take]; omega
        rcases HF.out with ⟨hq, rfl⟩ | ⟨j, hj, hq, rfl⟩
        · have hd2 : decide ((0 : Int) ≤ -1) = false := by decide
          have HQ := Lib.hid hq
          clear hq HS1
          have HSt : Hid (∀ W', Below w3.heap.size w3 W' → (W'.cell? ⟨p, 0, none⟩ = some (.int .i64 mn) ∧ W'.cell? ⟨p, 1, none⟩ = some (.int .i64 mx) ∧ W'.cell? ⟨p, 2, none⟩ = some (.int .i64 wi))) := Lib.hid fun W' hb => by
            obtain ⟨b0, b1, b2, b3⟩ := (H.out.keep (below_after BW3.out hb (Nat.le_refl _))).cells
            exact ⟨b0, b1, b2⟩
          go_upto_region 9 with fail
          refine wp_region_held_drew (S := fun W' => W'.cell? ⟨p, 0, none⟩ = some (.int .i64 mn) ∧ W'.cell? ⟨p, 1, none⟩ = some (.int .i64 mx) ∧ W'.cell? ⟨p, 2, none⟩ = some (.int .i64 wi)) (by kernel_rfl) ?_ (fun hHeld => ?_)
          · exact HSt.out _ (Below.refl _ _).drew
          (refine wpAnyH_take (i := 0) (oi := ⟨_, _, _, _, _, _⟩) (v := ?_) rfl (by kernel_rfl) (by kernel_rfl) (by kernel_rfl) (fun _ _ _ h => h) (Or.inl ⟨by rfl, ?_⟩) (by assumption) ?_; rotate_left 1; · (intro w hSw; (try dsimp only at hSw); go_simp; all_goals with_reducible rfl))
          try simp only [Act.put, List.setIfInBounds_toArray, List.set_cons_zero, List.set_cons_succ]
          (refine wpAnyH_take (i := 1) (oi := ⟨_, _, _, _, _, _⟩) (v := ?_) rfl (by kernel_rfl) (by kernel_rfl) (by kernel_rfl) (fun _ _ _ h => h) (Or.inl ⟨by rfl, ?_⟩) (by assumption) ?_; rotate_left 1; · (intro w hSw; (try dsimp only at hSw); go_simp; all_goals with_reducible rfl))
          try simp only [Act.put, List.setIfInBounds_toArray, List.set_cons_zero, List.set_cons_succ]
          (refine wpAnyH_take (i := 2) (oi := ⟨_, _, _, _, _, _⟩) (v := ?_) rfl (by kernel_rfl) (by kernel_rfl) (by kernel_rfl) (fun _ _ _ h => h) (Or.inl ⟨by rfl, ?_⟩) (by assumption) ?_; rotate_left 1; · (intro w hSw; (try dsimp only at hSw); go_simp; all_goals with_reducible rfl))
          try simp only [Act.put, List.setIfInBounds_toArray, List.set_cons_zero, List.set_cons_succ]
          (refine wpAnyH_take (i := 3) (oi := ⟨_, _, _, _, _, _⟩) (v := ?_) rfl (by kernel_rfl) (by kernel_rfl) (by kernel_rfl) (fun _ _ _ h => h) (Or.inl ⟨by rfl, ?_⟩) (by assumption) ?_; rotate_left 1; · (intro w hSw; (try dsimp only at hSw); go_simp; all_goals with_reducible rfl))
          try simp only [Act.put, List.setIfInBounds_toArray, List.set_cons_zero, List.set_cons_succ]
          (refine wpAnyH_take (i := 4) (oi := ⟨_, _, _, _, _, _⟩) (v := ?_) rfl (by kernel_rfl) (by kernel_rfl) (by kernel_rfl) (fun _ _ _ h => h) (Or.inl ⟨by rfl, ?_⟩) (by assumption) ?_; rotate_left 1; · (intro w hSw; (try dsimp only at hSw); go_simp; all_goals with_reducible rfl))
          try simp only [Act.put, List.setIfInBounds_toArray, List.set_cons_zero, List.set_cons_succ]
          (refine wpAnyH_take (i := 5) (oi := ⟨_, _, _, _, _, _⟩) (v := ?_) rfl (by kernel_rfl) (by kernel_rfl) (by kernel_rfl) (fun _ _ _ h => h) (Or.inl ⟨by rfl, ?_⟩) (by assumption) ?_; rotate_left 1; · (intro w hSw; (try dsimp only at hSw); go_simp; all_goals with_reducible rfl))
          try simp only [Act.put, List.setIfInBounds_toArray, List.set_cons_zero, List.set_cons_succ]
          (refine wpAnyH_take (i := 6) (oi := ⟨_, _, _, _, _, _⟩) (v := ?_) rfl (by kernel_rfl) (by kernel_rfl) (by kernel_rfl) (fun _ _ _ h => h) (Or.inl ⟨by rfl, ?_⟩) (by assumption) ?_; rotate_left 1; · (intro w hSw; (try dsimp only at hSw); go_simp; all_goals with_reducible rfl))
          try simp only [Act.put, List.setIfInBounds_toArray, List.set_cons_zero, List.set_cons_succ]
          (refine wpAnyH_take (i := 7) (oi := ⟨_, _, _, _, _, _⟩) (v := ?_) rfl (by kernel_rfl) (by kernel_rfl) (by kernel_rfl) (fun _ _ _ h => h) (Or.inl ⟨by rfl, ?_⟩) (by assumption) ?_; rotate_left 1; · (intro w hSw; (try dsimp only at hSw); go_simp; all_goals with_reducible rfl))
          try simp only [Act.put, List.setIfInBounds_toArray, List.set_cons_zero, List.set_cons_succ]
          (refine wpAnyH_take (i := 8) (oi := ⟨_, _, _, _, _, _⟩) (v := ?_) rfl (by kernel_rfl) (by kernel_rfl) (by kernel_rfl) (fun _ _ _ h => h) (Or.inl ⟨by rfl, ?_⟩) (by assumption) ?_; rotate_left 1; · (intro w hSw; (try dsimp only at hSw); go_simp; all_goals with_reducible rfl))
          try simp only [Act.put, List.setIfInBounds_toArray, List.set_cons_zero, List.set_cons_succ]
          (refine wpAnyH_take (i := 9) (oi := ⟨_, _, _, _, _, _⟩) (v := ?_) rfl (by kernel_rfl) (by kernel_rfl) (by kernel_rfl) (fun _ _ _ h => h) (Or.inl ⟨by rfl, ?_⟩) (by assumption) ?_; rotate_left 1; · (intro w hSw; (try dsimp only at hSw); go_simp; all_goals with_reducible rfl))
          try simp only [Act.put, List.setIfInBounds_toArray, List.set_cons_zero, List.set_cons_succ]
          (refine wpAnyH_take (i := 10) (oi := ⟨_, _, _, _, _, _⟩) (v := ?_) rfl (by kernel_rfl) (by kernel_rfl) (by kernel_rfl) (fun _ _ _ h => h) (Or.inl ⟨by rfl, ?_⟩) (by assumption) ?_; rotate_left 1; · (intro w hSw; (try dsimp only at hSw); go_simp; all_goals with_reducible rfl))
          try simp only [Act.put, List.setIfInBounds_toArray, List.set_cons_zero, List.set_cons_succ]
          (refine wpAnyH_take (i := 11) (oi := ⟨_, _, _, _, _, _⟩) (v := ?_) rfl (by kernel_rfl) (by kernel_rfl) (by kernel_rfl) (fun _ _ _ h => h) (Or.inl ⟨by rfl, ?_⟩) (by assumption) ?_; rotate_left 1; · (intro w hSw; (try dsimp only at hSw); go_simp; all_goals with_reducible rfl))
          try simp only [Act.put, List.setIfInBounds_toArray, List.set_cons_zero, List.set_cons_succ]
          refine wpAnyH_ready (rs := [12]) (by kernel_rfl) (by simp) ?_
          refine AllReadyH.cons (o := ⟨_, _, _, _, _, _⟩) rfl (fun Kq hKq => ?_) AllReadyH.nil
          go_simp
          clear hHeld
          (go_at_call 27; (with_reducible refine (rnew_yes mn mx wi HOK.out _).mono ?_); rintro en w4 ⟨l4, v4, rfl, h1, h2⟩; have D4 : Hid (Det 83 w4 w3.heap.size l4 (Dt.new mn mx wi) v4) := Lib.hid (h1.mono (Nat.le_refl _)); have B4 : Hid (Below w3.heap.size w3 w4) := Lib.hid (below_after (Below.refl _ _).drew h2 (Nat.le_refl _)); clear h1 h2)
          refine hKq.out _ _ ?_ (fun hHeld => ?_)
          · (try dsimp only); exact HSt.out _ B4.out
          clear hKq Kq
          try simp only [Act.put, List.setIfInBounds_toArray, List.set_cons_zero, List.set_cons_succ]
          (refine wpAnyH_take (i := 13) (oi := ⟨_, _, _, _, _, _⟩) (v := ?_) rfl (by kernel_rfl) (by kernel_rfl) (by kernel_rfl) (fun _ _ _ h => h) (Or.inl ⟨by rfl, ?_⟩) (by assumption) ?_; rotate_left 1; · (intro w hSw; (try dsimp only at hSw); go_simp; all_goals with_reducible rfl))
          try simp only [Act.put, List.setIfInBounds_toArray, List.set_cons_zero, List.set_cons_succ]
          (refine wpAnyH_take (i := 14) (oi := ⟨_, _, _, _, _, _⟩) (v := ?_) rfl (by kernel_rfl) (by kernel_rfl) (by kernel_rfl) (fun _ _ _ h => h) (Or.inl ⟨by rfl, ?_⟩) (by assumption) ?_; rotate_left 1; · (intro w hSw; (try dsimp only at hSw); go_simp; all_goals with_reducible rfl))
          try simp only [Act.put, List.setIfInBounds_toArray, List.set_cons_zero, List.set_cons_succ]
          (refine wpAnyH_take (i := 15) (oi := ⟨_, _, _, _, _, _⟩) (v := ?_) rfl (by kernel_rfl) (by kernel_rfl) (by kernel_rfl) (fun _ _ _ h => h) (Or.inl ⟨by rfl, ?_⟩) (by assumption) ?_; rotate_left 1; · (intro w hSw; (try dsimp only at hSw); go_simp; all_goals with_reducible rfl))
          try simp only [Act.put, List.setIfInBounds_toArray, List.set_cons_zero, List.set_cons_succ]
          (refine wpAnyH_take (i := 16) (oi := ⟨_, _, _, _, _, _⟩) (v := ?_) rfl (by kernel_rfl) (by kernel_rfl) (by kernel_rfl) (fun _ _ _ h => h) (Or.inl ⟨by rfl, ?_⟩) (by assumption) ?_; rotate_left 1; · (intro w hSw; (try dsimp only at hSw); go_simp; all_goals with_reducible rfl))
          try simp only [Act.put, List.setIfInBounds_toArray, List.set_cons_zero, List.set_cons_succ]
          (refine wpAnyH_take (i := 17) (oi := ⟨_, _, _, _, _, _⟩) (v := ?_) rfl (by kernel_rfl) (by kernel_rfl) (by kernel_rfl) (fun _ _ _ h => h) (Or.inl ⟨by rfl, ?_⟩) (by assumption) ?_; rotate_left 1; · (intro w hSw; (try dsimp only at hSw); go_simp; all_goals with_reducible rfl))
          try simp only [Act.put, List.setIfInBounds_toArray, List.set_cons_zero, List.set_cons_succ]
          refine wpAnyH_done (by kernel_rfl) ?_ _
          clear hHeld HSt
          go_wp2_with fail
          (with_reducible refine (rbegin_any w3.heap.size l4 0 (Dt.new mn mx wi) v4 x _ D4.out (ROk.new HOK.out)).mono ?_)
          rintro en w5 ⟨rfl, v5, h1, h2, -⟩
          have D5 := Lib.hid h1
          have B5 := Lib.hid (below_grown B4.out h2 (Nat.le_refl _) D4.out.lo)
          clear h1 h2 D4 B4
          obtain ⟨e1, e2⟩ := HC.out _ (below_after BW3.out B5.out (Nat.le_refl _))
          have A5 := Lib.hid (OwnsR.below A3.out B5.out)
          go_wp2_with (first | (at_builtin; refine wpList_push_rec (enc := encO) (sz := 3) 61 66 Try.underlying61 info66 rfl encO_len (by decide) encO_one (by decide) rfl (.tmp 56) (.tmp 63) rfl w5 W.heap.size _ _ ((a, i), l4) _ rfl rfl rfl A5.out (by rw [oneL_len, List.length_take]; omega) (Nat.le_trans Z3.out (Nat.le_trans B3.out.size B5.out.size)) ?_; intro g8 c8 w7 h4 h5; rw [LEN] at h4 ⊢; have O7 := Lib.hid h4; have F7 : Hid (Fr (fun i => (Value.slice A7 k c7).ownBlock = some i) w5 w7) := Lib.hid (.of_grown h5 (fun g e => e)); clear h4 h5) | fail)
          go_meet
          have hty : ∀ g, (Value.slice A7 k c7).ownBlock = some g → W.heap.size ≤ g ∧ ∃ cs, w5.heap[g]? = some (.cells cs 66 (0, 0)) := fun g hg => ⟨(World.ownsRow.lt A5.out g hg).1, owns_ty A5.out hg⟩
          have hb7 := F7.out.below (B := W.heap.size) (Nat.le_trans Z3.out (Nat.le_trans B3.out.size B5.out.size)) (fun g hg => (hty g hg).1)
          have hXX := HXo.out _ HQ.out
          refine ⟨_, _, _, rfl, Lib.hid (HS2.out w7 _ v5 l4 HQ.out (((B3.out.trans (B5.out.mono B3.out.size)).mono Z3.out).trans hb7) (fun q hq => (D3.out w5 B5.out q hq).ty F7.out fun g hg => ?_) ?_ ?_ O7.out), Lib.hid ?_⟩
          · obtain ⟨_, cs, hc⟩ := hty g hg
            exact ⟨cs, 66, hc, by decide, by decide⟩
          · rw [hXX]
            refine (D5.out.mono B3.out.size).frame F7.out (fun e => ?_) (fun g hg e => ?_)
            · obtain ⟨_, cs, hc⟩ := hty _ e
              exact absurd (dbox_type D5.out.box hc) (by decide)
            · obtain ⟨_, cs, hc⟩ := hty _ e
              obtain ⟨cs2, hc2⟩ := gaps_type D5.out.gaps hg
              exact absurd (ty_ne hc hc2) (by decide)
          · rw [hXX]
            exact ((ROk.new HOK.out).start (by decide) x).mono (by omega) hn
          · refine owns_fr (O3.out.below B5.out) F7.out fun b hb e => ?_
            obtain ⟨_, cs, hc⟩ := hty _ e
            obtain ⟨cs2, hc2⟩ := owns_ty (O3.out.below B5.out) hb
            exact absurd (ty_ne hc hc2) (by decide)
        · have HQ : Hid ((a, i) ∈ K) := Lib.hid (hq ▸ List.getElem_mem hj)
          have hj2 : j < (oneL K L).length := by rw [oneL_len]; exact hj
          have hd2 : decide ((0 : Int) ≤ (j : Int)) = true := by simp
          have hj0 : (0 : Int) ≤ (j : Int) := by omega
          have hj4 : (j : Int) < (K.length : Int) := by omega
          obtain ⟨ao, rfl⟩ := HRA.out.addr (Nat.lt_of_le_of_lt (Nat.zero_le _) hj2)
          obtain ⟨b0, b1, b2, b3⟩ := (H.out.keep BW3.out).cells
          rw [oneL_len] at b3
          have d0 := HRA.out.first BW3.out hj2 (u := .int .i64 a) (by rw [oneL_at hj, hq]; rfl)
          have d1 := HRA.out.cell BW3.out hj2 1 (by decide) (u := .int .i64 i) (by rw [oneL_at hj, hq]; rfl)
          have d2 := HRA.out.cell BW3.out hj2 2 (by decide) (u := .pointer (some ⟨L (a, i), 0, none⟩)) (by rw [oneL_at hj, hq]; rfl)
          clear hq HS2
          go_wp2_with (first | (at_builtin; refine wpList_push_rec (enc := encO) (sz := 3) 61 66 Try.underlying61 info66 rfl encO_len (by decide) encO_one (by decide) rfl (.tmp 27) (.tmp 35) rfl w3 W.heap.size _ _ ((a, i), L (a, i)) _ rfl rfl rfl A3.out (by rw [oneL_len, List.length_take]; omega) (Nat.le_trans Z3.out B3.out.size) ?_; intro g8 c8 w7 h4 h5; rw [LEN] at h4 ⊢; have O7 := Lib.hid h4; have F7 : Hid (Fr (fun i => (Value.slice A7 k c7).ownBlock = some i) w3 w7) := Lib.hid (.of_grown h5 (fun g e => e)); clear h4 h5) | fail)
          go_meet
          have hty : ∀ g, (Value.slice A7 k c7).ownBlock = some g → W.heap.size ≤ g ∧ ∃ cs, w3.heap[g]? = some (.cells cs 66 (0, 0)) := fun g hg => ⟨(World.ownsRow.lt A3.out g hg).1, owns_ty A3.out hg⟩
          have hb7 := F7.out.below (B := W.heap.size) (Nat.le_trans Z3.out B3.out.size) (fun g hg => (hty g hg).1)
          refine ⟨_, _, _, rfl, Lib.hid (HS1.out w7 _ HQ.out ((B3.out.mono Z3.out).trans hb7) (fun q hq => (D3.out w3 (Below.refl _ _) q hq).ty F7.out fun g hg => ?_) O7.out), Lib.hid ?_⟩
          · obtain ⟨_, cs, hc⟩ := hty g hg
            exact ⟨cs, 66, hc, by decide, by decide⟩
          · refine owns_fr O3.out F7.out fun b hb e => ?_
            obtain ⟨_, cs, hc⟩ := hty _ e
            obtain ⟨cs2, hc2⟩ := owns_ty O3.out hb
            exact absurd (ty_ne hc hc2) (by decide)
      case rest =>
        obtain ⟨M', A8, c8, rfl, HL8, HO8⟩ := hcut
        clear HS1 HS2 D3 A3 O3 BW3 B3
        have hkk : k < (oneL (l.take (k + 1)) M').length := by rw [oneL_len, List.length_take]; omega
        have RC := Lib.hid (rcs_owns encO_len HL8.out.all)
        obtain ⟨ad8, rfl⟩ := RC.out.addr (by omega)
        have d2 := RC.out.cell (Below.refl _ _) hkk 2 (by decide) (u := .pointer (some ⟨M' (a, i), 0, none⟩)) (by rw [HG.out M' hkk]; rfl)
        have hsb : wrap64 ((k : Int) + 1 - 1) = (k : Int) := by rw [Int.add_sub_cancel]; unfold wrap64; omega
        obtain ⟨dv, hv, -, -, hok⟩ := HL8.out.dets _ HME.out
        have HV := Lib.hid hv
        have HO8k := Lib.hid hok
        clear hv hok
        go_wp2_with fail
        (with_reducible refine (rlate_any 0 (M' (a, i)) (n + 1) (XX (a, i)) dv x _ HV.out HO8k.out).mono ?_)
        rintro en w9 ⟨rfl, hb⟩
        have L9 := Lib.hid (HL8.out.keep hb)
        have O9 := Lib.hid (HO8.out.below hb)
        obtain ⟨e1, e2⟩ := HC.out _ L9.out.below
        clear hb d2 hsb HL8 HO8 HV
        generalize hq : (XX (a, i)).cut.late x = z2 at *
        have HZ2 : Hid ((cutX XX (a, i)).late x = z2) := Lib.hid hq
        clear hq
        cases z2 with
        | true =>
          have Q9 := Lib.hid (owns_q.1 O9.out)
          obtain ⟨A9, c9, rfl⟩ := slice_of O9.out
          go_wp2_with (first | (at_builtin; refine wpList_push_rec (enc := encQ) (sz := 2) 36 35 Try.underlying36 info25 rfl encQ_len (by decide) encQ_one (by decide) rfl (.tmp 74) (.tmp 79) rfl w9 W.heap.size _ _ (a, i) _ rfl rfl rfl Q9.out (by have := HZ.out; omega) L9.out.below.size ?_; intro g8 c8' w10 h4 h5; have O10 := Lib.hid (owns_q.2 h4); have F10 : Hid (Fr (fun b => (Value.slice A9 (lateL (cutX XX) x (l.take k)).length c9).ownBlock = some b) w9 w10) := Lib.hid (.of_grown h5 (fun g e => e)); clear h4 h5) | fail)
          have L10 := Lib.hid (L9.out.ty F10.out (t := 35) (by decide) fun g hg => ⟨(World.ownsRow.lt Q9.out g hg).1, owns_ty Q9.out hg⟩)
          go_roundw
          case rel => exact ⟨k + 1, M', _, c8, by omega, by go_num, rfl, L10, Lib.hid (by rw [ES.out, if_pos HZ2.out]; exact O10.out)⟩
          case measure => simp [intOf]; omega
        | false =>
          go_wp2_with fail
          go_roundw
          case rel => exact ⟨k + 1, M', _, c8, by omega, by go_num, rfl, L9, Lib.hid (by rw [ES.out, if_neg (by rw [HZ2.out]; simp), List.append_nil]; exact O9.out)⟩
          case measure => simp [intOf]; omega
    · obtain rfl : k = l.length := by omega
      have hd : decide ((l.length : Int) < (l.length : Int)) = false := by simp
      rw [List.take_length] at HL HO
      have OV := Lib.hid (HL.out.over H.out)
      have b3 := (H.out.keep HL.out.below).cells.2.2.2
      have f3 := (H.out.keep HL.out.below).free
      have hsl := slice_of HO.out
      obtain ⟨A9, c9, rfl⟩ := hsl
      go_wp2_with fail
      go_ret
      have hF : Fr (fun i => i = p) w2 (w2.setCell ⟨p, 3, none⟩ (.slice A7 l.length c7)) := .of_set _ _ rfl
      have hp := H.out.lt p H.out.inp
      have O9 := owns_fr HO.out hF fun b hb e => by
        have := (World.ownsRow.lt HO.out b hb).1
        have e2 : b = p := e
        omega
      refine ⟨_, A9, c9, rfl, ⟨M, _, OV.out.1⟩, OV.out.2, ids_of_owns O9, fun _ g hg hS => ?_⟩
      obtain ⟨cs, hc⟩ := owns_ty HO.out hg
      rcases hS with hS | ⟨_, _, hS⟩
      · have := H.out.lt g hS
        have := (World.ownsRow.lt HO.out g hg).1
        omega
      · exact hS cs hc
end Go.Proofs.Ytkoeplgkiogjlaa
