/-
  Walks over the program's iterator that produces the ring of a list of IDs. No statement is proved in this text; it holds for every input that its premises let by.
-/
import Derived.Test.YtbjknjbjldodlaaIdeSetOps
import Derived.Test.YtbjknjbjldodlaaStop
import Derived.TacticsInMore
import Derived.LoopNIn
import Derived.LoopIn
namespace Go.Proofs.Ytbjknjbjldodlaa
open Go Go.RowKit Sets
attribute [local go_sem] Oper.semAt_some
/-- A block of one cell. -/
def One (w : World) (g t : Nat) (v : Value) : Prop := w.heap[g]? = some (.cells #[v] t (0, 0))
theorem one_cell {w : World} {g t : Nat} {v : Value} (h : One w g t v) : w.cell? ⟨g, 0, none⟩ = some v := by
  unfold One at h
  rw [cell_of_row _ _ 0 _ _ _ h]
  rfl
theorem one_new (w : World) (t : Nat) (v : Value) : One (w.alloc (.cells #[v] t)) w.heap.size t v := heap_alloc_new w _
theorem one_free {w : World} {g t : Nat} {v : Value} (h : One w g t v) : w.frozen? ⟨g, 0, none⟩ = false := by
  unfold One at h
  simp [World.frozen?, h]
theorem one_lt {w : World} {g t : Nat} {v : Value} (h : One w g t v) : g < w.heap.size := row_lt h
theorem one_below {w w' : World} {g t : Nat} {v : Value} (h : One w g t v) (hb : Below w.heap.size w w') : One w' g t v := (hb.block _ (one_lt h)).trans h
theorem below_one (w : World) (o : Obj) : Below w.heap.size w (w.alloc o) := (Below.refl w.heap.size w).alloc (Nat.le_refl _) o
/-- Those above me, those below me, the ring. -/
def upL (me : Id2) (l : List Id2) : List Id2 := l.filter fun x => lss me.1 me.2 x.1 x.2
def dnL (me : Id2) (l : List Id2) : List Id2 := l.filter fun x => lss x.1 x.2 me.1 me.2
def rg (l : List Id2) (me : Id2) : List Id2 := upL me l ++ dnL me l
theorem upL_take {me : Id2} {l : List Id2} {k : Nat} (h : k < l.length) : upL me (l.take (k + 1)) = upL me (l.take k) ++ if lss me.1 me.2 l[k].1 l[k].2 = true then [(l[k].1, l[k].2)] else [] := by
  unfold upL
  rw [List.take_succ_eq_append_getElem h, List.filter_append]
  congr 1
  rcases hb : lss me.1 me.2 l[k].1 l[k].2 <;> simp [hb]
theorem dnL_take {me : Id2} {l : List Id2} {k : Nat} (h : k < l.length) : dnL me (l.take (k + 1)) = dnL me (l.take k) ++ if lss l[k].1 l[k].2 me.1 me.2 = true then [(l[k].1, l[k].2)] else [] := by
  unfold dnL
  rw [List.take_succ_eq_append_getElem h, List.filter_append]
  congr 1
  rcases hb : lss l[k].1 l[k].2 me.1 me.2 <;> simp [hb]
theorem upL_split (me : Id2) (l : List Id2) (k : Nat) : upL me l = upL me (l.take k) ++ upL me (l.drop k) := by
  unfold upL
  rw [← List.filter_append, List.take_append_drop]
theorem dnL_split (me : Id2) (l : List Id2) (k : Nat) : dnL me l = dnL me (l.take k) ++ dnL me (l.drop k) := by
  unfold dnL
  rw [← List.filter_append, List.take_append_drop]
theorem rg_up {me : Id2} {l : List Id2} {k : Nat} (h : k < l.length) (hs : lss me.1 me.2 l[k].1 l[k].2 = true) : rg l me = upL me (l.take k) ++ (l[k].1, l[k].2) :: (upL me (l.drop (k + 1)) ++ dnL me l) := by
  unfold rg
  rw [upL_split me l (k + 1), upL_take h, if_pos hs]
  simp
theorem rg_dn {me : Id2} {l : List Id2} {k : Nat} (h : k < l.length) (hs : lss l[k].1 l[k].2 me.1 me.2 = true) : rg l me = (upL me l ++ dnL me (l.take k)) ++ (l[k].1, l[k].2) :: (dnL me (l.drop (k + 1))) := by
  unfold rg
  rw [dnL_split me l (k + 1), dnL_take h, if_pos hs]
  simp
def encI (x : Id2) : Array Value := #[.agg #[.int .i64 x.1, .int .i64 x.2]]
/-- What the iterator reads. -/
def RdI (tA tB : Nat) (v : Value) (l : List Id2) (a i : Int) (A : World) : Prop := One A tA 25 v ∧ Box A tB a i ∧ Ids A v l
theorem RdI.below {tA tB : Nat} {v : Value} {l : List Id2} {a i : Int} {A B : World} (h : RdI tA tB v l a i A) (hb : Below A.heap.size A B) : RdI tA tB v l a i B := ⟨one_below h.1 hb, box_below h.2.1 hb, h.2.2.below hb⟩
theorem around_any (A : Option Addr) (n c : Nat) (a i : Int) (w : World) :
    Calls Try.prog 20 #[.slice A n c, .agg #[.int .i64 a, .int .i64 i]] w fun e w' => e = .returned (.func (.func 30) #[] #[.pointer (some ⟨w.heap.size, 0, none⟩), .pointer (some ⟨w.heap.size + 1, 0, none⟩)]) ∧ One w' w.heap.size 25 (.slice A n c) ∧ Box w' (w.heap.size + 1) a i ∧ Below w.heap.size w w' := by
  have h1 := Lib.hid (show One ((w.alloc (.cells #[.slice A n c] 25)).alloc (.cells #[.int .i64 a, .int .i64 i] 23)) w.heap.size 25 (.slice A n c) from (Below.heap_alloc _ _ _ (by simp)).trans (one_new w 25 _))
  have h2 := Lib.hid (show Box ((w.alloc (.cells #[.slice A n c] 25)).alloc (.cells #[.int .i64 a, .int .i64 i] 23)) (w.heap.size + 1) a i from by have := box_new (w.alloc (.cells #[.slice A n c] 25)) a i; simpa using this)
  have h3 := Lib.hid (below_two w (.cells #[.slice A n c] 25) (.cells #[.int .i64 a, .int .i64 i] 23))
  go_enter Try.func20, Try.ntmps20
  go_wp2_with fail
  go_ret
  exact ⟨rfl, h1.out, h2.out, h3.out⟩
set_option maxHeartbeats 4000000 in
theorem ring_seq (tA tB : Nat) (v : Value) (l : List Id2) (a i : Int) (hl : l.length ≤ 40000) :
    StopSeq Try.prog 30 #[.pointer (some ⟨tA, 0, none⟩), .pointer (some ⟨tB, 0, none⟩)] encI (rg l (a, i)) (RdI tA tB v l a i) := by
  intro lp J W hJ0 hJb hJr hY
  obtain ⟨A0, c0, rfl, hz⟩ := (hJr _ _ _ hJ0).2.2
  clear hz
  have HJ0 := Lib.hid hJ0
  have HJb := Lib.hid hJb
  have HJr := Lib.hid hJr
  have HY := Lib.hid hY
  have cA := one_cell (HJr.out _ _ _ hJ0).1
  clear hJ0 hJb hJr hY
  refine callsIn_of_wp Try.func30 rfl trivial ?_
  simp only [Try.ntmps30, List.size_toArray, List.length_cons, List.length_nil, Nat.reduceAdd, Nat.reduceSub, Array.replicate_succ, Array.replicate_zero, List.push_toArray, List.append_toArray, List.nil_append, List.cons_append]
  gi_wp2
  clear cA
  gi_loopw [10] (fun s10 wr => ∃ k : Nat, k ≤ l.length ∧ s10 = .int .i64 k ∧ Hid (J true (upL (a, i) (l.take k)) wr)) (fun s10 _ => l.length - (intOf s10).toNat)
  case atStart => exact ⟨0, by omega, rfl, Lib.hid HJ0.out⟩
  case round =>
    obtain ⟨k, hkl, rfl, HJ⟩ := hrel
    have i3 : (0 : Int) ≤ (k : Int) := by omega
    by_cases hlt : k < l.length
    · have hdec : decide ((k : Int) < (l.length : Int)) = true := by simp; omega
      have i4 : (k : Int) < (l.length : Int) := by omega
      have R0 := Lib.hid (HJr.out _ _ _ HJ.out)
      obtain ⟨ad, rfl, c1, c2⟩ := R0.out.2.2.at_ (Below.refl _ _) hlt
      have HU := Lib.hid (upL_take (me := (a, i)) hlt)
      have HP := Lib.hid (rg_up (me := (a, i)) hlt)
      generalize l[k].1 = x at *
      generalize l[k].2 = y at *
      have B6 := Lib.hid (below_one wr (.cells #[.int .i64 x, .int .i64 y] 23))
      obtain ⟨x1, x2⟩ := box_cells (box_new wr x y)
      obtain ⟨b1, b2⟩ := box_cells (box_below R0.out.2.1 B6.out)
      gi_wp2
      refine ⟨trivial, rfl, callsIn_wide.2 ((less_any a i x y _).mono ?_)⟩
      rintro e w7 ⟨rfl, hb⟩
      have B7 := Lib.hid (below_boxed (Below.refl wr.heap.size wr) hb (Nat.le_refl _))
      obtain ⟨x1, x2⟩ := box_cells (box_below (box_new wr x y) hb)
      have J7 := Lib.hid (HJb.out _ _ _ _ HJ.out B7.out)
      clear hb c1 c2 b1 b2
      rcases hs : lss a i x y with _ | _
      · gi_wp2
        refine ⟨fun f h => (by cases h), ?_⟩
        rename_i hK _ _ _ _
        refine hK _ _ ?_
        clear hK
        gi_wp2
        go_roundw
        case rel => exact ⟨k + 1, by omega, by go_num, Lib.hid (by rw [HU.out, hs]; simpa using J7.out)⟩
        case measure => simp [intOf]; omega
      · obtain ⟨fn, tmps, assign, body, hy, hR⟩ := HY.out _ (x, y) _ w7 (HP.out hs) J7.out
        dsimp only [encI] at hy
        gi_wp2
        refine ⟨rfl, hR.mono ?_⟩
        rintro e w9 ⟨b, rfl, hj⟩
        have J9 := Lib.hid hj
        clear hj hy hR x1 x2
        cases b with
        | true =>
          gi_wp2
          go_roundw
          case rel => exact ⟨k + 1, by omega, by go_num, Lib.hid (by rw [HU.out, hs]; exact J9.out)⟩
          case measure => simp [intOf]; omega
        | false =>
          gi_wp2
          refine bodyPost_ret (results_none rfl _ _ _) rfl ?_
          exact ⟨⟨_, rfl⟩, false, _, _, by rw [HP.out hs, List.append_cons], by simp, J9.out⟩
    · have hdec : decide ((k : Int) < (l.length : Int)) = false := by simp; omega
      have HF := Lib.hid (show J true (upL (a, i) l) wr by have := HJ.out; rwa [List.take_of_length_le (by omega)] at this)
      have cA := one_cell (HJr.out _ _ _ HJ.out).1
      gi_wp2
      clear cA HJ hkl hlt hdec i3
      gi_loopw [26] (fun s26 wr => ∃ k : Nat, k ≤ l.length ∧ s26 = .int .i64 k ∧ Hid (J true (upL (a, i) l ++ dnL (a, i) (l.take k)) wr)) (fun s26 _ => l.length - (intOf s26).toNat)
      case atStart => exact ⟨0, by omega, rfl, Lib.hid (by simpa [dnL] using HF.out)⟩
      case round =>
        obtain ⟨k, hkl, rfl, HJ⟩ := hrel
        have i3 : (0 : Int) ≤ (k : Int) := by omega
        by_cases hlt : k < l.length
        · have hdec : decide ((k : Int) < (l.length : Int)) = true := by simp; omega
          have i4 : (k : Int) < (l.length : Int) := by omega
          have R0 := Lib.hid (HJr.out _ _ _ HJ.out)
          obtain ⟨ad, rfl, c1, c2⟩ := R0.out.2.2.at_ (Below.refl _ _) hlt
          have HU := Lib.hid (dnL_take (me := (a, i)) hlt)
          have HP := Lib.hid (rg_dn (me := (a, i)) hlt)
          generalize l[k].1 = x at *
          generalize l[k].2 = y at *
          have B6 := Lib.hid (below_one wr (.cells #[.int .i64 x, .int .i64 y] 23))
          obtain ⟨x1, x2⟩ := box_cells (box_new wr x y)
          obtain ⟨b1, b2⟩ := box_cells (box_below R0.out.2.1 B6.out)
          gi_wp2
          refine ⟨trivial, rfl, callsIn_wide.2 ((less_any x y a i _).mono ?_)⟩
          rintro e w7 ⟨rfl, hb⟩
          have B7 := Lib.hid (below_boxed (Below.refl wr.heap.size wr) hb (Nat.le_refl _))
          obtain ⟨x1, x2⟩ := box_cells (box_below (box_new wr x y) hb)
          have J7 := Lib.hid (HJb.out _ _ _ _ HJ.out B7.out)
          clear hb c1 c2 b1 b2
          rcases hs : lss x y a i with _ | _
          · gi_wp2
            refine ⟨fun f h => (by cases h), ?_⟩
            rename_i hK _ _ _ _
            refine hK _ _ ?_
            clear hK
            gi_wp2
            go_roundw
            case rel => exact ⟨k + 1, by omega, by go_num, Lib.hid (by rw [HU.out, hs]; simpa using J7.out)⟩
            case measure => simp [intOf]; omega
          · obtain ⟨fn, tmps, assign, body, hy, hR⟩ := HY.out _ (x, y) _ w7 (HP.out hs) J7.out
            dsimp only [encI] at hy
            gi_wp2
            refine ⟨rfl, hR.mono ?_⟩
            rintro e w9 ⟨b, rfl, hj⟩
            have J9 := Lib.hid hj
            clear hj hy hR x1 x2
            cases b with
            | true =>
              gi_wp2
              go_roundw
              case rel => exact ⟨k + 1, by omega, by go_num, Lib.hid (by rw [HU.out, hs]; simpa using J9.out)⟩
              case measure => simp [intOf]; omega
            | false =>
              gi_wp2
              refine bodyPost_ret (results_none rfl _ _ _) rfl ?_
              exact ⟨⟨_, rfl⟩, false, _, _, by rw [HP.out hs, List.append_cons], by simp, J9.out⟩
        · have hdec : decide ((k : Int) < (l.length : Int)) = false := by simp; omega
          have HF := Lib.hid (show J true (rg l (a, i)) wr by have := HJ.out; rwa [List.take_of_length_le (by omega)] at this)
          gi_wp2
          refine bodyPost_end (results_none rfl _ _ _) rfl ?_
          exact ⟨⟨_, rfl⟩, true, _, [], by rw [List.append_nil], fun _ => rfl, HF.out⟩
end Go.Proofs.Ytbjknjbjldodlaa
