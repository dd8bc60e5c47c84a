/-
  Carried over: contracts of this program's functions. No statement is proved in this text.
-/
import Derived.TacticsInMore
import Derived.LoopNIn
import Derived.LoopIn
import Derived.RangeFuncNested
import Derived.RangeFuncBound
import Derived.RangeFuncCalls
import Derived.RangeFuncLeaves
import Derived.RangeFuncFrom
import Derived.OwnWalkIn
import Derived.Lib.Hide
import Derived.Test.YtmgkbfhkipfimaaIdeSetOps
set_option maxRecDepth 20000
namespace Go.Proofs.Ytmgkbfhkipfimaa
open Go Go.RowKit Sets
attribute [local go_sem] Oper.semAt_some
/-- A block of one cell. -/
def One (w : World) (g t : Nat) (v : Value) : Prop := w.heap[g]? = some (.cells #[v] t (0, 0))
theorem one_cell {w : World} {g t : Nat} {v : Value} (h : One w g t v) : w.cell? ⟨g, 0, none⟩ = some v := by
  unfold One at h
  rw [cell_of_row _ _ 0 _ _ _ h]
  rfl
theorem one_new (w : World) (t : Nat) (v : Value) : One (w.alloc (.cells #[v] t)) w.heap.size t v := heap_alloc_new w _
theorem one_free {w : World} {g t : Nat} {v : Value} (h : One w g t v) : w.frozen? ⟨g, 0, none⟩ = false := by
  unfold One at h
  simp [World.frozen?, h]
theorem one_lt {w : World} {g t : Nat} {v : Value} (h : One w g t v) : g < w.heap.size := row_lt h
theorem one_below {w w' : World} {g t : Nat} {v : Value} (h : One w g t v) (hb : Below w.heap.size w w') : One w' g t v := (hb.block _ (one_lt h)).trans h
theorem below_one (w : World) (o : Obj) : Below w.heap.size w (w.alloc o) := (Below.refl w.heap.size w).alloc (Nat.le_refl _) o
/-- Those above me, those below me, the ring. -/
def upL (me : Id2) (l : List Id2) : List Id2 := l.filter fun x => lss me.1 me.2 x.1 x.2
def dnL (me : Id2) (l : List Id2) : List Id2 := l.filter fun x => lss x.1 x.2 me.1 me.2
def rg (l : List Id2) (me : Id2) : List Id2 := upL me l ++ dnL me l
theorem upL_take {me : Id2} {l : List Id2} {k : Nat} (h : k < l.length) : upL me (l.take (k + 1)) = upL me (l.take k) ++ if lss me.1 me.2 l[k].1 l[k].2 = true then [(l[k].1, l[k].2)] else [] := by
  unfold upL
  rw [List.take_succ_eq_append_getElem h, List.filter_append]
  congr 1
  rcases hb : lss me.1 me.2 l[k].1 l[k].2 <;> simp [hb]
theorem dnL_take {me : Id2} {l : List Id2} {k : Nat} (h : k < l.length) : dnL me (l.take (k + 1)) = dnL me (l.take k) ++ if lss l[k].1 l[k].2 me.1 me.2 = true then [(l[k].1, l[k].2)] else [] := by
  unfold dnL
  rw [List.take_succ_eq_append_getElem h, List.filter_append]
  congr 1
  rcases hb : lss l[k].1 l[k].2 me.1 me.2 <;> simp [hb]
theorem upL_split (me : Id2) (l : List Id2) (k : Nat) : upL me l = upL me (l.take k) ++ upL me (l.drop k) := by
  unfold upL
  rw [← List.filter_append, List.take_append_drop]
theorem dnL_split (me : Id2) (l : List Id2) (k : Nat) : dnL me l = dnL me (l.take k) ++ dnL me (l.drop k) := by
  unfold dnL
  rw [← List.filter_append, List.take_append_drop]
theorem rg_up {me : Id2} {l : List Id2} {k : Nat} (h : k < l.length) (hs : lss me.1 me.2 l[k].1 l[k].2 = true) : rg l me = upL me (l.take k) ++ (l[k].1, l[k].2) :: (upL me (l.drop (k + 1)) ++ dnL me l) := by
  unfold rg
  rw [upL_split me l (k + 1), upL_take h, if_pos hs]
  simp
theorem rg_dn {me : Id2} {l : List Id2} {k : Nat} (h : k < l.length) (hs : lss l[k].1 l[k].2 me.1 me.2 = true) : rg l me = (upL me l ++ dnL me (l.take k)) ++ (l[k].1, l[k].2) :: (dnL me (l.drop (k + 1))) := by
  unfold rg
  rw [dnL_split me l (k + 1), dnL_take h, if_pos hs]
  simp
def encI (x : Id2) : Array Value := #[.agg #[.int .i64 x.1, .int .i64 x.2]]
/-- What the iterator reads. -/
def RdI (tA tB : Nat) (v : Value) (l : List Id2) (a i : Int) (A : World) : Prop := One A tA 27 v ∧ Box A tB a i ∧ Ids A v l
theorem RdI.below {tA tB : Nat} {v : Value} {l : List Id2} {a i : Int} {A B : World} (h : RdI tA tB v l a i A) (hb : Below A.heap.size A B) : RdI tA tB v l a i B := ⟨one_below h.1 hb, box_below h.2.1 hb, h.2.2.below hb⟩
end Go.Proofs.Ytmgkbfhkipfimaa
