/-
  Carried over and put together: contracts of this program's functions, and plain facts. No statement is proved in this text.
-/
import Derived.DeepKeys4
import Derived.Maps.OwnOps
import Derived.Maps.OwnSet
import Derived.Maps.Views
import Derived.Maps.RangeWalk
import Derived.Maps.OwnIn
import Derived.Sort.MapsRangeIn
import Derived.Laws.Externs
import Derived.Carry
import Derived.RangeFuncNested
import Derived.RangeFuncBound
import Derived.RangeFuncCalls
import Derived.RangeFuncLeaves
import Derived.RangeFuncFrom
import Derived.RangeFuncGives
import Derived.OwnWalkIn
import Derived.Lib.Hide
import Derived.Shelf.AbstractIn
import Derived.RangeFuncSeq
import Derived.WalkKit
import Derived.TacticsInMore
import Derived.RegionIn
import Derived.LoopNIn
import Derived.LoopIn
import Derived.Test.YtgphiggbajbmhaaGreatDoorE01
import Derived.Test.YtgphiggbajbmhaaGreatDoorE06
import Derived.Test.YtgphiggbajbmhaaGreatDoorE09
set_option maxRecDepth 20000
namespace Go.Proofs.YtgphiggbajbmhaaGreatDoor
open Go Go.RowKit Go.Maps
theorem laid : laidOutB Tryz.prog = true := by kernel_rfl
theorem row32 : (32 : TypeId) < Tryz.prog.types.size := of_decide_eq_true (by kernel_rfl)
theorem wide32 : (match Tryz.prog.underlying 32 with | some (.array _ _) | some (.struct _) => true | _ => false) = true := by rw [Tryz.underlying32]
theorem law32 : Go.WideMaps.KeyLaw Tryz.prog 32 := deep_law_laid laid (m := 2) (by omega) row32 (by kernel_rfl) wide32
theorem keyed32 : Keyed Tryz.prog 32 := Keyed.of_law law32
def idv (p : Int × Int) : Value := .agg #[.int .i64 p.1, .int .i64 p.2]
def idLit (p : Int × Int) : Lit := .string (keyBytes [.int .i64 p.1, .int .i64 p.2])
def In2 (p : Int × Int) : Prop := (-9223372036854775808 ≤ p.1 ∧ p.1 ≤ 9223372036854775807) ∧ (-9223372036854775808 ≤ p.2 ∧ p.2 ≤ 9223372036854775807)
theorem kt32 : Tryz.prog.keyType 32 = true := by kernel_rfl
theorem lits3 {n : Nat} {x : Int} (h : -9223372036854775808 ≤ x ∧ x ≤ 9223372036854775807) : Tryz.prog.keyLits (n + 1) 3 [.int .i64 x] = some [.int .i64 x] := by
 have := WalkArith.wf_i64 h
 simp [Program.keyLits, Tryz.underlying3, this]
theorem lits3_inv {n : Nat} {v : Value} {l : List Lit} (h : Tryz.prog.keyLits (n + 1) 3 [v] = some l) : ∃ x : Int, (-9223372036854775808 ≤ x ∧ x ≤ 9223372036854775807) ∧ v = .int .i64 x ∧ l = [.int .i64 x] := by
 unfold Program.keyLits at h
 rw [Tryz.underlying3] at h
 cases v <;> simp at h
 obtain ⟨⟨rfl, h1⟩, rfl⟩ := h
 refine ⟨_, ?_, rfl, rfl⟩
 simp [Lit.wf, IntKind.min, IntKind.max, IntKind.signed, IntKind.bits] at h1
 exact h1
theorem cells3' : Tryz.prog.cellsOf 3 = 1 := by kernel_rfl
theorem cells32' : Tryz.prog.cellsOf 32 = 2 := by kernel_rfl
theorem key_id {p : Int × Int} (h : In2 p) : keyOf Tryz.prog 32 (idv p) = some (idLit p) := by
 unfold keyOf
 simp only [Tryz.underlying32]
 rw [if_pos (by rw [kt32]; simp [idv, Value.formed, Tryz.underlying32, cells32'])]
 unfold idLit idv
 unfold Program.keyLits
 simp [Tryz.underlying32, cells32', cells3', Value.cells, lits3 (n := 239) h.1, lits3 (n := 239) h.2]
theorem key_inv {v : Value} {l : Lit} (h : keyOf Tryz.prog 32 v = some l) : ∃ p, In2 p ∧ v = idv p ∧ l = idLit p := by
 unfold keyOf at h
 simp only [Tryz.underlying32] at h
 split at h
 ·rename_i hc
  simp only [Bool.and_eq_true, Value.formed, Tryz.underlying32, cells32'] at hc
  cases v <;> simp at hc
  rename_i cs
  obtain ⟨_, hcs⟩ := hc
  obtain ⟨a, b, rfl⟩ : ∃ a b, cs = #[a, b] := by
   obtain ⟨l⟩ := cs
   match l, hcs with
   | [a, b], _ => exact ⟨a, b, rfl⟩
  unfold Program.keyLits at h
  simp [Tryz.underlying32, cells32', cells3', Value.cells] at h
  cases h1 : Tryz.prog.keyLits 240 3 [a] with
  | none => rw [h1] at h; cases h
  | some la =>
   cases h2 : Tryz.prog.keyLits 240 3 [b] with
   | none => rw [h1, h2] at h; cases h
   | some lb =>
    rw [h1, h2] at h
    obtain ⟨x, hx, rfl, rfl⟩ := lits3_inv (n := 239) h1
    obtain ⟨y, hy, rfl, rfl⟩ := lits3_inv (n := 239) h2
    simp at h
    exact ⟨(x, y), ⟨hx, hy⟩, rfl, h.symm⟩
 ·cases h
theorem idLit_inj {p q : Int × Int} (hp : In2 p) (hq : In2 q) (h : idLit p = idLit q) : p = q := by
 have e := keyed32.inj (key_id hp) (by rw [h]; exact key_id hq)
 unfold idv at e
 simp at e
 exact Prod.ext e.1 e.2
theorem idLit_ne {p q : Int × Int} (hp : In2 p) (hq : In2 q) (h : p ≠ q) : idLit p ≠ idLit q := fun e => h (idLit_inj hp hq e)
theorem idLit_key (p : Int × Int) : WideAt.IsKeyLit (idLit p) := by unfold idLit; trivial
structure El (V : Type) where
 v : V → Value
 d : V → DataW Unit
 r : Value → Option (DataW Unit × List MemPlace)
 dinj : ∀ {x y}, d x = d y → x = y
 rv : ∀ x, r (v x) = some (d x, [])
 inv : ∀ {u z}, r u = some z → ∃ x, u = v x ∧ z = (d x, [])
section
variable {V : Type} {E : El V} {w : World} {b n : Nat} {M : Int × Int → Option V}
def MapI (E : El V) (w : World) (b n : Nat) (M : Int × Int → Option V) : Prop :=
 ∃ D, w.ownsMap Tryz.prog 32 E.r b n D ∧ ∀ p, In2 p → (Maps.has D (idLit p) = (M p).isSome ∧ ∀ x, M p = some x → ∀ z, D.atKey (idLit p) z = E.d x)
def putI (M : Int × Int → Option V) (p : Int × Int) (x : Option V) : Int × Int → Option V := fun q => if q = p then x else M q
theorem putI_same (M : Int × Int → Option V) (p : Int × Int) (x : Option V) : putI M p x p = x := by simp [putI]
theorem putI_other (M : Int × Int → Option V) {p q : Int × Int} (x : Option V) (h : q ≠ p) : putI M p x q = M q := by simp [putI, h]
theorem MapI.made (E : El V) (w : World) : MapI E (w.alloc (.map #[] 0)) w.heap.size 0 (fun _ => none) :=
 ⟨_, World.ownsMap_made _ _ _ _, fun p _ => ⟨rfl, fun x h => by cases h⟩⟩
theorem MapI.lt (h : MapI E w b n M) : b < w.heap.size := by
 obtain ⟨D, h1, _⟩ := h
 exact h1.lt
theorem MapI.mono (h : MapI E w b n M) {k : Nat} (hk : n ≤ k) : MapI E w b k M := by
 obtain ⟨D, h1, h2⟩ := h
 exact ⟨D, h1.mono hk, h2⟩
theorem MapI.same {w' : World} (h : MapI E w b n M) (hb : w'.heap[b]? = w.heap[b]?) : MapI E w' b n M := by
 obtain ⟨D, ⟨es, clock, h1, h2⟩, h3⟩ := h
 exact ⟨D, ⟨es, clock, hb.trans h1, h2⟩, h3⟩
theorem MapI.look {T e : TypeId} (h : MapI E w b n M) (ht : Tryz.prog.underlying T = some (.map 32 e)) {z : V} (hz : (zeroValue e).run Tryz.prog w = .ok (E.v z) w) {p : Int × Int} (hp : In2 p) :
  (Instr.lookup T (.map (some b)) (idv p) true).run Tryz.prog w = .ok (.tuple #[E.v ((M p).getD z), .bool (M p).isSome]) w := by
 obtain ⟨D, h1, h2⟩ := h
 obtain ⟨v, ps, hrun, hv⟩ := h1.look_ok keyed32 ht hz (E.rv z) (key_id hp)
 obtain ⟨k1, k2⟩ := h2 p hp
 rw [k1] at hrun
 obtain ⟨x, rfl, e⟩ := E.inv hv
 injection e with e
 rw [hrun]
 cases hM : M p with
 | none =>
  rw [hM] at k1
  rw [Maps.atKey_of_not_has k1] at e
  rw [E.dinj e]
  rfl
 | some y =>
  rw [k2 y hM] at e
  rw [E.dinj e]
  rfl
theorem MapI.at {T e : TypeId} (h : MapI E w b n M) (ht : Tryz.prog.underlying T = some (.map 32 e)) {z : V} (hz : (zeroValue e).run Tryz.prog w = .ok (E.v z) w) {p : Int × Int} (hp : In2 p) :
  (Instr.lookup T (.map (some b)) (idv p) false).run Tryz.prog w = .ok (E.v ((M p).getD z)) w := by
 obtain ⟨D, h1, h2⟩ := h
 obtain ⟨v, ps, hrun, hv⟩ := h1.lookup keyed32 ht hz (E.rv z) (key_id hp)
 obtain ⟨k1, k2⟩ := h2 p hp
 obtain ⟨x, rfl, e⟩ := E.inv hv
 injection e with e
 rw [hrun]
 cases hM : M p with
 | none =>
  rw [hM] at k1
  rw [Maps.atKey_of_not_has k1] at e
  rw [E.dinj e]
  rfl
 | some y =>
  rw [k2 y hM] at e
  rw [E.dinj e]
  rfl
theorem MapI.put {T e : TypeId} (h : MapI E w b n M) (ht : Tryz.prog.underlying T = some (.map 32 e)) (hn : n < maxLen) {p : Int × Int} (hp : In2 p) (x : V) :
  ∃ w', (Instr.mapUpdate T (.map (some b)) (idv p) (E.v x)).run Tryz.prog w = .ok () w' ∧ MapI E w' b (n + 1) (putI M p (some x)) ∧ w.mapTurned w' b := by
 obtain ⟨D, h1, h2⟩ := h
 have hm := h1.isMap
 obtain ⟨w', hrun, k1, k2⟩ := h1.store keyed32 ht hn (key_id hp) (E.rv x)
 refine ⟨w', hrun, ⟨_, k1, fun q hq => ?_⟩, k2⟩
 by_cases e : q = p
 ·subst e
  rw [putI_same]
  refine ⟨Maps.has_put_same hm (idLit_key q) _, fun y hy z => ?_⟩
  injection hy with hy
  rw [Maps.atKey_put_same hm (idLit_key q), hy]
 ·have hne := idLit_ne hq hp e
  rw [putI_other M _ e]
  refine ⟨(Maps.has_put_other hne _).trans (h2 q hq).1, fun y hy z => ?_⟩
  rw [Maps.atKey_put_other hne]
  exact (h2 q hq).2 y hy z
theorem MapI.drop {T e : TypeId} (h : MapI E w b n M) (ht : Tryz.prog.underlying T = some (.map 32 e)) {p : Int × Int} (hp : In2 p) (ty : TypeId) :
  ∃ w', (Builtin.delete_ #[T, 32] ty #[.map (some b), idv p]).run Tryz.prog w = .ok (.tuple #[]) w' ∧ MapI E w' b n (putI M p none) ∧ w.mapTurned w' b := by
 obtain ⟨D, h1, h2⟩ := h
 obtain ⟨w', hrun, k1, k2⟩ := h1.drop keyed32 ht (key_id hp) ty
 refine ⟨w', hrun, ⟨_, k1, fun q hq => ?_⟩, k2⟩
 by_cases e : q = p
 ·subst e
  rw [putI_same]
  exact ⟨Maps.has_del_same, fun y hy => by cases hy⟩
 ·have hne := idLit_ne hq hp e
  rw [putI_other M _ e]
  refine ⟨(Maps.has_del_other hne).trans (h2 q hq).1, fun y hy z => ?_⟩
  rw [Maps.atKey_del_other hne]
  exact (h2 q hq).2 y hy z
def RngI (E : El V) (w : World) (b r n : Nat) (M : Int × Int → Option V) (left : Int × Int → Bool) (cnt : Nat) : Prop :=
 ∃ D lf, w.ranges Tryz.prog 32 E.r b r n D lf cnt ∧ (∀ p, In2 p → (Maps.has D (idLit p) = (M p).isSome ∧ ∀ x, M p = some x → ∀ z, D.atKey (idLit p) z = E.d x)) ∧ ∀ p, In2 p → lf (idLit p) = left p
variable {r cnt : Nat} {left : Int × Int → Bool}
theorem RngI.map (h : RngI E w b r n M left cnt) : MapI E w b n M := by
 obtain ⟨D, lf, h1, h2, _⟩ := h
 exact ⟨D, h1.owns, h2⟩
theorem RngI.kept {w' : World} {row : Option Nat} (h : RngI E w b r n M left cnt) (hg : w.grownBy w' row) (hb : some b ≠ row) (hr : some r ≠ row) : RngI E w' b r n M left cnt := by
 obtain ⟨D, lf, h1, h2⟩ := h
 exact ⟨D, lf, h1.kept hg hb hr, h2⟩
theorem MapI.range {T e : TypeId} (h : MapI E w b n M) (ht : Tryz.prog.underlying T = some (.map 32 e)) :
  ∃ w' c, (Instr.range T (.map (some b))).run Tryz.prog w = .ok (.pointer (some ⟨w.heap.size, 0, none⟩)) w' ∧ RngI E w' b w.heap.size n M (fun p => (M p).isSome) c ∧ c ≤ n ∧ w.grownBy w' none ∧ w'.heap.size = w.heap.size + 1 := by
 obtain ⟨D, h1, h2⟩ := h
 have hs := h1.size_le
 obtain ⟨w', hrun, k1, k2, k3⟩ := h1.range keyed32 ht
 exact ⟨w', _, hrun, ⟨D, _, k1, h2, fun p hp => (h2 p hp).1⟩, hs, k2, k3⟩
def offI (left : Int × Int → Bool) (p : Int × Int) : Int × Int → Bool := fun q => left q && !decide (q = p)
theorem sameKey_id {p q : Int × Int} (hp : In2 p) (hq : In2 q) : (idLit q).sameKey (idLit p) = decide (q = p) := by
 by_cases e : q = p
 ·subst e
  simp [WideAt.sameKey_self (idLit_key q)]
 ·rw [Maps.sameKey_ne (idLit_ne hq hp e)]
  simp [e]
theorem RngI.next (h : RngI E w b r n M left cnt) (ty : TypeId) :
  (cnt = 0 ∧ (∀ p, In2 p → left p = false) ∧ (Instr.next (.pointer (some ⟨r, 0, none⟩)) false ty).run Tryz.prog w = .ok (.tuple #[.bool false]) w) ∨
  ∃ p x w' c, In2 p ∧ left p = true ∧ M p = some x ∧ (Instr.next (.pointer (some ⟨r, 0, none⟩)) false ty).run Tryz.prog w = .ok (.tuple #[.bool true, idv p, E.v x]) w' ∧
   RngI E w' b r n M (offI left p) c ∧ c < cnt ∧ w.grownBy w' (some r) ∧ w'.heap.size = w.heap.size ∧ (Instr.entry (.pointer (some ⟨r, 0, none⟩))).run Tryz.prog w' = .ok (.tuple #[idv p, E.v x]) w' := by
 obtain ⟨D, lf, h1, h2, h3⟩ := h
 rcases h1.next keyed32 ty with ⟨k0, k1, k2⟩ | ⟨key, v, kl, y, w', c, k1, k2, k3, k4, k5, k6, k7, k8, k9, k10⟩
 ·exact .inl ⟨k0, fun p hp => (h3 p hp).symm.trans (k1 _), k2⟩
 ·obtain ⟨p, hp, rfl, rfl⟩ := key_inv k1
  obtain ⟨x, rfl, e⟩ := E.inv k3
  have hM : M p = some x := by
   have hh : Maps.has D (idLit p) = true := Maps.has_true_of_atKey k4
   obtain ⟨j1, j2⟩ := h2 p hp
   rw [hh] at j1
   cases hM : M p with
   | none => rw [hM] at j1; cases j1
   | some y =>
    have := j2 y hM (E.d x)
    rw [k4, e] at this
    rw [E.dinj this]
  refine .inr ⟨p, x, w', c, hp, (h3 p hp).symm.trans k2, hM, k5, ⟨D, _, k6, h2, fun q hq => ?_⟩, k7, k8, k9, k10⟩
  simp only [offI, h3 q hq, sameKey_id hp hq]
theorem RngI.drop {T e : TypeId} (h : RngI E w b r n M left cnt) (ht : Tryz.prog.underlying T = some (.map 32 e)) {p : Int × Int} (hp : In2 p) (ty : TypeId) :
  ∃ w' c, (Builtin.delete_ #[T, 32] ty #[.map (some b), idv p]).run Tryz.prog w = .ok (.tuple #[]) w' ∧ RngI E w' b r n (putI M p none) (offI left p) c ∧ c ≤ cnt ∧ w.mapTurned w' b := by
 obtain ⟨D, lf, h1, h2, h3⟩ := h
 obtain ⟨w', c, hrun, k1, k2, k3⟩ := h1.drop keyed32 ht (key_id hp) ty
 refine ⟨w', c, hrun, ⟨_, _, k1, fun q hq => ?_, fun q hq => ?_⟩, k2, k3⟩
 ·by_cases e : q = p
  ·subst e
   rw [putI_same]
   exact ⟨Maps.has_del_same, fun y hy => by cases hy⟩
  ·have hne := idLit_ne hq hp e
   rw [putI_other M _ e]
   refine ⟨(Maps.has_del_other hne).trans (h2 q hq).1, fun y hy z => ?_⟩
   rw [Maps.atKey_del_other hne]
   exact (h2 q hq).2 y hy z
 ·simp only [offI, h3 q hq, sameKey_id hp hq]
end
section
variable {V : Type} {E : El V} {b n r cnt : Nat} {M : Int × Int → Option V} {left : Int × Int → Bool} {T e : TypeId}
theorem wpList_put_id (w : World) {ops : Array Oper} {rest : List Oper} {o : Oper} {a : Act} {Q : Exit → Act → World → Prop} (hg : o.guard = none) (m x v : Operand) (hop : o.op = Op.mapUpdate T m x v)
  (ht : Tryz.prog.underlying T = some (.map 32 e)) (h : MapI E w b n M) (hn : n < maxLen) {p : Int × Int} (hp : In2 p) (c : V) (hm : a.eval m = .map (some b)) (hx : a.eval x = idv p) (hv : a.eval v = E.v c)
  (hK : ∀ w', MapI E w' b (n + 1) (putI M p (some c)) → w.mapTurned w' b → wpList Tryz.prog ops Q rest (a.put o.dst undef) w') :
  wpList Tryz.prog ops Q (o :: rest) a w := by
 refine wpList_plain hg fun K' hK' => ?_
 unfold Oper.wp
 obtain ⟨w', hrun, r1, r2⟩ := h.put ht hn hp c
 simp [execOp, hop, hm, hx, hv, hrun, Result.andThen]
 exact hK' _ _ (hK w' r1 r2)
variable {F : Fence} {nF : Nat}
theorem wpListIn_range_id (w : World) {ops : Array Oper} {rest : List Oper} {o : Oper} {a : Act} {Q : Exit → Act → World → Prop} (hg : o.guard = none) (m : Operand) (hop : o.op = Op.range T m)
  (ht : Tryz.prog.underlying T = some (.map 32 e)) (h : MapI E w b n M) (hm : a.eval m = .map (some b))
  (hK : ∀ w' c, RngI E w' b w.heap.size n M (fun p => (M p).isSome) c → c ≤ n → w.grownBy w' none → w'.heap.size = w.heap.size + 1 → wpListIn F nF Tryz.prog ops Q rest (a.put o.dst (.pointer (some ⟨w.heap.size, 0, none⟩))) w') :
  wpListIn F nF Tryz.prog ops Q (o :: rest) a w := by
 refine wpListIn_plain hg fun K' hK' => ?_
 unfold Oper.wpIn
 refine ⟨by simp [Oper.about, hop], ?_⟩
 rw [Oper.semAt_plain F _ _ (by rw [hop]; intro c hc'; cases hc')]
 obtain ⟨w', c, hrun, r1, r2, r3, r4⟩ := h.range ht
 simp [execOp, hop, hm, hrun, Result.andThen]
 exact hK' _ _ (hK w' c r1 r2 r3 r4)
theorem wpListIn_next_id (w : World) {ops : Array Oper} {rest : List Oper} {o : Oper} {a : Act} {Q : Exit → Act → World → Prop} (hg : o.guard = none) (it : Operand) (hop : o.op = Op.next it false)
  (h : RngI E w b r n M left cnt) (hit : a.eval it = .pointer (some ⟨r, 0, none⟩))
  (hDone : cnt = 0 → (∀ p, In2 p → left p = false) → wpListIn F nF Tryz.prog ops Q rest (a.put o.dst (.tuple #[.bool false])) w)
  (hMore : ∀ (p : Int × Int) (x : V) (w' : World) (c : Nat), In2 p → left p = true → M p = some x → RngI E w' b r n M (offI left p) c → c < cnt → w.grownBy w' (some r) → w'.heap.size = w.heap.size →
   (Instr.entry (.pointer (some ⟨r, 0, none⟩))).run Tryz.prog w' = .ok (.tuple #[idv p, E.v x]) w' → wpListIn F nF Tryz.prog ops Q rest (a.put o.dst (.tuple #[.bool true, idv p, E.v x])) w') :
  wpListIn F nF Tryz.prog ops Q (o :: rest) a w := by
 refine wpListIn_plain hg fun K' hK' => ?_
 unfold Oper.wpIn
 refine ⟨by simp [Oper.about, hop], ?_⟩
 rw [Oper.semAt_plain F _ _ (by rw [hop]; intro c hc'; cases hc')]
 rcases h.next o.type with ⟨h0, hl, hrun⟩ | ⟨p, x, w', c, hp, hl, hM, hrun, r1, r2, r3, r4, r5⟩
 ·simp [execOp, hop, hit, hrun, Result.andThen]
  exact hK' _ _ (hDone h0 hl)
 ·simp [execOp, hop, hit, hrun, Result.andThen]
  exact hK' _ _ (hMore p x w' c hp hl hM r1 r2 r3 r4 r5)
end
end Go.Proofs.YtgphiggbajbmhaaGreatDoor
namespace Go.Proofs.YtgphiggbajbmhaaGreatDoor
open Go Go.RowKit Ros Go.Maps Go.ChangeMaps Go.MapKept
def dM (x : Mm) : DataW Unit := .agg [.lit (.int .i64 x.1.1), .lit (.int .i64 x.1.2), .lit (.int .u8 x.2.1), .lit (.int .i64 x.2.2)]
def rM (v : Value) : Option (DataW Unit × List MemPlace) :=
 match v with
 | .agg cs => (match cs.toList with | [.int .i64 a, .int .i64 i, .int .u8 s, .int .i64 n] => some (dM ((a, i), s, n), []) | _ => none)
 | _ => none
def ElM : El Mm where
 v := mval
 d := dM
 r := rM
 dinj := by
  rintro ⟨⟨a, b⟩, c, d⟩ ⟨⟨a', b'⟩, c', d'⟩ h
  simp [dM] at h
  obtain ⟨rfl, rfl, rfl, rfl⟩ := h
  rfl
 rv := fun _ => rfl
 inv := by
  intro u z h
  unfold rM at h
  split at h
  ·rename_i cs
   split at h
   ·rename_i a b c d e
    injection h with h
    refine ⟨((a, b), c, d), ?_, h.symm⟩
    unfold mval
    congr 1
    exact Array.toList_inj.1 e
   ·cases h
  ·cases h
theorem zeroMv (w : World) : (zeroValue 34).run Tryz.prog w = .ok (mval noneM) w := by kernel_rfl
def fst1 (ms : List Mm) : Int × Int → Option Mm := fun p => ms.find? fun x => decide (x.1 = p)
theorem fst1_step {ms : List Mm} {k : Nat} (hk : k < ms.length) : fst1 (ms.take (k + 1)) = if (fst1 (ms.take k) ms[k].1).isSome then fst1 (ms.take k) else putI (fst1 (ms.take k)) ms[k].1 (some ms[k]) := by
 have e : ∀ p, fst1 (ms.take (k + 1)) p = (fst1 (ms.take k) p).or (if ms[k].1 = p then some ms[k] else none) := by
  intro p
  unfold fst1
  rw [List.take_succ_eq_append_getElem hk, List.find?_append]
  congr 1
  by_cases h : ms[k].1 = p <;> simp [h]
 split
 ·rename_i h
  funext p
  rw [e]
  by_cases h2 : ms[k].1 = p
  ·subst h2
   cases hf : fst1 (ms.take k) ms[k].1 with
   | none => rw [hf] at h; cases h
   | some y => rfl
  ·simp [h2]
 ·rename_i h
  funext p
  rw [e]
  by_cases h2 : p = ms[k].1
  ·subst h2
   rw [putI_same]
   cases hf : fst1 (ms.take k) ms[k].1 with
   | none => simp
   | some y => rw [hf] at h; simp at h
  ·rw [putI_other _ _ h2]
   simp [Ne.symm h2]
theorem mapTurned_below {w w' : World} {b b0 : Nat} (h : w.mapTurned w' b) (hb : b0 ≤ b) : Below b0 w w' := by
 obtain ⟨es, c, es', c', h1, rfl⟩ := h
 exact ⟨rfl, rfl, rfl, by simp [setBlock], fun k hk => heap_setBlock_other h1 _ (by omega)⟩
set_option maxHeartbeats 4000000 in
theorem firstsE_any (v : Value) (l : List Mm) (w : World) (h : Ms w v l) (hl : l.length ≤ 1000) (hi : ∀ x ∈ l, In2 x.1) :
  Calls Tryz.prog 13 #[v] w fun e w' => ∃ b n, e = .returned (.map (some b)) ∧ w.heap.size ≤ b ∧ n ≤ l.length ∧ MapI ElM w' b n (fst1 l) ∧ Below w.heap.size w w' := by
 have HI := Lib.hid h
 have HC := Lib.hid hi
 obtain ⟨A, c, rfl, hz⟩ := h
 clear hz hi
 have HM := Lib.hid (MapI.made ElM w)
 have HB := Lib.hid (below_one w (.map #[] 0))
 have hmm := @run_makeMap Tryz.prog
 go_enter Tryz.func13, Tryz.ntmps13
 go_wp2_with fail
 go_loopw [11] (fun s11 wr => ∃ k : Nat, k ≤ l.length ∧ s11 = .int .i64 k ∧ Hid (MapI ElM wr w.heap.size k (fst1 (l.take k))) ∧ Hid (Below w.heap.size w wr)) (fun s11 _ => l.length - (intOf s11).toNat)
 case atStart => exact ⟨0, by omega, rfl, HM, HB⟩
 case round =>
  obtain ⟨k, hkl, rfl, HM, HW⟩ := hrel
  have i3 : (0 : Int) ≤ (k : Int) := by omega
  by_cases hlt : k < l.length
  ·have hd : decide ((k : Int) < (l.length : Int)) = true := by simp; omega
   have i4 : (k : Int) < (l.length : Int) := by omega
   obtain ⟨ad, rfl, c1, c2, c3, c4⟩ := HI.out.at_ HW.out hlt
   have HT := Lib.hid (fst1_step hlt)
   have HP := Lib.hid (HC.out _ (List.getElem_mem hlt))
   generalize l[k] = x at *
   obtain ⟨⟨p, i⟩, s, n⟩ := x
   have HX := Lib.hid (HM.out.same (w' := wr.alloc (.cells #[.int .i64 p, .int .i64 i, .int .u8 s, .int .i64 n] 34)) (Below.heap_alloc _ _ _ HM.out.lt))
   have hk := HX.out.look Tryz.underlying43 (zeroMv _) HP.out
   cases hf : fst1 (l.take k) (p, i) with
   | none =>
    rw [hf] at hk
    simp only [Option.getD_none, Option.isSome_none, mval, noneM, idv, ElM] at hk
    have HY := Lib.hid (HX.out.same (w' := (wr.alloc (.cells #[.int .i64 p, .int .i64 i, .int .u8 s, .int .i64 n] 34)).alloc (.cells #[.int .i64 0, .int .i64 0, .int .u8 0, .int .i64 0] 34)) (Below.heap_alloc _ _ _ HX.out.lt))
    have hn : k < maxLen := by unfold maxLen; omega
    rw [hf] at HT
    clear hf
    go_wp2_with (first | (at_mapUpdate; refine wpList_put_id _ rfl _ _ _ rfl Tryz.underlying43 HY.out hn HP.out ((p, i), s, n) rfl rfl rfl ?_; intro w1 hm1 ht1) | fail)
    have H1 := Lib.hid hm1
    have B1 := Lib.hid ((HW.out.trans ((below_two wr _ _).mono HW.out.size)).trans (mapTurned_below ht1 (Nat.le_refl _)))
    clear hm1 ht1 c1 c2 c3 c4
    go_wp2_with fail
    go_roundw
    case rel => exact ⟨k + 1, by omega, by go_num, by rw [HT.out]; exact H1, B1⟩
    case measure => simp [intOf]; omega
   | some y =>
    rw [hf] at hk HT
    obtain ⟨⟨y1, y2⟩, y3, y4⟩ := y
    simp only [Option.getD_some, Option.isSome_some, mval, idv, ElM] at hk
    have HY := Lib.hid ((HX.out.same (w' := (wr.alloc (.cells #[.int .i64 p, .int .i64 i, .int .u8 s, .int .i64 n] 34)).alloc (.cells #[.int .i64 y1, .int .i64 y2, .int .u8 y3, .int .i64 y4] 34)) (Below.heap_alloc _ _ _ HX.out.lt)).mono (Nat.le_succ k))
    have B1 := Lib.hid (HW.out.trans ((below_two wr (.cells #[.int .i64 p, .int .i64 i, .int .u8 s, .int .i64 n] 34) (.cells #[.int .i64 y1, .int .i64 y2, .int .u8 y3, .int .i64 y4] 34)).mono HW.out.size))
    clear hf
    go_wp2_with fail
    go_roundw
    case rel => exact ⟨k + 1, by omega, by go_num, by rw [HT.out]; exact HY, B1⟩
    case measure => simp [intOf]; omega
  ·have hd : decide ((k : Int) < (l.length : Int)) = false := by simp; omega
   have H1 : Hid (MapI ElM wr w.heap.size k (fst1 l)) := by have := HM.out; rw [List.take_of_length_le (by omega)] at this; exact Lib.hid this
   clear HM
   go_wp2_with fail
   go_ret
   exact ⟨_, _, rfl, Nat.le_refl _, hkl, H1.out, HW.out⟩
end Go.Proofs.YtgphiggbajbmhaaGreatDoor
namespace Go.Proofs.YtgphiggbajbmhaaGreatDoor
open Go Go.RowKit
variable {P : Program} {α : Type}
def givePost (L D : Nat) (C : World) (I : World → Prop) : Exit → Act → World → Prop
 | .normal, _, E => E.heap[D]? = C.heap[D]? ∧ E.heap[L]? = C.heap[L]? ∧ I E ∧ KeepsWalks C E
 | _, _, _ => False
theorem wp_gives {g : Operand} {ps : Array Tmp} {assign body : Code} {Q : Exit → Act → World → Prop} {a : Act} {w w00 : World} {gf : Nat} {lb : Array Value} (hg : a.eval g = .func (.func gf) #[] lb)
  (eg : ∀ args w, (callFunc gf args).run P w = .ok (.enter gf args) w) {enc : α → Value} {S : List α → Prop} {N : Nat} (hseq : SeqGives Fence.wide 1 P gf lb enc S N w00) (hw00 : Below w00.heap.size w00 w) (hps : ps.size = 1)
  (I : List α → World → Prop)
  (h0 : ∀ W, w.heap.size + 2 ≤ W.heap.size → Below w.heap.size w W → I [] W)
  (hI : ∀ pre A B row, I pre A → A.grownBy B row → (∀ r, row = some r → r = w.heap.size + 1 ∨ (w.heap.size + 2 ≤ r ∧ ∃ o : Obj, A.heap[r]? = some o ∧ o.isWalk = true)) → I pre B)
  (hround : ∀ pre x A, pre.length < N → I pre A → w.heap.size + 2 ≤ A.heap.size → (∃ r, A.heap[w.heap.size + 1]? = some (.loop r)) →
   assign.wpIn (Fence.wide.inRound (w.heap.size + 1)) 0 P
    (Exit.then (fun a1 B => B.heap[w.heap.size]? = A.heap[w.heap.size]? ∧ B.heap[w.heap.size + 1]? = A.heap[w.heap.size + 1]? ∧ KeepsWalks A B ∧
      ∀ C, B.grownBy C (some (w.heap.size + 1)) → body.wpIn (Fence.wide.inRound (w.heap.size + 1)) 0 P (givePost (w.heap.size + 1) w.heap.size C (I (pre ++ [x]))) a1 C)
     (fun _ _ _ => False)) { tmps := (ps.zip #[enc x]).foldl (fun t (p, v) => t.setIfInBounds p v) a.tmps, defers := [] } A)
  (hdone : ∀ xs W, S xs → xs.length ≤ N → I xs W → W.heap[w.heap.size]? = some (.deferred (some [])) → Q .normal { a with defers := { target := .collected w.heap.size, args := #[] } :: a.defers } W) :
  (Code.rangeFunc g ps assign body).wpIn Fence.wide 0 P Q a w := by
 refine wpIn_rangeFunc ?_
 intro fn _
 obtain ⟨rec, hrec⟩ : ∃ rec : LoopState → Option Code → Loop, rec = fun st pe => { state := st, pending := pe, fn, tmps := a.tmps, params := ps, assign, body, defers := w.heap.size } := ⟨_, rfl⟩
 obtain ⟨W1, hW1⟩ : ∃ W1, (w.alloc (.deferred (some []))).alloc (.loop (rec .ready none)) = W1 := ⟨_, rfl⟩
 have hs1 : W1.heap.size = w.heap.size + 2 := by rw [← hW1]; simp
 have hL1 : W1.heap[w.heap.size + 1]? = some (.loop (rec .ready none)) := by
  rw [← hW1]
  have := World.alloc_heap_new (w.alloc (.deferred (some []))) (.loop (rec .ready none))
  rwa [World.size_alloc] at this
 have hD1 : W1.heap[w.heap.size]? = some (.deferred (some [])) := by
  rw [← hW1]
  exact (Below.heap_alloc _ _ _ (by simp)).trans (World.alloc_heap_new w _)
 have hb1 : Below w.heap.size w W1 := by
  rw [← hW1]
  exact ((Below.refl _ w).alloc (Nat.le_refl _) _).alloc (by simp) _
 have put : ∀ (A : World) (o : Obj), A.grownBy (A.putObj (w.heap.size + 1) o) (some (w.heap.size + 1)) := fun A o => grownBy_putObj' A _ o
 have keepI : ∀ pre (A : World) (o : Obj), I pre A → I pre (A.putObj (w.heap.size + 1) o) := fun pre A o h => hI pre A _ _ h (put A o) (fun r e => .inl (by injection e with e; exact e.symm))
 refine ⟨w.heap.size + 1, [{ target := .collected w.heap.size, args := #[] }], W1, { target := .fn (.func gf) lb, args := #[.func (.yield (w.heap.size + 1)) #[] #[]] }, W1, gf,
  #[.func (.yield (w.heap.size + 1)) #[] #[]] ++ lb, W1, ?_, ?_, ?_, ?_, (fun h => by simp [Fence.wide] at h), ?_⟩
 ·rw [← hW1, hrec]
  exact run_enterLoop_outer _ _ _ _ _
 ·simp only [resolve, hg]
  simp [go_sem]
 ·exact fun _ _ => trivial
 ·simp [invoke, go_sem, eg]
 ·refine ((callsIn_wide (n := 0)).2 ((callsIn_wide (n := 1)).1 (hseq.bounded (w.heap.size + 1) (fun pre W => w.heap.size + 2 ≤ W.heap.size ∧ W.heap[w.heap.size]? = some (.deferred (some [])) ∧ I pre W ∧ W.heap[w.heap.size + 1]? = some (.loop (rec .ready none))) W1 (hw00.trans (hb1.mono hw00.size)) ?_ ?_ ⟨by omega, hD1, h0 W1 (by omega) hb1, hL1⟩))).mono ?_
  ·rintro pre A B row ⟨hs, hd, hi, hl⟩ hgr hrow
   have hne : ∀ k, k < w.heap.size + 2 → some k ≠ row := fun k hk e => by have := (hrow k e.symm).1; omega
   exact ⟨Nat.le_trans hs hgr.size, (hgr.block _ (by omega) (hne _ (by omega))).trans hd, hI pre A B row hi hgr (fun r e => .inr ⟨by have := (hrow r e).1; omega, (hrow r e).2⟩), (hgr.block _ (by omega) (hne _ (by omega))).trans hl⟩
  ·rintro pre x A ⟨hs, hd, hi, hl⟩ hN
   have hy := run_yield (P := P) (args := #[enc x]) hl (by rw [hrec]; simp [hps])
   rw [hrec] at hy
   refine ⟨fn, _, assign, body, hy, roundIn_of_wpIn trivial ?_⟩
   have hr := hround pre x A hN hi hs ⟨_, hl⟩
   refine wpIn_mono hr ?_
   rintro e a1 B hpost
   cases e with
   | normal =>
    obtain ⟨kd1, hl1, hkw, hbody⟩ := hpost
    have hlB : B.heap[w.heap.size + 1]? = some (.loop (rec .ready none)) := hl1.trans hl
    have hltB : w.heap.size + 1 < B.heap.size := (Array.getElem?_eq_some_iff.1 hlB).1
    refine ⟨_, run_beginRound hlB (by rw [hrec]), ?_⟩
    refine wpIn_mono (hbody _ (put B _)) ?_
    have hkw2 := hkw.trans (KeepsWalks.putObj (W := B) (r := w.heap.size + 1) (.loop { rec .ready none with state := .busy }) hlB rfl)
    have hC1 : (B.putObj (w.heap.size + 1) (.loop { rec .ready none with state := .busy })).heap[w.heap.size + 1]? = some (.loop { rec .ready none with state := .busy }) := World.putObj_heap_same hltB
    have hC2 : (B.putObj (w.heap.size + 1) (.loop { rec .ready none with state := .busy })).heap[w.heap.size]? = some (.deferred (some [])) := (World.putObj_heap_other (by omega)).trans (kd1.trans hd)
    rintro e2 a2 E hpost2
    cases e2 with
    | normal =>
     obtain ⟨kd3, hl3, hiE, hkw3⟩ := hpost2
     have hl4 := hl3.trans hC1
     have hk4 := kd3.trans hC2
     have hr2 := run_endRound (P := P) none hl4
     have hlt3 := (Array.getElem?_eq_some_iff.1 hl4).1
     have hsz := (put E (.loop (rec .ready none))).size
     have hkw4 := (hkw2.trans hkw3).trans (KeepsWalks.putObj (W := E) (r := w.heap.size + 1) (.loop (rec .ready none)) hl4 rfl)
     rw [hrec] at hr2 hkw4 hsz ⊢
     refine ⟨_, _, hr2, rfl, ⟨?_, (World.putObj_heap_other (by omega)).trans hk4, keepI _ E _ hiE, World.putObj_heap_same hlt3⟩, hkw4⟩
     exact Nat.le_trans (by omega) hsz
    | ret => exact hpost2.elim
    | exit id => exact hpost2.elim
    | goto t => exact hpost2.elim
    | panic ch => exact hpost2.elim
    | outgrown => exact hpost2.elim
   | ret => exact hpost.elim
   | exit id => exact hpost.elim
   | goto t => exact hpost.elim
   | panic ch => exact hpost.elim
   | outgrown => exact hpost.elim
  ·rintro e W2 ⟨⟨v, rfl⟩, xs, ⟨hS, hlen⟩, hs, hd, hi, hl⟩
   have hle := run_endLoop (P := P) hl (by rw [hrec]; simp)
   have hpn : (rec .ready none).pending = none := by rw [hrec]
   rw [hpn] at hle
   exact ⟨none, _, hle, hdone xs _ hS hlen (keepI _ W2 _ hi) ((World.putObj_heap_other (by omega)).trans hd)⟩
end Go.Proofs.YtgphiggbajbmhaaGreatDoor
namespace Go.Proofs.YtgphiggbajbmhaaGreatDoor
open Go Go.RowKit Go.Maps
structure CameI {V : Type} (M : Int × Int → Option V) (left : Int × Int → Bool) (ps : List (Int × Int)) : Prop where
 nodup : ps.Nodup
 in2 : ∀ p ∈ ps, In2 p
 left : ∀ p, In2 p → left p = ((M p).isSome && !decide (p ∈ ps))
 mem : ∀ p ∈ ps, (M p).isSome = true
theorem CameI.start {V : Type} (M : Int × Int → Option V) : CameI M (fun p => (M p).isSome) [] := ⟨List.nodup_nil, by simp, by simp, by simp⟩
theorem CameI.step {V : Type} {M : Int × Int → Option V} {left : Int × Int → Bool} {ps : List (Int × Int)} (h : CameI M left ps) {p : Int × Int} (hp : In2 p) (hl : left p = true) (hM : (M p).isSome = true) : CameI M (offI left p) (ps ++ [p]) := by
 have hn : p ∉ ps := by
  have := h.left p hp
  rw [hl] at this
  simp at this
  exact this.2
 refine ⟨?_, ?_, ?_, ?_⟩
 ·rw [List.nodup_append]
  exact ⟨h.nodup, by simp, fun a ha b hb => by simp at hb; subst hb; exact fun e => hn (e ▸ ha)⟩
 ·intro q hq
  rcases List.mem_append.1 hq with h1 | h1
  ·exact h.in2 q h1
  ·simp at h1; subst h1; exact hp
 ·intro q hq
  simp only [offI, h.left q hq]
  by_cases e : q = p
  ·subst e; simp
  ·by_cases h2 : q ∈ ps <;> simp [e, h2]
 ·intro q hq
  rcases List.mem_append.1 hq with h1 | h1
  ·exact h.mem q h1
  ·simp at h1; subst h1; exact hM
def KeysI {V : Type} (M : Int × Int → Option V) (ps : List (Int × Int)) : Prop := ps.Nodup ∧ (∀ p ∈ ps, In2 p) ∧ ∀ p, In2 p → (p ∈ ps ↔ (M p).isSome = true)
theorem CameI.done {V : Type} {M : Int × Int → Option V} {left : Int × Int → Bool} {ps : List (Int × Int)} (h : CameI M left ps) (hl : ∀ p, In2 p → left p = false) : KeysI M ps := by
 refine ⟨h.nodup, h.in2, fun p hp => ⟨h.mem p, fun hM => ?_⟩⟩
 have := h.left p hp
 rw [hl p hp, hM] at this
 simpa using this
theorem RngI.of_walks {V : Type} {E : El V} {w w' : World} {b r n cnt : Nat} {M : Int × Int → Option V} {left : Int × Int → Bool} (h : RngI E w b r n M left cnt) (hk : KeepsWalks w w') : RngI E w' b r n M left cnt := by
 obtain ⟨D, lf, h1, h2⟩ := h
 exact ⟨D, lf, h1.of_walks hk, h2⟩
theorem RngI.iter_walk {V : Type} {E : El V} {w : World} {b r n cnt : Nat} {M : Int × Int → Option V} {left : Int × Int → Bool} (h : RngI E w b r n M left cnt) : ∃ o : Obj, w.heap[r]? = some o ∧ o.isWalk = true := by
 obtain ⟨D, lf, h1, h2⟩ := h
 exact h1.iter_walk
theorem RngI.left_eq {V : Type} {E : El V} {w : World} {b r n cnt : Nat} {M : Int × Int → Option V} {left : Int × Int → Bool} (h : RngI E w b r n M left cnt) : w.rangeLeft b r = cnt := by
 obtain ⟨D, lf, h1, h2⟩ := h
 exact h1.left_eq
set_option maxHeartbeats 1000000 in
theorem keysI_in {V : Type} {E : El V} {M : Int × Int → Option V} (F : Fence) (n : Nat) (hf : F.fn 44) (hro : F.round = none) (hn : 1 ≤ n) (l Bm b nn : Nat) (J : List (Int × Int) → World → Prop)
  (hY : ∀ pre x W, J pre W → pre.length < nn → YieldAt F (n - 1) Tryz.prog l #[idv x] W fun e W' => e = .returned (.bool true) ∧ J (pre ++ [x]) W' ∧ KeepsWalks W W')
  (W : World) (hJ : AbidesFrom W.heap.size J) (hm : W.cell? ⟨Bm, 0, none⟩ = some (.map (some b))) (hown : MapI E W b nn M) (h0 : J [] W) :
  CallsIn F n Tryz.prog 44 #[.func (.yield l) #[] #[], .pointer (some ⟨Bm, 0, none⟩)] W fun e W' => (∃ v, e = .returned v) ∧ ∃ ps : List (Int × Int), KeysI M ps ∧ J ps W' := by
 refine callsIn_of_wp Tryz.func44 rfl hf ?_ hro
 simp only [Tryz.ntmps44, List.size_toArray, List.length_cons, List.length_nil, Nat.reduceAdd, Nat.reduceSub, Array.replicate_succ, Array.replicate_zero, List.push_toArray, List.append_toArray, List.nil_append, List.cons_append]
 gi_wp2_with (first
  | (gi_at_range; refine wpListIn_range_id _ rfl _ rfl Tryz.underlying43 hown rfl ?_; intro w0 c0 hrg0 hc0 hg0 hs0)
  | gi_in)
 go_frame
 gi_loopw [3, 6, 7, 8, 9, 10, 11, 12, 13] (fun _ _ _ _ _ _ _ _ _ wr => ∃ (left : Int × Int → Bool) (cnt : Nat) (ps : List (Int × Int)), RngI E wr b W.heap.size nn M left cnt ∧ W.heap.size + 1 ≤ wr.heap.size ∧ ps.length + cnt ≤ nn ∧ CameI M left ps ∧ J ps wr)
  (fun _ _ _ _ _ _ _ _ _ wr => wr.rangeLeft b W.heap.size)
 case atStart =>
  exact ⟨_, _, [], hrg0, by omega, by simpa using hc0, CameI.start M, hJ [] W w0 none h0 hg0 (fun r e => by cases e)⟩
 case round =>
  obtain ⟨left, cnt, ps, hrg, hsz, hcs, hC, hJs⟩ := hrel
  gi_wp2_with (first
   | (gi_at_next; refine wpListIn_next_id _ rfl _ rfl hrg rfl ?_ ?_)
   | gi_in)
  ·intro hc0 hl0
   gi_wp2
   go_end0
   exact ⟨⟨_, rfl⟩, ps, hC.done (fun p hp => hl0 p.1 p.2 hp), hJs⟩
  ·intro p1 p2 c w2 cnt2 hp hlk hM hrg2 hlt hg2 hs2 hen
   have hJ2 : J ps w2 := hJ ps wr w2 (some W.heap.size) hJs hg2 (fun r e => by cases e; exact ⟨Nat.le_refl _, hrg.iter_walk⟩)
   have ga : w2.grownBy (w2.alloc (.cells #[.int .i64 p1, .int .i64 p2] 32)) none := World.grownBy_alloc _ _ _
   have hJ3 := hJ ps w2 _ none hJ2 ga (fun r e => by cases e)
   obtain ⟨fn, tmps, assign, body, hy, hR⟩ := hY ps (p1, p2) _ hJ3 (by omega)
   have hrg3 := hrg2.of_walks (KeepsWalks.alloc w2 (.cells #[.int .i64 p1, .int .i64 p2] 32))
   simp only [idv] at hen hy
   have hsw : w2.heap.size = wr.heap.size := hs2
   clear hs2
   gi_wp2
   refine hR.mono ?_
   rintro e W3 ⟨rfl, hJ4, hk3⟩
   have hrg4 := hrg3.of_walks hk3
   have hsz4 := hk3.size
   gi_wp2
   go_roundw
   case rel => exact ⟨_, cnt2, ps ++ [(p1, p2)], hrg4, by simp at hsz4; omega, by simp; omega, hC.step hp hlk (by rw [hM]; rfl), hJ4⟩
   case measure => rw [hrg4.left_eq, hrg.left_eq]; exact hlt
theorem keysI_gives {V : Type} {E : El V} {M : Int × Int → Option V} (F : Fence) (n : Nat) (hf : F.fn 44) (hro : F.round = none) (hn : 1 ≤ n) (Bm b nn : Nat) (w : World) (hBm : Bm < w.heap.size) (hm : w.cell? ⟨Bm, 0, none⟩ = some (.map (some b))) (hown : MapI E w b nn M) :
  SeqGives F n Tryz.prog 44 #[.pointer (some ⟨Bm, 0, none⟩)] idv (KeysI M) nn w := fun l J W hW hJ hY h0 =>
 keysI_in F n hf hro hn l Bm b nn J hY W hJ ((hW.cell (p := ⟨Bm, 0, none⟩) hBm).trans hm) (hown.same (hW.block b hown.lt)) h0
end Go.Proofs.YtgphiggbajbmhaaGreatDoor
