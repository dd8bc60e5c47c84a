/-
  Maps by IDs (structs of two ints): a template. Laid at a seat by tools/lay-mapid.py. No statement is proved in this text.
  El: how elements are written and read. MapI: what stands in a map's block. RngI: a range over it, 'left' still to come. Each operation: an equation (look, at, put, drop, range, next), and a rule for the walk (wpList_.. and wpListIn_.. put_id, drop_id, drops_id, range_id, next_id).
-/
import Derived.Test.YtkoeplgkiogjlaaXAccG
import Derived.DeepKeys4
import Derived.Maps.OwnOps
import Derived.Maps.OwnSet
import Derived.Maps.Views
import Derived.Maps.RangeWalk
import Derived.Maps.OwnIn
import Derived.Sort.MapsRangeIn
import Derived.Laws.Externs
set_option maxRecDepth 20000
namespace Go.Proofs.Ytkoeplgkiogjlaa
open Go Go.RowKit Go.Maps
theorem laid : laidOutB Try.prog = true := by kernel_rfl
theorem row35 : (35 : TypeId) < Try.prog.types.size := of_decide_eq_true (by kernel_rfl)
theorem wide35 : (match Try.prog.underlying 35 with | some (.array _ _) | some (.struct _) => true | _ => false) = true := by rw [Try.underlying35]
theorem law35 : Go.WideMaps.KeyLaw Try.prog 35 := deep_law_laid laid (m := 2) (by omega) row35 (by kernel_rfl) wide35
theorem keyed35 : Keyed Try.prog 35 := Keyed.of_law law35
def idv (p : Int × Int) : Value := .agg #[.int .i64 p.1, .int .i64 p.2]
def idLit (p : Int × Int) : Lit := .string (keyBytes [.int .i64 p.1, .int .i64 p.2])
def In2 (p : Int × Int) : Prop := (-9223372036854775808 ≤ p.1 ∧ p.1 ≤ 9223372036854775807) ∧ (-9223372036854775808 ≤ p.2 ∧ p.2 ≤ 9223372036854775807)
theorem kt35 : Try.prog.keyType 35 = true := by kernel_rfl
theorem size' : Try.prog.types.size = 114 := by kernel_rfl
theorem lits3 {n : Nat} {x : Int} (h : -9223372036854775808 ≤ x ∧ x ≤ 9223372036854775807) : Try.prog.keyLits (n + 1) 3 [.int .i64 x] = some [.int .i64 x] := by
  have := WalkArith.wf_i64 h
  simp [Program.keyLits, Try.underlying3, this]
theorem lits3_inv {n : Nat} {v : Value} {l : List Lit} (h : Try.prog.keyLits (n + 1) 3 [v] = some l) : ∃ x : Int, (-9223372036854775808 ≤ x ∧ x ≤ 9223372036854775807) ∧ v = .int .i64 x ∧ l = [.int .i64 x] := by
  unfold Program.keyLits at h
  rw [Try.underlying3] at h
  cases v <;> simp at h
  obtain ⟨⟨rfl, h1⟩, rfl⟩ := h
  refine ⟨_, ?_, rfl, rfl⟩
  simp [Lit.wf, IntKind.min, IntKind.max, IntKind.signed, IntKind.bits] at h1
  exact h1
theorem cells3' : Try.prog.cellsOf 3 = 1 := by kernel_rfl
theorem cells35' : Try.prog.cellsOf 35 = 2 := by kernel_rfl
theorem key_id {p : Int × Int} (h : In2 p) : keyOf Try.prog 35 (idv p) = some (idLit p) := by
  unfold keyOf
  simp only [Try.underlying35]
  rw [if_pos (by rw [kt35]; simp [idv, Value.formed, Try.underlying35, cells35'])]
  unfold idLit idv
  unfold Program.keyLits
  simp [Try.underlying35, cells35', cells3', Value.cells, lits3 (n := 113) h.1, lits3 (n := 113) h.2]
theorem key_inv {v : Value} {l : Lit} (h : keyOf Try.prog 35 v = some l) : ∃ p, In2 p ∧ v = idv p ∧ l = idLit p := by
  unfold keyOf at h
  simp only [Try.underlying35] at h
  split at h
  · rename_i hc
    simp only [Bool.and_eq_true, Value.formed, Try.underlying35, cells35'] at hc
    cases v <;> simp at hc
    rename_i cs
    obtain ⟨_, hcs⟩ := hc
    obtain ⟨a, b, rfl⟩ : ∃ a b, cs = #[a, b] := by
      obtain ⟨l⟩ := cs
      match l, hcs with
      | [a, b], _ => exact ⟨a, b, rfl⟩
    unfold Program.keyLits at h
    simp [Try.underlying35, cells35', cells3', Value.cells] at h
    cases h1 : Try.prog.keyLits 114 3 [a] with
    | none => rw [h1] at h; cases h
    | some la =>
      cases h2 : Try.prog.keyLits 114 3 [b] with
      | none => rw [h1, h2] at h; cases h
      | some lb =>
        rw [h1, h2] at h
        obtain ⟨x, hx, rfl, rfl⟩ := lits3_inv (n := 113) h1
        obtain ⟨y, hy, rfl, rfl⟩ := lits3_inv (n := 113) h2
        simp at h
        exact ⟨(x, y), ⟨hx, hy⟩, rfl, h.symm⟩
  · cases h
theorem idLit_inj {p q : Int × Int} (hp : In2 p) (hq : In2 q) (h : idLit p = idLit q) : p = q := by
  have e := keyed35.inj (key_id hp) (by rw [h]; exact key_id hq)
  unfold idv at e
  simp at e
  exact Prod.ext e.1 e.2
theorem idLit_ne {p q : Int × Int} (hp : In2 p) (hq : In2 q) (h : p ≠ q) : idLit p ≠ idLit q := fun e => h (idLit_inj hp hq e)
theorem idLit_key (p : Int × Int) : WideAt.IsKeyLit (idLit p) := by unfold idLit; trivial
/-- How the elements of a map are written and read. -/
structure El (V : Type) where
  v : V → Value
  d : V → DataW Unit
  r : Value → Option (DataW Unit × List MemPlace)
  dinj : ∀ {x y}, d x = d y → x = y
  rv : ∀ x, r (v x) = some (d x, [])
  inv : ∀ {u z}, r u = some z → ∃ x, u = v x ∧ z = (d x, [])
section
variable {V : Type} {E : El V} {w : World} {b n : Nat} {M : Int × Int → Option V}
/-- Block b is a map of at most n entries, in which M stands. -/
def MapI (E : El V) (w : World) (b n : Nat) (M : Int × Int → Option V) : Prop :=
  ∃ D, w.ownsMap Try.prog 35 E.r b n D ∧ ∀ p, In2 p → (Maps.has D (idLit p) = (M p).isSome ∧ ∀ x, M p = some x → ∀ z, D.atKey (idLit p) z = E.d x)
def putI (M : Int × Int → Option V) (p : Int × Int) (x : Option V) : Int × Int → Option V := fun q => if q = p then x else M q
theorem putI_same (M : Int × Int → Option V) (p : Int × Int) (x : Option V) : putI M p x p = x := by simp [putI]
theorem putI_other (M : Int × Int → Option V) {p q : Int × Int} (x : Option V) (h : q ≠ p) : putI M p x q = M q := by simp [putI, h]
theorem MapI.made (E : El V) (w : World) : MapI E (w.alloc (.map #[] 0)) w.heap.size 0 (fun _ => none) :=
  ⟨_, World.ownsMap_made _ _ _ _, fun p _ => ⟨rfl, fun x h => by cases h⟩⟩
theorem MapI.lt (h : MapI E w b n M) : b < w.heap.size := by
  obtain ⟨D, h1, _⟩ := h
  exact h1.lt
theorem MapI.mono (h : MapI E w b n M) {k : Nat} (hk : n ≤ k) : MapI E w b k M := by
  obtain ⟨D, h1, h2⟩ := h
  exact ⟨D, h1.mono hk, h2⟩
theorem MapI.same {w' : World} (h : MapI E w b n M) (hb : w'.heap[b]? = w.heap[b]?) : MapI E w' b n M := by
  obtain ⟨D, ⟨es, clock, h1, h2⟩, h3⟩ := h
  exact ⟨D, ⟨es, clock, hb.trans h1, h2⟩, h3⟩
/-- x, ok := m[p] -/
theorem MapI.look {T e : TypeId} (h : MapI E w b n M) (ht : Try.prog.underlying T = some (.map 35 e)) {z : V} (hz : (zeroValue e).run Try.prog w = .ok (E.v z) w) {p : Int × Int} (hp : In2 p) :
    (Instr.lookup T (.map (some b)) (idv p) true).run Try.prog w = .ok (.tuple #[E.v ((M p).getD z), .bool (M p).isSome]) w := by
  obtain ⟨D, h1, h2⟩ := h
  obtain ⟨v, ps, hrun, hv⟩ := h1.look_ok keyed35 ht hz (E.rv z) (key_id hp)
  obtain ⟨k1, k2⟩ := h2 p hp
  rw [k1] at hrun
  obtain ⟨x, rfl, e⟩ := E.inv hv
  injection e with e
  rw [hrun]
  cases hM : M p with
  | none =>
    rw [hM] at k1
    rw [Maps.atKey_of_not_has k1] at e
    rw [E.dinj e]
    rfl
  | some y =>
    rw [k2 y hM] at e
    rw [E.dinj e]
    rfl
/-- m[p] -/
theorem MapI.at {T e : TypeId} (h : MapI E w b n M) (ht : Try.prog.underlying T = some (.map 35 e)) {z : V} (hz : (zeroValue e).run Try.prog w = .ok (E.v z) w) {p : Int × Int} (hp : In2 p) :
    (Instr.lookup T (.map (some b)) (idv p) false).run Try.prog w = .ok (E.v ((M p).getD z)) w := by
  obtain ⟨D, h1, h2⟩ := h
  obtain ⟨v, ps, hrun, hv⟩ := h1.lookup keyed35 ht hz (E.rv z) (key_id hp)
  obtain ⟨k1, k2⟩ := h2 p hp
  obtain ⟨x, rfl, e⟩ := E.inv hv
  injection e with e
  rw [hrun]
  cases hM : M p with
  | none =>
    rw [hM] at k1
    rw [Maps.atKey_of_not_has k1] at e
    rw [E.dinj e]
    rfl
  | some y =>
    rw [k2 y hM] at e
    rw [E.dinj e]
    rfl
/-- m[p] = x -/
theorem MapI.put {T e : TypeId} (h : MapI E w b n M) (ht : Try.prog.underlying T = some (.map 35 e)) (hn : n < maxLen) {p : Int × Int} (hp : In2 p) (x : V) :
    ∃ w', (Instr.mapUpdate T (.map (some b)) (idv p) (E.v x)).run Try.prog w = .ok () w' ∧ MapI E w' b (n + 1) (putI M p (some x)) ∧ w.mapTurned w' b := by
  obtain ⟨D, h1, h2⟩ := h
  have hm := h1.isMap
  obtain ⟨w', hrun, k1, k2⟩ := h1.store keyed35 ht hn (key_id hp) (E.rv x)
  refine ⟨w', hrun, ⟨_, k1, fun q hq => ?_⟩, k2⟩
  by_cases e : q = p
  · subst e
    rw [putI_same]
    refine ⟨Maps.has_put_same hm (idLit_key q) _, fun y hy z => ?_⟩
    injection hy with hy
    rw [Maps.atKey_put_same hm (idLit_key q), hy]
  · have hne := idLit_ne hq hp e
    rw [putI_other M _ e]
    refine ⟨(Maps.has_put_other hne _).trans (h2 q hq).1, fun y hy z => ?_⟩
    rw [Maps.atKey_put_other hne]
    exact (h2 q hq).2 y hy z
/-- delete(m, p) -/
theorem MapI.drop {T e : TypeId} (h : MapI E w b n M) (ht : Try.prog.underlying T = some (.map 35 e)) {p : Int × Int} (hp : In2 p) (ty : TypeId) :
    ∃ w', (Builtin.delete_ #[T, 35] ty #[.map (some b), idv p]).run Try.prog w = .ok (.tuple #[]) w' ∧ MapI E w' b n (putI M p none) ∧ w.mapTurned w' b := by
  obtain ⟨D, h1, h2⟩ := h
  obtain ⟨w', hrun, k1, k2⟩ := h1.drop keyed35 ht (key_id hp) ty
  refine ⟨w', hrun, ⟨_, k1, fun q hq => ?_⟩, k2⟩
  by_cases e : q = p
  · subst e
    rw [putI_same]
    exact ⟨Maps.has_del_same, fun y hy => by cases hy⟩
  · have hne := idLit_ne hq hp e
    rw [putI_other M _ e]
    refine ⟨(Maps.has_del_other hne).trans (h2 q hq).1, fun y hy z => ?_⟩
    rw [Maps.atKey_del_other hne]
    exact (h2 q hq).2 y hy z
/-- A range over the map of block b, in block r: 'left' are still to come. -/
def RngI (E : El V) (w : World) (b r n : Nat) (M : Int × Int → Option V) (left : Int × Int → Bool) (cnt : Nat) : Prop :=
  ∃ D lf, w.ranges Try.prog 35 E.r b r n D lf cnt ∧ (∀ p, In2 p → (Maps.has D (idLit p) = (M p).isSome ∧ ∀ x, M p = some x → ∀ z, D.atKey (idLit p) z = E.d x)) ∧ ∀ p, In2 p → lf (idLit p) = left p
variable {r cnt : Nat} {left : Int × Int → Bool}
theorem RngI.map (h : RngI E w b r n M left cnt) : MapI E w b n M := by
  obtain ⟨D, lf, h1, h2, _⟩ := h
  exact ⟨D, h1.owns, h2⟩
theorem RngI.kept {w' : World} {row : Option Nat} (h : RngI E w b r n M left cnt) (hg : w.grownBy w' row) (hb : some b ≠ row) (hr : some r ≠ row) : RngI E w' b r n M left cnt := by
  obtain ⟨D, lf, h1, h2⟩ := h
  exact ⟨D, lf, h1.kept hg hb hr, h2⟩
/-- for p := range m: the beginning -/
theorem MapI.range {T e : TypeId} (h : MapI E w b n M) (ht : Try.prog.underlying T = some (.map 35 e)) :
    ∃ w' c, (Instr.range T (.map (some b))).run Try.prog w = .ok (.pointer (some ⟨w.heap.size, 0, none⟩)) w' ∧ RngI E w' b w.heap.size n M (fun p => (M p).isSome) c ∧ c ≤ n ∧ w.grownBy w' none ∧ w'.heap.size = w.heap.size + 1 := by
  obtain ⟨D, h1, h2⟩ := h
  have hs := h1.size_le
  obtain ⟨w', hrun, k1, k2, k3⟩ := h1.range keyed35 ht
  exact ⟨w', _, hrun, ⟨D, _, k1, h2, fun p hp => (h2 p hp).1⟩, hs, k2, k3⟩
def offI (left : Int × Int → Bool) (p : Int × Int) : Int × Int → Bool := fun q => left q && !decide (q = p)
theorem sameKey_id {p q : Int × Int} (hp : In2 p) (hq : In2 q) : (idLit q).sameKey (idLit p) = decide (q = p) := by
  by_cases e : q = p
  · subst e
    simp [WideAt.sameKey_self (idLit_key q)]
  · rw [Maps.sameKey_ne (idLit_ne hq hp e)]
    simp [e]
/-- Its next one: none is left, or p is, whatever M says of it. -/
theorem RngI.next (h : RngI E w b r n M left cnt) (ty : TypeId) :
    (cnt = 0 ∧ (∀ p, In2 p → left p = false) ∧ (Instr.next (.pointer (some ⟨r, 0, none⟩)) false ty).run Try.prog w = .ok (.tuple #[.bool false]) w) ∨
    ∃ p x w' c, In2 p ∧ left p = true ∧ M p = some x ∧ (Instr.next (.pointer (some ⟨r, 0, none⟩)) false ty).run Try.prog w = .ok (.tuple #[.bool true, idv p, E.v x]) w' ∧
      RngI E w' b r n M (offI left p) c ∧ c < cnt ∧ w.grownBy w' (some r) ∧ w'.heap.size = w.heap.size ∧ (Instr.entry (.pointer (some ⟨r, 0, none⟩))).run Try.prog w' = .ok (.tuple #[idv p, E.v x]) w' := by
  obtain ⟨D, lf, h1, h2, h3⟩ := h
  rcases h1.next keyed35 ty with ⟨k0, k1, k2⟩ | ⟨key, v, kl, y, w', c, k1, k2, k3, k4, k5, k6, k7, k8, k9, k10⟩
  · exact .inl ⟨k0, fun p hp => (h3 p hp).symm.trans (k1 _), k2⟩
  · obtain ⟨p, hp, rfl, rfl⟩ := key_inv k1
    obtain ⟨x, rfl, e⟩ := E.inv k3
    have hM : M p = some x := by
      have hh : Maps.has D (idLit p) = true := Maps.has_true_of_atKey k4
      obtain ⟨j1, j2⟩ := h2 p hp
      rw [hh] at j1
      cases hM : M p with
      | none => rw [hM] at j1; cases j1
      | some y =>
        have := j2 y hM (E.d x)
        rw [k4, e] at this
        rw [E.dinj this]
    refine .inr ⟨p, x, w', c, hp, (h3 p hp).symm.trans k2, hM, k5, ⟨D, _, k6, h2, fun q hq => ?_⟩, k7, k8, k9, k10⟩
    simp only [offI, h3 q hq, sameKey_id hp hq]
/-- delete(m, p) in it -/
theorem RngI.drop {T e : TypeId} (h : RngI E w b r n M left cnt) (ht : Try.prog.underlying T = some (.map 35 e)) {p : Int × Int} (hp : In2 p) (ty : TypeId) :
    ∃ w' c, (Builtin.delete_ #[T, 35] ty #[.map (some b), idv p]).run Try.prog w = .ok (.tuple #[]) w' ∧ RngI E w' b r n (putI M p none) (offI left p) c ∧ c ≤ cnt ∧ w.mapTurned w' b := by
  obtain ⟨D, lf, h1, h2, h3⟩ := h
  obtain ⟨w', c, hrun, k1, k2, k3⟩ := h1.drop keyed35 ht (key_id hp) ty
  refine ⟨w', c, hrun, ⟨_, _, k1, fun q hq => ?_, fun q hq => ?_⟩, k2, k3⟩
  · by_cases e : q = p
    · subst e
      rw [putI_same]
      exact ⟨Maps.has_del_same, fun y hy => by cases hy⟩
    · have hne := idLit_ne hq hp e
      rw [putI_other M _ e]
      refine ⟨(Maps.has_del_other hne).trans (h2 q hq).1, fun y hy z => ?_⟩
      rw [Maps.atKey_del_other hne]
      exact (h2 q hq).2 y hy z
  · simp only [offI, h3 q hq, sameKey_id hp hq]
end
section
variable {V : Type} {E : El V} {b n r cnt : Nat} {M : Int × Int → Option V} {left : Int × Int → Bool} {T e : TypeId}
theorem wpList_put_id (w : World) {ops : Array Oper} {rest : List Oper} {o : Oper} {a : Act} {Q : Exit → Act → World → Prop} (hg : o.guard = none) (m x v : Operand) (hop : o.op = Op.mapUpdate T m x v)
    (ht : Try.prog.underlying T = some (.map 35 e)) (h : MapI E w b n M) (hn : n < maxLen) {p : Int × Int} (hp : In2 p) (c : V) (hm : a.eval m = .map (some b)) (hx : a.eval x = idv p) (hv : a.eval v = E.v c)
    (hK : ∀ w', MapI E w' b (n + 1) (putI M p (some c)) → w.mapTurned w' b → wpList Try.prog ops Q rest (a.put o.dst undef) w') :
    wpList Try.prog ops Q (o :: rest) a w := by
  refine wpList_plain hg fun K' hK' => ?_
  unfold Oper.wp
  obtain ⟨w', hrun, r1, r2⟩ := h.put ht hn hp c
  simp [execOp, hop, hm, hx, hv, hrun, Result.andThen]
  exact hK' _ _ (hK w' r1 r2)
theorem wpList_drop_id (w : World) {ops : Array Oper} {rest : List Oper} {o : Oper} {a : Act} {Q : Exit → Act → World → Prop} (hg : o.guard = none) (m x : Operand) (hop : o.op = Op.call { callee := Callee.builtin Builtin.delete, args := #[m, x], argTypes := #[T, 35] })
    (ht : Try.prog.underlying T = some (.map 35 e)) (h : MapI E w b n M) {p : Int × Int} (hp : In2 p) (hm : a.eval m = .map (some b)) (hx : a.eval x = idv p)
    (hK : ∀ w', MapI E w' b n (putI M p none) → w.mapTurned w' b → wpList Try.prog ops Q rest (a.put o.dst (.tuple #[])) w') :
    wpList Try.prog ops Q (o :: rest) a w := by
  refine wpList_plain hg fun K' hK' => ?_
  unfold Oper.wp
  obtain ⟨w', hrun, r1, r2⟩ := h.drop ht hp o.type
  simp [execOp, hop, resolve, invoke, builtin, hm, hx, hrun, Result.andThen]
  exact hK' _ _ (hK w' r1 r2)
theorem wpList_drops_id (w : World) {ops : Array Oper} {rest : List Oper} {o : Oper} {a : Act} {Q : Exit → Act → World → Prop} (hg : o.guard = none) (m x : Operand) (hop : o.op = Op.call { callee := Callee.builtin Builtin.delete, args := #[m, x], argTypes := #[T, 35] })
    (ht : Try.prog.underlying T = some (.map 35 e)) (h : RngI E w b r n M left cnt) {p : Int × Int} (hp : In2 p) (hm : a.eval m = .map (some b)) (hx : a.eval x = idv p)
    (hK : ∀ w' c, RngI E w' b r n (putI M p none) (offI left p) c → c ≤ cnt → w.mapTurned w' b → wpList Try.prog ops Q rest (a.put o.dst (.tuple #[])) w') :
    wpList Try.prog ops Q (o :: rest) a w := by
  refine wpList_plain hg fun K' hK' => ?_
  unfold Oper.wp
  obtain ⟨w', c, hrun, r1, r2, r3⟩ := h.drop ht hp o.type
  simp [execOp, hop, resolve, invoke, builtin, hm, hx, hrun, Result.andThen]
  exact hK' _ _ (hK w' c r1 r2 r3)
theorem wpList_range_id (w : World) {ops : Array Oper} {rest : List Oper} {o : Oper} {a : Act} {Q : Exit → Act → World → Prop} (hg : o.guard = none) (m : Operand) (hop : o.op = Op.range T m)
    (ht : Try.prog.underlying T = some (.map 35 e)) (h : MapI E w b n M) (hm : a.eval m = .map (some b))
    (hK : ∀ w' c, RngI E w' b w.heap.size n M (fun p => (M p).isSome) c → c ≤ n → w.grownBy w' none → w'.heap.size = w.heap.size + 1 → wpList Try.prog ops Q rest (a.put o.dst (.pointer (some ⟨w.heap.size, 0, none⟩))) w') :
    wpList Try.prog ops Q (o :: rest) a w := by
  refine wpList_plain hg fun K' hK' => ?_
  unfold Oper.wp
  obtain ⟨w', c, hrun, r1, r2, r3, r4⟩ := h.range ht
  simp [execOp, hop, hm, hrun, Result.andThen]
  exact hK' _ _ (hK w' c r1 r2 r3 r4)
theorem wpList_next_id (w : World) {ops : Array Oper} {rest : List Oper} {o : Oper} {a : Act} {Q : Exit → Act → World → Prop} (hg : o.guard = none) (it : Operand) (hop : o.op = Op.next it false)
    (h : RngI E w b r n M left cnt) (hit : a.eval it = .pointer (some ⟨r, 0, none⟩))
    (hDone : cnt = 0 → (∀ p, In2 p → left p = false) → wpList Try.prog ops Q rest (a.put o.dst (.tuple #[.bool false])) w)
    (hMore : ∀ (p : Int × Int) (x : V) (w' : World) (c : Nat), In2 p → left p = true → M p = some x → RngI E w' b r n M (offI left p) c → c < cnt → w.grownBy w' (some r) → w'.heap.size = w.heap.size →
      (Instr.entry (.pointer (some ⟨r, 0, none⟩))).run Try.prog w' = .ok (.tuple #[idv p, E.v x]) w' → wpList Try.prog ops Q rest (a.put o.dst (.tuple #[.bool true, idv p, E.v x])) w') :
    wpList Try.prog ops Q (o :: rest) a w := by
  refine wpList_plain hg fun K' hK' => ?_
  unfold Oper.wp
  rcases h.next o.type with ⟨h0, hl, hrun⟩ | ⟨p, x, w', c, hp, hl, hM, hrun, r1, r2, r3, r4, r5⟩
  · simp [execOp, hop, hit, hrun, Result.andThen]
    exact hK' _ _ (hDone h0 hl)
  · simp [execOp, hop, hit, hrun, Result.andThen]
    exact hK' _ _ (hMore p x w' c hp hl hM r1 r2 r3 r4 r5)
variable {F : Fence} {nF : Nat}
theorem wpListIn_put_id (w : World) {ops : Array Oper} {rest : List Oper} {o : Oper} {a : Act} {Q : Exit → Act → World → Prop} (hg : o.guard = none) (m x v : Operand) (hop : o.op = Op.mapUpdate T m x v)
    (ht : Try.prog.underlying T = some (.map 35 e)) (h : MapI E w b n M) (hn : n < maxLen) {p : Int × Int} (hp : In2 p) (c : V) (hm : a.eval m = .map (some b)) (hx : a.eval x = idv p) (hv : a.eval v = E.v c)
    (hK : ∀ w', MapI E w' b (n + 1) (putI M p (some c)) → w.mapTurned w' b → wpListIn F nF Try.prog ops Q rest (a.put o.dst undef) w') :
    wpListIn F nF Try.prog ops Q (o :: rest) a w := by
  refine wpListIn_plain hg fun K' hK' => ?_
  unfold Oper.wpIn
  refine ⟨by simp [Oper.about, hop], ?_⟩
  rw [Oper.semAt_plain F _ _ (by rw [hop]; intro c hc'; cases hc')]
  obtain ⟨w', hrun, r1, r2⟩ := h.put ht hn hp c
  simp [execOp, hop, hm, hx, hv, hrun, Result.andThen]
  exact hK' _ _ (hK w' r1 r2)
theorem wpListIn_drop_id (w : World) {ops : Array Oper} {rest : List Oper} {o : Oper} {a : Act} {Q : Exit → Act → World → Prop} (hg : o.guard = none) (m x : Operand) (hop : o.op = Op.call { callee := Callee.builtin Builtin.delete, args := #[m, x], argTypes := #[T, 35] })
    (ht : Try.prog.underlying T = some (.map 35 e)) (h : MapI E w b n M) {p : Int × Int} (hp : In2 p) (hm : a.eval m = .map (some b)) (hx : a.eval x = idv p)
    (hK : ∀ w', MapI E w' b n (putI M p none) → w.mapTurned w' b → wpListIn F nF Try.prog ops Q rest (a.put o.dst (.tuple #[])) w') :
    wpListIn F nF Try.prog ops Q (o :: rest) a w := by
  refine wpListIn_plain hg fun K' hK' => ?_
  unfold Oper.wpIn
  refine ⟨by simp [Oper.about, hop, resolve, Target.leads, Sem.run_pure], ?_⟩
  rw [Oper.semAt_plain F _ _ (by rw [hop]; intro c hc'; cases hc')]
  obtain ⟨w', hrun, r1, r2⟩ := h.drop ht hp o.type
  simp [execOp, hop, resolve, invoke, builtin, hm, hx, hrun, Result.andThen]
  exact hK' _ _ (hK w' r1 r2)
theorem wpListIn_drops_id (w : World) {ops : Array Oper} {rest : List Oper} {o : Oper} {a : Act} {Q : Exit → Act → World → Prop} (hg : o.guard = none) (m x : Operand) (hop : o.op = Op.call { callee := Callee.builtin Builtin.delete, args := #[m, x], argTypes := #[T, 35] })
    (ht : Try.prog.underlying T = some (.map 35 e)) (h : RngI E w b r n M left cnt) {p : Int × Int} (hp : In2 p) (hm : a.eval m = .map (some b)) (hx : a.eval x = idv p)
    (hK : ∀ w' c, RngI E w' b r n (putI M p none) (offI left p) c → c ≤ cnt → w.mapTurned w' b → wpListIn F nF Try.prog ops Q rest (a.put o.dst (.tuple #[])) w') :
    wpListIn F nF Try.prog ops Q (o :: rest) a w := by
  refine wpListIn_plain hg fun K' hK' => ?_
  unfold Oper.wpIn
  refine ⟨by simp [Oper.about, hop, resolve, Target.leads, Sem.run_pure], ?_⟩
  rw [Oper.semAt_plain F _ _ (by rw [hop]; intro c hc'; cases hc')]
  obtain ⟨w', c, hrun, r1, r2, r3⟩ := h.drop ht hp o.type
  simp [execOp, hop, resolve, invoke, builtin, hm, hx, hrun, Result.andThen]
  exact hK' _ _ (hK w' c r1 r2 r3)
theorem wpListIn_range_id (w : World) {ops : Array Oper} {rest : List Oper} {o : Oper} {a : Act} {Q : Exit → Act → World → Prop} (hg : o.guard = none) (m : Operand) (hop : o.op = Op.range T m)
    (ht : Try.prog.underlying T = some (.map 35 e)) (h : MapI E w b n M) (hm : a.eval m = .map (some b))
    (hK : ∀ w' c, RngI E w' b w.heap.size n M (fun p => (M p).isSome) c → c ≤ n → w.grownBy w' none → w'.heap.size = w.heap.size + 1 → wpListIn F nF Try.prog ops Q rest (a.put o.dst (.pointer (some ⟨w.heap.size, 0, none⟩))) w') :
    wpListIn F nF Try.prog ops Q (o :: rest) a w := by
  refine wpListIn_plain hg fun K' hK' => ?_
  unfold Oper.wpIn
  refine ⟨by simp [Oper.about, hop], ?_⟩
  rw [Oper.semAt_plain F _ _ (by rw [hop]; intro c hc'; cases hc')]
  obtain ⟨w', c, hrun, r1, r2, r3, r4⟩ := h.range ht
  simp [execOp, hop, hm, hrun, Result.andThen]
  exact hK' _ _ (hK w' c r1 r2 r3 r4)
theorem wpListIn_next_id (w : World) {ops : Array Oper} {rest : List Oper} {o : Oper} {a : Act} {Q : Exit → Act → World → Prop} (hg : o.guard = none) (it : Operand) (hop : o.op = Op.next it false)
    (h : RngI E w b r n M left cnt) (hit : a.eval it = .pointer (some ⟨r, 0, none⟩))
    (hDone : cnt = 0 → (∀ p, In2 p → left p = false) → wpListIn F nF Try.prog ops Q rest (a.put o.dst (.tuple #[.bool false])) w)
    (hMore : ∀ (p : Int × Int) (x : V) (w' : World) (c : Nat), In2 p → left p = true → M p = some x → RngI E w' b r n M (offI left p) c → c < cnt → w.grownBy w' (some r) → w'.heap.size = w.heap.size →
      (Instr.entry (.pointer (some ⟨r, 0, none⟩))).run Try.prog w' = .ok (.tuple #[idv p, E.v x]) w' → wpListIn F nF Try.prog ops Q rest (a.put o.dst (.tuple #[.bool true, idv p, E.v x])) w') :
    wpListIn F nF Try.prog ops Q (o :: rest) a w := by
  refine wpListIn_plain hg fun K' hK' => ?_
  unfold Oper.wpIn
  refine ⟨by simp [Oper.about, hop], ?_⟩
  rw [Oper.semAt_plain F _ _ (by rw [hop]; intro c hc'; cases hc')]
  rcases h.next o.type with ⟨h0, hl, hrun⟩ | ⟨p, x, w', c, hp, hl, hM, hrun, r1, r2, r3, r4, r5⟩
  · simp [execOp, hop, hit, hrun, Result.andThen]
    exact hK' _ _ (hDone h0 hl)
  · simp [execOp, hop, hit, hrun, Result.andThen]
    exact hK' _ _ (hMore p x w' c hp hl hM r1 r2 r3 r4 r5)
end
end Go.Proofs.Ytkoeplgkiogjlaa
