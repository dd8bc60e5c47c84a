/-
  Walks over the code of package code: what its functions that write bytes return. No statement is proved in this text; it holds for every input that its premises let by.
-/
import Derived.Test.YtmmpnnpkfghhcaaRows
import Derived.Test.YtmmpnnpkfghhcaaMath
import Derived.WalkKit
import Derived.WalkSpells
import Derived.WalkLawsBesides
import Derived.OwnWalk
import Derived.Deep.AppendLies
import Derived.Outline
import Derived.IntWalk
import Derived.Deep.LoopGhost
import Derived.Handy
import Derived.Lib.Hide
namespace Go.Proofs.Ytmmpnnpkfghhcaa
open Go.RowKit
theorem info5 : (Try.prog.info? 5).map (fun i => (i.zero, i.size, i.bytes)) = some (some (.int .u8 0), 1, 1) := by kernel_rfl
theorem ret_int {k : IntKind} {a b : Int} (h : a = b) : Ending.returned (.int k a) = .returned (.int k b) := by rw [h]
/-- Bytes as they lie in memory. -/
def bts (l : List UInt8) : List Value := l.map fun c => .int .u8 (c.toNat : Int)
theorem bts_append (a b : List UInt8) : bts (a ++ b) = bts a ++ bts b := by simp [bts]
/-- The slice v is the call's own, and holds the bytes l. -/
def Owns (w : World) (base : Nat) (v : Value) (l : List UInt8) : Prop := w.ownsRow base 5 1 v l.length (bts l)
theorem owns_nil (w : World) (base : Nat) : Owns w base (.slice none 0 0) [] := World.ownsRow_nil w base 5 1
theorem owns_more {w : World} {base n : Nat} {v : Value} {l : List UInt8} {b : UInt8} {x : Int} (h : w.ownsRow base 5 1 v n (bts l ++ [.int .u8 x])) (hn : n = l.length + 1) (hx : x = (b.toNat : Int)) : Owns w base v (l ++ [b]) := by
  unfold Owns
  rw [bts_append, List.length_append]
  subst hn hx
  exact h
theorem Owns.below {w w' : World} {base : Nat} {v : Value} {l : List UInt8} (h : Owns w base v l) (hb : Below w.heap.size w w') : Owns w' base v l :=
  World.ownsRow.kept h ⟨hb.os, hb.tape, hb.output, hb.size, fun k hk _ => hb.block k hk⟩ (row := none) (by cases hv : v.ownBlock <;> simp)
/-- From world w, slice v, to world w', slice v': but for new blocks nothing was written but v's own block, and v' lies there, or in a new one. -/
structure Wrote (w : World) (v : Value) (w' : World) (v' : Value) : Prop where
  grown : w.grownBy w' v.ownBlock
  lies : v'.ownBlock = v.ownBlock ∨ ∃ g, v'.ownBlock = some g ∧ w.heap.size ≤ g
theorem Wrote.refl (w : World) (v : Value) : Wrote w v w v := ⟨⟨rfl, rfl, rfl, Nat.le_refl _, fun _ _ _ => rfl⟩, .inl rfl⟩
theorem Wrote.trans {w w1 w2 : World} {v v1 v2 : Value} (h : Wrote w v w1 v1) (k : Wrote w1 v1 w2 v2) : Wrote w v w2 v2 := by
  refine ⟨⟨k.grown.os.trans h.grown.os, k.grown.tape.trans h.grown.tape, k.grown.output.trans h.grown.output, Nat.le_trans h.grown.size k.grown.size, fun i hi hne => ?_⟩, ?_⟩
  · rw [k.grown.block i (Nat.lt_of_lt_of_le hi h.grown.size) ?_, h.grown.block i hi hne]
    rcases h.lies with e | ⟨g, e, hg⟩
    · rw [e]; exact hne
    · rw [e]; intro e2; injection e2; omega
  · rcases k.lies with e | ⟨g, e, hg⟩
    · rcases h.lies with e2 | ⟨g, e2, hg⟩
      · exact .inl (e.trans e2)
      · exact .inr ⟨g, e.trans e2, hg⟩
    · exact .inr ⟨g, e, Nat.le_trans h.grown.size hg⟩
theorem Wrote.below {w w' : World} {v v' : Value} {base n : Nat} {xs : List Value} (h : Wrote w v w' v') (ho : w.ownsRow base 5 1 v n xs) (hb : base ≤ w.heap.size) : Below base w w' :=
  (Below.refl base w).grown h.grown hb fun k hk => (World.ownsRow.lt ho k hk).1
/-- append of one byte that has just been put into a row of its own. -/
theorem wpList_push {ops : Array Oper} {rest : List Oper} {o : Oper} {a : Act} {Q : Exit → Act → World → Prop} (hgd : o.guard = none) (s x : Operand)
    (ho : o.op = .call { callee := .builtin .append, args := #[s, x], argTypes := #[51, 51] })
    (wr : World) (base : Nat) (v : Value) (l : List UInt8) (b : UInt8) (y : Int) (hs : a.eval s = v) (hx : a.eval x = .slice (some ⟨wr.heap.size, 0, none⟩) 1 1)
    (hown : Owns wr base v l) (hy : y = (b.toNat : Int)) (hl : l.length ≤ 100000) (hb : base ≤ wr.heap.size)
    (h : ∀ v' w', Owns w' base v' (l ++ [b]) → Wrote wr v w' v' → wpList Try.prog ops Q rest (a.put o.dst v') w') :
    wpList Try.prog ops Q (o :: rest) a (wr.alloc (.cells #[.int .u8 y] 5)) := by
  obtain ⟨i0, hi, hz0, hz1, hz2⟩ := info_parts info5
  have hown1 : (wr.alloc (.cells #[.int .u8 y] 5)).ownsRow base 5 1 v l.length (bts l) := World.ownsRow.alloc hown _
  refine wpList_append_lies _ hgd s x 51 ho base 5 i0 (.int .u8 0) 1 1 Try.underlying51 hi hz0 hz1 hz2 rfl (by decide) v l.length (bts l) hs hown1 ⟨wr.heap.size, 0, none⟩ 1 1 [.int .u8 y] hx rfl
    (fun j u hu => ?_) (by simp [Value.oneCell']) (by decide) (by unfold maxLen; omega) (by omega) (by simp; omega) _ rfl ?_
  · cases j with
    | zero =>
      simp at hu
      subst hu
      show (wr.alloc (.cells #[.int .u8 y] 5)).cell? ⟨wr.heap.size, 0, none⟩ = _
      rw [cell_of_row _ _ 0 _ _ _ (heap_alloc_new wr _)]
      rfl
    | succ j => simp at hu
  · intro g cap w' h1 h2 h3 _
    refine h _ w' (owns_more h1 rfl hy) ⟨⟨h2.os, h2.tape, h2.output, by have := h2.size; simp at this; omega, fun k hk hne => (h2.block k (by simp; omega) hne).trans (Below.heap_alloc wr _ k hk)⟩, ?_⟩
    rcases h3 with e | e
    · exact .inl e.symm
    · exact .inr ⟨g, rfl, by rw [e]; simp⟩
/-- What addNum leaves. -/
def Added (base : Nat) (v : Value) (l : List UInt8) (w : World) (e : Ending) (w' : World) : Prop := ∃ v', e = .returned v' ∧ Owns w' base v' l ∧ Wrote w v w' v'
theorem byte_lo (m : Nat) (h : m < 128) : (m : Int) = ((UInt8.ofNat m).toNat : Int) := by rw [UInt8.toNat_ofNat']; omega
theorem byte_hi (m : Nat) : (m : Int) % 128 + 128 = ((UInt8.ofNat (m % 128 + 128)).toNat : Int) := by rw [UInt8.toNat_ofNat']; omega
set_option maxHeartbeats 400000 in
theorem addNum_any (base : Nat) (v : Value) (l : List UInt8) (n : Nat) (w : World) (hown : Owns w base v l) (hb : base ≤ w.heap.size) (hl : l.length ≤ 2000) (hn : n ≤ 1099511627776) :
    Calls Try.prog 22 #[v, .int .i64 n] w (Added base v (l ++ Code.enc n) w) := by
  go_enter Try.func22, Try.ntmps22
  go_wp2
  go_loopw [0, 1] (fun s0 s1 wr => ∃ (f m : Nat) (xs : List UInt8), f ≤ 5 ∧ m < 128 ^ (f + 1) ∧ xs.length + f ≤ l.length + 5 ∧ s1 = .int .i64 m ∧ xs ++ Code.encF f m = l ++ Code.enc n ∧ Owns wr base s0 xs ∧ Wrote w v wr s0) (fun _ s1 _ => (intOf s1).toNat)
  case atStart => exact ⟨5, n, l, by omega, by omega, by omega, rfl, rfl, hown, Wrote.refl _ _⟩
  case round =>
    obtain ⟨f, m, xs, hf, hm, hx, rfl, he, ho, hw⟩ := hrel
    have HE := Lib.hid he
    have HO := Lib.hid ho
    have HW := Lib.hid hw
    have HM := Lib.hid hm
    have HB := Lib.hid (Nat.le_trans hb hw.grown.size)
    have hm2 : m ≤ 4398046511104 := by
      have : 128 ^ (f + 1) ≤ 128 ^ 6 := Nat.pow_le_pow_right (by omega) (by omega)
      omega
    clear he ho hw hm hown hb
    by_cases hlt : m < 128
    · have hd : decide ((128 : Int) ≤ (m : Int)) = false := by simp; omega
      go_wp2_with (at_builtin; refine wpList_push rfl (.tmp 16) (.tmp 19) rfl wr base u0 xs (UInt8.ofNat m) _ rfl rfl HO.out (byte_lo m hlt) (by omega) HB.out ?_; intro v' w' h1 h2)
      go_ret
      exact ⟨v', rfl, by rw [← HE.out, Code.encF_lo _ _ hlt]; exact h1, HW.out.trans h2⟩
    · have hd : decide ((128 : Int) ≤ (m : Int)) = true := by simp; omega
      have HF : Hid (∃ g, f = g + 1) := Lib.hid (by
        cases f with
        | zero => exact absurd HM.out (by omega)
        | succ g => exact ⟨g, rfl⟩)
      go_wp2_with (at_builtin; refine wpList_push rfl (.tmp 7) (.tmp 12) rfl wr base u0 xs (UInt8.ofNat (m % 128 + 128)) _ rfl rfl HO.out (byte_hi m) (by omega) HB.out ?_; intro v' w' h1 h2)
      obtain ⟨g, rfl⟩ := HF.out
      have h3 := HE.out
      rw [Code.encF_hi _ _ hlt] at h3
      go_roundw
      case rel => exact ⟨g, m / 128, xs ++ [UInt8.ofNat (m % 128 + 128)], by omega, by have := HM.out; rw [Nat.pow_succ] at this; omega, by simp; omega, by go_num, by rw [← h3]; simp, h1, HW.out.trans h2⟩
      case measure => simp [intOf]; omega
/-- The bytes of a number that came as an Int. -/
def encI (n : Int) : List UInt8 := Code.enc n.toNat
theorem encI_len (n : Int) : 1 ≤ (encI n).length ∧ (encI n).length ≤ 6 := Code.enc_len _
theorem addNum_int (base : Nat) (v : Value) (l : List UInt8) (n : Int) (w : World) (hown : Owns w base v l) (hb : base ≤ w.heap.size) (hl : l.length ≤ 2000) (h0 : 0 ≤ n) (hn : n ≤ 1099511627776) :
    Calls Try.prog 22 #[v, .int .i64 n] w (Added base v (l ++ encI n) w) := by
  obtain ⟨m, rfl⟩ := Int.eq_ofNat_of_zero_le h0
  unfold encI
  rw [Int.toNat_natCast]
  exact addNum_any base v l m w hown hb hl (by omega)
end Go.Proofs.Ytmmpnnpkfghhcaa
