/-
  Walks over package stage, continued: bytes in memory; Next, and a copy of a path. No statement is proved in this text; it holds for every input that its premises let by.
-/
import Derived.Test.YtjgapjbaidgolaaDoorWalksA
import Derived.OwnWalk
import Derived.Deep.AppendLies
import Derived.Laws.AppendOwnNone
import Derived.Lib.ConvBytes
import Derived.Laws.BytesArg
namespace Go.Proofs.YtjgapjbaidgolaaDoor
open Go.RowKit
theorem info5 : (Tryd.prog.info? 5).map (fun i => (i.zero, i.size, i.bytes)) = some (some (.int .u8 0), 1, 1) := by kernel_rfl
/-- Bytes as they lie in memory. -/
def bts (l : List Nat) : List Value := l.map fun c : Nat => .int .u8 (c : Int)
theorem bts_append (a b : List Nat) : bts (a ++ b) = bts a ++ bts b := by simp [bts]
theorem bts_len (l : List Nat) : (bts l).length = l.length := by simp [bts]
theorem bts_at {l : List Nat} {j : Nat} {u : Value} (h : (bts l)[j]? = some u) : ∃ hj : j < l.length, u = .int .u8 (l[j] : Int) := by
  unfold bts at h
  rw [List.getElem?_map] at h
  obtain ⟨x, hx, rfl⟩ := Option.map_eq_some_iff.1 h
  obtain ⟨hj, rfl⟩ := List.getElem?_eq_some_iff.1 hx
  exact ⟨hj, rfl⟩
/-- The slice v lies at the head of a row of bytes from block base on, and holds the bytes l. -/
def Owns (w : World) (base : Nat) (v : Value) (l : List Nat) : Prop := w.ownsRow base 5 1 v l.length (bts l)
theorem owns_nil (w : World) (base : Nat) : Owns w base (.slice none 0 0) [] := World.ownsRow_nil w base 5 1
theorem Owns.below {w w' : World} {base : Nat} {v : Value} {l : List Nat} (h : Owns w base v l) (hb : Below w.heap.size w w') : Owns w' base v l :=
  World.ownsRow.kept h ⟨hb.os, hb.tape, hb.output, hb.size, fun k hk _ => hb.block k hk⟩ (row := none) (by cases hv : v.ownBlock <;> simp)
theorem row_mono {w : World} {b c : Nat} {e : TypeId} {s n : Nat} {v : Value} {xs : List Value} (h : w.ownsRow b e s v n xs) (hc : c ≤ b) : w.ownsRow c e s v n xs := by
  refine ⟨h.1, ?_⟩
  rcases h.2 with h1 | ⟨g, cap, cur, h1, h2, h3⟩
  · exact .inl h1
  · exact .inr ⟨g, cap, cur, h1, Nat.le_trans hc h2, h3⟩
theorem Owns.mono {w : World} {b c : Nat} {v : Value} {l : List Nat} (h : Owns w b v l) (hc : c ≤ b) : Owns w c v l := row_mono h hc
theorem owns_split {w : World} {base n : Nat} {e : TypeId} {s : Nat} {v : Value} {xs : List Value} (h : w.ownsRow base e s v n xs) : (v = .slice none 0 0 ∧ n = 0) ∨ ∃ g cap, v = .slice (some ⟨g, 0, none⟩) n cap ∧ base ≤ g ∧ g < w.heap.size ∧ n ≤ cap := by
  rcases id h.2 with h1 | ⟨g, cap, cur, h1, h2, _, hn, _⟩
  · exact .inl h1
  · exact .inr ⟨g, cap, h1, h2, (World.ownsRow.lt h g (by rw [h1]; rfl)).2, hn⟩
theorem add_zero_block (g k : Nat) : (⟨g, 0, none⟩ : Addr).add k = ⟨g, k, none⟩ := by unfold Addr.add; split <;> simp_all
theorem owns_cell {w : World} {base : Nat} {v : Value} {l : List Nat} (h : Owns w base v l) {g : Nat} (hg : v.ownBlock = some g) {k : Nat} (hk : k < l.length) : w.cell? ⟨g, k, none⟩ = some (.int .u8 (l[k] : Int)) := by
  have := World.ownsRow.cells h (g := g) hg k (.int .u8 (l[k] : Int)) (by simp [bts, hk])
  rwa [add_zero_block] at this
/-- A text of bytes. -/
def txt (l : List Nat) : ByteArray := strOfNums (l.map fun c : Nat => (c : Int))
/-- What bytes are as a text. -/
theorem owns_text {w : World} {base : Nat} {v : Value} {l : List Nat} (h : Owns w base v l) : (convert 27 9 v).run Tryd.prog w = .ok (.string (txt l)) w := by
  rcases owns_split h with ⟨rfl, hn⟩ | ⟨g, cap, rfl, _, hg, hc⟩
  · obtain rfl : l = [] := List.eq_nil_of_length_eq_zero hn
    exact run_convert_bytes_nil (P := Tryd.prog) w 27 5 Tryd.underlying27 Tryd.underlying5 0 0 9 Tryd.underlying9
  · exact run_convert_bytes_arg (P := Tryd.prog) w 27 5 Tryd.underlying27 Tryd.underlying5 g 0 l.length cap (l.map fun c : Nat => (c : Int)) (by simp) (fun i hi => by
      rw [Nat.zero_add, owns_cell h (g := g) rfl hi]
      simp [hi]) 9 Tryd.underlying9
/-- From world w, slice v, to world w', slice v': but for new blocks nothing was written but v's own block, and v' lies there, or in a new one. -/
structure Wrote (w : World) (v : Value) (w' : World) (v' : Value) : Prop where
  grown : w.grownBy w' v.ownBlock
  lies : v'.ownBlock = v.ownBlock ∨ ∃ g, v'.ownBlock = some g ∧ w.heap.size ≤ g
/-- append of one byte that has just been put into a row of its own. -/
theorem wpList_push {ops : Array Oper} {rest : List Oper} {o : Oper} {a : Act} {Q : Exit → Act → World → Prop} (hgd : o.guard = none) (s x : Operand)
    (ho : o.op = .call { callee := .builtin .append, args := #[s, x], argTypes := #[27, 27] })
    (wr : World) (base : Nat) (v : Value) (l : List Nat) (b : Nat) (hs : a.eval s = v) (hx : a.eval x = .slice (some ⟨wr.heap.size, 0, none⟩) 1 1)
    (hown : Owns wr base v l) (hl : l.length ≤ 100000) (hb : base ≤ wr.heap.size)
    (h : ∀ v' w', Owns w' base v' (l ++ [b]) → Wrote wr v w' v' → wpList Tryd.prog ops Q rest (a.put o.dst v') w') :
    wpList Tryd.prog ops Q (o :: rest) a (wr.alloc (.cells #[.int .u8 (b : Int)] 5)) := by
  obtain ⟨i0, hi, hz0, hz1, hz2⟩ := info_parts info5
  have hown1 : (wr.alloc (.cells #[.int .u8 (b : Int)] 5)).ownsRow base 5 1 v l.length (bts l) := World.ownsRow.alloc hown _
  refine wpList_append_lies _ hgd s x 27 ho base 5 i0 (.int .u8 0) 1 1 Tryd.underlying27 hi hz0 hz1 hz2 rfl (by decide) v l.length (bts l) hs hown1 ⟨wr.heap.size, 0, none⟩ 1 1 [.int .u8 (b : Int)] hx rfl
    (fun j u hu => ?_) (by simp [Value.oneCell']) (by decide) (by unfold maxLen; omega) (by omega) (by simp; omega) _ rfl ?_
  · cases j with
    | zero =>
      simp at hu
      subst hu
      show (wr.alloc (.cells #[.int .u8 (b : Int)] 5)).cell? ⟨wr.heap.size, 0, none⟩ = _
      rw [cell_of_row _ _ 0 _ _ _ (heap_alloc_new wr _)]
      rfl
    | succ j => simp at hu
  · intro g cap w' h1 h2 h3 _
    refine h _ w' ?_ ⟨⟨h2.os, h2.tape, h2.output, by have := h2.size; simp at this; omega, fun k hk hne => (h2.block k (by simp; omega) hne).trans (Below.heap_alloc wr _ k hk)⟩, ?_⟩
    · unfold Owns
      rw [bts_append, List.length_append]
      exact h1
    · rcases h3 with e | e
      · exact .inl e.symm
      · exact .inr ⟨g, rfl, by rw [e]; simp⟩
theorem Wrote.below {w w' : World} {v v' : Value} {l : List Nat} {base : Nat} (h : Wrote w v w' v') (ho : Owns w base v l) (hb : base ≤ w.heap.size) : Below base w w' :=
  (Below.refl base w).grown h.grown hb fun k hk => (World.ownsRow.lt ho k hk).1
/-- Those that an edge leads to, of the first k statuses. -/
def nxtTo (a k : Nat) : List Nat := (stats.take k).filter fun b => edg a b != 0
theorem nxtTo_all (a : Nat) : nxtTo a 7 = nxt a := rfl
theorem nxtTo_len (a k : Nat) : (nxtTo a k).length ≤ 7 := by
  have h1 := List.length_filter_le (fun b => edg a b != 0) (stats.take k)
  have h2 := List.length_take_le' k stats
  have h3 : stats.length = 7 := rfl
  unfold nxtTo
  omega
theorem stats_take {k : Nat} (hk : k < 7) : stats.take (k + 1) = stats.take k ++ [k + 1] := by
  have : k = 0 ∨ k = 1 ∨ k = 2 ∨ k = 3 ∨ k = 4 ∨ k = 5 ∨ k = 6 := by omega
  rcases this with rfl | rfl | rfl | rfl | rfl | rfl | rfl <;> rfl
theorem nxtTo_in {a k : Nat} (h0 : 1 ≤ k) (hk : k ≤ 7) (h : edg a k ≠ 0) : nxtTo a k = nxtTo a (k - 1) ++ [k] := by
  obtain ⟨m, rfl⟩ : ∃ m, k = m + 1 := ⟨k - 1, by omega⟩
  unfold nxtTo
  rw [stats_take (by omega), List.filter_append]
  simp [h]
theorem nxtTo_not {a k : Nat} (h0 : 1 ≤ k) (hk : k ≤ 7) (h : edg a k = 0) : nxtTo a k = nxtTo a (k - 1) := by
  obtain ⟨m, rfl⟩ : ∃ m, k = m + 1 := ⟨k - 1, by omega⟩
  unfold nxtTo
  rw [stats_take (by omega), List.filter_append]
  simp [h]
theorem name0 : nameCells[0]? = some (.string ⟨#[]⟩) := by kernel_rfl
theorem tabs_below {w w' : World} (ht : Tabs w) (hb : Below w.heap.size w w') : Tabs w' := by
  have h0 := World.block_lt_of_cell? w _ ((ht.1 0 (by omega)).trans name0)
  have h1 := World.block_lt_of_cell? w _ (tab_edge ht (a := 0) (b := 0) (by omega) (by omega))
  refine ⟨fun i hi => ?_, fun i hi => ?_⟩
  · rw [hb.cell (p := ⟨0, i, none⟩) h0]
    exact ht.1 i hi
  · rw [hb.cell (p := ⟨1, i, none⟩) h1]
    exact ht.2 i hi
/-- What a call leaves that answers bytes in new memory. -/
def Gives (l : List Nat) (w : World) (e : Ending) (w' : World) : Prop := ∃ A c, e = .returned (.slice A l.length c) ∧ Owns w' w.heap.size (.slice A l.length c) l ∧ Below w.heap.size w w'
theorem gives_mk {l : List Nat} {w w' : World} {v : Value} (h : Owns w' w.heap.size v l) (hb : Below w.heap.size w w') : Gives l w (.returned v) w' := by
  rcases owns_split h with ⟨rfl, hn⟩ | ⟨g, cap, rfl, _⟩
  · exact ⟨none, 0, by rw [hn], by rw [hn]; exact h, hb⟩
  · exact ⟨_, cap, rfl, h, hb⟩
set_option maxHeartbeats 1000000 in
theorem next_any (a : Nat) (w : World) (ha : a < 256) (ht : Tabs w) : Calls Tryd.prog 11 #[.int .u8 a] w (Gives (nxt a) w) := by
  have HT := Lib.hid fun w' (hb : Below w.heap.size w w') => tabs_below ht hb
  clear ht
  go_enter Tryd.func11, Tryd.ntmps11
  go_wp2_with fail
  go_loopw [3, 4] (fun s3 s4 wr => ∃ k : Nat, 1 ≤ k ∧ k ≤ 8 ∧ s4 = .int .u8 k ∧ Owns wr w.heap.size s3 (nxtTo a (k - 1)) ∧ Below w.heap.size w wr) (fun _ s4 _ => 8 - (intOf s4).toNat)
  case atStart => exact ⟨1, by omega, by omega, rfl, owns_nil _ _, Below.refl _ _⟩
  case round =>
    obtain ⟨k, h0, hk, rfl, ho, hw⟩ := hrel
    have HO := Lib.hid ho
    have HW := Lib.hid hw
    have HB := Lib.hid hw.size
    have hlen := nxtTo_len a (k - 1)
    clear ho hw
    by_cases h7 : k ≤ 7
    · have hm : mayB k = true := by simp [mayB]; omega
      by_cases he : edg a k = 0
      · have HE := Lib.hid (nxtTo_not h0 h7 he)
        have he2 : ((edg a k : Int) != 0) = false := by simp [he]
        clear he
        go_wp2_with (first | (go_at_call 10; refine (may_any _ _ (by omega)).mono ?_; rintro e w' ⟨rfl, rfl⟩) | (go_at_call 13; refine (edge_any a k _ (by omega) (by omega) (HT.out _ HW.out)).mono ?_; rintro e w' ⟨rfl, rfl⟩))
        go_roundw
        case rel => exact ⟨k + 1, by omega, by omega, by go_num, by rw [Nat.add_sub_cancel, HE.out]; exact HO.out, HW.out⟩
        case measure => simp [intOf]; omega
      · have HE := Lib.hid (nxtTo_in h0 h7 he)
        have he2 : ((edg a k : Int) != 0) = true := by simp; omega
        clear he
        go_wp2_with (first | (go_at_call 10; refine (may_any _ _ (by omega)).mono ?_; rintro e w' ⟨rfl, rfl⟩) | (go_at_call 13; refine (edge_any a k _ (by omega) (by omega) (HT.out _ HW.out)).mono ?_; rintro e w' ⟨rfl, rfl⟩) | (at_builtin; refine wpList_push rfl (.tmp 13) (.tmp 15) rfl wr w.heap.size u3 (nxtTo a (k - 1)) k rfl rfl HO.out (by omega) HB.out ?_; intro v' w' h1 h2))
        have H1 := Lib.hid h1
        have H2 := Lib.hid (HW.out.trans (h2.below HO.out HB.out))
        clear h1 h2
        go_wp2_with fail
        go_roundw
        case rel => exact ⟨k + 1, by omega, by omega, by go_num, by rw [Nat.add_sub_cancel, HE.out]; exact H1.out, H2.out⟩
        case measure => simp [intOf]; omega
    · have hm : mayB k = false := by simp [mayB]; omega
      have HE := Lib.hid (show k = 8 by omega)
      go_wp2_with (go_at_call 10; refine (may_any _ _ (by omega)).mono ?_; rintro e w' ⟨rfl, rfl⟩)
      go_ret
      exact gives_mk (by have := HO.out; rw [HE.out] at this; exact this) HW.out
/-- append of bytes to a literal without any. -/
theorem wpList_append_all {ops : Array Oper} {rest : List Oper} {o : Oper} {a : Act} {Q : Exit → Act → World → Prop} (hgd : o.guard = none) (s x : Operand)
    (ho : o.op = .call { callee := .builtin .append, args := #[s, x], argTypes := #[27, 27] })
    (wr : World) (base g n cap : Nat) (l : List Nat) (hs : a.eval s = .slice (some ⟨wr.heap.size, 0, none⟩) 0 0) (hx : a.eval x = .slice (some ⟨g, 0, none⟩) n cap)
    (hown : Owns wr base (.slice (some ⟨g, 0, none⟩) n cap) l) (hn : n = l.length) (hl : l.length ≤ 100000)
    (h : ∀ g' cap' w', Owns w' wr.heap.size (.slice (some ⟨g', 0, none⟩) n cap') l → Below wr.heap.size wr w' → wpList Tryd.prog ops Q rest (a.put o.dst (.slice (some ⟨g', 0, none⟩) n cap')) w') :
    wpList Tryd.prog ops Q (o :: rest) a (wr.alloc (.cells #[] 5)) := by
  obtain ⟨i0, hi, hz0, hz1, hz2⟩ := info_parts info5
  have hown0 := World.ownsRow_made wr (base := wr.heap.size) (e := 5) (size := 1) #[] 0 (Nat.le_refl _) (by decide) (by simp)
  have hown1 := hown.below ((Below.refl wr.heap.size wr).alloc (Nat.le_refl _) (.cells #[] 5))
  refine wpList_append_own _ hgd s x 27 ho wr.heap.size 5 i0 (.int .u8 0) 1 1 Tryd.underlying27 hi hz0 hz1 hz2 rfl (by decide) _ 0 [] hs hown0 ⟨g, 0, none⟩ n cap (bts l) hx (by rw [bts_len, hn]; simp)
    (fun j u hu => ?_) (fun u hu => ?_) (by unfold maxLen; omega) (by omega) (by simp) ?_
  · obtain ⟨hj, rfl⟩ := bts_at hu
    rw [add_zero_block]
    exact owns_cell hown1 (g := g) rfl hj
  · obtain ⟨c, _, rfl⟩ := List.mem_map.1 hu
    rfl
  · intro v' w' h1 h2 h3
    rcases owns_split h1 with ⟨e, _⟩ | ⟨g', cap', e, _⟩
    · have := (h3.1 e).1
      cases this
    · subst e
      rw [Nat.zero_add] at h1
      rw [Nat.zero_add]
      refine h g' cap' w' ?_ (((Below.refl wr.heap.size wr).alloc (Nat.le_refl _) (.cells #[] 5)).trans ((Below.refl _ _).grown h2 (by simp) fun k hk => (World.ownsRow.lt hown0 k hk).1))
      unfold Owns
      rw [List.nil_append] at h1
      rw [← hn]
      exact h1
/-- A path that is not nil, copied. -/
theorem clone_any (base g n cap : Nat) (l : List Nat) (w : World) (h : Owns w base (.slice (some ⟨g, 0, none⟩) n cap) l) (hn : n = l.length) (hl : l.length ≤ 100000) :
    Calls Tryd.prog 21 #[.slice (some ⟨g, 0, none⟩) n cap] w fun e w' => ∃ g' cap', e = .returned (.slice (some ⟨g', 0, none⟩) n cap') ∧ Owns w' w.heap.size (.slice (some ⟨g', 0, none⟩) n cap') l ∧ Below w.heap.size w w' := by
  have HI := Lib.hid h
  have HN := Lib.hid hn
  clear h hn
  have hnil := Lib.run_eql_slice_nil (P := Tryd.prog) w 27 5 (some ⟨g, 0, none⟩) n cap 0 0 Tryd.underlying27
  go_enter Tryd.func21, Tryd.ntmps21
  go_wp2_with (at_builtin; refine wpList_append_all rfl (.tmp 5) (.tmp 6) rfl w base g n cap l rfl rfl HI.out HN.out hl ?_; intro g' cap' w' h1 h2)
  have H1 := Lib.hid h1
  have H2 := Lib.hid h2
  clear h1 h2
  go_wp2_with fail
  go_ret
  exact ⟨_, _, rfl, H1.out, H2.out⟩
end Go.Proofs.YtjgapjbaidgolaaDoor
