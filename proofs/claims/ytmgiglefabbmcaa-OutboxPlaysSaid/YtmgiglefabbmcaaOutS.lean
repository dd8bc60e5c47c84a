/-
  A walk over one step that is done to a box. No statement is proved in this text.
-/
import Derived.Test.YtmgiglefabbmcaaOutR
set_option maxRecDepth 20000
namespace Go.Proofs.Ytmgiglefabbmcaa
open Go Go.RowKit
/-- What a box has behind a step. -/
def stepL (mx : Int) (L : List Fr) (s : Int × Fr) : List Fr := if s.1 = 0 then (putL mx L s.2).1 else if s.1 = 1 then L.tail else []
def pl (s : Sq) : Int × Fr := (s.1, s.2.F)
/-- .. and behind some. -/
def runL (mx : Int) (L : List Fr) (l : List Sq) : List Fr := l.foldl (fun L s => stepL mx L (pl s)) L
theorem runL_take {mx : Int} {L : List Fr} {l : List Sq} {k : Nat} (hk : k < l.length) : runL mx L (l.take (k + 1)) = stepL mx (runL mx L (l.take k)) (pl l[k]) := by
  unfold runL
  rw [List.take_succ_eq_append_getElem hk, List.foldl_append]
  rfl
/-- A step's cells. -/
def sc (s : Sq) : Array Value := (encS s).toArray
theorem sc_size (s : Sq) : (Try.prog.info? 54).map (·.size) = some (sc s).size := by
  show _ = some 15
  kernel_rfl
theorem rcs_whole {w w' : World} {ad : Addr} {n c : Nat} {l : List Sq} (h : Rcs encS 15 w (.slice (some ad) n c) l) (hb : Below w.heap.size w w') {k : Nat} (hk : k < l.length) : ∀ j v, (sc l[k])[j]? = some v → w'.cell? ((ad.add (k * 15)).add j) = some v := by
  obtain ⟨A, c', hv, _, _, hx⟩ := h.below hb
  injection hv with e1 _ _
  subst e1
  obtain ⟨ad', e, _, h3⟩ := hx k hk
  injection e with e
  subst e
  intro j v hj
  rw [addr_twice]
  exact h3 j v (by unfold sc at hj; simpa using hj)
/-- Other blocks' boxes stay. -/
theorem Bx.kept {D E : Nat → Prop} {W W' : World} {p : Nat} {mx : Int} {L : List Fr} (h : Bx E W p mx L) (hk : Kept D W W') (hc : ∀ k, k < W.heap.size → ¬ E k → D k) : Bx E W' p mx L := by
  obtain ⟨T, qs, h1, h2, h3⟩ := h.box
  exact ⟨⟨T, qs, h1.on (hk.on.mono fun k hk => hc k (h1.lt k hk) (h3 k hk)) hk.size, h2, h3⟩, fun k hk2 => Nat.lt_of_lt_of_le (h.hd k hk2) hk.size, h.fit⟩
set_option maxHeartbeats 4000000 in
theorem do_any (D : Nat → Prop) (W : World) (p : Nat) (mx : Int) (L : List Fr) (h : Bx D W p mx L) (s : Sq) (hr : FR W s.2) (hV : Fit 20000 s.2.F.v) :
    Calls Try.prog 28 #[.pointer (some ⟨p, 0, none⟩), .agg (sc s)] W fun e w' => e = .returned (.tuple #[]) ∧ Bx D w' p mx (stepL mx L (pl s)) ∧ Kept D W w' := by
  have B1 := Lib.hid (below_one W (.cells (sc s) 54))
  have X1 := Lib.hid (show (W.alloc (.cells (sc s) 54)).heap[W.heap.size]? = some (.cells (sc s) 54 (0, 0)) from heap_alloc_new W _)
  have H1 := Lib.hid (h.step B1.out)
  have K1 := Lib.hid (Kept.of B1.out h.hd)
  have R1 := Lib.hid (hr.below B1.out)
  have HV := Lib.hid hV
  have p0 : (W.alloc (.cells (sc s) 54)).cell? ⟨W.heap.size, 0, none⟩ = some (.int .u8 s.1) := by rw [cell_of_row _ _ _ _ _ _ X1.out]; rfl
  have RA := Lib.hid (show (W.alloc (.cells (sc s) 54)).rangeAt W.heap.size 1 (encF s.2) from fun j v hv => by
    rw [cell_of_row _ _ _ _ _ _ X1.out]
    unfold sc encS
    rw [List.getElem?_toArray, Nat.add_comm, List.getElem?_cons_succ]
    exact hv)
  have L32 : Hid ((Try.prog.info? 32).map (·.size) = some (encF s.2).length) := Lib.hid (by rw [encF_len]; kernel_rfl)
  have HST := Lib.hid (show stepL mx L (pl s) = if s.1 = 0 then (putL mx L s.2.F).1 else if s.1 = 1 then L.tail else [] from rfl)
  generalize stepL mx L (pl s) = L' at *
  clear h hr hV
  by_cases h0 : s.1 = 0
  · have e0 : (s.1 == 0) = true := by simp [h0]
    have HL := Lib.hid (show L' = (putL mx L s.2.F).1 by rw [HST.out, if_pos h0])
    clear h0
    go_enter Try.func28, Try.ntmps28
    go_wp2_with (refine wpList_load_mid rfl 32 (.tmp 11) rfl W.heap.size 1 rfl (encF s.2) _ RA.out Try.underlying32 rfl L32.out ?_)
    have HP := Lib.hid (bx_put D _ p mx L H1.out s.2 R1.out HV.out)
    rw [show fc s.2 = (encF s.2).toArray from rfl] at HP
    (with_reducible refine HP.out.mono ?_)
    rintro e1 w1 ⟨qo, Q, rfl, -, -, -, hx, hk⟩
    have H2 := Lib.hid (hx.mono (E := D) fun _ e => .inl e)
    have K2 := Lib.hid (K1.out.trans hk)
    clear hx hk
    go_wp2_with fail
    go_end0
    exact ⟨rfl, by rw [HL.out]; exact H2.out, K2.out⟩
  · have e0 : (s.1 == 0) = false := by simp [h0]
    by_cases h1 : s.1 = 1
    · have e1 : (s.1 == 1) = true := by simp [h1]
      have HL := Lib.hid (show L' = L.tail by rw [HST.out, if_neg h0, if_pos h1])
      clear h0 h1
      go_enter Try.func28, Try.ntmps28
      go_wp2_with fail
      (with_reducible refine (bx_take D _ p mx L H1.out).mono ?_)
      rintro e1 w1 ⟨qo, Q, rfl, -, -, -, hx, hk⟩
      have H2 := Lib.hid (hx.mono (E := D) fun _ e => .inl e)
      have K2 := Lib.hid (K1.out.trans hk)
      clear hx hk
      go_wp2_with fail
      go_end0
      exact ⟨rfl, by rw [HL.out]; exact H2.out, K2.out⟩
    · have e1 : (s.1 == 1) = false := by simp [h1]
      have HL := Lib.hid (show L' = [] by rw [HST.out, if_neg h0, if_neg h1])
      clear h0 h1
      go_enter Try.func28, Try.ntmps28
      go_wp2_with fail
      (with_reducible refine (bx_clear D _ p mx L H1.out).mono ?_)
      rintro e1 w1 ⟨rfl, hx, hk⟩
      have H2 := Lib.hid hx
      have K2 := Lib.hid (K1.out.trans hk)
      clear hx hk
      go_wp2_with fail
      go_end0
      exact ⟨rfl, by rw [HL.out]; exact H2.out, K2.out⟩
end Go.Proofs.Ytmgiglefabbmcaa
