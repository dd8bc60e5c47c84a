/-
  Carried over and put together: contracts of this program's functions, and plain facts. No statement is proved in this text.
-/
import Derived.Test.YtkeiekljedhllaaGreatO22
set_option maxRecDepth 20000
namespace Go.Proofs.YtkeiekljedhllaaGreat
open Go Go.RowKit
theorem rList_len {α : Type} (e : RS → α × RS) (s : RS) : (rList e s).1.length ≤ 64 := by
  unfold rList
  rw [rLoop_len]
  have := rUp_bounds 64 s (by decide)
  omega
theorem rLoop_all {α : Type} (e : RS → α × RS) (P : α → Prop) (h : ∀ s, P (e s).1) (k : Nat) (s : RS) : ∀ x ∈ (rLoop e k s).1, P x := by
  induction k with
  | zero => intro x hx; simp [rLoop] at hx
  | succ k ih =>
    intro x hx
    unfold rLoop at hx
    rw [List.mem_append] at hx
    rcases hx with hx | hx
    · exact ih x hx
    · simp at hx
      subst hx
      exact h _
theorem rList_fit {α : Type} (e : RS → α × RS) (s : RS) : (rList e s).1.length ≤ 5000 := Nat.le_trans (rList_len e s) (by decide)
theorem rIds_fit (s : RS) : (rIds s).1.length ≤ 5000 := by
  unfold rIds
  exact rList_fit _ _
theorem rRow_len (s : RS) : (rRow s).1.2.2.length ≤ 5000 := by
  unfold rRow
  dsimp only
  exact rIds_fit _
theorem rRows_fit (s : RS) : ∀ r ∈ (rList rRow s).1, r.2.2.length ≤ 5000 := by
  unfold rList
  exact rLoop_all rRow (fun r => r.2.2.length ≤ 5000) rRow_len _ _
theorem rView_fit (s : RS) : FitVIE 5000 (rView s).1 := by
  unfold rView
  dsimp only
  constructor
  · dsimp only; exact rList_fit _ _
  · dsimp only; exact rIds_fit _
  · dsimp only; exact rList_fit _ _
  · dsimp only; exact rList_fit _ _
  · dsimp only; exact rIds_fit _
  · dsimp only; exact rRows_fit _
theorem rFr_fit (s : RS) : FitVIE 5000 (rFr s).1.v := by
  unfold rFr
  dsimp only
  apply rView_fit
/-- What was wrong with bytes. -/
def decE (l : List UInt8) : Nat :=
  if 8192 < l.length then 40 else if l.length < 4 then 8 else if le4 (Crc.add 0 (l.take (l.length - 4))) = l.drop (l.length - 4) then (if (readOk (l.take (l.length - 4)) && mayF (readF (l.take (l.length - 4)))) = true then 0 else 4) else 9
/-- The frame that bytes are. -/
def decF (l : List UInt8) : Fr := if decE l = 0 then readF (l.take (l.length - 4)) else (⟨0, (0, 0), (0, 0), 0, 0, (0, 0), ⟨[], [], [], [], []⟩⟩ : Fr)
theorem decE_long {l : List UInt8} (h : 8192 < l.length) : decE l = 40 ∧ decF l = (⟨0, (0, 0), (0, 0), 0, 0, (0, 0), ⟨[], [], [], [], []⟩⟩ : Fr) := by
  have e : decE l = 40 := by unfold decE; rw [if_pos h]
  exact ⟨e, by unfold decF; rw [e]; rfl⟩
theorem decE_short {l : List UInt8} (h1 : ¬ 8192 < l.length) (h : l.length < 4) : decE l = 8 ∧ decF l = (⟨0, (0, 0), (0, 0), 0, 0, (0, 0), ⟨[], [], [], [], []⟩⟩ : Fr) := by
  have e : decE l = 8 := by unfold decE; rw [if_neg h1, if_pos h]
  exact ⟨e, by unfold decF; rw [e]; rfl⟩
theorem decE_sum {l : List UInt8} (h1 : ¬ 8192 < l.length) (h2 : ¬ l.length < 4) (h : ¬ le4 (Crc.add 0 (l.take (l.length - 4))) = l.drop (l.length - 4)) : decE l = 9 ∧ decF l = (⟨0, (0, 0), (0, 0), 0, 0, (0, 0), ⟨[], [], [], [], []⟩⟩ : Fr) := by
  have e : decE l = 9 := by unfold decE; rw [if_neg h1, if_neg h2, if_neg h]
  exact ⟨e, by unfold decF; rw [e]; rfl⟩
theorem decE_form {l : List UInt8} (h1 : ¬ 8192 < l.length) (h2 : ¬ l.length < 4) (h : le4 (Crc.add 0 (l.take (l.length - 4))) = l.drop (l.length - 4)) (h3 : (readOk (l.take (l.length - 4)) && mayF (readF (l.take (l.length - 4)))) = false) : decE l = 4 ∧ decF l = (⟨0, (0, 0), (0, 0), 0, 0, (0, 0), ⟨[], [], [], [], []⟩⟩ : Fr) := by
  have e : decE l = 4 := by unfold decE; rw [if_neg h1, if_neg h2, if_pos h, h3]; rfl
  exact ⟨e, by unfold decF; rw [e]; rfl⟩
theorem decE_good {l : List UInt8} (h1 : ¬ 8192 < l.length) (h2 : ¬ l.length < 4) (h : le4 (Crc.add 0 (l.take (l.length - 4))) = l.drop (l.length - 4)) (h3 : (readOk (l.take (l.length - 4)) && mayF (readF (l.take (l.length - 4)))) = true) : decE l = 0 ∧ decF l = readF (l.take (l.length - 4)) := by
  have e : decE l = 0 := by unfold decE; rw [if_neg h1, if_neg h2, if_pos h, if_pos h3]
  exact ⟨e, by unfold decF; rw [if_pos e]⟩
/-- What is decoded. -/
def Decoded (F : Fr) (n : Nat) (w : World) (e' : Ending) (w' : World) : Prop := ∃ (a b c d e : SL), e' = .returned (.tuple #[.agg #[.int .u8 F.k, .int .i64 F.f.1, .int .i64 F.f.2, .int .i64 F.t.1, .int .i64 F.t.2, .int .i64 F.n, .int .i64 F.q, .int .i64 F.b.1, .int .i64 F.b.2, .slice a.1 a.2.1 a.2.2, .slice b.1 b.2.1 b.2.2, .slice c.1 c.2.1 c.2.2, .slice d.1 d.2.1 d.2.2, .slice e.1 e.2.1 e.2.2], .int .i64 n]) ∧ RV w' a b c d e F.v ∧ Below w.heap.size w w'
theorem extract_take (S : ByteArray) (n : Nat) : S.extract 0 n = bs (S.data.toList.take n) := WideShapes.bytes_inj (by simp [bs, List.extract_eq_take_drop])
theorem extract_drop (S : ByteArray) (n : Nat) : S.extract n S.size = bs (S.data.toList.drop n) := WideShapes.bytes_inj (by simp [bs, List.extract_eq_take_drop]; exact List.take_of_length_le (by simp))
set_option maxHeartbeats 16000000 in
theorem decode_any (S : ByteArray) (w : World) : Calls Tryz.prog 13 #[.string S] w (Decoded (decF S.data.toList) (decE S.data.toList) w) := by
  have Z0 := Lib.hid (show FBox (w.alloc (.cells #[.int .u8 0, .int .i64 0, .int .i64 0, .int .i64 0, .int .i64 0, .int .i64 0, .int .i64 0, .int .i64 0, .int .i64 0, .slice none 0 0, .slice none 0 0, .slice none 0 0, .slice none 0 0, .slice none 0 0] 39)) w.heap.size (⟨0, (0, 0), (0, 0), 0, 0, (0, 0), ⟨[], [], [], [], []⟩⟩ : Fr) (none, 0, 0) (none, 0, 0) (none, 0, 0) (none, 0, 0) (none, 0, 0) from heap_alloc_new w _)
  have B0 := Lib.hid (below_one w (.cells #[.int .u8 0, .int .i64 0, .int .i64 0, .int .i64 0, .int .i64 0, .int .i64 0, .int .i64 0, .int .i64 0, .int .i64 0, .slice none 0 0, .slice none 0 0, .slice none 0 0, .slice none 0 0, .slice none 0 0] 39))
  have HL := Lib.hid (show S.size = S.data.toList.length by rw [Array.length_toList]; rfl)
  obtain ⟨p0, p1, p2, p3, p4, p5, p6, p7, p8, p9, p10, p11, p12, p13⟩ := fbox_cells Z0.out
  obtain ⟨f0, f1, f2, f3, f4, f5, f6, f7, f8, f9, f10, f11, f12, f13⟩ := fbox_free Z0.out
  dsimp only at p0 p1 p2 p3 p4 p5 p6 p7 p8 p9 p10 p11 p12 p13
  have HS := Lib.hid (show (Tryz.prog.info? 39).map (·.size) = some 14 by kernel_rfl)
  have HZ1 := Lib.hid (show (w.alloc (.cells #[.int .u8 0, .int .i64 0, .int .i64 0, .int .i64 0, .int .i64 0, .int .i64 0, .int .i64 0, .int .i64 0, .int .i64 0, .slice none 0 0, .slice none 0 0, .slice none 0 0, .slice none 0 0, .slice none 0 0] 39)).heap[w.heap.size]? = some (.cells #[.int .u8 0, .int .i64 0, .int .i64 0, .int .i64 0, .int .i64 0, .int .i64 0, .int .i64 0, .int .i64 0, .int .i64 0, .slice none 0 0, .slice none 0 0, .slice none 0 0, .slice none 0 0, .slice none 0 0] 39 (0, 0)) from Z0.out)
  go_enter Tryz.func13, Tryz.ntmps13
  by_cases h1 : 8192 < S.size
  · have d1 : (8192 : Int) < (S.size : Int) := by omega
    have HD := Lib.hid (decE_long (l := S.data.toList) (by rw [← HL.out]; exact h1))
    clear h1
    go_wp2_with (refine wpList_store_row rfl 39 _ _ rfl w.heap.size #[.int .u8 0, .int .i64 0, .int .i64 0, .int .i64 0, .int .i64 0, .int .i64 0, .int .i64 0, .int .i64 0, .int .i64 0, .slice none 0 0, .slice none 0 0, .slice none 0 0, .slice none 0 0, .slice none 0 0] rfl rfl 39 #[.int .u8 0, .int .i64 0, .int .i64 0, .int .i64 0, .int .i64 0, .int .i64 0, .int .i64 0, .int .i64 0, .int .i64 0, .slice none 0 0, .slice none 0 0, .slice none 0 0, .slice none 0 0, .slice none 0 0] HZ1.out HS.out rfl (by simp [Value.oneCell']) ?_)
    have HU := Lib.hid (show FBox ((w.alloc (.cells #[.int .u8 0, .int .i64 0, .int .i64 0, .int .i64 0, .int .i64 0, .int .i64 0, .int .i64 0, .int .i64 0, .int .i64 0, .slice none 0 0, .slice none 0 0, .slice none 0 0, .slice none 0 0, .slice none 0 0] 39)).setRow w.heap.size #[.int .u8 0, .int .i64 0, .int .i64 0, .int .i64 0, .int .i64 0, .int .i64 0, .int .i64 0, .int .i64 0, .int .i64 0, .slice none 0 0, .slice none 0 0, .slice none 0 0, .slice none 0 0, .slice none 0 0]) w.heap.size (⟨0, (0, 0), (0, 0), 0, 0, (0, 0), ⟨[], [], [], [], []⟩⟩ : Fr) (none, 0, 0) (none, 0, 0) (none, 0, 0) (none, 0, 0) (none, 0, 0) from setRow_heap (w.alloc (.cells #[.int .u8 0, .int .i64 0, .int .i64 0, .int .i64 0, .int .i64 0, .int .i64 0, .int .i64 0, .int .i64 0, .int .i64 0, .slice none 0 0, .slice none 0 0, .slice none 0 0, .slice none 0 0, .slice none 0 0] 39)) w.heap.size #[.int .u8 0, .int .i64 0, .int .i64 0, .int .i64 0, .int .i64 0, .int .i64 0, .int .i64 0, .int .i64 0, .int .i64 0, .slice none 0 0, .slice none 0 0, .slice none 0 0, .slice none 0 0, .slice none 0 0] #[.int .u8 0, .int .i64 0, .int .i64 0, .int .i64 0, .int .i64 0, .int .i64 0, .int .i64 0, .int .i64 0, .int .i64 0, .slice none 0 0, .slice none 0 0, .slice none 0 0, .slice none 0 0, .slice none 0 0] 39 _ HZ1.out)
    obtain ⟨q0, q1, q2, q3, q4, q5, q6, q7, q8, q9, q10, q11, q12, q13⟩ := fbox_cells HU.out
    dsimp only at q0 q1 q2 q3 q4 q5 q6 q7 q8 q9 q10 q11 q12 q13
    have HE1 := HD.out.1
    rw [HE1, HD.out.2]
    refine bodyPost_ret (v := .tuple #[.agg #[.int .u8 0, .int .i64 0, .int .i64 0, .int .i64 0, .int .i64 0, .int .i64 0, .int .i64 0, .int .i64 0, .int .i64 0, .slice none 0 0, .slice none 0 0, .slice none 0 0, .slice none 0 0, .slice none 0 0], .int .i64 40]) (by simp [results, Tryz.results13, go_sem, q0, q1, q2, q3, q4, q5, q6, q7, q8, q9, q10, q11, q12, q13]) rfl ?_
    exact ⟨_, _, _, _, _, rfl, (OwnV.nil _ 0).rv, B0.out.trans (below_gone (grown_row _ _ _) (Nat.le_refl _) B0.out.size)⟩
  have e1 : ¬ (8192 : Int) < (S.size : Int) := by omega
  by_cases h2 : S.size < 4
  · have d1 : (S.size : Int) < 4 := by omega
    have HD := Lib.hid (decE_short (l := S.data.toList) (by rw [← HL.out]; exact h1) (by rw [← HL.out]; exact h2))
    go_wp2_with (refine wpList_store_row rfl 39 _ _ rfl w.heap.size #[.int .u8 0, .int .i64 0, .int .i64 0, .int .i64 0, .int .i64 0, .int .i64 0, .int .i64 0, .int .i64 0, .int .i64 0, .slice none 0 0, .slice none 0 0, .slice none 0 0, .slice none 0 0, .slice none 0 0] rfl rfl 39 #[.int .u8 0, .int .i64 0, .int .i64 0, .int .i64 0, .int .i64 0, .int .i64 0, .int .i64 0, .int .i64 0, .int .i64 0, .slice none 0 0, .slice none 0 0, .slice none 0 0, .slice none 0 0, .slice none 0 0] HZ1.out HS.out rfl (by simp [Value.oneCell']) ?_)
    have HU := Lib.hid (show FBox ((w.alloc (.cells #[.int .u8 0, .int .i64 0, .int .i64 0, .int .i64 0, .int .i64 0, .int .i64 0, .int .i64 0, .int .i64 0, .int .i64 0, .slice none 0 0, .slice none 0 0, .slice none 0 0, .slice none 0 0, .slice none 0 0] 39)).setRow w.heap.size #[.int .u8 0, .int .i64 0, .int .i64 0, .int .i64 0, .int .i64 0, .int .i64 0, .int .i64 0, .int .i64 0, .int .i64 0, .slice none 0 0, .slice none 0 0, .slice none 0 0, .slice none 0 0, .slice none 0 0]) w.heap.size (⟨0, (0, 0), (0, 0), 0, 0, (0, 0), ⟨[], [], [], [], []⟩⟩ : Fr) (none, 0, 0) (none, 0, 0) (none, 0, 0) (none, 0, 0) (none, 0, 0) from setRow_heap (w.alloc (.cells #[.int .u8 0, .int .i64 0, .int .i64 0, .int .i64 0, .int .i64 0, .int .i64 0, .int .i64 0, .int .i64 0, .int .i64 0, .slice none 0 0, .slice none 0 0, .slice none 0 0, .slice none 0 0, .slice none 0 0] 39)) w.heap.size #[.int .u8 0, .int .i64 0, .int .i64 0, .int .i64 0, .int .i64 0, .int .i64 0, .int .i64 0, .int .i64 0, .int .i64 0, .slice none 0 0, .slice none 0 0, .slice none 0 0, .slice none 0 0, .slice none 0 0] #[.int .u8 0, .int .i64 0, .int .i64 0, .int .i64 0, .int .i64 0, .int .i64 0, .int .i64 0, .int .i64 0, .int .i64 0, .slice none 0 0, .slice none 0 0, .slice none 0 0, .slice none 0 0, .slice none 0 0] 39 _ HZ1.out)
    obtain ⟨q0, q1, q2, q3, q4, q5, q6, q7, q8, q9, q10, q11, q12, q13⟩ := fbox_cells HU.out
    dsimp only at q0 q1 q2 q3 q4 q5 q6 q7 q8 q9 q10 q11 q12 q13
    have HE1 := HD.out.1
    rw [HE1, HD.out.2]
    refine bodyPost_ret (v := .tuple #[.agg #[.int .u8 0, .int .i64 0, .int .i64 0, .int .i64 0, .int .i64 0, .int .i64 0, .int .i64 0, .int .i64 0, .int .i64 0, .slice none 0 0, .slice none 0 0, .slice none 0 0, .slice none 0 0, .slice none 0 0], .int .i64 8]) (by simp [results, Tryz.results13, go_sem, q0, q1, q2, q3, q4, q5, q6, q7, q8, q9, q10, q11, q12, q13]) rfl ?_
    exact ⟨_, _, _, _, _, rfl, (OwnV.nil _ 0).rv, B0.out.trans (below_gone (grown_row _ _ _) (Nat.le_refl _) B0.out.size)⟩
  have e2 : ¬ (S.size : Int) < 4 := by omega
  obtain ⟨m, hm⟩ : ∃ m : Nat, S.size = m + 4 := ⟨S.size - 4, by omega⟩
  have HM := Lib.hid (show S.data.toList.length - 4 = m by rw [← HL.out]; omega)
  have HSZ := Lib.hid hm
  have hm3 : 4 ≤ S.size := by omega
  have hm4 : S.size ≤ 8192 := by omega
  have HA := Lib.hid (extract_take S m)
  have HB := Lib.hid (extract_drop S m)
  have N1 := Lib.hid (show ¬ 8192 < S.data.toList.length by rw [← HL.out]; exact h1)
  have N2 := Lib.hid (show ¬ S.data.toList.length < 4 by rw [← HL.out]; exact h2)
  have DS := Lib.hid (decE_sum N1.out N2.out)
  have DF := Lib.hid (decE_form N1.out N2.out)
  have DG := Lib.hid (decE_good N1.out N2.out)
  rw [HM.out] at DS DF DG
  have i1 : (0 : Int) ≤ (m : Int) := by omega
  have i2 : m ≤ 8188 := by omega
  clear hm h1 h2
  go_wp2_with fail
  have hq : (S.size : Int) - 4 = (m : Int) := by have := HSZ.out; omega
  have HQ := Lib.hid hq
  simp only [hq]
  clear hq
  have i3 : (m : Int) ≤ (S.size : Int) := by have := HSZ.out; omega
  have i4 : m ≤ S.size := by have := HSZ.out; omega
  have HK := Lib.hid fun W => checksum_any (S.extract 0 m) W (by rw [HA.out, bs_size]; have := List.length_take_le m S.data.toList; omega)
  rw [show (S.extract 0 m).data.toList = S.data.toList.take m by rw [HA.out]; simp [bs]] at HK
  go_region_held3 (fun _ => True) (exact trivial) (first | (go_at_call 23; (with_reducible refine (HK.out _).mono ?_); rintro e1 w1 ⟨rfl, hb⟩; have B1 := Lib.hid (show Below (w.alloc (.cells #[.int .u8 0, .int .i64 0, .int .i64 0, .int .i64 0, .int .i64 0, .int .i64 0, .int .i64 0, .int .i64 0, .int .i64 0, .slice none 0 0, .slice none 0 0, .slice none 0 0, .slice none 0 0, .slice none 0 0] 39)).heap.size (w.alloc (.cells #[.int .u8 0, .int .i64 0, .int .i64 0, .int .i64 0, .int .i64 0, .int .i64 0, .int .i64 0, .int .i64 0, .int .i64 0, .slice none 0 0, .slice none 0 0, .slice none 0 0, .slice none 0 0, .slice none 0 0] 39)) w1 from ⟨hb.os, hb.tape, hb.output, hb.size, hb.block⟩); clear hb))
  have Z1 := Lib.hid (fbox_below Z0.out B1.out)
  have HZ2 := Lib.hid (show w1.heap[w.heap.size]? = some (.cells #[.int .u8 0, .int .i64 0, .int .i64 0, .int .i64 0, .int .i64 0, .int .i64 0, .int .i64 0, .int .i64 0, .int .i64 0, .slice none 0 0, .slice none 0 0, .slice none 0 0, .slice none 0 0, .slice none 0 0] 39 (0, 0)) from Z1.out)
  have B2 := Lib.hid (B0.out.trans (B1.out.mono B0.out.size))
  clear p0 p1 p2 p3 p4 p5 p6 p7 p8 p9 p10 p11 p12 p13 f0 f1 f2 f3 f4 f5 f6 f7 f8 f9 f10 f11 f12 f13 Z0 HZ1
  by_cases hs : le4 (Crc.add 0 (S.data.toList.take m)) = S.data.toList.drop m
  · have ds : S.extract m S.size = bs (le4 (Crc.add 0 (S.data.toList.take m))) := by rw [HB.out, hs]
    have dz : (!((bs (le4 (Crc.add 0 (S.data.toList.take m)))).toList == (S.extract m S.size).toList)) = false := by rw [ds]; simp
    rw [dz, ds]
    clear ds dz
    have HSM := Lib.hid hs
    clear hs DS
    generalize bs (le4 (Crc.add 0 (S.data.toList.take m))) = U at *
    go_wp2_with fail
    (with_reducible refine (read_any (S.extract 0 m) _).mono ?_)
    rw [show (S.extract 0 m).data.toList = S.data.toList.take m by rw [HA.out]; simp [bs]]
    have HFT := Lib.hid (show FitVIE 5000 (readF (S.data.toList.take m)).v from rFr_fit _)
    rintro e2 w2 ⟨a, b, c, d, e, rfl, hr, hb⟩
    generalize readF (S.data.toList.take m) = F at *
    generalize readOk (S.data.toList.take m) = ok at *
    have R2 := Lib.hid (hr.below (below_one w2 (.cells #[.int .u8 F.k, .int .i64 F.f.1, .int .i64 F.f.2, .int .i64 F.t.1, .int .i64 F.t.2, .int .i64 F.n, .int .i64 F.q, .int .i64 F.b.1, .int .i64 F.b.2, .slice a.1 a.2.1 a.2.2, .slice b.1 b.2.1 b.2.2, .slice c.1 c.2.1 c.2.2, .slice d.1 d.2.1 d.2.2, .slice e.1 e.2.1 e.2.2] 39)))
    have Y2 := Lib.hid (fbox_new w2 F a b c d e)
    have Z2 := Lib.hid (fbox_below (fbox_below Z1.out hb) (below_one w2 (.cells #[.int .u8 F.k, .int .i64 F.f.1, .int .i64 F.f.2, .int .i64 F.t.1, .int .i64 F.t.2, .int .i64 F.n, .int .i64 F.q, .int .i64 F.b.1, .int .i64 F.b.2, .slice a.1 a.2.1 a.2.2, .slice b.1 b.2.1 b.2.2, .slice c.1 c.2.1 c.2.2, .slice d.1 d.2.1 d.2.2, .slice e.1 e.2.1 e.2.2] 39)))
    have B3 := Lib.hid (B2.out.trans ((below_after hb (below_one w2 (.cells #[.int .u8 F.k, .int .i64 F.f.1, .int .i64 F.f.2, .int .i64 F.t.1, .int .i64 F.t.2, .int .i64 F.n, .int .i64 F.q, .int .i64 F.b.1, .int .i64 F.b.2, .slice a.1 a.2.1 a.2.2, .slice b.1 b.2.1 b.2.2, .slice c.1 c.2.1 c.2.2, .slice d.1 d.2.1 d.2.2, .slice e.1 e.2.1 e.2.2] 39)) (Nat.le_refl _)).mono B2.out.size))
    have HMF := Lib.hid fun W hb => mayF_any _ F W (RV.fat (R2.out.below hb).rv) HFT.out
    clear hr hb
    obtain ⟨p0, p1, p2, p3, p4, p5, p6, p7, p8, p9, p10, p11, p12, p13⟩ := fbox_cells Y2.out
    cases ok
    · have HD := Lib.hid (DF.out HSM.out (by rfl))
      have HZ3 := Lib.hid (show (w2.alloc (.cells #[.int .u8 F.k, .int .i64 F.f.1, .int .i64 F.f.2, .int .i64 F.t.1, .int .i64 F.t.2, .int .i64 F.n, .int .i64 F.q, .int .i64 F.b.1, .int .i64 F.b.2, .slice a.1 a.2.1 a.2.2, .slice b.1 b.2.1 b.2.2, .slice c.1 c.2.1 c.2.2, .slice d.1 d.2.1 d.2.2, .slice e.1 e.2.1 e.2.2] 39)).heap[w.heap.size]? = some (.cells #[.int .u8 0, .int .i64 0, .int .i64 0, .int .i64 0, .int .i64 0, .int .i64 0, .int .i64 0, .int .i64 0, .int .i64 0, .slice none 0 0, .slice none 0 0, .slice none 0 0, .slice none 0 0, .slice none 0 0] 39 (0, 0)) from Z2.out)
      go_wp2_with (refine wpList_store_row rfl 39 _ _ rfl w.heap.size #[.int .u8 0, .int .i64 0, .int .i64 0, .int .i64 0, .int .i64 0, .int .i64 0, .int .i64 0, .int .i64 0, .int .i64 0, .slice none 0 0, .slice none 0 0, .slice none 0 0, .slice none 0 0, .slice none 0 0] rfl rfl 39 #[.int .u8 0, .int .i64 0, .int .i64 0, .int .i64 0, .int .i64 0, .int .i64 0, .int .i64 0, .int .i64 0, .int .i64 0, .slice none 0 0, .slice none 0 0, .slice none 0 0, .slice none 0 0, .slice none 0 0] HZ3.out HS.out rfl (by simp [Value.oneCell']) ?_)
      have HU := Lib.hid (show FBox ((w2.alloc (.cells #[.int .u8 F.k, .int .i64 F.f.1, .int .i64 F.f.2, .int .i64 F.t.1, .int .i64 F.t.2, .int .i64 F.n, .int .i64 F.q, .int .i64 F.b.1, .int .i64 F.b.2, .slice a.1 a.2.1 a.2.2, .slice b.1 b.2.1 b.2.2, .slice c.1 c.2.1 c.2.2, .slice d.1 d.2.1 d.2.2, .slice e.1 e.2.1 e.2.2] 39)).setRow w.heap.size #[.int .u8 0, .int .i64 0, .int .i64 0, .int .i64 0, .int .i64 0, .int .i64 0, .int .i64 0, .int .i64 0, .int .i64 0, .slice none 0 0, .slice none 0 0, .slice none 0 0, .slice none 0 0, .slice none 0 0]) w.heap.size (⟨0, (0, 0), (0, 0), 0, 0, (0, 0), ⟨[], [], [], [], []⟩⟩ : Fr) (none, 0, 0) (none, 0, 0) (none, 0, 0) (none, 0, 0) (none, 0, 0) from setRow_heap (w2.alloc (.cells #[.int .u8 F.k, .int .i64 F.f.1, .int .i64 F.f.2, .int .i64 F.t.1, .int .i64 F.t.2, .int .i64 F.n, .int .i64 F.q, .int .i64 F.b.1, .int .i64 F.b.2, .slice a.1 a.2.1 a.2.2, .slice b.1 b.2.1 b.2.2, .slice c.1 c.2.1 c.2.2, .slice d.1 d.2.1 d.2.2, .slice e.1 e.2.1 e.2.2] 39)) w.heap.size #[.int .u8 0, .int .i64 0, .int .i64 0, .int .i64 0, .int .i64 0, .int .i64 0, .int .i64 0, .int .i64 0, .int .i64 0, .slice none 0 0, .slice none 0 0, .slice none 0 0, .slice none 0 0, .slice none 0 0] #[.int .u8 0, .int .i64 0, .int .i64 0, .int .i64 0, .int .i64 0, .int .i64 0, .int .i64 0, .int .i64 0, .int .i64 0, .slice none 0 0, .slice none 0 0, .slice none 0 0, .slice none 0 0, .slice none 0 0] 39 _ HZ3.out)
      obtain ⟨q0, q1, q2, q3, q4, q5, q6, q7, q8, q9, q10, q11, q12, q13⟩ := fbox_cells HU.out
      dsimp only at q0 q1 q2 q3 q4 q5 q6 q7 q8 q9 q10 q11 q12 q13
      have HE1 := HD.out.1
      rw [HE1, HD.out.2]
      refine bodyPost_ret (v := .tuple #[.agg #[.int .u8 0, .int .i64 0, .int .i64 0, .int .i64 0, .int .i64 0, .int .i64 0, .int .i64 0, .int .i64 0, .int .i64 0, .slice none 0 0, .slice none 0 0, .slice none 0 0, .slice none 0 0, .slice none 0 0], .int .i64 4]) (by simp [results, Tryz.results13, go_sem, q0, q1, q2, q3, q4, q5, q6, q7, q8, q9, q10, q11, q12, q13]) rfl ?_
      exact ⟨_, _, _, _, _, rfl, (OwnV.nil _ 0).rv, B3.out.trans (below_gone (grown_row _ _ _) (Nat.le_refl _) B3.out.size)⟩
    · have HMM : Hid (∃ z, z = mayF F) := Lib.hid ⟨_, rfl⟩
      rcases hm : mayF F with _ | _
      · have HD := Lib.hid (DF.out HSM.out (by rw [hm]; rfl))
        rw [hm] at HMF
        clear hm
        go_wp2_with fail
        (with_reducible refine (HMF.out _ (Below.refl _ _)).mono ?_)
        rintro e3 w3 ⟨rfl, hb⟩
        have HZ3 := Lib.hid (show w3.heap[w.heap.size]? = some (.cells #[.int .u8 0, .int .i64 0, .int .i64 0, .int .i64 0, .int .i64 0, .int .i64 0, .int .i64 0, .int .i64 0, .int .i64 0, .slice none 0 0, .slice none 0 0, .slice none 0 0, .slice none 0 0, .slice none 0 0] 39 (0, 0)) from fbox_below Z2.out hb)
        have B4 := Lib.hid (B3.out.trans (hb.mono B3.out.size))
        clear hb p0 p1 p2 p3 p4 p5 p6 p7 p8 p9 p10 p11 p12 p13
        go_wp2_with (refine wpList_store_row rfl 39 _ _ rfl w.heap.size #[.int .u8 0, .int .i64 0, .int .i64 0, .int .i64 0, .int .i64 0, .int .i64 0, .int .i64 0, .int .i64 0, .int .i64 0, .slice none 0 0, .slice none 0 0, .slice none 0 0, .slice none 0 0, .slice none 0 0] rfl rfl 39 #[.int .u8 0, .int .i64 0, .int .i64 0, .int .i64 0, .int .i64 0, .int .i64 0, .int .i64 0, .int .i64 0, .int .i64 0, .slice none 0 0, .slice none 0 0, .slice none 0 0, .slice none 0 0, .slice none 0 0] HZ3.out HS.out rfl (by simp [Value.oneCell']) ?_)
        have HU := Lib.hid (show FBox (w3.setRow w.heap.size #[.int .u8 0, .int .i64 0, .int .i64 0, .int .i64 0, .int .i64 0, .int .i64 0, .int .i64 0, .int .i64 0, .int .i64 0, .slice none 0 0, .slice none 0 0, .slice none 0 0, .slice none 0 0, .slice none 0 0]) w.heap.size (⟨0, (0, 0), (0, 0), 0, 0, (0, 0), ⟨[], [], [], [], []⟩⟩ : Fr) (none, 0, 0) (none, 0, 0) (none, 0, 0) (none, 0, 0) (none, 0, 0) from setRow_heap w3 w.heap.size #[.int .u8 0, .int .i64 0, .int .i64 0, .int .i64 0, .int .i64 0, .int .i64 0, .int .i64 0, .int .i64 0, .int .i64 0, .slice none 0 0, .slice none 0 0, .slice none 0 0, .slice none 0 0, .slice none 0 0] #[.int .u8 0, .int .i64 0, .int .i64 0, .int .i64 0, .int .i64 0, .int .i64 0, .int .i64 0, .int .i64 0, .int .i64 0, .slice none 0 0, .slice none 0 0, .slice none 0 0, .slice none 0 0, .slice none 0 0] 39 _ HZ3.out)
        obtain ⟨q0, q1, q2, q3, q4, q5, q6, q7, q8, q9, q10, q11, q12, q13⟩ := fbox_cells HU.out
        dsimp only at q0 q1 q2 q3 q4 q5 q6 q7 q8 q9 q10 q11 q12 q13
        have HE1 := HD.out.1
        rw [HE1, HD.out.2]
        refine bodyPost_ret (v := .tuple #[.agg #[.int .u8 0, .int .i64 0, .int .i64 0, .int .i64 0, .int .i64 0, .int .i64 0, .int .i64 0, .int .i64 0, .int .i64 0, .slice none 0 0, .slice none 0 0, .slice none 0 0, .slice none 0 0, .slice none 0 0], .int .i64 4]) (by simp [results, Tryz.results13, go_sem, q0, q1, q2, q3, q4, q5, q6, q7, q8, q9, q10, q11, q12, q13]) rfl ?_
        exact ⟨_, _, _, _, _, rfl, (OwnV.nil _ 0).rv, B4.out.trans (below_gone (grown_row _ _ _) (Nat.le_refl _) B4.out.size)⟩
      · have HD := Lib.hid (DG.out HSM.out (by rw [hm]; rfl))
        rw [hm] at HMF
        clear hm
        go_wp2_with fail
        (with_reducible refine (HMF.out _ (Below.refl _ _)).mono ?_)
        rintro e3 w3 ⟨rfl, hb⟩
        have HZ3 := Lib.hid (show w3.heap[w.heap.size]? = some (.cells #[.int .u8 0, .int .i64 0, .int .i64 0, .int .i64 0, .int .i64 0, .int .i64 0, .int .i64 0, .int .i64 0, .int .i64 0, .slice none 0 0, .slice none 0 0, .slice none 0 0, .slice none 0 0, .slice none 0 0] 39 (0, 0)) from fbox_below Z2.out hb)
        have B4 := Lib.hid (B3.out.trans (hb.mono B3.out.size))
        have Y3 := Lib.hid (fbox_below Y2.out hb)
        have R3 := Lib.hid (R2.out.below hb)
        clear hb p0 p1 p2 p3 p4 p5 p6 p7 p8 p9 p10 p11 p12 p13
        obtain ⟨p0, p1, p2, p3, p4, p5, p6, p7, p8, p9, p10, p11, p12, p13⟩ := fbox_cells Y3.out
        go_wp2_with (refine wpList_store_row rfl 39 _ _ rfl w.heap.size #[.int .u8 F.k, .int .i64 F.f.1, .int .i64 F.f.2, .int .i64 F.t.1, .int .i64 F.t.2, .int .i64 F.n, .int .i64 F.q, .int .i64 F.b.1, .int .i64 F.b.2, .slice a.1 a.2.1 a.2.2, .slice b.1 b.2.1 b.2.2, .slice c.1 c.2.1 c.2.2, .slice d.1 d.2.1 d.2.2, .slice e.1 e.2.1 e.2.2] rfl rfl 39 #[.int .u8 0, .int .i64 0, .int .i64 0, .int .i64 0, .int .i64 0, .int .i64 0, .int .i64 0, .int .i64 0, .int .i64 0, .slice none 0 0, .slice none 0 0, .slice none 0 0, .slice none 0 0, .slice none 0 0] HZ3.out HS.out rfl (by simp [Value.oneCell']) ?_)
        have HU := Lib.hid (show FBox (w3.setRow w.heap.size #[.int .u8 F.k, .int .i64 F.f.1, .int .i64 F.f.2, .int .i64 F.t.1, .int .i64 F.t.2, .int .i64 F.n, .int .i64 F.q, .int .i64 F.b.1, .int .i64 F.b.2, .slice a.1 a.2.1 a.2.2, .slice b.1 b.2.1 b.2.2, .slice c.1 c.2.1 c.2.2, .slice d.1 d.2.1 d.2.2, .slice e.1 e.2.1 e.2.2]) w.heap.size F a b c d e from setRow_heap w3 w.heap.size #[.int .u8 0, .int .i64 0, .int .i64 0, .int .i64 0, .int .i64 0, .int .i64 0, .int .i64 0, .int .i64 0, .int .i64 0, .slice none 0 0, .slice none 0 0, .slice none 0 0, .slice none 0 0, .slice none 0 0] #[.int .u8 F.k, .int .i64 F.f.1, .int .i64 F.f.2, .int .i64 F.t.1, .int .i64 F.t.2, .int .i64 F.n, .int .i64 F.q, .int .i64 F.b.1, .int .i64 F.b.2, .slice a.1 a.2.1 a.2.2, .slice b.1 b.2.1 b.2.2, .slice c.1 c.2.1 c.2.2, .slice d.1 d.2.1 d.2.2, .slice e.1 e.2.1 e.2.2] 39 _ HZ3.out)
        obtain ⟨q0, q1, q2, q3, q4, q5, q6, q7, q8, q9, q10, q11, q12, q13⟩ := fbox_cells HU.out
        have HE1 := HD.out.1
        rw [HE1, HD.out.2]
        refine bodyPost_ret (v := .tuple #[.agg #[.int .u8 F.k, .int .i64 F.f.1, .int .i64 F.f.2, .int .i64 F.t.1, .int .i64 F.t.2, .int .i64 F.n, .int .i64 F.q, .int .i64 F.b.1, .int .i64 F.b.2, .slice a.1 a.2.1 a.2.2, .slice b.1 b.2.1 b.2.2, .slice c.1 c.2.1 c.2.2, .slice d.1 d.2.1 d.2.2, .slice e.1 e.2.1 e.2.2], .int .i64 0]) (by simp [results, Tryz.results13, go_sem, q0, q1, q2, q3, q4, q5, q6, q7, q8, q9, q10, q11, q12, q13]) rfl ?_
        exact ⟨a, b, c, d, e, rfl, (R3.out.write HZ3.out (by decide) (by decide) (by decide) (by decide) (grown_row _ _ _)).rv, B4.out.trans (below_gone (grown_row _ _ _) (Nat.le_refl _) B4.out.size)⟩
  · have ds : ((bs (le4 (Crc.add 0 (S.data.toList.take m)))).toList == (S.extract m S.size).toList) = false := by rw [HB.out, beq_eq_false_iff_ne, ByteArray.toList_eq, ByteArray.toList_eq]; exact fun e => hs (by simpa [bs] using e)
    have du : ¬ (bs (le4 (Crc.add 0 (S.data.toList.take m)))).toList = (S.extract m S.size).toList := ne_of_beq_false ds
    have HD := Lib.hid (DS.out hs)
    have dz : (!((bs (le4 (Crc.add 0 (S.data.toList.take m)))).toList == (S.extract m S.size).toList)) = true := by rw [ds]; rfl
    rw [dz]
    clear hs dz du
    generalize bs (le4 (Crc.add 0 (S.data.toList.take m))) = U at *
    generalize S.extract m S.size = U2 at *
    go_wp2_with (refine wpList_store_row rfl 39 _ _ rfl w.heap.size #[.int .u8 0, .int .i64 0, .int .i64 0, .int .i64 0, .int .i64 0, .int .i64 0, .int .i64 0, .int .i64 0, .int .i64 0, .slice none 0 0, .slice none 0 0, .slice none 0 0, .slice none 0 0, .slice none 0 0] rfl rfl 39 #[.int .u8 0, .int .i64 0, .int .i64 0, .int .i64 0, .int .i64 0, .int .i64 0, .int .i64 0, .int .i64 0, .int .i64 0, .slice none 0 0, .slice none 0 0, .slice none 0 0, .slice none 0 0, .slice none 0 0] HZ2.out HS.out rfl (by simp [Value.oneCell']) ?_)
    have HU := Lib.hid (show FBox (w1.setRow w.heap.size #[.int .u8 0, .int .i64 0, .int .i64 0, .int .i64 0, .int .i64 0, .int .i64 0, .int .i64 0, .int .i64 0, .int .i64 0, .slice none 0 0, .slice none 0 0, .slice none 0 0, .slice none 0 0, .slice none 0 0]) w.heap.size (⟨0, (0, 0), (0, 0), 0, 0, (0, 0), ⟨[], [], [], [], []⟩⟩ : Fr) (none, 0, 0) (none, 0, 0) (none, 0, 0) (none, 0, 0) (none, 0, 0) from setRow_heap w1 w.heap.size #[.int .u8 0, .int .i64 0, .int .i64 0, .int .i64 0, .int .i64 0, .int .i64 0, .int .i64 0, .int .i64 0, .int .i64 0, .slice none 0 0, .slice none 0 0, .slice none 0 0, .slice none 0 0, .slice none 0 0] #[.int .u8 0, .int .i64 0, .int .i64 0, .int .i64 0, .int .i64 0, .int .i64 0, .int .i64 0, .int .i64 0, .int .i64 0, .slice none 0 0, .slice none 0 0, .slice none 0 0, .slice none 0 0, .slice none 0 0] 39 _ HZ2.out)
    obtain ⟨q0, q1, q2, q3, q4, q5, q6, q7, q8, q9, q10, q11, q12, q13⟩ := fbox_cells HU.out
    dsimp only at q0 q1 q2 q3 q4 q5 q6 q7 q8 q9 q10 q11 q12 q13
    have HE1 := HD.out.1
    rw [HE1, HD.out.2]
    refine bodyPost_ret (v := .tuple #[.agg #[.int .u8 0, .int .i64 0, .int .i64 0, .int .i64 0, .int .i64 0, .int .i64 0, .int .i64 0, .int .i64 0, .int .i64 0, .slice none 0 0, .slice none 0 0, .slice none 0 0, .slice none 0 0, .slice none 0 0], .int .i64 9]) (by simp [results, Tryz.results13, go_sem, q0, q1, q2, q3, q4, q5, q6, q7, q8, q9, q10, q11, q12, q13]) rfl ?_
    exact ⟨_, _, _, _, _, rfl, (OwnV.nil _ 0).rv, B2.out.trans (below_gone (grown_row _ _ _) (Nat.le_refl _) B2.out.size)⟩
end Go.Proofs.YtkeiekljedhllaaGreat
namespace Go.Proofs.YtkeiekljedhllaaGreat
open Go Go.RowKit
theorem cell_below {w w' : World} {a : Addr} {v : Value} (hb : Below w.heap.size w w') (h : w.cell? a = some v) : w'.cell? a = some v := (hb.cell (World.block_lt_of_cell? w a h)).trans h
theorem sameR_self : ∀ l : List RowSets.Row, sameR l l = true
  | [] => rfl
  | r :: l => by
    unfold sameR
    rw [sameR_self l]
    simp [sameW, sameB]
theorem coreB_self (V : Vw) : coreB V V = true := by
  unfold coreB
  rw [sameR_self]
  simp [sameB]
set_option maxHeartbeats 4000000 in
theorem sameT_self (v u : Value) (l : List Clocks.Tick) (w : World) (h : Rcs encT 3 w v l) (h2 : Rcs encT 3 w u l) (hl : l.length ≤ 100000) :
    Calls Tryz.prog 64 #[v, u] w fun e w' => e = .returned (.bool true) ∧ Below w.heap.size w w' := by
  have HI := Lib.hid h
  have HJ := Lib.hid h2
  obtain ⟨A, c, rfl, hz⟩ := h
  obtain ⟨B, d, rfl, hy⟩ := h2
  clear hz hy
  have hne : ((l.length : Int) != (l.length : Int)) = false := by simp
  go_enter Tryz.func64, Tryz.ntmps64
  go_wp2_with fail
  go_loopw [5] (fun s5 wr => ∃ k : Nat, k ≤ l.length ∧ s5 = .int .i64 k ∧ Hid (Below w.heap.size w wr)) (fun s5 _ => l.length - (intOf s5).toNat)
  case atStart => exact ⟨0, by omega, rfl, Lib.hid (Below.refl _ _)⟩
  case round =>
    obtain ⟨k, hkl, rfl, HW⟩ := hrel
    have i3 : (0 : Int) ≤ (k : Int) := by omega
    by_cases hlt : k < l.length
    · have hd : decide ((k : Int) < (l.length : Int)) = true := by simp; omega
      have i4 : (k : Int) < (l.length : Int) := by omega
      obtain ⟨ad, rfl, c1, c2, c3⟩ := ticks_at HI.out HW.out hlt
      obtain ⟨ae, rfl, d1, d2, d3⟩ := ticks_at HJ.out HW.out hlt
      generalize l[k].1.1 = p at *
      generalize l[k].1.2 = q at *
      generalize l[k].2 = r at *
      go_wp2_with fail
      go_quiet (fail)
      go_wp2_with fail
      go_roundw
      case rel => exact ⟨k + 1, by omega, by go_num, Lib.hid (below_drewN HW.out)⟩
      case measure => simp [intOf]; omega
    · obtain rfl : k = l.length := by omega
      have hd : decide ((l.length : Int) < (l.length : Int)) = false := by simp
      go_wp2_with fail
      go_ret
      exact ⟨rfl, HW.out⟩
set_option maxHeartbeats 4000000 in
theorem viewSame_self (v u : Value) (V : Vw) (w : World) (h : VAt w v V) (k : VAt w u V) (hV : FitVIE 5000 V) :
    Calls Tryz.prog 32 #[v, u] w fun e w' => e = .returned (.bool true) ∧ Below w.heap.size w w' := by
  obtain ⟨a, b, c, d, e, rfl, hr⟩ := h
  obtain ⟨a', b', c', d', e', rfl, kr⟩ := k
  have B1 := Lib.hid (below_one w (.cells #[.slice a.1 a.2.1 a.2.2, .slice b.1 b.2.1 b.2.2, .slice c.1 c.2.1 c.2.2, .slice d.1 d.2.1 d.2.2, .slice e.1 e.2.1 e.2.2] 33))
  have B2 := Lib.hid (below_one (w.alloc (.cells #[.slice a.1 a.2.1 a.2.2, .slice b.1 b.2.1 b.2.2, .slice c.1 c.2.1 c.2.2, .slice d.1 d.2.1 d.2.2, .slice e.1 e.2.1 e.2.2] 33)) (.cells #[.slice a'.1 a'.2.1 a'.2.2, .slice b'.1 b'.2.1 b'.2.2, .slice c'.1 c'.2.1 c'.2.2, .slice d'.1 d'.2.1 d'.2.2, .slice e'.1 e'.2.1 e'.2.2] 33))
  have X1 := Lib.hid (vbox_below (vbox_new w a b c d e) B2.out)
  have X2 : Hid (VBox ((w.alloc (.cells #[.slice a.1 a.2.1 a.2.2, .slice b.1 b.2.1 b.2.2, .slice c.1 c.2.1 c.2.2, .slice d.1 d.2.1 d.2.2, .slice e.1 e.2.1 e.2.2] 33)).alloc (.cells #[.slice a'.1 a'.2.1 a'.2.2, .slice b'.1 b'.2.1 b'.2.2, .slice c'.1 c'.2.1 c'.2.2, .slice d'.1 d'.2.1 d'.2.2, .slice e'.1 e'.2.1 e'.2.2] 33)) (w.heap.size + 1) a' b' c' d' e') := Lib.hid (by simpa using vbox_new (w.alloc (.cells #[.slice a.1 a.2.1 a.2.2, .slice b.1 b.2.1 b.2.2, .slice c.1 c.2.1 c.2.2, .slice d.1 d.2.1 d.2.2, .slice e.1 e.2.1 e.2.2] 33)) a' b' c' d' e')
  have BB := Lib.hid (below_after B1.out B2.out (Nat.le_refl _))
  have RA := Lib.hid (hr.below BB.out)
  have RB := Lib.hid (kr.below BB.out)
  clear hr kr B1 B2
  obtain ⟨p0, p1, p2, p3, p4⟩ := vbox_cells X1.out
  obtain ⟨q0, q1, q2, q3, q4⟩ := vbox_cells X2.out
  have HF := Lib.hid hV
  go_enter Tryz.func32, Tryz.ntmps32
  go_wp2_with fail
  (with_reducible refine (core_any _ _ V V _ RA.out.at_ RB.out.at_ HF.out HF.out).mono ?_)
  rw [coreB_self]
  rintro e1 w1 ⟨rfl, hb⟩
  have RA1 := Lib.hid (RA.out.below hb)
  have RB1 := Lib.hid (RB.out.below hb)
  have X3 := Lib.hid (vbox_below X1.out hb)
  have X4 := Lib.hid (vbox_below X2.out hb)
  have B3 := Lib.hid (below_after BB.out hb (Nat.le_refl _))
  clear hb p0 p1 p2 p3 p4 q0 q1 q2 q3 q4
  obtain ⟨p0, p1, p2, p3, p4⟩ := vbox_cells X3.out
  obtain ⟨q0, q1, q2, q3, q4⟩ := vbox_cells X4.out
  go_wp2_with fail
  (with_reducible refine (equal_any _ _ V.s V.s _ RA1.out.s RB1.out.s (Nat.le_trans HF.out.s (by decide))).mono ?_)
  rw [show sameB V.s V.s = true by simp [sameB]]
  rintro e2 w2 ⟨rfl, hb⟩
  have B4 := Lib.hid (below_after B3.out hb (Nat.le_refl _))
  clear hb
  go_wp2_with fail
  go_ret
  exact ⟨rfl, B4.out⟩
set_option maxHeartbeats 8000000 in
theorem views_self (v u : Value) (V : Vw) (w : World) (h : VAt w v V) (k : VAt w u V) (hV : FitVIE 5000 V) :
    Calls Tryz.prog 31 #[v, u] w fun e w' => e = .returned (.bool true) ∧ Below w.heap.size w w' := by
  obtain ⟨a, b, ⟨c0, c1, c2⟩, d, e, rfl, hr⟩ := h
  obtain ⟨a', b', ⟨d0, d1, d2⟩, d', e', rfl, kr⟩ := k
  obtain rfl : c1 = V.r.length := rows_len hr.r
  obtain rfl : d1 = V.r.length := rows_len kr.r
  have B1 := Lib.hid (below_one w (.cells #[.slice a.1 a.2.1 a.2.2, .slice b.1 b.2.1 b.2.2, .slice c0 V.r.length c2, .slice d.1 d.2.1 d.2.2, .slice e.1 e.2.1 e.2.2] 33))
  have B2 := Lib.hid (below_one (w.alloc (.cells #[.slice a.1 a.2.1 a.2.2, .slice b.1 b.2.1 b.2.2, .slice c0 V.r.length c2, .slice d.1 d.2.1 d.2.2, .slice e.1 e.2.1 e.2.2] 33)) (.cells #[.slice a'.1 a'.2.1 a'.2.2, .slice b'.1 b'.2.1 b'.2.2, .slice d0 V.r.length d2, .slice d'.1 d'.2.1 d'.2.2, .slice e'.1 e'.2.1 e'.2.2] 33))
  have X1 := Lib.hid (vbox_below (vbox_new w a b (c0, V.r.length, c2) d e) B2.out)
  have X2 : Hid (VBox ((w.alloc (.cells #[.slice a.1 a.2.1 a.2.2, .slice b.1 b.2.1 b.2.2, .slice c0 V.r.length c2, .slice d.1 d.2.1 d.2.2, .slice e.1 e.2.1 e.2.2] 33)).alloc (.cells #[.slice a'.1 a'.2.1 a'.2.2, .slice b'.1 b'.2.1 b'.2.2, .slice d0 V.r.length d2, .slice d'.1 d'.2.1 d'.2.2, .slice e'.1 e'.2.1 e'.2.2] 33)) (w.heap.size + 1) a' b' (d0, V.r.length, d2) d' e') := Lib.hid (by simpa using vbox_new (w.alloc (.cells #[.slice a.1 a.2.1 a.2.2, .slice b.1 b.2.1 b.2.2, .slice c0 V.r.length c2, .slice d.1 d.2.1 d.2.2, .slice e.1 e.2.1 e.2.2] 33)) a' b' (d0, V.r.length, d2) d' e')
  have BB := Lib.hid (below_after B1.out B2.out (Nat.le_refl _))
  have RA := Lib.hid (hr.below BB.out)
  have RB := Lib.hid (kr.below BB.out)
  clear hr kr B1 B2
  obtain ⟨p0, p1, p2, p3, p4⟩ := vbox_cells X1.out
  obtain ⟨q0, q1, q2, q3, q4⟩ := vbox_cells X2.out
  dsimp only at p2 q2
  have HF := Lib.hid hV
  have hne : ((V.r.length : Int) != (V.r.length : Int)) = false := by simp
  go_enter Tryz.func31, Tryz.ntmps31
  go_wp2_with fail
  (with_reducible refine (sameM_any _ _ V.m V.m _ RA.out.m RB.out.m (Nat.le_trans HF.out.m (by decide)) (Nat.le_trans HF.out.m (by decide))).mono ?_)
  rw [show decide (V.m = V.m) = true by simp]
  rintro e1 w1 ⟨rfl, hb⟩
  have RA1 := Lib.hid (RA.out.below hb)
  have RB1 := Lib.hid (RB.out.below hb)
  have BB1 := Lib.hid (below_after BB.out hb (Nat.le_refl _))
  have XA1 := Lib.hid (vbox_below X1.out hb)
  have XB1 := Lib.hid (vbox_below X2.out hb)
  clear hb p0 p1 p2 p3 p4 q0 q1 q2 q3 q4 RA RB
  obtain ⟨p0, p1, p2, p3, p4⟩ := vbox_cells XA1.out
  obtain ⟨q0, q1, q2, q3, q4⟩ := vbox_cells XB1.out
  dsimp only at p2 q2
  go_wp2_with fail
  (with_reducible refine (sameI_any _ _ V.f V.f _ RA1.out.f RB1.out.f (Nat.le_trans HF.out.f (by decide)) (Nat.le_trans HF.out.f (by decide))).mono ?_)
  rw [show decide (V.f = V.f) = true by simp]
  rintro e2 w2 ⟨rfl, hb⟩
  have RA2 := Lib.hid (RA1.out.below hb)
  have RB2 := Lib.hid (RB1.out.below hb)
  have BB2 := Lib.hid (below_after BB1.out hb (Nat.le_refl _))
  have XA2 := Lib.hid (vbox_below XA1.out hb)
  have XB2 := Lib.hid (vbox_below XB1.out hb)
  clear hb p0 p1 p2 p3 p4 q0 q1 q2 q3 q4 RA1 RB1
  obtain ⟨p0, p1, p2, p3, p4⟩ := vbox_cells XA2.out
  obtain ⟨q0, q1, q2, q3, q4⟩ := vbox_cells XB2.out
  dsimp only at p2 q2
  go_wp2_with fail
  (with_reducible refine (sameT_self _ _ V.c _ RA2.out.c RB2.out.c (Nat.le_trans HF.out.c (by decide))).mono ?_)
  rintro e3 w3 ⟨rfl, hb⟩
  have RA3 := Lib.hid (RA2.out.below hb)
  have RB3 := Lib.hid (RB2.out.below hb)
  have BB3 := Lib.hid (below_after BB2.out hb (Nat.le_refl _))
  have XA3 := Lib.hid (vbox_below XA2.out hb)
  have XB3 := Lib.hid (vbox_below XB2.out hb)
  clear hb p0 p1 p2 p3 p4 q0 q1 q2 q3 q4 RA2 RB2
  obtain ⟨p0, p1, p2, p3, p4⟩ := vbox_cells XA3.out
  obtain ⟨q0, q1, q2, q3, q4⟩ := vbox_cells XB3.out
  dsimp only at p2 q2
  go_wp2_with fail
  (with_reducible refine (sameI_any _ _ V.s V.s _ RA3.out.s RB3.out.s (Nat.le_trans HF.out.s (by decide)) (Nat.le_trans HF.out.s (by decide))).mono ?_)
  rw [show decide (V.s = V.s) = true by simp]
  rintro e4 w4 ⟨rfl, hb⟩
  have RA4 := Lib.hid (RA3.out.below hb)
  have RB4 := Lib.hid (RB3.out.below hb)
  have BB4 := Lib.hid (below_after BB3.out hb (Nat.le_refl _))
  have XA4 := Lib.hid (vbox_below XA3.out hb)
  have XB4 := Lib.hid (vbox_below XB3.out hb)
  clear hb p0 p1 p2 p3 p4 q0 q1 q2 q3 q4 RA3 RB3
  obtain ⟨p0, p1, p2, p3, p4⟩ := vbox_cells XA4.out
  obtain ⟨q0, q1, q2, q3, q4⟩ := vbox_cells XB4.out
  dsimp only at p2 q2
  go_wp2_with fail
  go_loopw [5] (fun s5 wr => ∃ k : Nat, k ≤ V.r.length ∧ s5 = .int .i64 k ∧ Hid (Below w4.heap.size w4 wr)) (fun s5 _ => V.r.length - (intOf s5).toNat)
  case atStart => exact ⟨0, by omega, rfl, Lib.hid (Below.refl _ _)⟩
  case round =>
    clear p0 p1 p2 p3 p4 q0 q1 q2 q3 q4
    obtain ⟨k, hkl, rfl, HW⟩ := hrel
    have i3 : (0 : Int) ≤ (k : Int) := by omega
    have Y1 := Lib.hid (vbox_below XA4.out HW.out)
    have Y2 := Lib.hid (vbox_below XB4.out HW.out)
    obtain ⟨p0, p1, p2, p3, p4⟩ := vbox_cells Y1.out
    obtain ⟨q0, q1, q2, q3, q4⟩ := vbox_cells Y2.out
    dsimp only at p2 q2
    have hb5 := HF.out.r
    by_cases hlt : k < V.r.length
    · have hd : decide ((k : Int) < (V.r.length : Int)) = true := by simp; omega
      have i4 : (k : Int) < (V.r.length : Int) := by omega
      have HN := Lib.hid (HF.out.n _ (List.getElem_mem hlt))
      obtain ⟨ad, y1, rfl, a1, a2, a3, a4, a5⟩ := RowsAt.at_ RA4.out.r HW.out hlt
      obtain ⟨ae, y2, rfl, b1, b2, b3, b4, b5⟩ := RowsAt.at_ RB4.out.r HW.out hlt
      have A5 := Lib.hid (a5.below HW.out)
      have B5 := Lib.hid (b5.below HW.out)
      clear a5 b5
      generalize V.r[k].1.1 = x1 at *
      generalize V.r[k].1.2 = x2 at *
      generalize V.r[k].2.1 = x3 at *
      generalize V.r[k].2.2 = x4 at *
      have ne1 : (x3 != x3) = false := by simp
      go_wp2_with fail
      have HC := Lib.hid fun W hb => sameI_any y1 y2 x4 x4 W (A5.out.below hb) (B5.out.below hb) (Nat.le_trans HN.out (by decide)) (Nat.le_trans HN.out (by decide))
      rw [show decide (x4 = x4) = true by simp] at HC
      have HC2 := Lib.hid (HC.out wr.drew (show Below wr.heap.size wr wr.drew from below_drewN (n := 1) (Below.refl _ _)))
      go_region_held3 (fun W => (W.cell? ⟨w.heap.size, 2, none⟩ = some (.slice (some ad) V.r.length c2) ∧ W.cell? ⟨w.heap.size + 1, 2, none⟩ = some (.slice (some ae) V.r.length d2)) ∧ (W.cell? (ad.add (k * 4)) = some (.int .i64 x1) ∧ W.cell? ⟨(ad.add (k * 4)).block, (ad.add (k * 4)).off + 1, none⟩ = some (.int .i64 x2) ∧ W.cell? ⟨(ad.add (k * 4)).block, (ad.add (k * 4)).off + 2, none⟩ = some (.int .i64 x3) ∧ W.cell? ⟨(ad.add (k * 4)).block, (ad.add (k * 4)).off + 3, none⟩ = some y1) ∧ (W.cell? (ae.add (k * 4)) = some (.int .i64 x1) ∧ W.cell? ⟨(ae.add (k * 4)).block, (ae.add (k * 4)).off + 1, none⟩ = some (.int .i64 x2) ∧ W.cell? ⟨(ae.add (k * 4)).block, (ae.add (k * 4)).off + 2, none⟩ = some (.int .i64 x3) ∧ W.cell? ⟨(ae.add (k * 4)).block, (ae.add (k * 4)).off + 3, none⟩ = some y2))
        (first | exact ⟨⟨p2, q2⟩, ⟨a1, a2, a3, a4⟩, ⟨b1, b2, b3, b4⟩⟩ | exact ⟨⟨cell_below HB9.out p2, cell_below HB9.out q2⟩, ⟨cell_below HB9.out a1, cell_below HB9.out a2, cell_below HB9.out a3, cell_below HB9.out a4⟩, ⟨cell_below HB9.out b1, cell_below HB9.out b2, cell_below HB9.out b3, cell_below HB9.out b4⟩⟩)
        (first | (go_at_call 63; (with_reducible refine HC2.out.mono ?_); rintro e9 w9 ⟨rfl, hb9⟩; have HB9 := Lib.hid (show Below wr.heap.size wr w9 from ⟨hb9.os, hb9.tape, hb9.output, hb9.size, hb9.block⟩); clear hb9))
      go_wp2_with fail
      go_roundw
      case rel => exact ⟨k + 1, by omega, by go_num, Lib.hid (below_after HW.out HB9.out (Nat.le_refl _))⟩
      case measure => simp [intOf]; omega
    · obtain rfl : k = V.r.length := by omega
      have hd : decide ((V.r.length : Int) < (V.r.length : Int)) = false := by simp
      go_wp2_with fail
      go_ret
      exact ⟨rfl, below_after BB4.out HW.out (Nat.le_refl _)⟩
end Go.Proofs.YtkeiekljedhllaaGreat
