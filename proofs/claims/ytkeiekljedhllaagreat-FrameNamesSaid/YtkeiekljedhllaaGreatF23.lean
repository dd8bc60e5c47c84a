/-
  Carried over and put together: contracts of this program's functions, and plain facts. No statement is proved in this text.
-/
import Derived.Test.YtkeiekljedhllaaGreatF22
set_option maxRecDepth 20000
namespace Go.Proofs.YtkeiekljedhllaaGreat
open Go Go.RowKit
theorem rList_len {α : Type} (e : RS → α × RS) (s : RS) : (rList e s).1.length ≤ 64 := by
  unfold rList
  rw [rLoop_len]
  have := rUp_bounds 64 s (by decide)
  omega
theorem rLoop_all {α : Type} (e : RS → α × RS) (P : α → Prop) (h : ∀ s, P (e s).1) (k : Nat) (s : RS) : ∀ x ∈ (rLoop e k s).1, P x := by
  induction k with
  | zero => intro x hx; simp [rLoop] at hx
  | succ k ih =>
    intro x hx
    unfold rLoop at hx
    rw [List.mem_append] at hx
    rcases hx with hx | hx
    · exact ih x hx
    · simp at hx
      subst hx
      exact h _
theorem rList_fit {α : Type} (e : RS → α × RS) (s : RS) : (rList e s).1.length ≤ 5000 := Nat.le_trans (rList_len e s) (by decide)
theorem rIds_fit (s : RS) : (rIds s).1.length ≤ 5000 := by
  unfold rIds
  exact rList_fit _ _
theorem rRow_len (s : RS) : (rRow s).1.2.2.length ≤ 5000 := by
  unfold rRow
  dsimp only
  exact rIds_fit _
theorem rRows_fit (s : RS) : ∀ r ∈ (rList rRow s).1, r.2.2.length ≤ 5000 := by
  unfold rList
  exact rLoop_all rRow (fun r => r.2.2.length ≤ 5000) rRow_len _ _
theorem rView_fit (s : RS) : FitVIE 5000 (rView s).1 := by
  unfold rView
  dsimp only
  constructor
  · dsimp only; exact rList_fit _ _
  · dsimp only; exact rIds_fit _
  · dsimp only; exact rList_fit _ _
  · dsimp only; exact rList_fit _ _
  · dsimp only; exact rIds_fit _
  · dsimp only; exact rRows_fit _
theorem rFr_fit (s : RS) : FitVIE 5000 (rFr s).1.v := by
  unfold rFr
  dsimp only
  apply rView_fit
/-- What was wrong with bytes. -/
def decE (l : List UInt8) : Nat :=
  if 8192 < l.length then 40 else if l.length < 4 then 8 else if le4 (Crc.add 0 (l.take (l.length - 4))) = l.drop (l.length - 4) then (if (readOk (l.take (l.length - 4)) && mayF (readF (l.take (l.length - 4)))) = true then 0 else 4) else 9
/-- The frame that bytes are. -/
def decF (l : List UInt8) : Fr := if decE l = 0 then readF (l.take (l.length - 4)) else (⟨0, (0, 0), (0, 0), 0, 0, (0, 0), ⟨[], [], [], [], []⟩⟩ : Fr)
theorem decE_long {l : List UInt8} (h : 8192 < l.length) : decE l = 40 ∧ decF l = (⟨0, (0, 0), (0, 0), 0, 0, (0, 0), ⟨[], [], [], [], []⟩⟩ : Fr) := by
  have e : decE l = 40 := by unfold decE; rw [if_pos h]
  exact ⟨e, by unfold decF; rw [e]; rfl⟩
theorem decE_short {l : List UInt8} (h1 : ¬ 8192 < l.length) (h : l.length < 4) : decE l = 8 ∧ decF l = (⟨0, (0, 0), (0, 0), 0, 0, (0, 0), ⟨[], [], [], [], []⟩⟩ : Fr) := by
  have e : decE l = 8 := by unfold decE; rw [if_neg h1, if_pos h]
  exact ⟨e, by unfold decF; rw [e]; rfl⟩
theorem decE_sum {l : List UInt8} (h1 : ¬ 8192 < l.length) (h2 : ¬ l.length < 4) (h : ¬ le4 (Crc.add 0 (l.take (l.length - 4))) = l.drop (l.length - 4)) : decE l = 9 ∧ decF l = (⟨0, (0, 0), (0, 0), 0, 0, (0, 0), ⟨[], [], [], [], []⟩⟩ : Fr) := by
  have e : decE l = 9 := by unfold decE; rw [if_neg h1, if_neg h2, if_neg h]
  exact ⟨e, by unfold decF; rw [e]; rfl⟩
theorem decE_form {l : List UInt8} (h1 : ¬ 8192 < l.length) (h2 : ¬ l.length < 4) (h : le4 (Crc.add 0 (l.take (l.length - 4))) = l.drop (l.length - 4)) (h3 : (readOk (l.take (l.length - 4)) && mayF (readF (l.take (l.length - 4)))) = false) : decE l = 4 ∧ decF l = (⟨0, (0, 0), (0, 0), 0, 0, (0, 0), ⟨[], [], [], [], []⟩⟩ : Fr) := by
  have e : decE l = 4 := by unfold decE; rw [if_neg h1, if_neg h2, if_pos h, h3]; rfl
  exact ⟨e, by unfold decF; rw [e]; rfl⟩
theorem decE_good {l : List UInt8} (h1 : ¬ 8192 < l.length) (h2 : ¬ l.length < 4) (h : le4 (Crc.add 0 (l.take (l.length - 4))) = l.drop (l.length - 4)) (h3 : (readOk (l.take (l.length - 4)) && mayF (readF (l.take (l.length - 4)))) = true) : decE l = 0 ∧ decF l = readF (l.take (l.length - 4)) := by
  have e : decE l = 0 := by unfold decE; rw [if_neg h1, if_neg h2, if_pos h, if_pos h3]
  exact ⟨e, by unfold decF; rw [if_pos e]⟩
/-- What is decoded. -/
def Decoded (F : Fr) (n : Nat) (w : World) (e' : Ending) (w' : World) : Prop := ∃ (a b c d e : SL), e' = .returned (.tuple #[.agg #[.int .u8 F.k, .int .i64 F.f.1, .int .i64 F.f.2, .int .i64 F.t.1, .int .i64 F.t.2, .int .i64 F.n, .int .i64 F.q, .int .i64 F.b.1, .int .i64 F.b.2, .slice a.1 a.2.1 a.2.2, .slice b.1 b.2.1 b.2.2, .slice c.1 c.2.1 c.2.2, .slice d.1 d.2.1 d.2.2, .slice e.1 e.2.1 e.2.2], .int .i64 n]) ∧ RV w' a b c d e F.v ∧ Below w.heap.size w w'
theorem extract_take (S : ByteArray) (n : Nat) : S.extract 0 n = bs (S.data.toList.take n) := WideShapes.bytes_inj (by simp [bs, List.extract_eq_take_drop])
theorem extract_drop (S : ByteArray) (n : Nat) : S.extract n S.size = bs (S.data.toList.drop n) := WideShapes.bytes_inj (by simp [bs, List.extract_eq_take_drop]; exact List.take_of_length_le (by simp))
set_option maxHeartbeats 16000000 in
theorem decode_any (S : ByteArray) (w : World) : Calls Tryz.prog 13 #[.string S] w (Decoded (decF S.data.toList) (decE S.data.toList) w) := by
  have Z0 := Lib.hid (show FBox (w.alloc (.cells #[.int .u8 0, .int .i64 0, .int .i64 0, .int .i64 0, .int .i64 0, .int .i64 0, .int .i64 0, .int .i64 0, .int .i64 0, .slice none 0 0, .slice none 0 0, .slice none 0 0, .slice none 0 0, .slice none 0 0] 39)) w.heap.size (⟨0, (0, 0), (0, 0), 0, 0, (0, 0), ⟨[], [], [], [], []⟩⟩ : Fr) (none, 0, 0) (none, 0, 0) (none, 0, 0) (none, 0, 0) (none, 0, 0) from heap_alloc_new w _)
  have B0 := Lib.hid (below_one w (.cells #[.int .u8 0, .int .i64 0, .int .i64 0, .int .i64 0, .int .i64 0, .int .i64 0, .int .i64 0, .int .i64 0, .int .i64 0, .slice none 0 0, .slice none 0 0, .slice none 0 0, .slice none 0 0, .slice none 0 0] 39))
  have HL := Lib.hid (show S.size = S.data.toList.length by rw [Array.length_toList]; rfl)
  obtain ⟨p0, p1, p2, p3, p4, p5, p6, p7, p8, p9, p10, p11, p12, p13⟩ := fbox_cells Z0.out
  obtain ⟨f0, f1, f2, f3, f4, f5, f6, f7, f8, f9, f10, f11, f12, f13⟩ := fbox_free Z0.out
  dsimp only at p0 p1 p2 p3 p4 p5 p6 p7 p8 p9 p10 p11 p12 p13
  have HS := Lib.hid (show (Tryz.prog.info? 39).map (·.size) = some 14 by kernel_rfl)
  have HZ1 := Lib.hid (show (w.alloc (.cells #[.int .u8 0, .int .i64 0, .int .i64 0, .int .i64 0, .int .i64 0, .int .i64 0, .int .i64 0, .int .i64 0, .int .i64 0, .slice none 0 0, .slice none 0 0, .slice none 0 0, .slice none 0 0, .slice none 0 0] 39)).heap[w.heap.size]? = some (.cells #[.int .u8 0, .int .i64 0, .int .i64 0, .int .i64 0, .int .i64 0, .int .i64 0, .int .i64 0, .int .i64 0, .int .i64 0, .slice none 0 0, .slice none 0 0, .slice none 0 0, .slice none 0 0, .slice none 0 0] 39 (0, 0)) from Z0.out)
  go_enter Tryz.func13, Tryz.ntmps13
  by_cases h1 : 8192 < S.size
  · have d1 : (8192 : Int) < (S.size : Int) := by omega
    have HD := Lib.hid (decE_long (l := S.data.toList) (by rw [← HL.out]; exact h1))
    clear h1
    go_wp2_with (refine wpList_store_row rfl 39 _ _ rfl w.heap.size #[.int .u8 0, .int .i64 0, .int .i64 0, .int .i64 0, .int .i64 0, .int .i64 0, .int .i64 0, .int .i64 0, .int .i64 0, .slice none 0 0, .slice none 0 0, .slice none 0 0, .slice none 0 0, .slice none 0 0] rfl rfl 39 #[.int .u8 0, .int .i64 0, .int .i64 0, .int .i64 0, .int .i64 0, .int .i64 0, .int .i64 0, .int .i64 0, .int .i64 0, .slice none 0 0, .slice none 0 0, .slice none 0 0, .slice none 0 0, .slice none 0 0] HZ1.out HS.out rfl (by simp [Value.oneCell']) ?_)
    have HU := Lib.hid (show FBox ((w.alloc (.cells #[.int .u8 0, .int .i64 0, .int .i64 0, .int .i64 0, .int .i64 0, .int .i64 0, .int .i64 0, .int .i64 0, .int .i64 0, .slice none 0 0, .slice none 0 0, .slice none 0 0, .slice none 0 0, .slice none 0 0] 39)).setRow w.heap.size #[.int .u8 0, .int .i64 0, .int .i64 0, .int .i64 0, .int .i64 0, .int .i64 0, .int .i64 0, .int .i64 0, .int .i64 0, .slice none 0 0, .slice none 0 0, .slice none 0 0, .slice none 0 0, .slice none 0 0]) w.heap.size (⟨0, (0, 0), (0, 0), 0, 0, (0, 0), ⟨[], [], [], [], []⟩⟩ : Fr) (none, 0, 0) (none, 0, 0) (none, 0, 0) (none, 0, 0) (none, 0, 0) from setRow_heap (w.alloc (.cells #[.int .u8 0, .int .i64 0, .int .i64 0, .int .i64 0, .int .i64 0, .int .i64 0, .int .i64 0, .int .i64 0, .int .i64 0, .slice none 0 0, .slice none 0 0, .slice none 0 0, .slice none 0 0, .slice none 0 0] 39)) w.heap.size #[.int .u8 0, .int .i64 0, .int .i64 0, .int .i64 0, .int .i64 0, .int .i64 0, .int .i64 0, .int .i64 0, .int .i64 0, .slice none 0 0, .slice none 0 0, .slice none 0 0, .slice none 0 0, .slice none 0 0] #[.int .u8 0, .int .i64 0, .int .i64 0, .int .i64 0, .int .i64 0, .int .i64 0, .int .i64 0, .int .i64 0, .int .i64 0, .slice none 0 0, .slice none 0 0, .slice none 0 0, .slice none 0 0, .slice none 0 0] 39 _ HZ1.out)
    obtain ⟨q0, q1, q2, q3, q4, q5, q6, q7, q8, q9, q10, q11, q12, q13⟩ := fbox_cells HU.out
    dsimp only at q0 q1 q2 q3 q4 q5 q6 q7 q8 q9 q10 q11 q12 q13
    have HE1 := HD.out.1
    rw [HE1, HD.out.2]
    refine bodyPost_ret (v := .tuple #[.agg #[.int .u8 0, .int .i64 0, .int .i64 0, .int .i64 0, .int .i64 0, .int .i64 0, .int .i64 0, .int .i64 0, .int .i64 0, .slice none 0 0, .slice none 0 0, .slice none 0 0, .slice none 0 0, .slice none 0 0], .int .i64 40]) (by simp [results, Tryz.results13, go_sem, q0, q1, q2, q3, q4, q5, q6, q7, q8, q9, q10, q11, q12, q13]) rfl ?_
    exact ⟨_, _, _, _, _, rfl, (OwnV.nil _ 0).rv, B0.out.trans (below_gone (grown_row _ _ _) (Nat.le_refl _) B0.out.size)⟩
  have e1 : ¬ (8192 : Int) < (S.size : Int) := by omega
  by_cases h2 : S.size < 4
  · have d1 : (S.size : Int) < 4 := by omega
    have HD := Lib.hid (decE_short (l := S.data.toList) (by rw [← HL.out]; exact h1) (by rw [← HL.out]; exact h2))
    go_wp2_with (refine wpList_store_row rfl 39 _ _ rfl w.heap.size #[.int .u8 0, .int .i64 0, .int .i64 0, .int .i64 0, .int .i64 0, .int .i64 0, .int .i64 0, .int .i64 0, .int .i64 0, .slice none 0 0, .slice none 0 0, .slice none 0 0, .slice none 0 0, .slice none 0 0] rfl rfl 39 #[.int .u8 0, .int .i64 0, .int .i64 0, .int .i64 0, .int .i64 0, .int .i64 0, .int .i64 0, .int .i64 0, .int .i64 0, .slice none 0 0, .slice none 0 0, .slice none 0 0, .slice none 0 0, .slice none 0 0] HZ1.out HS.out rfl (by simp [Value.oneCell']) ?_)
    have HU := Lib.hid (show FBox ((w.alloc (.cells #[.int .u8 0, .int .i64 0, .int .i64 0, .int .i64 0, .int .i64 0, .int .i64 0, .int .i64 0, .int .i64 0, .int .i64 0, .slice none 0 0, .slice none 0 0, .slice none 0 0, .slice none 0 0, .slice none 0 0] 39)).setRow w.heap.size #[.int .u8 0, .int .i64 0, .int .i64 0, .int .i64 0, .int .i64 0, .int .i64 0, .int .i64 0, .int .i64 0, .int .i64 0, .slice none 0 0, .slice none 0 0, .slice none 0 0, .slice none 0 0, .slice none 0 0]) w.heap.size (⟨0, (0, 0), (0, 0), 0, 0, (0, 0), ⟨[], [], [], [], []⟩⟩ : Fr) (none, 0, 0) (none, 0, 0) (none, 0, 0) (none, 0, 0) (none, 0, 0) from setRow_heap (w.alloc (.cells #[.int .u8 0, .int .i64 0, .int .i64 0, .int .i64 0, .int .i64 0, .int .i64 0, .int .i64 0, .int .i64 0, .int .i64 0, .slice none 0 0, .slice none 0 0, .slice none 0 0, .slice none 0 0, .slice none 0 0] 39)) w.heap.size #[.int .u8 0, .int .i64 0, .int .i64 0, .int .i64 0, .int .i64 0, .int .i64 0, .int .i64 0, .int .i64 0, .int .i64 0, .slice none 0 0, .slice none 0 0, .slice none 0 0, .slice none 0 0, .slice none 0 0] #[.int .u8 0, .int .i64 0, .int .i64 0, .int .i64 0, .int .i64 0, .int .i64 0, .int .i64 0, .int .i64 0, .int .i64 0, .slice none 0 0, .slice none 0 0, .slice none 0 0, .slice none 0 0, .slice none 0 0] 39 _ HZ1.out)
    obtain ⟨q0, q1, q2, q3, q4, q5, q6, q7, q8, q9, q10, q11, q12, q13⟩ := fbox_cells HU.out
    dsimp only at q0 q1 q2 q3 q4 q5 q6 q7 q8 q9 q10 q11 q12 q13
    have HE1 := HD.out.1
    rw [HE1, HD.out.2]
    refine bodyPost_ret (v := .tuple #[.agg #[.int .u8 0, .int .i64 0, .int .i64 0, .int .i64 0, .int .i64 0, .int .i64 0, .int .i64 0, .int .i64 0, .int .i64 0, .slice none 0 0, .slice none 0 0, .slice none 0 0, .slice none 0 0, .slice none 0 0], .int .i64 8]) (by simp [results, Tryz.results13, go_sem, q0, q1, q2, q3, q4, q5, q6, q7, q8, q9, q10, q11, q12, q13]) rfl ?_
    exact ⟨_, _, _, _, _, rfl, (OwnV.nil _ 0).rv, B0.out.trans (below_gone (grown_row _ _ _) (Nat.le_refl _) B0.out.size)⟩
  have e2 : ¬ (S.size : Int) < 4 := by omega
  obtain ⟨m, hm⟩ : ∃ m : Nat, S.size = m + 4 := ⟨S.size - 4, by omega⟩
  have HM := Lib.hid (show S.data.toList.length - 4 = m by rw [← HL.out]; omega)
  have HSZ := Lib.hid hm
  have hm3 : 4 ≤ S.size := by omega
  have hm4 : S.size ≤ 8192 := by omega
  have HA := Lib.hid (extract_take S m)
  have HB := Lib.hid (extract_drop S m)
  have N1 := Lib.hid (show ¬ 8192 < S.data.toList.length by rw [← HL.out]; exact h1)
  have N2 := Lib.hid (show ¬ S.data.toList.length < 4 by rw [← HL.out]; exact h2)
  have DS := Lib.hid (decE_sum N1.out N2.out)
  have DF := Lib.hid (decE_form N1.out N2.out)
  have DG := Lib.hid (decE_good N1.out N2.out)
  rw [HM.out] at DS DF DG
  have i1 : (0 : Int) ≤ (m : Int) := by omega
  have i2 : m ≤ 8188 := by omega
  clear hm h1 h2
  go_wp2_with fail
  have hq : (S.size : Int) - 4 = (m : Int) := by have := HSZ.out; omega
  have HQ := Lib.hid hq
  simp only [hq]
  clear hq
  have i3 : (m : Int) ≤ (S.size : Int) := by have := HSZ.out; omega
  have i4 : m ≤ S.size := by have := HSZ.out; omega
  have HK := Lib.hid fun W => checksum_any (S.extract 0 m) W (by rw [HA.out, bs_size]; have := List.length_take_le m S.data.toList; omega)
  rw [show (S.extract 0 m).data.toList = S.data.toList.take m by rw [HA.out]; simp [bs]] at HK
  go_region_held3 (fun _ => True) (exact trivial) (first | (go_at_call 23; (with_reducible refine (HK.out _).mono ?_); rintro e1 w1 ⟨rfl, hb⟩; have B1 := Lib.hid (show Below (w.alloc (.cells #[.int .u8 0, .int .i64 0, .int .i64 0, .int .i64 0, .int .i64 0, .int .i64 0, .int .i64 0, .int .i64 0, .int .i64 0, .slice none 0 0, .slice none 0 0, .slice none 0 0, .slice none 0 0, .slice none 0 0] 39)).heap.size (w.alloc (.cells #[.int .u8 0, .int .i64 0, .int .i64 0, .int .i64 0, .int .i64 0, .int .i64 0, .int .i64 0, .int .i64 0, .int .i64 0, .slice none 0 0, .slice none 0 0, .slice none 0 0, .slice none 0 0, .slice none 0 0] 39)) w1 from ⟨hb.os, hb.tape, hb.output, hb.size, hb.block⟩); clear hb))
  have Z1 := Lib.hid (fbox_below Z0.out B1.out)
  have HZ2 := Lib.hid (show w1.heap[w.heap.size]? = some (.cells #[.int .u8 0, .int .i64 0, .int .i64 0, .int .i64 0, .int .i64 0, .int .i64 0, .int .i64 0, .int .i64 0, .int .i64 0, .slice none 0 0, .slice none 0 0, .slice none 0 0, .slice none 0 0, .slice none 0 0] 39 (0, 0)) from Z1.out)
  have B2 := Lib.hid (B0.out.trans (B1.out.mono B0.out.size))
  clear p0 p1 p2 p3 p4 p5 p6 p7 p8 p9 p10 p11 p12 p13 f0 f1 f2 f3 f4 f5 f6 f7 f8 f9 f10 f11 f12 f13 Z0 HZ1
  by_cases hs : le4 (Crc.add 0 (S.data.toList.take m)) = S.data.toList.drop m
  · have ds : S.extract m S.size = bs (le4 (Crc.add 0 (S.data.toList.take m))) := by rw [HB.out, hs]
    have dz : (!((bs (le4 (Crc.add 0 (S.data.toList.take m)))).toList == (S.extract m S.size).toList)) = false := by rw [ds]; simp
    rw [dz, ds]
    clear ds dz
    have HSM := Lib.hid hs
    clear hs DS
    generalize bs (le4 (Crc.add 0 (S.data.toList.take m))) = U at *
    go_wp2_with fail
    (with_reducible refine (read_any (S.extract 0 m) _).mono ?_)
    rw [show (S.extract 0 m).data.toList = S.data.toList.take m by rw [HA.out]; simp [bs]]
    have HFT := Lib.hid (show FitVIE 5000 (readF (S.data.toList.take m)).v from rFr_fit _)
    rintro e2 w2 ⟨a, b, c, d, e, rfl, hr, hb⟩
    generalize readF (S.data.toList.take m) = F at *
    generalize readOk (S.data.toList.take m) = ok at *
    have R2 := Lib.hid (hr.below (below_one w2 (.cells #[.int .u8 F.k, .int .i64 F.f.1, .int .i64 F.f.2, .int .i64 F.t.1, .int .i64 F.t.2, .int .i64 F.n, .int .i64 F.q, .int .i64 F.b.1, .int .i64 F.b.2, .slice a.1 a.2.1 a.2.2, .slice b.1 b.2.1 b.2.2, .slice c.1 c.2.1 c.2.2, .slice d.1 d.2.1 d.2.2, .slice e.1 e.2.1 e.2.2] 39)))
    have Y2 := Lib.hid (fbox_new w2 F a b c d e)
    have Z2 := Lib.hid (fbox_below (fbox_below Z1.out hb) (below_one w2 (.cells #[.int .u8 F.k, .int .i64 F.f.1, .int .i64 F.f.2, .int .i64 F.t.1, .int .i64 F.t.2, .int .i64 F.n, .int .i64 F.q, .int .i64 F.b.1, .int .i64 F.b.2, .slice a.1 a.2.1 a.2.2, .slice b.1 b.2.1 b.2.2, .slice c.1 c.2.1 c.2.2, .slice d.1 d.2.1 d.2.2, .slice e.1 e.2.1 e.2.2] 39)))
    have B3 := Lib.hid (B2.out.trans ((below_after hb (below_one w2 (.cells #[.int .u8 F.k, .int .i64 F.f.1, .int .i64 F.f.2, .int .i64 F.t.1, .int .i64 F.t.2, .int .i64 F.n, .int .i64 F.q, .int .i64 F.b.1, .int .i64 F.b.2, .slice a.1 a.2.1 a.2.2, .slice b.1 b.2.1 b.2.2, .slice c.1 c.2.1 c.2.2, .slice d.1 d.2.1 d.2.2, .slice e.1 e.2.1 e.2.2] 39)) (Nat.le_refl _)).mono B2.out.size))
    have HMF := Lib.hid fun W hb => mayF_any _ F W (RV.fat (R2.out.below hb).rv) HFT.out
    clear hr hb
    obtain ⟨p0, p1, p2, p3, p4, p5, p6, p7, p8, p9, p10, p11, p12, p13⟩ := fbox_cells Y2.out
    cases ok
    · have HD := Lib.hid (DF.out HSM.out (by rfl))
      have HZ3 := Lib.hid (show (w2.alloc (.cells #[.int .u8 F.k, .int .i64 F.f.1, .int .i64 F.f.2, .int .i64 F.t.1, .int .i64 F.t.2, .int .i64 F.n, .int .i64 F.q, .int .i64 F.b.1, .int .i64 F.b.2, .slice a.1 a.2.1 a.2.2, .slice b.1 b.2.1 b.2.2, .slice c.1 c.2.1 c.2.2, .slice d.1 d.2.1 d.2.2, .slice e.1 e.2.1 e.2.2] 39)).heap[w.heap.size]? = some (.cells #[.int .u8 0, .int .i64 0, .int .i64 0, .int .i64 0, .int .i64 0, .int .i64 0, .int .i64 0, .int .i64 0, .int .i64 0, .slice none 0 0, .slice none 0 0, .slice none 0 0, .slice none 0 0, .slice none 0 0] 39 (0, 0)) from Z2.out)
      go_wp2_with (refine wpList_store_row rfl 39 _ _ rfl w.heap.size #[.int .u8 0, .int .i64 0, .int .i64 0, .int .i64 0, .int .i64 0, .int .i64 0, .int .i64 0, .int .i64 0, .int .i64 0, .slice none 0 0, .slice none 0 0, .slice none 0 0, .slice none 0 0, .slice none 0 0] rfl rfl 39 #[.int .u8 0, .int .i64 0, .int .i64 0, .int .i64 0, .int .i64 0, .int .i64 0, .int .i64 0, .int .i64 0, .int .i64 0, .slice none 0 0, .slice none 0 0, .slice none 0 0, .slice none 0 0, .slice none 0 0] HZ3.out HS.out rfl (by simp [Value.oneCell']) ?_)
      have HU := Lib.hid (show FBox ((w2.alloc (.cells #[.int .u8 F.k, .int .i64 F.f.1, .int .i64 F.f.2, .int .i64 F.t.1, .int .i64 F.t.2, .int .i64 F.n, .int .i64 F.q, .int .i64 F.b.1, .int .i64 F.b.2, .slice a.1 a.2.1 a.2.2, .slice b.1 b.2.1 b.2.2, .slice c.1 c.2.1 c.2.2, .slice d.1 d.2.1 d.2.2, .slice e.1 e.2.1 e.2.2] 39)).setRow w.heap.size #[.int .u8 0, .int .i64 0, .int .i64 0, .int .i64 0, .int .i64 0, .int .i64 0, .int .i64 0, .int .i64 0, .int .i64 0, .slice none 0 0, .slice none 0 0, .slice none 0 0, .slice none 0 0, .slice none 0 0]) w.heap.size (⟨0, (0, 0), (0, 0), 0, 0, (0, 0), ⟨[], [], [], [], []⟩⟩ : Fr) (none, 0, 0) (none, 0, 0) (none, 0, 0) (none, 0, 0) (none, 0, 0) from setRow_heap (w2.alloc (.cells #[.int .u8 F.k, .int .i64 F.f.1, .int .i64 F.f.2, .int .i64 F.t.1, .int .i64 F.t.2, .int .i64 F.n, .int .i64 F.q, .int .i64 F.b.1, .int .i64 F.b.2, .slice a.1 a.2.1 a.2.2, .slice b.1 b.2.1 b.2.2, .slice c.1 c.2.1 c.2.2, .slice d.1 d.2.1 d.2.2, .slice e.1 e.2.1 e.2.2] 39)) w.heap.size #[.int .u8 0, .int .i64 0, .int .i64 0, .int .i64 0, .int .i64 0, .int .i64 0, .int .i64 0, .int .i64 0, .int .i64 0, .slice none 0 0, .slice none 0 0, .slice none 0 0, .slice none 0 0, .slice none 0 0] #[.int .u8 0, .int .i64 0, .int .i64 0, .int .i64 0, .int .i64 0, .int .i64 0, .int .i64 0, .int .i64 0, .int .i64 0, .slice none 0 0, .slice none 0 0, .slice none 0 0, .slice none 0 0, .slice none 0 0] 39 _ HZ3.out)
      obtain ⟨q0, q1, q2, q3, q4, q5, q6, q7, q8, q9, q10, q11, q12, q13⟩ := fbox_cells HU.out
      dsimp only at q0 q1 q2 q3 q4 q5 q6 q7 q8 q9 q10 q11 q12 q13
      have HE1 := HD.out.1
      rw [HE1, HD.out.2]
      refine bodyPost_ret (v := .tuple #[.agg #[.int .u8 0, .int .i64 0, .int .i64 0, .int .i64 0, .int .i64 0, .int .i64 0, .int .i64 0, .int .i64 0, .int .i64 0, .slice none 0 0, .slice none 0 0, .slice none 0 0, .slice none 0 0, .slice none 0 0], .int .i64 4]) (by simp [results, Tryz.results13, go_sem, q0, q1, q2, q3, q4, q5, q6, q7, q8, q9, q10, q11, q12, q13]) rfl ?_
      exact ⟨_, _, _, _, _, rfl, (OwnV.nil _ 0).rv, B3.out.trans (below_gone (grown_row _ _ _) (Nat.le_refl _) B3.out.size)⟩
    · have HMM : Hid (∃ z, z = mayF F) := Lib.hid ⟨_, rfl⟩
      rcases hm : mayF F with _ | _
      · have HD := Lib.hid (DF.out HSM.out (by rw [hm]; rfl))
        rw [hm] at HMF
        clear hm
        go_wp2_with fail
        (with_reducible refine (HMF.out _ (Below.refl _ _)).mono ?_)
        rintro e3 w3 ⟨rfl, hb⟩
        have HZ3 := Lib.hid (show w3.heap[w.heap.size]? = some (.cells #[.int .u8 0, .int .i64 0, .int .i64 0, .int .i64 0, .int .i64 0, .int .i64 0, .int .i64 0, .int .i64 0, .int .i64 0, .slice none 0 0, .slice none 0 0, .slice none 0 0, .slice none 0 0, .slice none 0 0] 39 (0, 0)) from fbox_below Z2.out hb)
        have B4 := Lib.hid (B3.out.trans (hb.mono B3.out.size))
        clear hb p0 p1 p2 p3 p4 p5 p6 p7 p8 p9 p10 p11 p12 p13
        go_wp2_with (refine wpList_store_row rfl 39 _ _ rfl w.heap.size #[.int .u8 0, .int .i64 0, .int .i64 0, .int .i64 0, .int .i64 0, .int .i64 0, .int .i64 0, .int .i64 0, .int .i64 0, .slice none 0 0, .slice none 0 0, .slice none 0 0, .slice none 0 0, .slice none 0 0] rfl rfl 39 #[.int .u8 0, .int .i64 0, .int .i64 0, .int .i64 0, .int .i64 0, .int .i64 0, .int .i64 0, .int .i64 0, .int .i64 0, .slice none 0 0, .slice none 0 0, .slice none 0 0, .slice none 0 0, .slice none 0 0] HZ3.out HS.out rfl (by simp [Value.oneCell']) ?_)
        have HU := Lib.hid (show FBox (w3.setRow w.heap.size #[.int .u8 0, .int .i64 0, .int .i64 0, .int .i64 0, .int .i64 0, .int .i64 0, .int .i64 0, .int .i64 0, .int .i64 0, .slice none 0 0, .slice none 0 0, .slice none 0 0, .slice none 0 0, .slice none 0 0]) w.heap.size (⟨0, (0, 0), (0, 0), 0, 0, (0, 0), ⟨[], [], [], [], []⟩⟩ : Fr) (none, 0, 0) (none, 0, 0) (none, 0, 0) (none, 0, 0) (none, 0, 0) from setRow_heap w3 w.heap.size #[.int .u8 0, .int .i64 0, .int .i64 0, .int .i64 0, .int .i64 0, .int .i64 0, .int .i64 0, .int .i64 0, .int .i64 0, .slice none 0 0, .slice none 0 0, .slice none 0 0, .slice none 0 0, .slice none 0 0] #[.int .u8 0, .int .i64 0, .int .i64 0, .int .i64 0, .int .i64 0, .int .i64 0, .int .i64 0, .int .i64 0, .int .i64 0, .slice none 0 0, .slice none 0 0, .slice none 0 0, .slice none 0 0, .slice none 0 0] 39 _ HZ3.out)
        obtain ⟨q0, q1, q2, q3, q4, q5, q6, q7, q8, q9, q10, q11, q12, q13⟩ := fbox_cells HU.out
        dsimp only at q0 q1 q2 q3 q4 q5 q6 q7 q8 q9 q10 q11 q12 q13
        have HE1 := HD.out.1
        rw [HE1, HD.out.2]
        refine bodyPost_ret (v := .tuple #[.agg #[.int .u8 0, .int .i64 0, .int .i64 0, .int .i64 0, .int .i64 0, .int .i64 0, .int .i64 0, .int .i64 0, .int .i64 0, .slice none 0 0, .slice none 0 0, .slice none 0 0, .slice none 0 0, .slice none 0 0], .int .i64 4]) (by simp [results, Tryz.results13, go_sem, q0, q1, q2, q3, q4, q5, q6, q7, q8, q9, q10, q11, q12, q13]) rfl ?_
        exact ⟨_, _, _, _, _, rfl, (OwnV.nil _ 0).rv, B4.out.trans (below_gone (grown_row _ _ _) (Nat.le_refl _) B4.out.size)⟩
      · have HD := Lib.hid (DG.out HSM.out (by rw [hm]; rfl))
        rw [hm] at HMF
        clear hm
        go_wp2_with fail
        (with_reducible refine (HMF.out _ (Below.refl _ _)).mono ?_)
        rintro e3 w3 ⟨rfl, hb⟩
        have HZ3 := Lib.hid (show w3.heap[w.heap.size]? = some (.cells #[.int .u8 0, .int .i64 0, .int .i64 0, .int .i64 0, .int .i64 0, .int .i64 0, .int .i64 0, .int .i64 0, .int .i64 0, .slice none 0 0, .slice none 0 0, .slice none 0 0, .slice none 0 0, .slice none 0 0] 39 (0, 0)) from fbox_below Z2.out hb)
        have B4 := Lib.hid (B3.out.trans (hb.mono B3.out.size))
        have Y3 := Lib.hid (fbox_below Y2.out hb)
        have R3 := Lib.hid (R2.out.below hb)
        clear hb p0 p1 p2 p3 p4 p5 p6 p7 p8 p9 p10 p11 p12 p13
        obtain ⟨p0, p1, p2, p3, p4, p5, p6, p7, p8, p9, p10, p11, p12, p13⟩ := fbox_cells Y3.out
        go_wp2_with (refine wpList_store_row rfl 39 _ _ rfl w.heap.size #[.int .u8 F.k, .int .i64 F.f.1, .int .i64 F.f.2, .int .i64 F.t.1, .int .i64 F.t.2, .int .i64 F.n, .int .i64 F.q, .int .i64 F.b.1, .int .i64 F.b.2, .slice a.1 a.2.1 a.2.2, .slice b.1 b.2.1 b.2.2, .slice c.1 c.2.1 c.2.2, .slice d.1 d.2.1 d.2.2, .slice e.1 e.2.1 e.2.2] rfl rfl 39 #[.int .u8 0, .int .i64 0, .int .i64 0, .int .i64 0, .int .i64 0, .int .i64 0, .int .i64 0, .int .i64 0, .int .i64 0, .slice none 0 0, .slice none 0 0, .slice none 0 0, .slice none 0 0, .slice none 0 0] HZ3.out HS.out rfl (by simp [Value.oneCell']) ?_)
        have HU := Lib.hid (show FBox (w3.setRow w.heap.size #[.int .u8 F.k, .int .i64 F.f.1, .int .i64 F.f.2, .int .i64 F.t.1, .int .i64 F.t.2, .int .i64 F.n, .int .i64 F.q, .int .i64 F.b.1, .int .i64 F.b.2, .slice a.1 a.2.1 a.2.2, .slice b.1 b.2.1 b.2.2, .slice c.1 c.2.1 c.2.2, .slice d.1 d.2.1 d.2.2, .slice e.1 e.2.1 e.2.2]) w.heap.size F a b c d e from setRow_heap w3 w.heap.size #[.int .u8 0, .int .i64 0, .int .i64 0, .int .i64 0, .int .i64 0, .int .i64 0, .int .i64 0, .int .i64 0, .int .i64 0, .slice none 0 0, .slice none 0 0, .slice none 0 0, .slice none 0 0, .slice none 0 0] #[.int .u8 F.k, .int .i64 F.f.1, .int .i64 F.f.2, .int .i64 F.t.1, .int .i64 F.t.2, .int .i64 F.n, .int .i64 F.q, .int .i64 F.b.1, .int .i64 F.b.2, .slice a.1 a.2.1 a.2.2, .slice b.1 b.2.1 b.2.2, .slice c.1 c.2.1 c.2.2, .slice d.1 d.2.1 d.2.2, .slice e.1 e.2.1 e.2.2] 39 _ HZ3.out)
        obtain ⟨q0, q1, q2, q3, q4, q5, q6, q7, q8, q9, q10, q11, q12, q13⟩ := fbox_cells HU.out
        have HE1 := HD.out.1
        rw [HE1, HD.out.2]
        refine bodyPost_ret (v := .tuple #[.agg #[.int .u8 F.k, .int .i64 F.f.1, .int .i64 F.f.2, .int .i64 F.t.1, .int .i64 F.t.2, .int .i64 F.n, .int .i64 F.q, .int .i64 F.b.1, .int .i64 F.b.2, .slice a.1 a.2.1 a.2.2, .slice b.1 b.2.1 b.2.2, .slice c.1 c.2.1 c.2.2, .slice d.1 d.2.1 d.2.2, .slice e.1 e.2.1 e.2.2], .int .i64 0]) (by simp [results, Tryz.results13, go_sem, q0, q1, q2, q3, q4, q5, q6, q7, q8, q9, q10, q11, q12, q13]) rfl ?_
        exact ⟨a, b, c, d, e, rfl, (R3.out.write HZ3.out (by decide) (by decide) (by decide) (by decide) (grown_row _ _ _)).rv, B4.out.trans (below_gone (grown_row _ _ _) (Nat.le_refl _) B4.out.size)⟩
  · have ds : ((bs (le4 (Crc.add 0 (S.data.toList.take m)))).toList == (S.extract m S.size).toList) = false := by rw [HB.out, beq_eq_false_iff_ne, ByteArray.toList_eq, ByteArray.toList_eq]; exact fun e => hs (by simpa [bs] using e)
    have du : ¬ (bs (le4 (Crc.add 0 (S.data.toList.take m)))).toList = (S.extract m S.size).toList := ne_of_beq_false ds
    have HD := Lib.hid (DS.out hs)
    have dz : (!((bs (le4 (Crc.add 0 (S.data.toList.take m)))).toList == (S.extract m S.size).toList)) = true := by rw [ds]; rfl
    rw [dz]
    clear hs dz du
    generalize bs (le4 (Crc.add 0 (S.data.toList.take m))) = U at *
    generalize S.extract m S.size = U2 at *
    go_wp2_with (refine wpList_store_row rfl 39 _ _ rfl w.heap.size #[.int .u8 0, .int .i64 0, .int .i64 0, .int .i64 0, .int .i64 0, .int .i64 0, .int .i64 0, .int .i64 0, .int .i64 0, .slice none 0 0, .slice none 0 0, .slice none 0 0, .slice none 0 0, .slice none 0 0] rfl rfl 39 #[.int .u8 0, .int .i64 0, .int .i64 0, .int .i64 0, .int .i64 0, .int .i64 0, .int .i64 0, .int .i64 0, .int .i64 0, .slice none 0 0, .slice none 0 0, .slice none 0 0, .slice none 0 0, .slice none 0 0] HZ2.out HS.out rfl (by simp [Value.oneCell']) ?_)
    have HU := Lib.hid (show FBox (w1.setRow w.heap.size #[.int .u8 0, .int .i64 0, .int .i64 0, .int .i64 0, .int .i64 0, .int .i64 0, .int .i64 0, .int .i64 0, .int .i64 0, .slice none 0 0, .slice none 0 0, .slice none 0 0, .slice none 0 0, .slice none 0 0]) w.heap.size (⟨0, (0, 0), (0, 0), 0, 0, (0, 0), ⟨[], [], [], [], []⟩⟩ : Fr) (none, 0, 0) (none, 0, 0) (none, 0, 0) (none, 0, 0) (none, 0, 0) from setRow_heap w1 w.heap.size #[.int .u8 0, .int .i64 0, .int .i64 0, .int .i64 0, .int .i64 0, .int .i64 0, .int .i64 0, .int .i64 0, .int .i64 0, .slice none 0 0, .slice none 0 0, .slice none 0 0, .slice none 0 0, .slice none 0 0] #[.int .u8 0, .int .i64 0, .int .i64 0, .int .i64 0, .int .i64 0, .int .i64 0, .int .i64 0, .int .i64 0, .int .i64 0, .slice none 0 0, .slice none 0 0, .slice none 0 0, .slice none 0 0, .slice none 0 0] 39 _ HZ2.out)
    obtain ⟨q0, q1, q2, q3, q4, q5, q6, q7, q8, q9, q10, q11, q12, q13⟩ := fbox_cells HU.out
    dsimp only at q0 q1 q2 q3 q4 q5 q6 q7 q8 q9 q10 q11 q12 q13
    have HE1 := HD.out.1
    rw [HE1, HD.out.2]
    refine bodyPost_ret (v := .tuple #[.agg #[.int .u8 0, .int .i64 0, .int .i64 0, .int .i64 0, .int .i64 0, .int .i64 0, .int .i64 0, .int .i64 0, .int .i64 0, .slice none 0 0, .slice none 0 0, .slice none 0 0, .slice none 0 0, .slice none 0 0], .int .i64 9]) (by simp [results, Tryz.results13, go_sem, q0, q1, q2, q3, q4, q5, q6, q7, q8, q9, q10, q11, q12, q13]) rfl ?_
    exact ⟨_, _, _, _, _, rfl, (OwnV.nil _ 0).rv, B2.out.trans (below_gone (grown_row _ _ _) (Nat.le_refl _) B2.out.size)⟩
end Go.Proofs.YtkeiekljedhllaaGreat
namespace Go.Proofs.YtkeiekljedhllaaGreat
open Go Go.RowKit
def sk (k : Nat) : List Sets.Id2 := (List.range k).map fun i : Nat => (3, (i : Int) + 1)
def mk (k : Nat) : List Sets.Id2 := (List.range k).map fun i : Nat => (5, 1048512 + ((i : Int) + 1))
def rk (m : List Sets.Id2) (k : Nat) : List RowSets.Row := (List.range k).map fun i : Nat => ((6, (i : Int) + 1), 1, m)
def gF (s : List Sets.Id2) (r : List RowSets.Row) : Fr := ⟨4, (1, 1), (2, 1), 0, 0, (0, 0), ⟨[], [], r, [], s⟩⟩
theorem sk_next (k : Nat) : sk (k + 1) = sk k ++ [(3, (k : Int) + 1)] := by simp [sk, List.range_succ]
theorem mk_next (k : Nat) : mk (k + 1) = mk k ++ [(5, 1048512 + ((k : Int) + 1))] := by simp [mk, List.range_succ]
theorem rk_next (m : List Sets.Id2) (k : Nat) : rk m (k + 1) = rk m k ++ [((6, (k : Int) + 1), 1, m)] := by simp [rk, List.range_succ]
theorem sk_len (k : Nat) : (sk k).length = k := by simp [sk]
theorem mk_len (k : Nat) : (mk k).length = k := by simp [mk]
theorem rk_len (m : List Sets.Id2) (k : Nat) : (rk m k).length = k := by simp [rk]
theorem seen_ok : encE (gF (sk 64) []) = 0 := by kernel_rfl
theorem seen_may : mayF (gF (sk 64 ++ [(4, 1)]) []) = true := by kernel_rfl
theorem seen_no : encE (gF (sk 64 ++ [(4, 1)]) []) = 40 := by kernel_rfl
theorem rows_may : mayF (gF (sk 64) (rk (mk 64) 40)) = true := by kernel_rfl
theorem rows_err : (wFr (gF (sk 64) (rk (mk 64) 40))).2 = 0 := by kernel_rfl
theorem nots_out : (outL (mk 64)).length = 257 := by kernel_rfl
theorem row_more (s : WS) (r : RowSets.Row) (h : r.2.2 = mk 64) : s.1.length + 257 ≤ (wRow s r).1.length := by
  unfold wRow wIds
  rw [putS_len, h, nots_out]
  have h1 := wNum_ge (wId s r.1) r.2.1
  have h2 := wId_ge s r.1
  omega
theorem rows_more : ∀ (l : List RowSets.Row) (_ : ∀ r ∈ l, r.2.2 = mk 64) (s : WS), s.1.length + l.length * 257 ≤ (l.foldl wRow s).1.length
  | [], _, s => by simp
  | r :: l, h, s => by
    have h1 := row_more s r (h r (List.mem_cons_self ..))
    have h2 := rows_more l (fun x hx => h x (List.mem_cons_of_mem _ hx)) (wRow s r)
    rw [List.foldl_cons, List.length_cons]
    omega
theorem rows_long : 8192 < (whole (gF (sk 64) (rk (mk 64) 40))).length := by
  unfold whole
  rw [List.length_append, le4_len]
  have h : ∀ s : WS, 40 * 257 ≤ (wView s (gF (sk 64) (rk (mk 64) 40)).v).1.length := by
    intro s
    unfold wView
    refine Nat.le_trans ?_ (wIds_ge _ _)
    refine Nat.le_trans ?_ (wList_ge (fun s x => Nat.le_trans (wId_ge _ _) (wNum_ge _ _)) _ _)
    unfold wList
    have := rows_more (rk (mk 64) 40) (fun r hr => by simp [rk] at hr; obtain ⟨a, _, rfl⟩ := hr; rfl) (wNum (wIds (List.foldl wMem (wNum s ((gF (sk 64) (rk (mk 64) 40)).v.m.length : Int)) (gF (sk 64) (rk (mk 64) 40)).v.m) (gF (sk 64) (rk (mk 64) 40)).v.f) ((gF (sk 64) (rk (mk 64) 40)).v.r.length : Int))
    rw [rk_len] at this
    exact Nat.le_trans (Nat.le_add_left _ _) this
  have := h (wId (wNum (wNum (wId (wId (wNum ([], 0) 4) (1, 1)) (2, 1)) 0) 0) (0, 0))
  show 8192 < (wView (wId (wNum (wNum (wId (wId (wNum ([], 0) 4) (1, 1)) (2, 1)) 0) 0) (0, 0)) (gF (sk 64) (rk (mk 64) 40)).v).1.length + 4
  omega
theorem rows_no : encE (gF (sk 64) (rk (mk 64) 40)) = 40 := (encE_long rows_may rows_err rows_long).1
end Go.Proofs.YtkeiekljedhllaaGreat
