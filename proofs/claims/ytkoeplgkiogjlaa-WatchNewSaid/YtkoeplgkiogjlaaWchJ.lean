/-
  The laws' steps at times that do not fall. No statement is proved in this text; it holds for every input that its premises let by.
-/
import Derived.Test.YtkoeplgkiogjlaaWchI
set_option maxRecDepth 20000
namespace Go.Proofs.Ytkoeplgkiogjlaa
open Go Go.RowKit Sets Go.Maps Go.ChangeMaps Go.MapKept
variable {S S2 S' : Nat → Prop} {W W' : World}
theorem u64_posW (n : Int) : 0 ≤ IntKind.u64.wrap n := by
  show 0 ≤ n % (2 ^ 64 : Int)
  exact Int.emod_nonneg _ (by decide)
theorem num_cutW (n : Int) (m : Nat) (hm : 0 < m) (hm2 : m ≤ 10000) : ∃ y : Nat, y < m ∧ wrap64 ((IntKind.u64.wrap n).tmod (m : Int)) = (y : Int) := by
  have h0 := u64_posW n
  have h2 : (IntKind.u64.wrap n).tmod (m : Int) = (IntKind.u64.wrap n) % (m : Int) := Int.tmod_eq_emod_of_nonneg h0
  have h3 := Int.emod_nonneg (IntKind.u64.wrap n) (b := (m : Int)) (by omega)
  have h4 := Int.emod_lt_of_pos (IntKind.u64.wrap n) (b := (m : Int)) (by omega)
  refine ⟨((IntKind.u64.wrap n) % (m : Int)).toNat, by omega, ?_⟩
  rw [h2]
  have : wrap64 (IntKind.u64.wrap n % (m : Int)) = IntKind.u64.wrap n % (m : Int) := by unfold wrap64; omega
  rw [this]
  omega
/-- By how much a step's time goes on. -/
def goOn (x : Int) : Int := wrap64 ((IntKind.u64.wrap x).tmod 50)
theorem goOn_nat (x : Int) : ∃ y : Nat, y < 50 ∧ goOn x = (y : Int) := num_cutW x 50 (by decide) (by decide)
def Sp.at (s : Sp) (x : Int) : Sp := ⟨s.h, s.q, s.A, s.c, s.l, x⟩
/-- The steps, at times that do not fall. -/
def risen : Int → List Sp → List Sp
  | _, [] => []
  | now, s :: t => s.at (now + goOn s.x) :: risen (now + goOn s.x) t
def nowOf : Int → List Sp → Int
  | now, [] => now
  | now, s :: t => nowOf (now + goOn s.x) t
theorem risen_len (l : List Sp) : ∀ now, (risen now l).length = l.length := by
  induction l with
  | nil => intro now; rfl
  | cons s t ih => intro now; simp [risen, ih]
theorem risen_snoc (l : List Sp) (s : Sp) : ∀ now, risen now (l ++ [s]) = risen now l ++ [s.at (nowOf now l + goOn s.x)] ∧ nowOf now (l ++ [s]) = nowOf now l + goOn s.x := by
  induction l with
  | nil => intro now; exact ⟨rfl, rfl⟩
  | cons r t ih =>
    intro now
    have := ih (now + goOn r.x)
    exact ⟨by show _ :: risen _ (t ++ [s]) = _; rw [this.1]; rfl, this.2⟩
theorem nowOf_range (l : List Sp) : ∀ now, now ≤ nowOf now l ∧ nowOf now l ≤ now + 49 * (l.length : Int) := by
  induction l with
  | nil => intro now; simp [nowOf]
  | cons r t ih =>
    intro now
    obtain ⟨y, hy, e⟩ := goOn_nat r.x
    have := ih (now + goOn r.x)
    simp only [nowOf, List.length_cons]
    omega
theorem risen_mem {l : List Sp} : ∀ {now : Int} {s : Sp}, s ∈ risen now l → (now ≤ s.x ∧ s.x ≤ nowOf now l) ∧ ∃ r ∈ l, s = r.at s.x := by
  induction l with
  | nil => intro now s h; cases h
  | cons r t ih =>
    intro now s h
    obtain ⟨y, hy, e⟩ := goOn_nat r.x
    have hn := nowOf_range t (now + goOn r.x)
    rcases List.mem_cons.1 h with rfl | h
    · refine ⟨?_, r, by simp, rfl⟩
      show now ≤ now + goOn r.x ∧ now + goOn r.x ≤ nowOf (now + goOn r.x) t
      omega
    · obtain ⟨h1, r', h2, h3⟩ := ih h
      refine ⟨?_, r', by simp [h2], h3⟩
      show now ≤ s.x ∧ s.x ≤ nowOf (now + goOn r.x) t
      omega
theorem risen_up {l : List Sp} : ∀ {now : Int}, (risen now l).Pairwise fun a b => a.x ≤ b.x := by
  induction l with
  | nil => intro now; exact List.Pairwise.nil
  | cons r t ih =>
    intro now
    refine List.pairwise_cons.2 ⟨fun b hb => ?_, ih⟩
    exact (risen_mem hb).1.1
set_option maxHeartbeats 2000000 in
theorem rising_any (v : Value) (ss : List Sp) (w : World) (h : Rcs encT 5 w v ss) (hl : ss.length ≤ 100) : Calls Try.prog 21 #[v] w fun e w' => ∃ v', e = .returned v' ∧ OwnsR encT 5 38 w' w.heap.size v' (risen 0 ss) ∧ Below w.heap.size w w' := by
  have HI := Lib.hid h
  obtain ⟨A, c, rfl, hz⟩ := h
  clear hz
  go_enter Try.func21, Try.ntmps21
  go_wp2_with fail
  go_loopw [3, 4, 5] (fun s3 s4 s5 wr => ∃ k : Nat, k ≤ ss.length ∧ s3 = .int .i64 (nowOf 0 (ss.take k)) ∧ s5 = .int .i64 k ∧ Hid (OwnsR encT 5 38 wr w.heap.size s4 (risen 0 (ss.take k))) ∧ Hid (Below w.heap.size w wr)) (fun _ _ s5 _ => ss.length - (intOf s5).toNat)
  case atStart => exact ⟨0, by omega, rfl, rfl, Lib.hid (OwnsR.nil _ _ _), Lib.hid (Below.refl _ _)⟩
  case round =>
    obtain ⟨k, hkl, rfl, rfl, HT, HW⟩ := hrel
    have i3 : (0 : Int) ≤ (k : Int) := by omega
    by_cases hlt : k < ss.length
    · have hd1 : decide ((k : Int) < (ss.length : Int)) = true := by simp; omega
      have i4 : (k : Int) < (ss.length : Int) := by omega
      obtain ⟨ad, rfl⟩ := HI.out.addr (Nat.lt_of_le_of_lt (Nat.zero_le _) hlt)
      have c0 := HI.out.first HW.out hlt (u := .bool ss[k].h) rfl
      have c1 := HI.out.cell HW.out hlt 1 (by decide) (u := .int .i64 ss[k].q.1) rfl
      have c2 := HI.out.cell HW.out hlt 2 (by decide) (u := .int .i64 ss[k].q.2) rfl
      have c3 := HI.out.cell HW.out hlt 3 (by decide) (u := .slice ss[k].A ss[k].l.length ss[k].c) rfl
      have c4 := HI.out.cell HW.out hlt 4 (by decide) (u := .int .i64 ss[k].x) rfl
      have ES := Lib.hid (show risen 0 (ss.take (k + 1)) = risen 0 (ss.take k) ++ [ss[k].at (nowOf 0 (ss.take k) + goOn ss[k].x)] ∧ nowOf 0 (ss.take (k + 1)) = nowOf 0 (ss.take k) + goOn ss[k].x by
        rw [List.take_succ_eq_append_getElem hlt]
        exact risen_snoc _ _ 0)
      have hr := nowOf_range (ss.take k) 0
      have HZ := Lib.hid (show (risen 0 (ss.take k)).length ≤ 100 by rw [risen_len, List.length_take]; omega)
      have hr2 : nowOf 0 (ss.take k) ≤ 5000 := by
        have := hr.2
        rw [List.length_take] at this
        omega
      have hr1 := hr.1
      clear hr
      generalize ss[k] = s at *
      obtain ⟨sh, ⟨sa, si⟩, sA, sc, sl, sx⟩ := s
      dsimp only at c0 c1 c2 c3 c4
      obtain ⟨y, hy, e0⟩ := goOn_nat sx
      have HE := Lib.hid e0
      have e1 : wrap64 ((IntKind.u64.wrap sx).tmod 50) = (y : Int) := e0
      clear e0
      generalize nowOf 0 (ss.take k) = now at *
      have hwx : wrap64 (now + (y : Int)) = now + (y : Int) := by unfold wrap64; omega
      clear hr1 hr2 hy
      go_upto_region 7 with fail
      have X1 := Lib.hid (heap_alloc_new wr (.cells #[.bool sh, .int .i64 sa, .int .i64 si, .slice sA sl.length sc, .int .i64 sx] 38))
      have B1 := Lib.hid (below_one wr (.cells #[.bool sh, .int .i64 sa, .int .i64 si, .slice sA sl.length sc, .int .i64 sx] 38))
      have hsz := B1.out.size
      clear c0 c1 c2 c3 c4
      generalize wr.alloc (.cells #[.bool sh, .int .i64 sa, .int .i64 si, .slice sA sl.length sc, .int .i64 sx] 38) = w1 at *
      have hgl : Hid (wr.heap.size < w1.heap.size) := Lib.hid (row_lt X1.out)
      generalize hgb : wr.heap.size = gb at *
      have c4 : w1.cell? ⟨gb, 4, none⟩ = some (.int .i64 sx) := by rw [cell_of_row _ _ 4 _ _ _ X1.out]; rfl
      have f4 : w1.frozen? ⟨gb, 4, none⟩ = false := by have := X1.out; simp [World.frozen?, this]
      go_upto_region 9 with fail
      have X2 : Hid ((w1.setCell ⟨gb, 4, none⟩ (.int .i64 (now + (y : Int)))).heap[gb]? = some (.cells #[.bool sh, .int .i64 sa, .int .i64 si, .slice sA sl.length sc, .int .i64 (now + (y : Int))] 38 (0, 0))) := Lib.hid (by
        have := X1.out
        simp [World.setCell, Array.getElem?_modify, this])
      have B2 : Hid (Below wr.heap.size wr (w1.setCell ⟨gb, 4, none⟩ (.int .i64 (now + (y : Int))))) := Lib.hid (by
        rw [← hgb] at B1 ⊢
        exact B1.out.setCell (Nat.le_refl _) _)
      clear c4 f4 X1 B1
      generalize w1.setCell ⟨gb, 4, none⟩ (.int .i64 (now + (y : Int))) = w2 at *
      have c0 : w2.cell? ⟨gb, 0, none⟩ = some (.bool sh) := by rw [cell_of_row _ _ 0 _ _ _ X2.out]; rfl
      have c1 : w2.cell? ⟨gb, 1, none⟩ = some (.int .i64 sa) := by rw [cell_of_row _ _ 1 _ _ _ X2.out]; rfl
      have c2 : w2.cell? ⟨gb, 2, none⟩ = some (.int .i64 si) := by rw [cell_of_row _ _ 2 _ _ _ X2.out]; rfl
      have c3 : w2.cell? ⟨gb, 3, none⟩ = some (.slice sA sl.length sc) := by rw [cell_of_row _ _ 3 _ _ _ X2.out]; rfl
      have c4 : w2.cell? ⟨gb, 4, none⟩ = some (.int .i64 (now + (y : Int))) := by rw [cell_of_row _ _ 4 _ _ _ X2.out]; rfl
      have T2 := Lib.hid ((HT.out.below B2.out).below (below_one w2 (.cells #[.bool sh, .int .i64 sa, .int .i64 si, .slice sA sl.length sc, .int .i64 (now + (y : Int))] 38)))
      have LT := Lib.hid (rcs_lit encT_len w2 [(⟨sh, (sa, si), sA, sc, sl, now + (y : Int)⟩ : Sp)] #[.bool sh, .int .i64 sa, .int .i64 si, .slice sA sl.length sc, .int .i64 (now + (y : Int))] 38 rfl)
      have B3 := Lib.hid (HW.out.trans ((B2.out.trans ((below_one w2 (.cells #[.bool sh, .int .i64 sa, .int .i64 si, .slice sA sl.length sc, .int .i64 (now + (y : Int))] 38)).mono B2.out.size)).mono HW.out.size))
      go_wp2_with (first | (at_builtin; refine wpList_append_recs (enc := encT) (sz := 5) 22 38 Try.underlying22 info38 rfl encT_len (by decide) encT_one (by decide) rfl (.tmp 26) (.tmp 28) rfl _ w.heap.size _ _ _ _ rfl rfl T2.out LT.out (by have := HZ.out; simp; omega) B3.out.size ?_; intro v4 w4 h4 h5; have O4 := Lib.hid h4; have B4 := Lib.hid (B3.out.trans (h5.mono (Nat.le_refl _))); clear h4 h5) | fail)
      go_roundw
      case rel => exact ⟨k + 1, by omega, by rw [ES.out.2, HE.out], by go_num, Lib.hid (by rw [ES.out.1, HE.out]; exact O4.out), B4⟩
      case measure => simp [intOf]; omega
    · obtain rfl : k = ss.length := by omega
      have hd1 : decide ((ss.length : Int) < (ss.length : Int)) = false := by simp
      have HE : Hid (OwnsR encT 5 38 wr w.heap.size u4 (risen 0 ss)) := Lib.hid (by have := HT.out; rwa [List.take_length] at this)
      go_wp2_with fail
      go_ret
      exact ⟨_, rfl, HE.out, HW.out⟩
end Go.Proofs.Ytkoeplgkiogjlaa
