/-
  Carried over and put together: contracts of this program's functions, and plain facts. No statement is proved in this text.
-/
import Derived.Test.YtloghkiabgnpnaaDoorH20
import Derived.Test.YtloghkiabgnpnaaDoorH24
import Derived.Test.YtloghkiabgnpnaaDoorKAgrQ
namespace Go.Proofs.YtloghkiabgnpnaaDoor
open Go Go.RowKit
/-- What stands of the world: the best one so far, and the box for the answer. -/
structure Bst (w1 : World) (gr gb : Nat) (acc : Sets.Id2 × Int) (W : World) : Prop where
  r : Box W gr 0 0
  b : Box W gb acc.1.1 acc.1.2
  w : Below w1.heap.size w1 W
theorem Bst.below {w1 : World} {gr gb : Nat} {acc : Sets.Id2 × Int} {W W' : World} (h : Bst w1 gr gb acc W) (hb : Below W.heap.size W W') : Bst w1 gr gb acc W' := ⟨box_below h.r hb, box_below h.b hb, below_after h.w hb (Nat.le_refl _)⟩
theorem box_put2 {w : World} {g x : Nat} {a i : Int} (h : Box w g a i) (hx : g ≠ x) (p q : Value) : Box ((w.setCell ⟨x, 0, none⟩ p).setCell ⟨x, 1, none⟩ q) g a i := by
  have h1 : (w.setCell ⟨x, 0, none⟩ p).heap[g]? = w.heap[g]? := heap_put hx
  have h2 : ((w.setCell ⟨x, 0, none⟩ p).setCell ⟨x, 1, none⟩ q).heap[g]? = (w.setCell ⟨x, 0, none⟩ p).heap[g]? := heap_put hx
  exact (h2.trans h1).trans h
theorem Bst.put {w1 : World} {gr gb : Nat} {acc : Sets.Id2 × Int} {W : World} (h : Bst w1 gr gb acc W) (hne : gr ≠ gb) (hb : w1.heap.size ≤ gb) (p q n : Int) : Bst w1 gr gb ((p, q), n) ((W.setCell ⟨gb, 0, none⟩ (.int .i64 p)).setCell ⟨gb, 1, none⟩ (.int .i64 q)) :=
  ⟨box_put2 h.r hne _ _, box_set h.b p q, below_put (below_put h.w hb 0 _) hb 1 _⟩
theorem box_frozen {w : World} {g : Nat} {a i : Int} (h : Box w g a i) : w.frozen? ⟨g, 0, none⟩ = false ∧ w.frozen? ⟨g, 1, none⟩ = false := by
  unfold Box at h
  constructor <;> simp [World.frozen?, h]
set_option maxHeartbeats 8000000 in
theorem refLeader_any (v : Value) (V : Vw) (w : World) (h : VAt w v V) (hV : FitA V) (hu : ∀ x ∈ V.m, 0 ≤ x.2.1 ∧ x.2.1 < 256) : Calls Tryd.prog 19 #[v] w fun e w' => e = .returned (leadV (Agr.leadO V.m V.r)) ∧ Below w.heap.size w w' := by
  obtain ⟨a, b, c, d, e, rfl, hr⟩ := h
  have G1 := Lib.hid (agV_new hr)
  have BB := Lib.hid (below_one w (.cells #[.slice a.1 a.2.1 a.2.2, .slice b.1 b.2.1 b.2.2, .slice c.1 c.2.1 c.2.2, .slice d.1 d.2.1 d.2.2, .slice e.1 e.2.1 e.2.2] 29))
  have HV := Lib.hid hV
  have HN := Lib.hid (rcs_len hr.m)
  have hnl : a.2.1 ≤ 1000 := by rw [HN.out]; exact hV.m
  have HRa := Lib.hid (fun y : Sets.Id2 => st_range hu y)
  clear hr hV hu
  have HML : Hid (V.m.length ≤ 100000) := Lib.hid (Nat.le_trans HV.out.m (by omega))
  have q1 := below_one (w.alloc (.cells #[.slice a.1 a.2.1 a.2.2, .slice b.1 b.2.1 b.2.2, .slice c.1 c.2.1 c.2.2, .slice d.1 d.2.1 d.2.2, .slice e.1 e.2.1 e.2.2] 29)) (.cells #[.int .i64 0, .int .i64 0] 32)
  have q2 := below_one ((w.alloc (.cells #[.slice a.1 a.2.1 a.2.2, .slice b.1 b.2.1 b.2.2, .slice c.1 c.2.1 c.2.2, .slice d.1 d.2.1 d.2.2, .slice e.1 e.2.1 e.2.2] 29)).alloc (.cells #[.int .i64 0, .int .i64 0] 32)) (.cells #[.int .i64 0, .int .i64 0] 32)
  have hsz : (w.alloc (.cells #[.slice a.1 a.2.1 a.2.2, .slice b.1 b.2.1 b.2.2, .slice c.1 c.2.1 c.2.2, .slice d.1 d.2.1 d.2.2, .slice e.1 e.2.1 e.2.2] 29)).heap.size = w.heap.size + 1 := by simp
  have hsz2 : ((w.alloc (.cells #[.slice a.1 a.2.1 a.2.2, .slice b.1 b.2.1 b.2.2, .slice c.1 c.2.1 c.2.2, .slice d.1 d.2.1 d.2.2, .slice e.1 e.2.1 e.2.2] 29)).alloc (.cells #[.int .i64 0, .int .i64 0] 32)).heap.size = w.heap.size + 1 + 1 := by simp
  have BS : Hid (Bst (w.alloc (.cells #[.slice a.1 a.2.1 a.2.2, .slice b.1 b.2.1 b.2.2, .slice c.1 c.2.1 c.2.2, .slice d.1 d.2.1 d.2.2, .slice e.1 e.2.1 e.2.2] 29)) (w.heap.size + 1) (w.heap.size + 1 + 1) ((0, 0), 0) (((w.alloc (.cells #[.slice a.1 a.2.1 a.2.2, .slice b.1 b.2.1 b.2.2, .slice c.1 c.2.1 c.2.2, .slice d.1 d.2.1 d.2.2, .slice e.1 e.2.1 e.2.2] 29)).alloc (.cells #[.int .i64 0, .int .i64 0] 32)).alloc (.cells #[.int .i64 0, .int .i64 0] 32))) := Lib.hid ⟨box_below (by rw [← hsz]; exact box_new _ 0 0) q2, by rw [← hsz2]; exact box_new _ 0 0, below_after q1 q2 (Nat.le_refl _)⟩
  clear q1 q2 hsz2
  go_enter Tryd.func19, Tryd.ntmps19
  go_wp2_with fail
  generalize ((w.alloc (.cells #[.slice a.1 a.2.1 a.2.2, .slice b.1 b.2.1 b.2.2, .slice c.1 c.2.1 c.2.2, .slice d.1 d.2.1 d.2.2, .slice e.1 e.2.1 e.2.2] 29)).alloc (.cells #[.int .i64 0, .int .i64 0] 32)).alloc (.cells #[.int .i64 0, .int .i64 0] 32) = w2 at *
  generalize w.alloc (.cells #[.slice a.1 a.2.1 a.2.2, .slice b.1 b.2.1 b.2.2, .slice c.1 c.2.1 c.2.2, .slice d.1 d.2.1 d.2.2, .slice e.1 e.2.1 e.2.2] 29) = w1 at *
  obtain ⟨g, hg⟩ : ∃ g, g = w.heap.size := ⟨_, rfl⟩
  obtain ⟨gr, hgr⟩ : ∃ g, g = w.heap.size + 1 := ⟨_, rfl⟩
  obtain ⟨gb, hgb⟩ : ∃ g, g = w.heap.size + 1 + 1 := ⟨_, rfl⟩
  rw [← hgb, ← hgr] at BS
  rw [← hg] at G1
  rw [← hgb, ← hgr, ← hg]
  have hne : gr ≠ gb := by omega
  have hgb1 : w1.heap.size ≤ gb := by omega
  have hgr1 : w1.heap.size ≤ gr := by omega
  clear hg hgr hgb hsz
  go_loopw [5, 6] (fun s5 s6 wr => ∃ (k : Nat) (acc : Sets.Id2 × Int), s6 = .int .i64 k ∧ s5 = .int .i64 acc.2 ∧ k ≤ a.2.1 ∧ Hid ((V.m.take k).foldl (Agr.refStep V.m V.r) ((0, 0), 0) = acc) ∧ Hid (Bst w1 gr gb acc wr)) (fun _ s6 _ => a.2.1 - (intOf s6).toNat)
  case atStart => exact ⟨0, ((0, 0), 0), rfl, rfl, by omega, Lib.hid rfl, BS⟩
  case round =>
    obtain ⟨k, acc, rfl, rfl, hk, HA, HS⟩ := hrel
    rename World => wr
    clear BS
    have HB := Lib.hid HS.out.w
    obtain ⟨p0, p1, p2, p3, p4⟩ := vbox_cells (G1.out.below HB.out).x
    by_cases hlt : k < a.2.1
    · skip
      have hd : decide (k < a.2.1) = true := decide_eq_true hlt
      have i3 : (0 : Int) ≤ (k : Int) := by omega
      have i4 : (k : Int) < (a.2.1 : Int) := by omega
      have hkm : k < V.m.length := by have := HN.out; omega
      obtain ⟨ad, hA, c1, c2, -⟩ := G1.out.r.m.at_ HB.out hkm
      have p0' := p0.trans (show some (Value.slice a.1 a.2.1 a.2.2) = some (Value.slice (some ad) a.2.1 a.2.2) by rw [hA])
      clear p0 hA
      have HNx : Hid ((V.m.take (k + 1)).foldl (Agr.refStep V.m V.r) ((0, 0), 0) = Agr.refStep V.m V.r ((V.m.take k).foldl (Agr.refStep V.m V.r) ((0, 0), 0)) V.m[k]) := Lib.hid (by rw [List.take_succ_eq_append_getElem hkm, List.foldl_append]; rfl)
      have HSk : Hid (Agr.refStep V.m V.r = Agr.refStep V.m V.r) := Lib.hid rfl
      have HSt : Hid (∀ acc, Agr.refStep V.m V.r acc V.m[k] = if Agr.rk (Agr.st V.m V.m[k].1) = 0 ∨ Agr.notB V.m V.r V.m[k].1 = true then acc else if acc.2 = 0 ∨ Agr.rk (Agr.st V.m V.m[k].1) < acc.2 ∨ Agr.rk (Agr.st V.m V.m[k].1) = acc.2 ∧ Sets.lt V.m[k].1 acc.1 then (V.m[k].1, Agr.rk (Agr.st V.m V.m[k].1)) else acc) := Lib.hid fun _ => rfl
      have HNy : Hid (∀ acc, Agr.refStep V.m V.r ((V.m.take k).foldl (Agr.refStep V.m V.r) ((0, 0), 0)) V.m[k] = acc → (V.m.take (k + 1)).foldl (Agr.refStep V.m V.r) ((0, 0), 0) = acc) := Lib.hid fun acc h => HNx.out.trans h
      clear HNx HSk
      rw [HSt.out] at HNy
      clear HSt
      have HE : Hid (V.m[k].1 = (V.m[k].1.1, V.m[k].1.2)) := Lib.hid rfl
      rw [HE.out] at HNy
      clear HE
      generalize V.m[k].1.1 = x1 at *
      generalize V.m[k].1.2 = x2 at *
      clear hkm
      have q := below_one wr (.cells #[.int .i64 x1, .int .i64 x2] 32)
      have HK0 := Lib.hid (below_after HB.out q (Nat.le_refl _))
      have XB := Lib.hid (box_new wr x1 x2)
      have HS0 := Lib.hid (HS.out.below q)
      obtain ⟨p0'', p1', p2', p3', p4'⟩ := vbox_cells (G1.out.below HK0.out).x
      obtain ⟨i0, i1⟩ := box_cells XB.out
      clear q
      go_wp2_with fail
      clear p0' p0'' p1 p2 p3 p4 p1' p2' p3' p4' i0 i1 c1 c2
      generalize wr.alloc (.cells #[.int .i64 x1, .int .i64 x2] 32) = wx at *
      obtain ⟨gx, hgx⟩ : ∃ g, g = wr.heap.size := ⟨_, rfl⟩
      rw [← hgx] at XB
      rw [← hgx]
      clear hgx
      (with_reducible refine (refStatus_any _ V x1 x2 wx (G1.out.below HK0.out).at_ HML.out).mono ?_)
      rintro e2 w2 ⟨rfl, hb⟩
      have HK1 := Lib.hid (below_after HK0.out hb (Nat.le_refl _))
      have X1 := Lib.hid (box_below XB.out hb)
      have HS1 := Lib.hid (HS0.out.below hb)
      clear HS0 HS
      clear hb XB HK0
      have HKs : Hid (statV V.m (x1, x2) = .tuple #[.int .u8 (Agr.st V.m (x1, x2)), .bool (Agr.isMem V.m (x1, x2))]) := Lib.hid rfl
      rw [HKs.out]
      clear HKs
      generalize Agr.isMem V.m (x1, x2) = sI at *
      rw [HA.out] at HNy
      clear HA
      obtain ⟨⟨z1, z2⟩, z3⟩ := acc
      dsimp only at HNy
      obtain ⟨n0, hn0, hn1⟩ := HRa.out (x1, x2)
      rw [hn0] at HNy
      rw [hn0]
      clear hn0
      have HNot := Lib.hid fun W (hb : Below w1.heap.size w1 W) => refNot_any _ V x1 x2 W (G1.out.below hb).at_ HV.out
      generalize Agr.notB V.m V.r (x1, x2) = nb at *
      go_wp2_with fail
      (with_reducible refine (refRank_any n0 w2).mono ?_)
      rintro e3 w3 ⟨rfl, hb⟩
      have HK2 := Lib.hid (below_after HK1.out hb (Nat.le_refl _))
      have X2 := Lib.hid (box_below X1.out hb)
      have HS2 := Lib.hid (HS1.out.below hb)
      clear hb X1 HS1
      generalize Agr.rk n0 = r at *
      by_cases h0 : r = 0
      · subst h0
        have HA2 := Lib.hid (HNy.out _ (if_pos (.inl rfl)))
        go_wp2_with fail
        go_roundw
        case rel => exact ⟨k + 1, ((z1, z2), z3), by go_num, rfl, by omega, HA2, HS2⟩
        case measure => simp [intOf]; omega
      · have hr0 : (r == 0) = false := by simpa using h0
        obtain ⟨p0, p1, p2, p3, p4⟩ := vbox_cells (G1.out.below HK2.out).x
        obtain ⟨i0, i1⟩ := box_cells X2.out
        go_wp2_with fail
        clear p0 p1 p2 p3 p4 i0 i1
        (with_reducible refine (HNot.out _ HK2.out).mono ?_)
        rintro e4 w4 ⟨rfl, hb⟩
        have HK3 := Lib.hid (below_after HK2.out hb (Nat.le_refl _))
        have X3 := Lib.hid (box_below X2.out hb)
        have HS3 := Lib.hid (HS2.out.below hb)
        clear hb X2 HS2
        rcases nb with _ | _
        · have HNz := Lib.hid fun acc h => HNy.out acc ((if_neg (fun h => h.elim h0 (fun h => by cases h))).trans h)
          clear HNy
          by_cases hz : z3 = 0
          · subst hz
            have HA2 := Lib.hid (HNz.out _ (if_pos (.inl rfl)))
            obtain ⟨i0, i1⟩ := box_cells X3.out
            obtain ⟨j0, j1⟩ := box_cells HS3.out.b
            obtain ⟨f0, f1⟩ := box_frozen HS3.out.b
            dsimp only at j0 j1
            go_wp2_with fail
            go_roundw
            case rel => exact ⟨k + 1, ((x1, x2), r), by go_num, rfl, by omega, HA2, Lib.hid (HS3.out.put hne hgb1 x1 x2 r)⟩
            case measure => simp [intOf]; omega
          · have hz3 : (z3 == 0) = false := by simpa using hz
            by_cases hrz : r < z3
            · have hrz1 : decide (r < z3) = true := decide_eq_true hrz
              have HA2 := Lib.hid (HNz.out _ (if_pos (.inr (.inl hrz))))
              obtain ⟨i0, i1⟩ := box_cells X3.out
              obtain ⟨j0, j1⟩ := box_cells HS3.out.b
              obtain ⟨f0, f1⟩ := box_frozen HS3.out.b
              dsimp only at j0 j1
              go_wp2_with fail
              go_roundw
              case rel => exact ⟨k + 1, ((x1, x2), r), by go_num, rfl, by omega, HA2, Lib.hid (HS3.out.put hne hgb1 x1 x2 r)⟩
              case measure => simp [intOf]; omega
            · have hrz1 : decide (r < z3) = false := decide_eq_false hrz
              by_cases hre : r = z3
              · subst hre
                have HNf := Lib.hid fun (hnl : ¬ Sets.lt (x1, x2) (z1, z2)) => HNz.out _ (if_neg (fun h => h.elim h0 (fun h => h.elim hrz (fun h => hnl h.2))))
                have HNt := Lib.hid fun (hyl : Sets.lt (x1, x2) (z1, z2)) => HNz.out _ (if_pos (.inr (.inr ⟨rfl, hyl⟩)))
                obtain ⟨i0, i1⟩ := box_cells X3.out
                obtain ⟨j0, j1⟩ := box_cells HS3.out.b
                dsimp only at j0 j1
                go_wp2_with fail
                clear i0 i1 j0 j1
                (with_reducible refine (refLess_any x1 x2 z1 z2 w4).mono ?_)
                rintro e5 w5 ⟨rfl, hb⟩
                have X4 := Lib.hid (box_below X3.out hb)
                have HS4 := Lib.hid (HS3.out.below hb)
                clear hb X3 HS3
                have X3 := X4
                have HS3 := HS4
                clear X4 HS4
                rcases hls : lss x1 x2 z1 z2 with _ | _
                · have hnl := (lss_not (x1, x2) (z1, z2)).1 hls
                  have HA2 := Lib.hid (HNf.out hnl)
                  clear hls hnl
                  go_wp2_with fail
                  go_roundw
                  case rel => exact ⟨k + 1, ((z1, z2), r), by go_num, rfl, by omega, HA2, HS3⟩
                  case measure => simp [intOf]; omega
                · have hyl := (lss_iff (x1, x2) (z1, z2)).1 hls
                  have HA2 := Lib.hid (HNt.out hyl)
                  clear hls hyl
                  obtain ⟨i0, i1⟩ := box_cells X3.out
                  obtain ⟨j0, j1⟩ := box_cells HS3.out.b
                  obtain ⟨f0, f1⟩ := box_frozen HS3.out.b
                  dsimp only at j0 j1
                  go_wp2_with fail
                  go_roundw
                  case rel => exact ⟨k + 1, ((x1, x2), r), by go_num, rfl, by omega, HA2, Lib.hid (HS3.out.put hne hgb1 x1 x2 r)⟩
                  case measure => simp [intOf]; omega
              · have hre1 : (r == z3) = false := by simpa using hre
                have HA2 := Lib.hid (HNz.out _ (if_neg (fun h => h.elim hz (fun h => h.elim hrz (fun h => hre h.1)))))
                go_wp2_with fail
                go_roundw
                case rel => exact ⟨k + 1, ((z1, z2), z3), by go_num, rfl, by omega, HA2, HS3⟩
                case measure => simp [intOf]; omega
        · have HA2 := Lib.hid (HNy.out _ (if_pos (.inr rfl)))
          go_wp2_with fail
          go_roundw
          case rel => exact ⟨k + 1, ((z1, z2), z3), by go_num, rfl, by omega, HA2, HS3⟩
          case measure => simp [intOf]; omega
    · have hd : decide (k < a.2.1) = false := decide_eq_false hlt
      have HR : Hid (leadV (Agr.leadO V.m V.r) = .tuple #[.agg #[.int .i64 acc.1.1, .int .i64 acc.1.2], .bool (decide (0 < acc.2))]) := Lib.hid (by
        have h1 := HA.out
        rw [List.take_of_length_le (by have := HN.out; omega)] at h1
        have h2 := Agr.refLead_is V.m V.r
        unfold Agr.refLead at h2
        rw [h1] at h2
        have h3 := fun y h => (Agr.leadO_some (m := V.m) (rs := V.r) (y := y) h).rank
        generalize Agr.leadO V.m V.r = o at *
        rcases o with _ | y
        · rw [h2]; rfl
        · have h4 := h3 y rfl
          have h5 := (Agr.rk_spec (Agr.st V.m y)).2.2.2
          rw [h2]
          unfold leadV
          rw [show decide (0 < (y, Agr.rk (Agr.st V.m y)).2) = true from decide_eq_true (by show 0 < Agr.rk (Agr.st V.m y); omega)]
          rfl)
      obtain ⟨j0, j1⟩ := box_cells HS.out.b
      obtain ⟨r0, r1⟩ := box_cells HS.out.r
      obtain ⟨f0, f1⟩ := box_frozen HS.out.r
      have RB : Hid (Box ((wr.setCell ⟨gr, 0, none⟩ (.int .i64 acc.1.1)).setCell ⟨gr, 1, none⟩ (.int .i64 acc.1.2)) gr acc.1.1 acc.1.2) := Lib.hid (box_set HS.out.r _ _)
      obtain ⟨s0, s1⟩ := box_cells RB.out
      have BF := Lib.hid (below_put (below_put HB.out hgr1 0 (.int .i64 acc.1.1)) hgr1 1 (.int .i64 acc.1.2))
      go_wp2_with fail
      refine bodyPost_ret (v := .tuple #[.agg #[.int .i64 acc.1.1, .int .i64 acc.1.2], .bool (decide (0 < acc.2))]) (by simp [results, Tryd.results19, go_sem, s0, s1]) rfl ?_
      exact ⟨by rw [HR.out], below_after BB.out BF.out (Nat.le_refl _)⟩
end Go.Proofs.YtloghkiabgnpnaaDoor
