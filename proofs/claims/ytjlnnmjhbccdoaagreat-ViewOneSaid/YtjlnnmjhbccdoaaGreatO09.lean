/-
  Carried over and put together: contracts of this program's functions, and plain facts. No statement is proved in this text.
-/
import Derived.Test.YtjlnnmjhbccdoaaGreatOz
import Derived.Test.YtjlnnmjhbccdoaaGreatO00
import Derived.Test.YtjlnnmjhbccdoaaGreatO01
import Derived.Test.YtjlnnmjhbccdoaaGreatO04
import Derived.Test.YtjlnnmjhbccdoaaGreatO08
set_option maxRecDepth 20000
namespace Go.Proofs.YtjlnnmjhbccdoaaGreat
open Go Go.RowKit Ros
theorem lots_new (w : World) (t : Nat) (a b : Value) : Lots (w.alloc (.cells #[a, b] t)) w.heap.size t [a, b] := heap_alloc_new w _
theorem two_rcs {α : Type} {enc : α → List Value} {sz : Nat} {w : World} {v u : Value} {l m : List α} (h : Rcs enc sz w v l) (h2 : Rcs enc sz w u m) (k : Nat) (hk : k < [v, u].length) (hk' : k < [l, m].length) : Rcs enc sz w ([v, u][k]) ([l, m][k]) := by
 match k, hk with
 | 0, _ => exact h
 | 1, _ => exact h2
theorem concatM_two (g : Nat) (v u : Value) (l m : List Mm) (w : World) {tt : Nat} (h : Lots w g tt [v, u]) (h1 : Ms w v l) (h2 : Ms w u m) (hl : l.length + m.length ≤ 50000) :
  Calls Tryz.prog 106 #[.slice (some ⟨g, 0, none⟩) 2 2] w fun e w' => ∃ V, e = .returned V ∧ OwnsR encM 4 31 w' w.heap.size V (l ++ m) ∧ Below w.heap.size w w' :=
 (concatM_any g [v, u] [l, m] w h rfl (two_rcs h1 h2) (by simp) (by simpa using hl)).mono fun e w' ⟨V, h1, h2, h3⟩ => ⟨V, h1, by simpa using h2, h3⟩
theorem concatI_two (g : Nat) (v u : Value) (l m : List Id2) (w : World) {tt : Nat} (h : Lots w g tt [v, u]) (h1 : Ids w v l) (h2 : Ids w u m) (hl : l.length + m.length ≤ 50000) :
  Calls Tryz.prog 109 #[.slice (some ⟨g, 0, none⟩) 2 2] w fun e w' => ∃ V, e = .returned V ∧ OwnsR encI 2 29 w' w.heap.size V (l ++ m) ∧ Below w.heap.size w w' :=
 (concatI_any g [v, u] [l, m] w h rfl (two_rcs (rcs_ids h1) (rcs_ids h2)) (by simp) (by simpa using hl)).mono fun e w' ⟨V, h1, h2, h3⟩ => ⟨V, h1, by simpa using h2, h3⟩
theorem badM_filter (l : List Mm) : (l.filter fun t => !badM t) = l.filter cnt := by
 congr 1
 funext t
 simp [badM]
theorem badI_filter (l : List Id2) : (l.filter fun t => !badIROS t) = l.filter vidP := by
 congr 1
 funext t
 simp [badIROS, vidP]
theorem lies_lt {b0 : Nat} {w : World} {V : Value} {l : List Mm} (h : Lies b0 w V l) : ∀ (g a c : Nat), V = .slice (some ⟨g, 0, none⟩) a c → g < w.heap.size := fun g a c hv => by
 obtain ⟨d, g0, c0, e, _, _, hr, _⟩ := h
 rw [hv] at e
 injection e with e1 e2 e3
 injection e1 with e1
 injection e1 with e1
 rw [e1]
 exact hr.1
theorem owns_mono {w : World} {b0 b1 : Nat} {v : Value} {l : List Id2} (h : Owns w b0 v l) (hb : b1 ≤ b0) : Owns w b1 v l := by
 obtain ⟨h1, h2⟩ := h
 refine ⟨h1, ?_⟩
 rcases h2 with h2 | ⟨g, cap, cur, e, hg, rest⟩
 ·exact .inl h2
 ·exact .inr ⟨g, cap, cur, e, Nat.le_trans hb hg, rest⟩
set_option maxHeartbeats 4000000 in
theorem join_apart (vm vf vn vg : Value) (m n : List Mm) (f g : List Id2) (w : World) (h1 : Ms w vm m) (h2 : Ids w vf f) (h3 : Ms w vn n) (h4 : Ids w vg g) (hl : m.length + n.length ≤ 40000) (hg : f.length + g.length ≤ 40000) :
  Calls Tryz.prog 49 #[vm, vf, vn, vg] w fun e w' => ∃ V U hi, e = .returned (.tuple #[V, U]) ∧ Lies w.heap.size w' V (joinP m f n g).1 ∧ (∀ (g a c : Nat), V = .slice (some ⟨g, 0, none⟩) a c → g < hi) ∧ w.heap.size ≤ hi ∧ Owns w' hi U (joinP m f n g).2 ∧ Below w.heap.size w w' := by
 have H1 := Lib.hid (h1.below (below_one w (.cells #[vm, vn] 22)))
 have H3 := Lib.hid (h3.below (below_one w (.cells #[vm, vn] 22)))
 have HL := Lib.hid (lots_new w 22 vm vn)
 have HB := Lib.hid (below_one w (.cells #[vm, vn] 22))
 have H2 := Lib.hid h2
 have H4 := Lib.hid h4
 have HS : Hid (w.heap.size ≤ (w.alloc (.cells #[vm, vn] 22)).heap.size) := Lib.hid (by simp)
 have HJ : Hid (joinP m f n g = (united (((m ++ n).filter cnt).filter fun x => !goneM (floors ((m ++ n).filter cnt) ((f ++ g).filter vidP)) x), listF (floors ((m ++ n).filter cnt) ((f ++ g).filter vidP)))) := Lib.hid rfl
 obtain ⟨A1, k1, rfl, hz⟩ := h1
 clear hz
 obtain ⟨A2, k2, rfl, hz⟩ := h2
 clear hz
 obtain ⟨A3, k3, rfl, hz⟩ := h3
 clear hz
 obtain ⟨A4, k4, rfl, hz⟩ := h4
 clear hz
 go_enter Tryz.func49, Tryz.ntmps49
 go_wp2_with fail
 (with_reducible refine (concatM_two w.heap.size _ _ m n _ HL.out H1.out H3.out (by omega)).mono ?_)
 rintro e w1 ⟨V0, rfl, hO, hb⟩
 have HO := Lib.hid ((ownM_of hO).mono HS.out)
 have B1 := Lib.hid (below_after HB.out hb (Nat.le_refl _))
 clear hO hb H1 H3 HL
 go_wp2_with fail
 (with_reducible refine (deleteM_own badM_asks w.heap.size V0 (fun _ _ _ _ _ _ _ _ => trivial) (m ++ n) _ HO.out trivial (by rw [List.length_append]; omega) B1.out.size (fun _ _ => trivial)).mono ?_)
 rintro e w2 ⟨V1, rfl, hO, -, hb⟩
 rw [badM_filter] at hO
 have O2 := Lib.hid hO
 have B2 := Lib.hid (B1.out.trans hb)
 clear hO hb HO
 have X2 := Lib.hid ((H2.out.below B2.out).below (below_one w2 (.cells #[.slice A2 f.length k2, .slice A4 g.length k4] 23)))
 have X4 := Lib.hid ((H4.out.below B2.out).below (below_one w2 (.cells #[.slice A2 f.length k2, .slice A4 g.length k4] 23)))
 have XL := Lib.hid (lots_new w2 23 (.slice A2 f.length k2) (.slice A4 g.length k4))
 have XB := Lib.hid (B2.out.trans ((below_one w2 (.cells #[.slice A2 f.length k2, .slice A4 g.length k4] 23)).mono B2.out.size))
 have XO := Lib.hid (O2.out.below (below_one w2 (.cells #[.slice A2 f.length k2, .slice A4 g.length k4] 23)))
 clear O2
 go_wp2_with fail
 (with_reducible refine (concatI_two w2.heap.size _ _ f g _ XL.out X2.out X4.out (by omega)).mono ?_)
 rintro e w3 ⟨V2, rfl, hO, hb⟩
 have O3 := Lib.hid ((ownI_of hO))
 have B3 := Lib.hid (below_after XB.out hb (by simp))
 have C3 := Lib.hid hb
 clear hO hb X2 X4 XL
 go_wp2_with fail
 (with_reducible refine (deleteI_own badI_asksROS _ V2 (fun _ _ _ _ _ _ _ _ => trivial) (f ++ g) _ O3.out trivial (by rw [List.length_append]; omega) C3.out.size).mono ?_)
 rintro e w4 ⟨V3, rfl, hO, -, hb⟩
 rw [badI_filter] at hO
 have O4 := Lib.hid hO
 have M4 := Lib.hid (XO.out.below (C3.out.trans hb))
 have B4 := Lib.hid (XB.out.trans ((C3.out.trans hb).mono XB.out.size))
 clear hO hb XO C3 O3 B3 B2 XB
 have LM := Lib.hid (Nat.le_trans (List.length_filter_le cnt (m ++ n)) (by rw [List.length_append]; omega : (m ++ n).length ≤ 100000))
 have LI := Lib.hid (Nat.le_trans (List.length_filter_le vidP (f ++ g)) (by rw [List.length_append]; omega : (f ++ g).length ≤ 100000))
 have CM := Lib.hid (allC_filter (m ++ n))
 have CI := Lib.hid (allV_filter (f ++ g))
 generalize (m ++ n).filter cnt = ms at *
 generalize (f ++ g).filter vidP = gs at *
 go_wp2_with fail
 (with_reducible refine (raised_any V1 V3 ms gs _ M4.out.reads O4.out.reads LM.out LI.out CM.out CI.out).mono ?_)
 rintro e w5 ⟨F, rfl, hF, hL, hb⟩
 have L5 := Lib.hid (lives_below hL (below_one w5 (.cells #[.pointer (some ⟨F, 0, none⟩)] 109)))
 have P5 := Lib.hid (one_new w5 109 (.pointer (some ⟨F, 0, none⟩)))
 have M5 := Lib.hid ((M4.out.below hb).below (below_one w5 (.cells #[.pointer (some ⟨F, 0, none⟩)] 109)))
 have B5 := Lib.hid ((below_after B4.out hb (Nat.le_refl _)).trans ((below_one w5 (.cells #[.pointer (some ⟨F, 0, none⟩)] 109)).mono (below_after B4.out hb (Nat.le_refl _)).size))
 have HV4 : Hid (∀ (g a c : Nat), V1 = .slice (some ⟨g, 0, none⟩) a c → g ≠ F ∧ g ≠ w5.heap.size) := Lib.hid fun g' a c hv => by
  have hs := hb.size
  rcases M4.out with ⟨e, _⟩ | ⟨d, g0, c0, e, _, _, hr, _⟩
  ·rw [hv] at e
   cases e
  ·rw [hv] at e
   injection e with e1 e2 e3
   injection e1 with e1
   injection e1 with e1
   have := hr.1
   omega
 have HDc : Hid (∀ x ∈ ms, 0 ≤ x.1.1 ∧ x.1.1 < 13) := Lib.hid fun x hx => by
  have hcx : cnt x = true := CM.out x hx
  obtain ⟨⟨x1, x2, _⟩, _⟩ := cnt_iff.1 hcx
  exact ⟨by omega, by omega⟩
 have HX := Lib.hid (gone_asks w5.heap.size F (floors ms gs))
 clear hF hL hb O4 B4 M4
 generalize floors ms gs = L at *
 go_wp2_with fail
 (with_reducible refine (deleteM_own HX.out w.heap.size V1 (fun g' a c W W' hv hS hb => ⟨one_grown hS.1 hb (fun e => absurd e.symm (HV4.out g' a c hv).2), lives_grown hS.2 hb (fun e => absurd e.symm (HV4.out g' a c hv).1)⟩) ms _ M5.out ⟨P5.out, L5.out⟩ LM.out B5.out.size HDc.out).mono ?_)
 rintro e w6 ⟨V4, rfl, hO, ⟨hP, hL⟩, hb⟩
 have O6 := Lib.hid hO
 have P6 := Lib.hid hP
 have L6 := Lib.hid hL
 have B6 := Lib.hid (B5.out.trans hb)
 have C6 : Hid (AllC (ms.filter fun x => !goneM L x)) := Lib.hid fun x hx => (show ∀ x ∈ ms, cnt x = true from CM.out) x (List.mem_filter.1 hx).1
 have N6 := Lib.hid (Nat.le_trans (List.length_filter_le (fun x => !goneM L x) ms) LM.out)
 clear hO hP hL hb P5 L5 M5 B5 HX HV4 CM LM
 generalize (ms.filter fun x => !goneM L x) = fs at *
 go_wp2_with fail
 have c0 := one_cell P6.out
 have HS6 := Lib.hid B6.out.size
 have PS := Lib.hid fun w' (hb : Below w6.heap.size w6 w') => And.intro (one_cell (one_below P6.out hb)) (Lib.hid hb)
 go_region_held3 (fun w' => w'.cell? ⟨w5.heap.size, 0, none⟩ = some (.pointer (some ⟨F, 0, none⟩)) ∧ Hid (Below w6.heap.size w6 w'))
  (first | exact PS.out _ (Below.refl _ _).drew | exact PS.out _ HK.out)
  (first
   | (go_at_call 114; (with_reducible refine (united_any V4 fs _ (O6.out.reads.below (Below.refl _ _).drew) N6.out C6.out).mono ?_); rintro e w' ⟨V5, rfl, hV, hb⟩; have HK := Lib.hid ((Below.refl w6.heap.size w6).drew.trans hb); have U5 := Lib.hid hV; clear hb hV)
   | (go_at_call 115; (with_reducible refine (list_any F L _ (lives_below L6.out HK.out)).mono ?_); rintro e w' ⟨V6, rfl, hV, hb⟩; have U6 := Lib.hid (U5.out.below hb); have Z6 := Lib.hid (lies_lt U5.out); have Q6 := Lib.hid hV; have HZ := Lib.hid HK.out.size; have HK := Lib.hid (below_after HK.out hb (Nat.le_refl _)); clear hb hV))
 go_wp2_with fail
 refine bodyPost_ret (v := .tuple #[V5, V6]) (by simp [results, Tryz.results49, go_sem]) rfl ?_
 rw [HJ.out]
 exact ⟨_, _, _, rfl, U6.out.mono HS6.out, Z6.out, Nat.le_trans HS6.out HZ.out, Q6.out, B6.out.trans (HK.out.mono HS6.out)⟩
theorem join_anyROS (vm vf vn vg : Value) (m n : List Mm) (f g : List Id2) (w : World) (h1 : Ms w vm m) (h2 : Ids w vf f) (h3 : Ms w vn n) (h4 : Ids w vg g) (hl : m.length + n.length ≤ 40000) (hg : f.length + g.length ≤ 40000) :
  Calls Tryz.prog 49 #[vm, vf, vn, vg] w fun e w' => ∃ V U, e = .returned (.tuple #[V, U]) ∧ Lies w.heap.size w' V (joinP m f n g).1 ∧ Owns w' w.heap.size U (joinP m f n g).2 ∧ Below w.heap.size w w' :=
 (join_apart vm vf vn vg m n f g w h1 h2 h3 h4 hl hg).mono fun _ _ ⟨V, U, _, h1, h2, _, h4, h5, h6⟩ => ⟨V, U, h1, h2, owns_mono h5 h4, h6⟩
end Go.Proofs.YtjlnnmjhbccdoaaGreat
namespace Go.Proofs.YtjlnnmjhbccdoaaGreat
open Go Go.RowKit Ros
theorem same_next {α : Type} {l m : List α} {k : Nat} (h : k < l.length) (h' : k < m.length) (ht : l.take k = m.take k) (he : l[k] = m[k]) : l.take (k + 1) = m.take (k + 1) := by
 rw [List.take_succ_eq_append_getElem h, List.take_succ_eq_append_getElem h', ht, he]
theorem same_not {α : Type} {l m : List α} {k : Nat} (h : k < l.length) (h' : k < m.length) (he : l[k] ≠ m[k]) : l ≠ m := fun e => by
 subst e
 exact he rfl
end Go.Proofs.YtjlnnmjhbccdoaaGreat
namespace Go.Proofs.YtjlnnmjhbccdoaaGreat
open Go Go.RowKit Sets RowSets
set_option maxHeartbeats 2000000 in
theorem owners_any (v : Value) (qs : List Raw) (w : World) (h : Rcs encW 4 w v qs) (hl : qs.length ≤ 1000) :
  Calls Tryz.prog 153 #[v] w (Lists (qs.map (·.1)) w) := by
 have HI := Lib.hid h
 obtain ⟨A, c, rfl, hz⟩ := h
 clear hz
 go_enter Tryz.func153, Tryz.ntmps153
 go_wp2_with (at_make; refine wpList_make_all (enc := encI) 23 29 (0, 0) Tryz.underlying23 infoI encI_len (by omega) rfl (by omega) w rfl (.tmp 7) rfl qs.length rfl (by omega) ?_; intro w1 k1 k2 k3; have R1 := Lib.hid k1; have S1 := Lib.hid k2; have B1 := Lib.hid k3; clear k1 k2 k3)
 have hsz0 : (Array.replicate qs.length ((0, 0) : Id2)).size = qs.length := by simp
 obtain ⟨g, hg⟩ : ∃ g, w.heap.size = g := ⟨_, rfl⟩
 have HG := Lib.hid hg
 rw [hg] at R1 S1
 simp only [hg]
 clear hg
 go_loopw [11] (fun s11 wr => ∃ k : Nat, ∃ dk : Array Id2, k ≤ qs.length ∧ s11 = .int .i64 k ∧ dk.size = qs.length ∧ Hid (RowAtR encI 2 wr g dk) ∧ Hid (dk.toList.take k = (qs.take k).map (·.1)) ∧ Hid (Below w.heap.size w wr)) (fun s11 _ => qs.length - (intOf s11).toNat)
 case atStart => exact ⟨0, _, by omega, rfl, hsz0, R1, Lib.hid rfl, B1⟩
 case round =>
  obtain ⟨k, dk, hkl, rfl, hds, HR, HT, HW⟩ := hrel
  have i3 : (0 : Int) ≤ (k : Int) := by omega
  by_cases hlt : k < qs.length
  ·have hd : decide ((k : Int) < (qs.length : Int)) = true := by simp; omega
   have i4 : (k : Int) < (qs.length : Int) := by omega
   obtain ⟨ad, rfl, c1, c2, c3, c4⟩ := HI.out.raw HW.out hlt
   have HX := Lib.hid (wbox_new wr qs[k].1.1 qs[k].1.2 qs[k].2.1 (.slice qs[k].2.2.1 qs[k].2.2.2.1 qs[k].2.2.2.2))
   have HB := Lib.hid (below_one wr (.cells #[.int .i64 qs[k].1.1, .int .i64 qs[k].1.2, .int .i64 qs[k].2.1, .slice qs[k].2.2.1 qs[k].2.2.2.1 qs[k].2.2.2.2] 46))
   have R2 := Lib.hid (rowAtR_kept HR.out HB.out)
   have W2 := Lib.hid (HW.out.trans (HB.out.mono HW.out.size))
   have HS := Lib.hid (take_set_snoc (show k < dk.size by omega) ((qs[k].1.1, qs[k].1.2) : Id2))
   have HT2 := Lib.hid (show (qs.take (k + 1)).map (·.1) = (qs.take k).map (·.1) ++ [(qs[k].1.1, qs[k].1.2)] by rw [take_snoc hlt, List.map_append]; rfl)
   generalize qs[k].1.1 = a at *
   generalize qs[k].1.2 = i at *
   generalize qs[k].2.1 = n at *
   generalize qs[k].2.2.1 = B at *
   generalize qs[k].2.2.2.1 = m at *
   generalize qs[k].2.2.2.2 = d at *
   obtain ⟨x1, x2, x3, x4⟩ := wbox_cells HX.out
   obtain ⟨⟨y1, y2⟩, f1, f2⟩ := R2.out.id (k := k) (by omega)
   have R3 := Lib.hid (rowI_set R2.out (show k < dk.size by omega) a i)
   have W3 := Lib.hid (below_setI (g := g) W2.out (by rw [HG.out]; exact Nat.le_refl g) k (.int .i64 a) (.int .i64 i))
   have HF := Lib.hid (show (dk.setIfInBounds k (a, i)).toList.take (k + 1) = (qs.take (k + 1)).map (·.1) by rw [HS.out, HT2.out, HT.out])
   go_wp2_with fail
   go_roundw
   case rel => exact ⟨k + 1, _, by omega, by go_num, by simpa using hds, R3, HF, W3⟩
   case measure => simp [intOf]; omega
  ·obtain rfl : k = qs.length := by omega
   have hd : decide ((qs.length : Int) < (qs.length : Int)) = false := by simp
   have HF := Lib.hid (show dk.toList = qs.map (·.1) by
    have := HT.out
    rwa [List.take_of_length_le (by simp; omega), List.take_of_length_le (Nat.le_refl _)] at this)
   have HQ := Lib.hid (rowAtR_rcs HR.out (show dk.size ≤ qs.length by omega))
   rw [hds] at HQ
   go_wp2_with fail
   go_ret
   exact ⟨_, rfl, by rw [← HF.out]; exact ids_rcs HQ.out, HW.out⟩
theorem EachReads.owners {w : World} : ∀ {qs : List Raw} {l : List Row}, EachReads w qs l → qs.map (·.1) = ids l
 | [], [], _ => rfl
 | q :: qs, r :: l, h => by
  rw [List.map_cons, h.2.owners, h.1.1]
  rfl
 | [], _ :: _, h => h.elim
 | _ :: _, [], h => h.elim
theorem get_first {x : Id2} : ∀ {l : List Row} {k : Nat} (h : k < l.length), l[k].1 = x → (∀ y ∈ (ids l).take k, y ≠ x) → get l x = some l[k].2
 | r :: l, 0, _, e, _ => by
  have e2 : r.1 = x := e
  rw [RowSets.get, if_pos e2]
  rfl
 | r :: l, k + 1, h, e, hn => by
  have h1 : r.1 ≠ x := hn r.1 (by simp [ids])
  rw [RowSets.get, if_neg h1]
  exact get_first (by simpa using h) e fun y hy => hn y (by
   show y ∈ (r.1 :: ids l).take (k + 1)
   rw [List.take_succ_cons]
   exact List.mem_cons_of_mem _ hy)
theorem found_get {w : World} {qs : List Raw} {l : List Row} (h : EachReads w qs l) {x : Id2} {r : Int} (hr : FoundP (fun u => isI u x) (qs.map (·.1)) r) :
  (r = -1 ∧ get l x = none) ∨ ∃ k : Nat, ∃ _ : k < qs.length, ∃ h2 : k < l.length, r = k ∧ get l x = some l[k].2 ∧ l[k].1 = x ∧ ∀ y ∈ (ids l).take k, y ≠ x := by
 rw [h.owners] at hr
 have hlen := h.len
 rcases hr with ⟨e, hn⟩ | ⟨k, hk, e, h1, hn⟩
 ·refine .inl ⟨e, get_none.2 fun hx => ?_⟩
  have := hn x hx
  simp [isI] at this
 ·have hk2 : k < l.length := by simpa [ids] using hk
  have he : l[k].1 = x := by simpa [ids, isI] using h1
  have hn2 : ∀ y ∈ (ids l).take k, y ≠ x := fun y hy => by have := hn y hy; simpa [isI] using this
  exact .inr ⟨k, by omega, hk2, e, get_first hk2 he hn2, he, hn2⟩
end Go.Proofs.YtjlnnmjhbccdoaaGreat
namespace Go.Proofs.YtjlnnmjhbccdoaaGreat
open Go Go.RowKit Sets RowSets
def Small (l : List Row) : Prop := l.length ≤ 1000 ∧ ∀ r ∈ l, r.2.2.length ≤ 20000
end Go.Proofs.YtjlnnmjhbccdoaaGreat
namespace Go.Proofs.YtjlnnmjhbccdoaaGreat.Clocks
open Go.Proofs.YtjlnnmjhbccdoaaGreat.Sets
abbrev Tick := Id2 × Int
def says : List Tick → Id2 → Int
 | [], _ => 0
 | t :: c, x => if t.1 = x then max t.2 (says c x) else says c x
theorem says_pos (c : List Tick) (x : Id2) : 0 ≤ says c x := by
 induction c with
 | nil => exact Int.le_refl _
 | cons t c ih =>
  rw [says]
  split <;> omega
theorem says_append (a b : List Tick) (x : Id2) : says (a ++ b) x = max (says a x) (says b x) := by
 induction a with
 | nil => have := says_pos b x; simp only [List.nil_append, says]; omega
 | cons t a ih =>
  simp only [List.cons_append, says, ih]
  split <;> omega
theorem says_mem {c : List Tick} {x : Id2} (h : 0 < says c x) : (x, says c x) ∈ c := by
 induction c with
 | nil => simp [says] at h
 | cons t c ih =>
  rw [says] at h ⊢
  by_cases e : t.1 = x
  ·rw [if_pos e] at h ⊢
   rcases Int.le_total t.2 (says c x) with h1 | h1
   ·rw [Int.max_eq_right h1] at h ⊢
    exact List.mem_cons_of_mem _ (ih h)
   ·rw [Int.max_eq_left h1, ← e]
    exact List.mem_cons_self ..
  ·rw [if_neg e] at h ⊢
   exact List.mem_cons_of_mem _ (ih h)
theorem says_zero {c : List Tick} {x : Id2} (h : ∀ t ∈ c, t.1 = x → t.2 ≤ 0) : says c x = 0 := by
 rcases Int.lt_or_le 0 (says c x) with h1 | h1
 ·have := h _ (says_mem h1) rfl
  simp at this
  omega
 ·have := says_pos c x
  omega
def Norm (c : List Tick) : Prop := Rises (c.map (·.1)) ∧ ∀ t ∈ c, 0 < t.2
theorem norm_nil : Norm [] := ⟨rises_nil, fun _ h => by cases h⟩
theorem norm_cons {t : Tick} {c : List Tick} : Norm (t :: c) ↔ (∀ u ∈ c, lt t.1 u.1) ∧ 0 < t.2 ∧ Norm c := by
 unfold Norm
 rw [List.map_cons, rises_cons]
 constructor
 ·rintro ⟨⟨h1, h2⟩, h3⟩
  exact ⟨fun u hu => h1 _ (List.mem_map_of_mem hu), h3 t (List.mem_cons_self ..), h2, fun u hu => h3 u (List.mem_cons_of_mem _ hu)⟩
 ·rintro ⟨h1, h2, h3, h4⟩
  refine ⟨⟨fun y hy => ?_, h3⟩, fun u hu => ?_⟩
  ·obtain ⟨u, hu, rfl⟩ := List.mem_map.1 hy
   exact h1 u hu
  ·rcases List.mem_cons.1 hu with rfl | hu
   ·exact h2
   ·exact h4 u hu
theorem norm_says {c : List Tick} (h : Norm c) {t : Tick} (ht : t ∈ c) : says c t.1 = t.2 := by
 induction c with
 | nil => cases ht
 | cons u c ih =>
  obtain ⟨h1, h2, h3⟩ := norm_cons.1 h
  rw [says]
  rcases List.mem_cons.1 ht with rfl | ht
  ·rw [if_pos rfl, says_zero (fun v hv e => absurd (e ▸ h1 v hv) (lt_irrefl _))]
   omega
  ·rw [if_neg (fun e => absurd (e ▸ h1 t ht) (lt_irrefl _))]
   exact ih h3 ht
theorem norm_mem {c : List Tick} (h : Norm c) (t : Tick) : t ∈ c ↔ 0 < t.2 ∧ says c t.1 = t.2 := by
 constructor
 ·exact fun ht => ⟨h.2 t ht, norm_says h ht⟩
 ·rintro ⟨h1, h2⟩
  have := says_mem (c := c) (x := t.1) (by omega)
  rw [h2] at this
  exact this
theorem norm_ext : ∀ {a b : List Tick}, Norm a → Norm b → (∀ x, says a x = says b x) → a = b
 | [], [], _, _, _ => rfl
 | [], u :: b, _, hb, h => by
  have h1 := (norm_mem hb u).1 (List.mem_cons_self ..)
  have := h u.1
  rw [h1.2] at this
  simp only [says] at this
  omega
 | t :: a, [], ha, _, h => by
  have h1 := (norm_mem ha t).1 (List.mem_cons_self ..)
  have := h t.1
  rw [h1.2] at this
  simp only [says] at this
  omega
 | t :: a, u :: b, ha, hb, h => by
  obtain ⟨a1, a2, a3⟩ := norm_cons.1 ha
  obtain ⟨b1, b2, b3⟩ := norm_cons.1 hb
  have hm : ∀ v, v ∈ t :: a ↔ v ∈ u :: b := fun v => by rw [norm_mem ha, norm_mem hb, h]
  have e : t = u := by
   rcases List.mem_cons.1 ((hm t).1 (List.mem_cons_self ..)) with e | e
   ·exact e
   ·rcases List.mem_cons.1 ((hm u).2 (List.mem_cons_self ..)) with e2 | e2
    ·exact e2.symm
    ·exact absurd (a1 u e2) (lt_asymm (b1 t e))
  subst e
  congr 1
  refine norm_ext a3 b3 fun x => ?_
  have hx := h x
  rw [says, says] at hx
  by_cases e : t.1 = x
  ·subst e
   rw [says_zero (fun v hv e => absurd (e ▸ a1 v hv) (lt_irrefl _)), says_zero (fun v hv e => absurd (e ▸ b1 v hv) (lt_irrefl _))]
  ·rwa [if_neg e, if_neg e] at hx
def clk (f : Id2 → Int) (ids : List Id2) : List Tick := ((setOf ids).filter fun x => decide (0 < f x)).map fun x => (x, f x)
theorem clk_ids (f : Id2 → Int) (ids : List Id2) : (clk f ids).map (·.1) = (setOf ids).filter fun x => decide (0 < f x) := by
 unfold clk
 rw [List.map_map]
 exact List.map_id _
theorem norm_clk (f : Id2 → Int) (ids : List Id2) : Norm (clk f ids) := by
 refine ⟨?_, fun t ht => ?_⟩
 ·rw [clk_ids]
  exact List.Pairwise.filter _ (rises_setOf ids)
 ·obtain ⟨x, hx, rfl⟩ := List.mem_map.1 ht
  simpa using (List.mem_filter.1 hx).2
theorem says_clk {f : Id2 → Int} {ids : List Id2} (h0 : ∀ x, 0 ≤ f x) (h : ∀ x, 0 < f x → x ∈ ids) (x : Id2) : says (clk f ids) x = f x := by
 rcases Int.lt_or_le 0 (f x) with h1 | h1
 ·have hm : (x, f x) ∈ clk f ids := List.mem_map.2 ⟨x, List.mem_filter.2 ⟨(mem_setOf ids x).2 (h x h1), by simpa using h1⟩, rfl⟩
  exact norm_says (norm_clk f ids) hm
 ·have h2 := h0 x
  have h3 : f x = 0 := by omega
  rw [h3]
  refine says_zero fun t ht e => ?_
  obtain ⟨y, hy, rfl⟩ := List.mem_map.1 ht
  simp only at e ⊢
  subst e
  omega
def joinC (a b : List Tick) : List Tick := clk (fun x => max (says a x) (says b x)) ((a ++ b).map (·.1))
theorem says_ids {c : List Tick} {x : Id2} (h : 0 < says c x) : x ∈ c.map (·.1) := List.mem_map.2 ⟨_, says_mem h, rfl⟩
theorem says_join (a b : List Tick) (x : Id2) : says (joinC a b) x = max (says a x) (says b x) := by
 refine says_clk (fun x => by have := says_pos a x; omega) (fun x h => ?_) x
 rw [← says_append] at h
 exact says_ids h
theorem norm_join (a b : List Tick) : Norm (joinC a b) := norm_clk _ _
theorem join_comm (a b : List Tick) : joinC a b = joinC b a := norm_ext (norm_join _ _) (norm_join _ _) fun x => by rw [says_join, says_join]; omega
theorem join_assoc (a b c : List Tick) : joinC (joinC a b) c = joinC a (joinC b c) := norm_ext (norm_join _ _) (norm_join _ _) fun x => by simp only [says_join]; omega
theorem join_self {a : List Tick} (h : Norm a) : joinC a a = a := norm_ext (norm_join _ _) h fun x => by rw [says_join]; omega
theorem clk_len (f : Id2 → Int) (ids : List Id2) : (clk f ids).length ≤ ids.length := by
 unfold clk
 rw [List.length_map]
 exact Nat.le_trans (List.length_filter_le _ _) (setOf_len ids)
theorem join_len (a b : List Tick) : (joinC a b).length ≤ a.length + b.length := Nat.le_trans (clk_len _ _) (by simp)
def more (a b : List Tick) : Bool := a.any fun t => decide (says b t.1 < says a t.1)
theorem more_iff (a b : List Tick) : more a b = true ↔ ∃ x, says b x < says a x := by
 unfold more
 rw [List.any_eq_true]
 constructor
 ·rintro ⟨t, _, h⟩
  exact ⟨t.1, by simpa using h⟩
 ·rintro ⟨x, h⟩
  have := says_pos b x
  exact ⟨_, says_mem (c := a) (x := x) (by omega), by simpa using h⟩
theorem more_not (a b : List Tick) : more a b = false ↔ ∀ x, says a x ≤ says b x := by
 rw [← Bool.not_eq_true, more_iff]
 constructor
 ·exact fun h x => by rcases Int.lt_or_le (says b x) (says a x) with h1 | h1; exact absurd ⟨x, h1⟩ h; exact h1
 ·rintro h ⟨x, hx⟩
  have := h x
  omega
def cmpB (x y : Bool) : Nat := if x then (if y then 4 else 3) else (if y then 2 else 1)
def cmp (a b : List Tick) : Nat := cmpB (more a b) (more b a)
theorem cmp_same (a b : List Tick) : cmp a b = 1 ↔ ∀ x, says a x = says b x := by
 unfold cmp cmpB
 rcases h1 : more a b with _ | _ <;> rcases h2 : more b a with _ | _
 ·rw [more_not] at h1 h2
  simp only [if_neg Bool.false_ne_true, true_iff]
  exact fun x => by have := h1 x; have := h2 x; omega
 ·obtain ⟨x, hx⟩ := (more_iff _ _).1 h2
  simp only [if_neg Bool.false_ne_true, if_true]
  exact ⟨fun h => by omega, fun h => by have := h x; omega⟩
 ·obtain ⟨x, hx⟩ := (more_iff _ _).1 h1
  simp only [if_neg Bool.false_ne_true, if_true]
  exact ⟨fun h => by omega, fun h => by have := h x; omega⟩
 ·obtain ⟨x, hx⟩ := (more_iff _ _).1 h1
  simp only [if_true]
  exact ⟨fun h => by omega, fun h => by have := h x; omega⟩
def above (a b : List Tick) : Bool := !more b a
theorem cmp_behind (a b : List Tick) : cmp a b = 2 ↔ (∀ x, says a x ≤ says b x) ∧ ∃ x, says a x < says b x := by
 rw [← more_not, ← more_iff b a]
 unfold cmp cmpB
 rcases more a b with _ | _ <;> rcases more b a with _ | _ <;> simp
theorem cmp_ahead (a b : List Tick) : cmp a b = 3 ↔ (∀ x, says b x ≤ says a x) ∧ ∃ x, says b x < says a x := by
 rw [← more_not, ← more_iff a b]
 unfold cmp cmpB
 rcases more a b with _ | _ <;> rcases more b a with _ | _ <;> simp
def up (c : List Tick) (y : Id2) : List Tick := clk (fun x => if x = y then says c x + 1 else says c x) (y :: c.map (·.1))
theorem says_up (c : List Tick) (y x : Id2) : says (up c y) x = if x = y then says c x + 1 else says c x := by
 refine says_clk (f := fun x => if x = y then says c x + 1 else says c x) (fun x => ?_) (fun x h => ?_) x
 ·have := says_pos c x
  split <;> omega
 ·split at h
  ·rename_i e; rw [e]; exact List.mem_cons_self ..
  ·exact List.mem_cons_of_mem _ (says_ids h)
theorem norm_up (c : List Tick) (y : Id2) : Norm (up c y) := norm_clk _ _
theorem up_up (c : List Tick) {a b : Id2} (h : a ≠ b) : up (up c a) b = joinC (up c a) (up c b) :=
 norm_ext (norm_up _ _) (norm_join _ _) fun x => by
  simp only [says_join, says_up]
  by_cases e1 : x = a
  ·rw [if_neg (e1 ▸ h), if_pos e1, if_neg (e1 ▸ h)]; omega
  ·by_cases e2 : x = b
   ·rw [if_pos e2, if_neg e1, if_pos e2]; omega
   ·rw [if_neg e2, if_neg e1, if_neg e2]; omega
end Go.Proofs.YtjlnnmjhbccdoaaGreat.Clocks
namespace Go.Proofs.YtjlnnmjhbccdoaaGreat
open Sets Clocks
def cmpI (a b : Int) : Int := if a < b then -1 else if b < a then 1 else 0
def orI (a b : Int) : Int := if a = 0 then b else a
def cmpT (s t : Tick) : Int := orI (cmpZ s.1.1 s.1.2 t.1.1 t.1.2) (cmpI t.2 s.2)
def tlt (s t : Tick) : Prop := lt s.1 t.1 ∨ s.1 = t.1 ∧ t.2 < s.2
theorem cmpT_neg (s t : Tick) : cmpT s t < 0 ↔ tlt s t := by
 unfold cmpT tlt orI cmpI
 rw [cmpZ_eq]
 rcases lt_total s.1 t.1 with h | h | h
 ·have h2 := lt_asymm h
  rw [if_pos h]
  simp [h]
 ·rw [h, if_neg (lt_irrefl _), if_neg (lt_irrefl _), if_pos rfl]
  have h2 := lt_irrefl t.1
  simp only [h2, false_or, true_and]
  split
  ·rename_i h3; simp [h3]
  ·rename_i h3
   split <;> simp [h3]
 ·have h2 := lt_asymm h
  rw [if_neg h2, if_pos h]
  have h3 : s.1 ≠ t.1 := fun e => lt_irrefl _ (e ▸ h)
  simp [h2, h3]
theorem tlt_irrefl (s : Tick) : ¬ tlt s s := by
 rintro (h | ⟨_, h⟩)
 ·exact lt_irrefl _ h
 ·omega
theorem tlt_trans {a b c : Tick} (h : tlt a b) (k : tlt b c) : tlt a c := by
 unfold tlt at *
 rcases h with h | ⟨h1, h2⟩
 ·rcases k with k | ⟨k1, k2⟩
  ·exact .inl (lt_trans h k)
  ·exact .inl (k1 ▸ h)
 ·rcases k with k | ⟨k1, k2⟩
  ·exact .inl (h1 ▸ k)
  ·exact .inr ⟨h1.trans k1, by omega⟩
theorem tlt_ntrans {a b c : Tick} (h : ¬ tlt a b) (k : ¬ tlt b c) : ¬ tlt a c := by
 unfold tlt at *
 rcases lt_total a.1 b.1 with e | e | e
 ·exact absurd (.inl e) h
 ·rcases lt_total b.1 c.1 with e2 | e2 | e2
  ·exact absurd (.inl e2) k
  ·rintro (h3 | ⟨_, h3⟩)
   ·exact lt_irrefl _ (e2 ▸ e ▸ h3)
   ·by_cases h4 : b.2 < a.2
    ·exact h (.inr ⟨e, h4⟩)
    ·exact k (.inr ⟨e2, by omega⟩)
  ·rintro (h3 | ⟨h3, _⟩)
   ·exact lt_asymm e2 (e ▸ h3)
   ·exact lt_irrefl _ (e.symm.trans h3 ▸ e2)
 ·rcases lt_total b.1 c.1 with e2 | e2 | e2
  ·exact absurd (.inl e2) k
  ·rintro (h3 | ⟨h3, _⟩)
   ·exact lt_asymm e (e2 ▸ h3)
   ·exact lt_irrefl _ ((h3.trans e2.symm) ▸ e)
  ·rintro (h3 | ⟨h3, _⟩)
   ·exact lt_asymm (lt_trans e2 e) h3
   ·exact lt_irrefl _ (h3 ▸ lt_trans e2 e)
def SortedCLK (l : List Tick) : Prop := l.Pairwise (fun s t => ¬ tlt t s) ∧ ∀ t ∈ l, 0 < t.2
def cpt (p : Option Id2) : List Tick → List Tick
 | [] => []
 | t :: l => if p = some t.1 then cpt p l else t :: cpt (some t.1) l
theorem not_tlt_ids {s t : Tick} (h : ¬ tlt t s) : s.1 = t.1 ∧ t.2 ≤ s.2 ∨ lt s.1 t.1 := by
 unfold tlt at h
 rcases lt_total s.1 t.1 with e | e | e
 ·exact .inr e
 ·refine .inl ⟨e, ?_⟩
  rcases Int.lt_or_le s.2 t.2 with h2 | h2
  ·exact absurd (.inr ⟨e.symm, h2⟩) h
  ·exact h2
 ·exact absurd (.inl e) h
theorem cpt_spec : ∀ (l : List Tick) (p : Option Tick), (match p with | none => SortedCLK l | some s => SortedCLK (s :: l)) →
  Norm (cpt (p.map (·.1)) l) ∧ (∀ t ∈ cpt (p.map (·.1)) l, ∀ s, p = some s → lt s.1 t.1) ∧ (∀ x, (∀ s, p = some s → s.1 ≠ x) → says (cpt (p.map (·.1)) l) x = says l x) := by
 intro l
 induction l with
 | nil => exact fun p _ => ⟨norm_nil, fun t ht => (by cases ht), fun _ _ => rfl⟩
 | cons t l ih =>
  intro p hp
  have ht : SortedCLK (t :: l) := by
   cases p with
   | none => exact hp
   | some s => exact ⟨(List.pairwise_cons.1 hp.1).2, fun u hu => hp.2 u (List.mem_cons_of_mem _ hu)⟩
  obtain ⟨i1, i2, i3⟩ := ih (some t) ht
  rw [cpt]
  by_cases e : p.map (·.1) = some t.1
  ·rw [if_pos e, e]
   obtain ⟨s, rfl, hs⟩ := Option.map_eq_some_iff.1 e
   have hs' : s.1 = t.1 := hs
   refine ⟨i1, fun u hu s' h' => ?_, fun x hx => ?_⟩
   ·obtain rfl := Option.some.inj h'
    rw [hs']
    exact i2 u hu t rfl
   ·have h1 := hx s rfl
    rw [says, if_neg (fun h => h1 (hs'.trans h))]
    refine i3 x fun s' h' => ?_
    obtain rfl := Option.some.inj h'
    exact fun h => h1 (hs'.trans h)
  ·rw [if_neg e]
   refine ⟨norm_cons.2 ⟨fun u hu => i2 u hu t rfl, ht.2 t (List.mem_cons_self ..), i1⟩, fun u hu s h' => ?_, fun x hx => ?_⟩
   ·subst h'
    have h1 := (List.pairwise_cons.1 hp.1).1 t (List.mem_cons_self ..)
    have h2 : lt s.1 t.1 := by
     rcases not_tlt_ids h1 with ⟨h2, _⟩ | h2
     ·exact absurd (by simp [h2]) e
     ·exact h2
    rcases List.mem_cons.1 hu with rfl | hu
    ·exact h2
    ·exact lt_trans h2 (i2 u hu t rfl)
   ·rw [says, says]
    by_cases h1 : t.1 = x
    ·rw [if_pos h1, if_pos h1]
     have h2 : says (cpt (some t.1) l) x = 0 := says_zero fun u hu h => absurd (h ▸ h1 ▸ i2 u hu t rfl) (lt_irrefl _)
     rw [h2]
     have h3 : says l x ≤ t.2 := by
      rcases Int.lt_or_le 0 (says l x) with h4 | h4
      ·have h5 := says_mem h4
       have h6 := (List.pairwise_cons.1 ht.1).1 _ h5
       rcases not_tlt_ids h6 with ⟨_, h7⟩ | h7
       ·exact h7
       ·exact absurd (h1 ▸ h7) (lt_irrefl _)
      ·have := ht.2 t (List.mem_cons_self ..)
       omega
     have := says_pos l x
     omega
    ·rw [if_neg h1, if_neg h1]
     refine i3 x fun s' h' => ?_
     obtain rfl := Option.some.inj h'
     exact h1
def nrm (c : List Tick) : List Tick := clk (says c) (c.map (·.1))
theorem norm_nrm (c : List Tick) : Norm (nrm c) := norm_clk _ _
theorem says_nrm (c : List Tick) (x : Id2) : says (nrm c) x = says c x := says_clk (says_pos c) (fun _ h => says_ids h) x
theorem nrm_len (c : List Tick) : (nrm c).length ≤ c.length := Nat.le_trans (clk_len _ _) (by simp)
theorem says_perm {a b : List Tick} (h : a.Perm b) (x : Id2) : says a x = says b x := by
 induction h with
 | nil => rfl
 | cons t _ ih => simp only [says, ih]
 | swap s t l =>
  simp only [says]
  split <;> split <;> omega
 | trans _ _ i1 i2 => exact i1.trans i2
theorem says_above (c : List Tick) (x : Id2) : says (c.filter fun t => !decide (t.2 ≤ 0)) x = says c x := by
 induction c with
 | nil => rfl
 | cons t c ih =>
  rw [List.filter_cons]
  by_cases h : t.2 ≤ 0
  ·rw [if_neg (by simpa using h), ih, says]
   have := says_pos c x
   split <;> omega
  ·rw [if_pos (by simpa using h), says, says, ih]
theorem said_is {c d : List Tick} (hp : d.Perm (c.filter fun t => !decide (t.2 ≤ 0))) (hs : d.Pairwise fun s t => ¬ tlt t s) : cpt none d = nrm c := by
 have h1 : ∀ t ∈ d, 0 < t.2 := fun t ht => by
  have := (List.mem_filter.1 ((hp.mem_iff).1 ht)).2
  simpa using this
 obtain ⟨n1, _, n3⟩ := cpt_spec d none ⟨hs, h1⟩
 refine norm_ext n1 (norm_nrm c) fun x => ?_
 rw [says_nrm, ← says_above c x, ← says_perm hp x]
 exact n3 x (fun _ h => by cases h)
abbrev Visit := Id2 × Int × Int
def fstI : List Tick → List Tick → Id2
 | [], [] => (0, 0)
 | s :: _, [] => s.1
 | [], t :: _ => t.1
 | s :: _, t :: _ => if lt s.1 t.1 then s.1 else t.1
def tkN (x : Id2) : List Tick → Int
 | [] => 0
 | t :: _ => if t.1 = x then t.2 else 0
def tkL (x : Id2) : List Tick → List Tick
 | [] => []
 | t :: l => if t.1 = x then l else t :: l
def mg : Nat → List Tick → List Tick → List Visit
 | 0, _, _ => []
 | n + 1, a, b => if a = [] ∧ b = [] then [] else (fstI a b, tkN (fstI a b) a, tkN (fstI a b) b) :: mg n (tkL (fstI a b) a) (tkL (fstI a b) b)
theorem tkL_len (x : Id2) (l : List Tick) : (tkL x l).length ≤ l.length := by
 cases l with
 | nil => exact Nat.le_refl _
 | cons t l =>
  rw [tkL]
  split <;> simp
theorem tk_less {a b : List Tick} (h : ¬ (a = [] ∧ b = [])) : (tkL (fstI a b) a).length + (tkL (fstI a b) b).length < a.length + b.length := by
 cases a with
 | nil =>
  cases b with
  | nil => exact absurd ⟨rfl, rfl⟩ h
  | cons t b => simp [fstI, tkL]
 | cons s a =>
  cases b with
  | nil => simp [fstI, tkL]
  | cons t b =>
   rw [fstI]
   by_cases e : lt s.1 t.1
   ·rw [if_pos e, tkL, if_pos rfl]
    have := tkL_len s.1 (t :: b)
    simp only [List.length_cons] at *
    omega
   ·rw [if_neg e, show tkL t.1 (t :: b) = b by rw [tkL, if_pos rfl]]
    have := tkL_len t.1 (s :: a)
    simp only [List.length_cons] at *
    omega
def Leads (x : Id2) (l : List Tick) : Prop := ∀ t ∈ l, x = t.1 ∨ lt x t.1
theorem norm_leads {t : Tick} {l : List Tick} (h : Norm (t :: l)) : Leads t.1 (t :: l) := fun u hu => by
 rcases List.mem_cons.1 hu with rfl | hu
 ·exact .inl rfl
 ·exact .inr ((norm_cons.1 h).1 u hu)
theorem leads_fst {a b : List Tick} (ha : Norm a) (hb : Norm b) : Leads (fstI a b) a ∧ Leads (fstI a b) b := by
 cases a with
 | nil =>
  cases b with
  | nil => exact ⟨fun t h => (by cases h), fun t h => (by cases h)⟩
  | cons t b => exact ⟨fun t h => (by cases h), norm_leads hb⟩
 | cons s a =>
  cases b with
  | nil => exact ⟨norm_leads ha, fun t h => (by cases h)⟩
  | cons t b =>
   rw [fstI]
   by_cases e : lt s.1 t.1
   ·rw [if_pos e]
    refine ⟨norm_leads ha, fun u hu => .inr ?_⟩
    rcases norm_leads hb u hu with h | h
    ·exact h ▸ e
    ·exact lt_trans e h
   ·rw [if_neg e]
    refine ⟨fun u hu => ?_, norm_leads hb⟩
    have e2 : t.1 = s.1 ∨ lt t.1 s.1 := by
     rcases lt_total s.1 t.1 with h | h | h
     ·exact absurd h e
     ·exact .inl h.symm
     ·exact .inr h
    rcases norm_leads ha u hu with h | h
    ·exact h ▸ e2
    ·rcases e2 with e2 | e2
     ·exact .inr (e2 ▸ h)
     ·exact .inr (lt_trans e2 h)
theorem says_lead {x : Id2} {l : List Tick} (h : ∀ t ∈ l, lt x t.1) : says l x = 0 := says_zero fun t ht e => absurd (e ▸ h t ht) (lt_irrefl _)
theorem tk_spec {x : Id2} {l : List Tick} (hn : Norm l) (hx : Leads x l) : tkN x l = says l x ∧ Norm (tkL x l) ∧ (∀ t ∈ tkL x l, lt x t.1) ∧ ∀ y, y ≠ x → says (tkL x l) y = says l y := by
 cases l with
 | nil => exact ⟨rfl, norm_nil, fun t h => (by cases h), fun _ _ => rfl⟩
 | cons t l =>
  obtain ⟨h1, h2, h3⟩ := norm_cons.1 hn
  rw [tkN, tkL]
  by_cases e : t.1 = x
  ·subst e
   rw [if_pos rfl, if_pos rfl]
   refine ⟨?_, h3, h1, fun y hy => ?_⟩
   ·rw [says, if_pos rfl, says_lead h1]; omega
   ·rw [says, if_neg (fun h => hy h.symm)]
  ·rw [if_neg e, if_neg e]
   have hl : ∀ u ∈ t :: l, lt x u.1 := fun u hu => by
    have ht : lt x t.1 := by
     rcases hx t (List.mem_cons_self ..) with h | h
     ·exact absurd h.symm e
     ·exact h
    rcases List.mem_cons.1 hu with rfl | hu
    ·exact ht
    ·exact lt_trans ht (h1 u hu)
   exact ⟨(says_lead hl).symm, hn, hl, fun _ _ => rfl⟩
theorem fst_pos {a b : List Tick} (ha : Norm a) (hb : Norm b) (h : ¬ (a = [] ∧ b = [])) : 0 < says a (fstI a b) ∨ 0 < says b (fstI a b) := by
 cases a with
 | nil =>
  cases b with
  | nil => exact absurd ⟨rfl, rfl⟩ h
  | cons t b =>
   have := (norm_mem hb t).1 (List.mem_cons_self ..)
   exact .inr (by rw [fstI, this.2]; exact this.1)
 | cons s a =>
  have h1 := (norm_mem ha s).1 (List.mem_cons_self ..)
  cases b with
  | nil => exact .inl (by rw [fstI, h1.2]; exact h1.1)
  | cons t b =>
   have h2 := (norm_mem hb t).1 (List.mem_cons_self ..)
   rw [fstI]
   split
   ·exact .inl (by rw [h1.2]; exact h1.1)
   ·exact .inr (by rw [h2.2]; exact h2.1)
theorem mg_spec : ∀ (n : Nat) (a b : List Tick), a.length + b.length ≤ n → Norm a → Norm b →
  (∀ e ∈ mg n a b, e.2.1 = says a e.1 ∧ e.2.2 = says b e.1 ∧ (0 < e.2.1 ∨ 0 < e.2.2)) ∧ (∀ x, 0 < says a x ∨ 0 < says b x → ∃ e ∈ mg n a b, e.1 = x) ∧ Rises ((mg n a b).map (·.1)) := by
 intro n
 induction n with
 | zero =>
  intro a b h _ _
  have h1 : a = [] := List.eq_nil_of_length_eq_zero (by omega)
  have h2 : b = [] := List.eq_nil_of_length_eq_zero (by omega)
  subst h1 h2
  exact ⟨fun e he => (by cases he), fun x h => (by simp [says] at h), rises_nil⟩
 | succ n ih =>
  intro a b h ha hb
  rw [mg]
  by_cases e : a = [] ∧ b = []
  ·rw [if_pos e]
   obtain ⟨rfl, rfl⟩ := e
   exact ⟨fun e he => (by cases he), fun x h => (by simp [says] at h), rises_nil⟩
  ·rw [if_neg e]
   have hl := leads_fst ha hb
   have hless := tk_less e
   have hp := fst_pos ha hb e
   generalize fstI a b = x at *
   obtain ⟨a1, a2, a3, a4⟩ := tk_spec ha hl.1
   obtain ⟨b1, b2, b3, b4⟩ := tk_spec hb hl.2
   obtain ⟨i1, i2, i3⟩ := ih (tkL x a) (tkL x b) (by omega) a2 b2
   have far : ∀ e ∈ mg n (tkL x a) (tkL x b), lt x e.1 := fun e he => by
    obtain ⟨j1, j2, j3⟩ := i1 e he
    rcases j3 with j3 | j3
    ·rw [j1] at j3; exact a3 _ (says_mem j3)
    ·rw [j2] at j3; exact b3 _ (says_mem j3)
   refine ⟨fun e he => ?_, fun y hy => ?_, ?_⟩
   ·rcases List.mem_cons.1 he with rfl | he
    ·exact ⟨a1, b1, by rw [a1, b1]; exact hp⟩
    ·have hne : e.1 ≠ x := fun h => lt_irrefl _ (h ▸ far e he)
     obtain ⟨j1, j2, j3⟩ := i1 e he
     exact ⟨by rw [j1, a4 _ hne], by rw [j2, b4 _ hne], j3⟩
   ·by_cases hxy : y = x
    ·subst hxy
     exact ⟨_, List.mem_cons_self .., rfl⟩
    ·rw [← a4 y hxy, ← b4 y hxy] at hy
     obtain ⟨e, he, h2⟩ := i2 y hy
     exact ⟨e, List.mem_cons_of_mem _ he, h2⟩
   ·rw [List.map_cons, rises_cons]
    exact ⟨fun y hy => by obtain ⟨e, he, rfl⟩ := List.mem_map.1 hy; exact far e he, i3⟩
def both (a b : List Tick) : List Visit := mg ((nrm a).length + (nrm b).length) (nrm a) (nrm b)
theorem both_spec (a b : List Tick) : (∀ e ∈ both a b, e.2.1 = says a e.1 ∧ e.2.2 = says b e.1 ∧ (0 < e.2.1 ∨ 0 < e.2.2)) ∧ (∀ x, 0 < says a x ∨ 0 < says b x → ∃ e ∈ both a b, e.1 = x) ∧ Rises ((both a b).map (·.1)) := by
 have h := mg_spec _ (nrm a) (nrm b) (Nat.le_refl _) (norm_nrm a) (norm_nrm b)
 simp only [says_nrm] at h
 exact h
def tickOf (e : Visit) : Tick := (e.1, max e.2.1 e.2.2)
theorem both_join (a b : List Tick) : (both a b).map tickOf = joinC a b := by
 obtain ⟨h1, h2, h3⟩ := both_spec a b
 have hn : Norm ((both a b).map tickOf) := by
  refine ⟨by rw [List.map_map]; exact h3, fun t ht => ?_⟩
  obtain ⟨e, he, rfl⟩ := List.mem_map.1 ht
  have := (h1 e he).2.2
  simp only [tickOf]
  omega
 refine norm_ext hn (norm_join a b) fun x => ?_
 rw [says_join]
 by_cases hx : 0 < says a x ∨ 0 < says b x
 ·obtain ⟨e, he, rfl⟩ := h2 x hx
  have := norm_says hn (List.mem_map_of_mem he)
  rw [show (tickOf e).1 = e.1 from rfl] at this
  rw [this]
  have h4 := h1 e he
  simp only [tickOf]
  rw [h4.1, h4.2.1]
 ·have e1 := says_pos a x
  have e2 := says_pos b x
  rw [says_zero]
  ·omega
  ·intro t ht e
   exfalso
   obtain ⟨v, hv, rfl⟩ := List.mem_map.1 ht
   obtain ⟨j1, j2, j3⟩ := h1 v hv
   have e' : v.1 = x := e
   rw [e'] at j1 j2
   omega
theorem both_less (a b : List Tick) : (both a b).any (fun e => decide (e.2.1 < e.2.2)) = more b a := by
 obtain ⟨h1, h2, _⟩ := both_spec a b
 rw [Bool.eq_iff_iff, List.any_eq_true, more_iff]
 constructor
 ·rintro ⟨e, he, h⟩
  have := h1 e he
  exact ⟨e.1, by rw [← this.1, ← this.2.1]; simpa using h⟩
 ·rintro ⟨x, hx⟩
  have := says_pos a x
  obtain ⟨e, he, rfl⟩ := h2 x (.inr (by omega))
  have h4 := h1 e he
  exact ⟨e, he, by rw [h4.1, h4.2.1]; simpa using hx⟩
theorem both_more (a b : List Tick) : (both a b).any (fun e => decide (e.2.2 < e.2.1)) = more a b := by
 obtain ⟨h1, h2, _⟩ := both_spec a b
 rw [Bool.eq_iff_iff, List.any_eq_true, more_iff]
 constructor
 ·rintro ⟨e, he, h⟩
  have := h1 e he
  exact ⟨e.1, by rw [← this.1, ← this.2.1]; simpa using h⟩
 ·rintro ⟨x, hx⟩
  have := says_pos b x
  obtain ⟨e, he, rfl⟩ := h2 x (.inl (by omega))
  have h4 := h1 e he
  exact ⟨e, he, by rw [h4.1, h4.2.1]; simpa using hx⟩
theorem up_is (c : List Tick) (y : Id2) : joinC c [(y, says c y + 1)] = up c y := by
 refine norm_ext (norm_join _ _) (norm_up c y) fun x => ?_
 rw [says_join, says_up]
 have h1 := says_pos c x
 have h2 := says_pos c y
 simp only [says]
 by_cases e : x = y
 ·subst e
  rw [if_pos rfl, if_pos rfl]
  omega
 ·rw [if_neg (fun h => e h.symm), if_neg e]
  omega
end Go.Proofs.YtjlnnmjhbccdoaaGreat
