/-
  A walk over Join: what is answered lies in new memory, and is what both lists say together. No statement is proved in this text; it holds for every input that its premises let by.
-/
import Derived.Test.YtciolhpkhblnbaaOwn
namespace Go.Proofs.Ytciolhpkhblnbaa
open Go Go.RowKit Ros
theorem lots_new (w : World) (t : Nat) (a b : Value) : Lots (w.alloc (.cells #[a, b] t)) w.heap.size t [a, b] := heap_alloc_new w _
theorem two_rcs {α : Type} {enc : α → List Value} {sz : Nat} {w : World} {v u : Value} {l m : List α} (h : Rcs enc sz w v l) (h2 : Rcs enc sz w u m) (k : Nat) (hk : k < [v, u].length) (hk' : k < [l, m].length) : Rcs enc sz w ([v, u][k]) ([l, m][k]) := by
  match k, hk with
  | 0, _ => exact h
  | 1, _ => exact h2
theorem concatM_two (g : Nat) (v u : Value) (l m : List Mm) (w : World) {tt : Nat} (h : Lots w g tt [v, u]) (h1 : Ms w v l) (h2 : Ms w u m) (hl : l.length + m.length ≤ 50000) :
    Calls Try.prog 41 #[.slice (some ⟨g, 0, none⟩) 2 2] w fun e w' => ∃ V, e = .returned V ∧ OwnsR encM 4 32 w' w.heap.size V (l ++ m) ∧ Below w.heap.size w w' :=
  (concatM_any g [v, u] [l, m] w h rfl (two_rcs h1 h2) (by simp) (by simpa using hl)).mono fun e w' ⟨V, h1, h2, h3⟩ => ⟨V, h1, by simpa using h2, h3⟩
theorem concatI_two (g : Nat) (v u : Value) (l m : List Id2) (w : World) {tt : Nat} (h : Lots w g tt [v, u]) (h1 : Ids w v l) (h2 : Ids w u m) (hl : l.length + m.length ≤ 50000) :
    Calls Try.prog 45 #[.slice (some ⟨g, 0, none⟩) 2 2] w fun e w' => ∃ V, e = .returned V ∧ OwnsR encI 2 30 w' w.heap.size V (l ++ m) ∧ Below w.heap.size w w' :=
  (concatI_any g [v, u] [l, m] w h rfl (two_rcs (rcs_ids h1) (rcs_ids h2)) (by simp) (by simpa using hl)).mono fun e w' ⟨V, h1, h2, h3⟩ => ⟨V, h1, by simpa using h2, h3⟩
theorem badM_filter (l : List Mm) : (l.filter fun t => !badM t) = l.filter cnt := by
  congr 1
  funext t
  simp [badM]
theorem badI_filter (l : List Id2) : (l.filter fun t => !badI t) = l.filter vidP := by
  congr 1
  funext t
  simp [badI, vidP]
theorem len_united (ms : List Mm) : (united ms).length ≤ 13 := by
  unfold united
  have := List.length_filter_le (fun x => !noM x) ((List.range 13).map (byAddr ms))
  simpa using this
theorem lies_lt {b0 : Nat} {w : World} {V : Value} {l : List Mm} (h : Lies b0 w V l) : ∀ (g a c : Nat), V = .slice (some ⟨g, 0, none⟩) a c → g < w.heap.size := fun g a c hv => by
  obtain ⟨d, g0, c0, e, _, _, hr, _⟩ := h
  rw [hv] at e
  injection e with e1 e2 e3
  injection e1 with e1
  injection e1 with e1
  rw [e1]
  exact hr.1
theorem owns_mono {w : World} {b0 b1 : Nat} {v : Value} {l : List Id2} (h : Owns w b0 v l) (hb : b1 ≤ b0) : Owns w b1 v l := by
  obtain ⟨h1, h2⟩ := h
  refine ⟨h1, ?_⟩
  rcases h2 with h2 | ⟨g, cap, cur, e, hg, rest⟩
  · exact .inl h2
  · exact .inr ⟨g, cap, cur, e, Nat.le_trans hb hg, rest⟩
set_option maxHeartbeats 4000000 in
theorem join_apart (vm vf vn vg : Value) (m n : List Mm) (f g : List Id2) (w : World) (h1 : Ms w vm m) (h2 : Ids w vf f) (h3 : Ms w vn n) (h4 : Ids w vg g) (hl : m.length + n.length ≤ 40000) (hg : f.length + g.length ≤ 40000) :
    Calls Try.prog 27 #[vm, vf, vn, vg] w fun e w' => ∃ V U hi, e = .returned (.tuple #[V, U]) ∧ Lies w.heap.size w' V (joinP m f n g).1 ∧ (∀ (g a c : Nat), V = .slice (some ⟨g, 0, none⟩) a c → g < hi) ∧ w.heap.size ≤ hi ∧ Owns w' hi U (joinP m f n g).2 ∧ Below w.heap.size w w' := by
  have H1 := Lib.hid (h1.below (below_one w (.cells #[vm, vn] 24)))
  have H3 := Lib.hid (h3.below (below_one w (.cells #[vm, vn] 24)))
  have HL := Lib.hid (lots_new w 24 vm vn)
  have HB := Lib.hid (below_one w (.cells #[vm, vn] 24))
  have H2 := Lib.hid h2
  have H4 := Lib.hid h4
  have HS : Hid (w.heap.size ≤ (w.alloc (.cells #[vm, vn] 24)).heap.size) := Lib.hid (by simp)
  have HJ : Hid (joinP m f n g = (united (((m ++ n).filter cnt).filter fun x => !goneM (floors ((m ++ n).filter cnt) ((f ++ g).filter vidP)) x), listF (floors ((m ++ n).filter cnt) ((f ++ g).filter vidP)))) := Lib.hid rfl
  obtain ⟨A1, k1, rfl, hz⟩ := h1
  clear hz
  obtain ⟨A2, k2, rfl, hz⟩ := h2
  clear hz
  obtain ⟨A3, k3, rfl, hz⟩ := h3
  clear hz
  obtain ⟨A4, k4, rfl, hz⟩ := h4
  clear hz
  go_enter Try.func27, Try.ntmps27
  go_wp2_with fail
  (with_reducible refine (concatM_two w.heap.size _ _ m n _ HL.out H1.out H3.out (by omega)).mono ?_)
  rintro e w1 ⟨V0, rfl, hO, hb⟩
  have HO := Lib.hid ((ownM_of hO).mono HS.out)
  have B1 := Lib.hid (below_after HB.out hb (Nat.le_refl _))
  clear hO hb H1 H3 HL
  go_wp2_with fail
  (with_reducible refine (deleteM_own badM_asks w.heap.size V0 (fun _ _ _ _ _ _ _ _ => trivial) (m ++ n) _ HO.out trivial (by rw [List.length_append]; omega) B1.out.size (fun _ _ => trivial)).mono ?_)
  rintro e w2 ⟨V1, rfl, hO, -, hb⟩
  rw [badM_filter] at hO
  have O2 := Lib.hid hO
  have B2 := Lib.hid (B1.out.trans hb)
  clear hO hb HO
  have X2 := Lib.hid ((H2.out.below B2.out).below (below_one w2 (.cells #[.slice A2 f.length k2, .slice A4 g.length k4] 25)))
  have X4 := Lib.hid ((H4.out.below B2.out).below (below_one w2 (.cells #[.slice A2 f.length k2, .slice A4 g.length k4] 25)))
  have XL := Lib.hid (lots_new w2 25 (.slice A2 f.length k2) (.slice A4 g.length k4))
  have XB := Lib.hid (B2.out.trans ((below_one w2 (.cells #[.slice A2 f.length k2, .slice A4 g.length k4] 25)).mono B2.out.size))
  have XO := Lib.hid (O2.out.below (below_one w2 (.cells #[.slice A2 f.length k2, .slice A4 g.length k4] 25)))
  clear O2
  go_wp2_with fail
  (with_reducible refine (concatI_two w2.heap.size _ _ f g _ XL.out X2.out X4.out (by omega)).mono ?_)
  rintro e w3 ⟨V2, rfl, hO, hb⟩
  have O3 := Lib.hid ((ownI_of hO))
  have B3 := Lib.hid (below_after XB.out hb (by simp))
  have C3 := Lib.hid hb
  clear hO hb X2 X4 XL
  go_wp2_with fail
  (with_reducible refine (deleteI_own badI_asks _ V2 (fun _ _ _ _ _ _ _ _ => trivial) (f ++ g) _ O3.out trivial (by rw [List.length_append]; omega) C3.out.size).mono ?_)
  rintro e w4 ⟨V3, rfl, hO, -, hb⟩
  rw [badI_filter] at hO
  have O4 := Lib.hid hO
  have M4 := Lib.hid (XO.out.below (C3.out.trans hb))
  have B4 := Lib.hid (XB.out.trans ((C3.out.trans hb).mono XB.out.size))
  clear hO hb XO C3 O3 B3 B2 XB
  have LM := Lib.hid (Nat.le_trans (List.length_filter_le cnt (m ++ n)) (by rw [List.length_append]; omega : (m ++ n).length ≤ 100000))
  have LI := Lib.hid (Nat.le_trans (List.length_filter_le vidP (f ++ g)) (by rw [List.length_append]; omega : (f ++ g).length ≤ 100000))
  have CM := Lib.hid (allC_filter (m ++ n))
  have CI := Lib.hid (allV_filter (f ++ g))
  generalize (m ++ n).filter cnt = ms at *
  generalize (f ++ g).filter vidP = gs at *
  go_wp2_with fail
  (with_reducible refine (raised_any V1 V3 ms gs _ M4.out.reads O4.out.reads LM.out LI.out CM.out CI.out).mono ?_)
  rintro e w5 ⟨F, rfl, hF, hL, hb⟩
  have L5 := Lib.hid (lives_below hL (below_one w5 (.cells #[.pointer (some ⟨F, 0, none⟩)] 65)))
  have P5 := Lib.hid (one_new w5 65 (.pointer (some ⟨F, 0, none⟩)))
  have M5 := Lib.hid ((M4.out.below hb).below (below_one w5 (.cells #[.pointer (some ⟨F, 0, none⟩)] 65)))
  have B5 := Lib.hid ((below_after B4.out hb (Nat.le_refl _)).trans ((below_one w5 (.cells #[.pointer (some ⟨F, 0, none⟩)] 65)).mono (below_after B4.out hb (Nat.le_refl _)).size))
  have HV4 : Hid (∀ (g a c : Nat), V1 = .slice (some ⟨g, 0, none⟩) a c → g ≠ F ∧ g ≠ w5.heap.size) := Lib.hid fun g' a c hv => by
    have hs := hb.size
    rcases M4.out with ⟨e, _⟩ | ⟨d, g0, c0, e, _, _, hr, _⟩
    · rw [hv] at e
      cases e
    · rw [hv] at e
      injection e with e1 e2 e3
      injection e1 with e1
      injection e1 with e1
      have := hr.1
      omega
  have HDc : Hid (∀ x ∈ ms, 0 ≤ x.1.1 ∧ x.1.1 < 13) := Lib.hid fun x hx => by
    have hcx : cnt x = true := CM.out x hx
    obtain ⟨⟨x1, x2, _⟩, _⟩ := cnt_iff.1 hcx
    exact ⟨by omega, by omega⟩
  have HX := Lib.hid (gone_asks w5.heap.size F (floors ms gs))
  clear hF hL hb O4 B4 M4
  generalize floors ms gs = L at *
  go_wp2_with fail
  (with_reducible refine (deleteM_own HX.out w.heap.size V1 (fun g' a c W W' hv hS hb => ⟨one_grown hS.1 hb (fun e => absurd e.symm (HV4.out g' a c hv).2), lives_grown hS.2 hb (fun e => absurd e.symm (HV4.out g' a c hv).1)⟩) ms _ M5.out ⟨P5.out, L5.out⟩ LM.out B5.out.size HDc.out).mono ?_)
  rintro e w6 ⟨V4, rfl, hO, ⟨hP, hL⟩, hb⟩
  have O6 := Lib.hid hO
  have P6 := Lib.hid hP
  have L6 := Lib.hid hL
  have B6 := Lib.hid (B5.out.trans hb)
  have C6 : Hid (AllC (ms.filter fun x => !goneM L x)) := Lib.hid fun x hx => (show ∀ x ∈ ms, cnt x = true from CM.out) x (List.mem_filter.1 hx).1
  have N6 := Lib.hid (Nat.le_trans (List.length_filter_le (fun x => !goneM L x) ms) LM.out)
  clear hO hP hL hb P5 L5 M5 B5 HX HV4 CM LM
  generalize (ms.filter fun x => !goneM L x) = fs at *
  go_wp2_with fail
  have c0 := one_cell P6.out
  have HS6 := Lib.hid B6.out.size
  have PS := Lib.hid fun w' (hb : Below w6.heap.size w6 w') => And.intro (one_cell (one_below P6.out hb)) (Lib.hid hb)
  go_region_held3 (fun w' => w'.cell? ⟨w5.heap.size, 0, none⟩ = some (.pointer (some ⟨F, 0, none⟩)) ∧ Hid (Below w6.heap.size w6 w'))
    (first | exact PS.out _ (Below.refl _ _).drew | exact PS.out _ HK.out)
    (first
      | (go_at_call 50; (with_reducible refine (united_any V4 fs _ (O6.out.reads.below (Below.refl _ _).drew) N6.out C6.out).mono ?_); rintro e w' ⟨V5, rfl, hV, hb⟩; have HK := Lib.hid ((Below.refl w6.heap.size w6).drew.trans hb); have U5 := Lib.hid hV; clear hb hV)
      | (go_at_call 51; (with_reducible refine (list_any F L _ (lives_below L6.out HK.out)).mono ?_); rintro e w' ⟨V6, rfl, hV, hb⟩; have U6 := Lib.hid (U5.out.below hb); have Z6 := Lib.hid (lies_lt U5.out); have Q6 := Lib.hid hV; have HZ := Lib.hid HK.out.size; have HK := Lib.hid (below_after HK.out hb (Nat.le_refl _)); clear hb hV))
  go_wp2_with fail
  refine bodyPost_ret (v := .tuple #[V5, V6]) (by simp [results, Try.results27, go_sem]) rfl ?_
  rw [HJ.out]
  exact ⟨_, _, _, rfl, U6.out.mono HS6.out, Z6.out, Nat.le_trans HS6.out HZ.out, Q6.out, B6.out.trans (HK.out.mono HS6.out)⟩
theorem join_any (vm vf vn vg : Value) (m n : List Mm) (f g : List Id2) (w : World) (h1 : Ms w vm m) (h2 : Ids w vf f) (h3 : Ms w vn n) (h4 : Ids w vg g) (hl : m.length + n.length ≤ 40000) (hg : f.length + g.length ≤ 40000) :
    Calls Try.prog 27 #[vm, vf, vn, vg] w fun e w' => ∃ V U, e = .returned (.tuple #[V, U]) ∧ Lies w.heap.size w' V (joinP m f n g).1 ∧ Owns w' w.heap.size U (joinP m f n g).2 ∧ Below w.heap.size w w' :=
  (join_apart vm vf vn vg m n f g w h1 h2 h3 h4 hl hg).mono fun _ _ ⟨V, U, _, h1, h2, _, h4, h5, h6⟩ => ⟨V, U, h1, h2, owns_mono h5 h4, h6⟩
end Go.Proofs.Ytciolhpkhblnbaa
