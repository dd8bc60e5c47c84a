/-
  Carried over and put together: contracts of this program's functions, and plain facts. No statement is proved in this text.
-/
import Derived.Test.YtjlnnmjhbccdoaaGreatBk00
import Derived.Test.YtjlnnmjhbccdoaaGreatBk04
import Derived.Test.YtjlnnmjhbccdoaaGreatBk08
set_option maxRecDepth 20000
namespace Go.Proofs.YtjlnnmjhbccdoaaGreat
open Go Go.RowKit Ros
/-- Nil, or a list in new memory, free to be written. -/
def OwnM (b0 : Nat) (w : World) (V : Value) (l : List Mm) : Prop := (V = .slice none 0 0 ∧ l = []) ∨ ∃ (d : Array Mm) (g c : Nat), V = .slice (some ⟨g, 0, none⟩) d.size c ∧ d.size ≤ c ∧ b0 ≤ g ∧ RowAtR encM 4 w g d ∧ d.toList = l
def OwnI (b0 : Nat) (w : World) (V : Value) (l : List Id2) : Prop := (V = .slice none 0 0 ∧ l = []) ∨ ∃ (d : Array Id2) (g c : Nat), V = .slice (some ⟨g, 0, none⟩) d.size c ∧ d.size ≤ c ∧ b0 ≤ g ∧ RowAtR encI 2 w g d ∧ d.toList = l
theorem OwnM.reads {b0 : Nat} {w : World} {V : Value} {l : List Mm} (h : OwnM b0 w V l) : Ms w V l := by
  rcases h with ⟨rfl, rfl⟩ | ⟨d, g, c, rfl, hc, _, hr, rfl⟩
  · exact Rcs.nil w
  · exact rowAtR_rcs hr hc
theorem OwnI.reads {b0 : Nat} {w : World} {V : Value} {l : List Id2} (h : OwnI b0 w V l) : Ids w V l := by
  rcases h with ⟨rfl, rfl⟩ | ⟨d, g, c, rfl, hc, _, hr, rfl⟩
  · exact Ids.nil w
  · exact ids_rcs (rowAtR_rcs hr hc)
theorem ownM_of {b0 : Nat} {w : World} {V : Value} {l : List Mm} (h : OwnsR encM 4 31 w b0 V l) : OwnM b0 w V l := by
  rcases ownsR_split h with ⟨rfl, hn⟩ | ⟨g, cap, rfl, hg, hc⟩
  · exact .inl ⟨rfl, List.eq_nil_of_length_eq_zero (by omega)⟩
  · have hlow := (World.ownsRow.lt h g rfl).1
    refine .inr ⟨l.toArray, g, cap, by simp, by simpa using hc, hlow, rowAtR_owns (e := 31) (base := b0) (c := cap) encM_len ?_, by simp⟩
    simpa using h
theorem ownI_of {b0 : Nat} {w : World} {V : Value} {l : List Id2} (h : OwnsR encI 2 29 w b0 V l) : OwnI b0 w V l := by
  rcases ownsR_split h with ⟨rfl, hn⟩ | ⟨g, cap, rfl, hg, hc⟩
  · exact .inl ⟨rfl, List.eq_nil_of_length_eq_zero (by omega)⟩
  · have hlow := (World.ownsRow.lt h g rfl).1
    refine .inr ⟨l.toArray, g, cap, by simp, by simpa using hc, hlow, rowAtR_owns (e := 29) (base := b0) (c := cap) encI_len ?_, by simp⟩
    simpa using h
theorem OwnM.below {b0 : Nat} {w w' : World} {V : Value} {l : List Mm} (h : OwnM b0 w V l) (hb : Below w.heap.size w w') : OwnM b0 w' V l := by
  rcases h with h | ⟨d, g, c, hv, hc, hg, hr, hl⟩
  · exact .inl h
  · exact .inr ⟨d, g, c, hv, hc, hg, rowAtR_kept hr hb, hl⟩
theorem OwnI.below {b0 : Nat} {w w' : World} {V : Value} {l : List Id2} (h : OwnI b0 w V l) (hb : Below w.heap.size w w') : OwnI b0 w' V l := by
  rcases h with h | ⟨d, g, c, hv, hc, hg, hr, hl⟩
  · exact .inl h
  · exact .inr ⟨d, g, c, hv, hc, hg, rowAtR_kept hr hb, hl⟩
theorem OwnM.mono {b0 b1 : Nat} {w : World} {V : Value} {l : List Mm} (h : OwnM b0 w V l) (hb : b1 ≤ b0) : OwnM b1 w V l := by
  rcases h with h | ⟨d, g, c, hv, hc, hg, hr, hl⟩
  · exact .inl h
  · exact .inr ⟨d, g, c, hv, hc, by omega, hr, hl⟩
set_option maxHeartbeats 1000000 in
/-- slices.DeleteFunc of nil. -/
theorem deleteI_none {K : Nat} {caps : Array Value} {p : Id2 → Bool} {S : World → Prop} (hP : AsksI K caps p S) (w : World) (hS : S w) :
    Calls Tryz.prog 97 #[.slice none 0 0, .func (.func K) #[] caps] w fun e w' => e = .returned (.slice none 0 0) ∧ Below w.heap.size w w' := by
  have HP := Lib.hid hP
  have HS0 := Lib.hid hS
  have hK := hP.enters
  clear hP hS
  go_enter Tryz.func97, Tryz.ntmps97
  go_wp2_with fail
  (with_reducible refine (indexI_anyROS HP.out _ [] _ (Ids.nil _) HS0.out (by simp)).mono ?_)
  rintro e w1 ⟨⟨r, rfl, hf⟩, hb⟩
  have HB := Lib.hid hb
  clear hb
  rcases hf with ⟨rfl, _⟩ | ⟨k0, hk0, _⟩
  · go_wp2_with fail
    go_ret
    exact ⟨rfl, HB.out⟩
  · simp at hk0
/-- slices.DeleteFunc of a list of the call's own. -/
theorem deleteI_own {K : Nat} {caps : Array Value} {p : Id2 → Bool} {S : World → Prop} (hP : AsksI K caps p S) (b0 : Nat) (V : Value) (hSg : ∀ (g a c : Nat) W W', V = .slice (some ⟨g, 0, none⟩) a c → S W → W.grownBy W' (some g) → S W') (l : List Id2) (w : World) (h : OwnI b0 w V l) (hS : S w) (hl : l.length ≤ 100000) (hb0 : b0 ≤ w.heap.size) :
    Calls Tryz.prog 97 #[V, .func (.func K) #[] caps] w fun e w' => ∃ V', e = .returned V' ∧ OwnI b0 w' V' (l.filter fun t => !p t) ∧ S w' ∧ Below b0 w w' := by
  rcases h with ⟨rfl, rfl⟩ | ⟨d, g, c, rfl, hc, hg, hr, rfl⟩
  · refine (deleteI_none hP w hS).mono ?_
    rintro e w' ⟨rfl, hb⟩
    exact ⟨_, rfl, .inl ⟨rfl, rfl⟩, hP.kept _ _ hS hb, hb.mono hb0⟩
  · refine (deleteI_anyROS hP g c (fun W W' => hSg g _ _ W W' rfl) d w hr hS hc (by simpa using hl)).mono ?_
    rintro e w' ⟨d', rfl, hd, hsz, hr', hb⟩
    exact ⟨_, rfl, .inr ⟨d', g, c, rfl, by omega, hg, hr', hd⟩, hSg g _ _ _ _ rfl hS hb, below_grown hb hg hb0⟩
set_option maxHeartbeats 1000000 in
/-- slices.DeleteFunc of nil. -/
theorem deleteM_none {K : Nat} {caps : Array Value} {p : Mm → Bool} {S : World → Prop} {D : Mm → Prop} (hP : AsksM K caps p S D) (w : World) (hS : S w) :
    Calls Tryz.prog 105 #[.slice none 0 0, .func (.func K) #[] caps] w fun e w' => e = .returned (.slice none 0 0) ∧ Below w.heap.size w w' := by
  have HP := Lib.hid hP
  have HS0 := Lib.hid hS
  have hK := hP.enters
  clear hP hS
  go_enter Tryz.func105, Tryz.ntmps105
  go_wp2_with fail
  (with_reducible refine (indexM_any HP.out _ [] _ (Rcs.nil _) HS0.out (by simp) (fun _ h => absurd h (by simp))).mono ?_)
  rintro e w1 ⟨⟨r, rfl, hf⟩, hb⟩
  have HB := Lib.hid hb
  clear hb
  rcases hf with ⟨rfl, _⟩ | ⟨k0, hk0, _⟩
  · go_wp2_with fail
    go_ret
    exact ⟨rfl, HB.out⟩
  · simp at hk0
/-- slices.DeleteFunc of a list of the call's own. -/
theorem deleteM_own {K : Nat} {caps : Array Value} {p : Mm → Bool} {S : World → Prop} {D : Mm → Prop} (hP : AsksM K caps p S D) (b0 : Nat) (V : Value) (hSg : ∀ (g a c : Nat) W W', V = .slice (some ⟨g, 0, none⟩) a c → S W → W.grownBy W' (some g) → S W') (l : List Mm) (w : World) (h : OwnM b0 w V l) (hS : S w) (hl : l.length ≤ 100000) (hb0 : b0 ≤ w.heap.size) (hD : ∀ x ∈ l, D x) :
    Calls Tryz.prog 105 #[V, .func (.func K) #[] caps] w fun e w' => ∃ V', e = .returned V' ∧ OwnM b0 w' V' (l.filter fun t => !p t) ∧ S w' ∧ Below b0 w w' := by
  rcases h with ⟨rfl, rfl⟩ | ⟨d, g, c, rfl, hc, hg, hr, rfl⟩
  · refine (deleteM_none hP w hS).mono ?_
    rintro e w' ⟨rfl, hb⟩
    exact ⟨_, rfl, .inl ⟨rfl, rfl⟩, hP.kept _ _ hS hb, hb.mono hb0⟩
  · refine (deleteM_any hP g c (fun W W' => hSg g _ _ W W' rfl) d w hr hS hc (by simpa using hl) hD).mono ?_
    rintro e w' ⟨d', rfl, hd, hsz, hr', hb⟩
    exact ⟨_, rfl, .inr ⟨d', g, c, rfl, by omega, hg, hr', hd⟩, hSg g _ _ _ _ rfl hS hb, below_grown hb hg hb0⟩
end Go.Proofs.YtjlnnmjhbccdoaaGreat
namespace Go.Proofs.YtjlnnmjhbccdoaaGreat
open Go Go.RowKit Ros
theorem lots_new (w : World) (t : Nat) (a b : Value) : Lots (w.alloc (.cells #[a, b] t)) w.heap.size t [a, b] := heap_alloc_new w _
theorem two_rcs {α : Type} {enc : α → List Value} {sz : Nat} {w : World} {v u : Value} {l m : List α} (h : Rcs enc sz w v l) (h2 : Rcs enc sz w u m) (k : Nat) (hk : k < [v, u].length) (hk' : k < [l, m].length) : Rcs enc sz w ([v, u][k]) ([l, m][k]) := by
  match k, hk with
  | 0, _ => exact h
  | 1, _ => exact h2
theorem concatM_two (g : Nat) (v u : Value) (l m : List Mm) (w : World) {tt : Nat} (h : Lots w g tt [v, u]) (h1 : Ms w v l) (h2 : Ms w u m) (hl : l.length + m.length ≤ 50000) :
    Calls Tryz.prog 106 #[.slice (some ⟨g, 0, none⟩) 2 2] w fun e w' => ∃ V, e = .returned V ∧ OwnsR encM 4 31 w' w.heap.size V (l ++ m) ∧ Below w.heap.size w w' :=
  (concatM_any g [v, u] [l, m] w h rfl (two_rcs h1 h2) (by simp) (by simpa using hl)).mono fun e w' ⟨V, h1, h2, h3⟩ => ⟨V, h1, by simpa using h2, h3⟩
theorem concatI_two (g : Nat) (v u : Value) (l m : List Id2) (w : World) {tt : Nat} (h : Lots w g tt [v, u]) (h1 : Ids w v l) (h2 : Ids w u m) (hl : l.length + m.length ≤ 50000) :
    Calls Tryz.prog 109 #[.slice (some ⟨g, 0, none⟩) 2 2] w fun e w' => ∃ V, e = .returned V ∧ OwnsR encI 2 29 w' w.heap.size V (l ++ m) ∧ Below w.heap.size w w' :=
  (concatI_any g [v, u] [l, m] w h rfl (two_rcs (rcs_ids h1) (rcs_ids h2)) (by simp) (by simpa using hl)).mono fun e w' ⟨V, h1, h2, h3⟩ => ⟨V, h1, by simpa using h2, h3⟩
theorem badM_filter (l : List Mm) : (l.filter fun t => !badM t) = l.filter cnt := by
  congr 1
  funext t
  simp [badM]
theorem badI_filter (l : List Id2) : (l.filter fun t => !badIROS t) = l.filter vidP := by
  congr 1
  funext t
  simp [badIROS, vidP]
theorem lies_lt {b0 : Nat} {w : World} {V : Value} {l : List Mm} (h : Lies b0 w V l) : ∀ (g a c : Nat), V = .slice (some ⟨g, 0, none⟩) a c → g < w.heap.size := fun g a c hv => by
  obtain ⟨d, g0, c0, e, _, _, hr, _⟩ := h
  rw [hv] at e
  injection e with e1 e2 e3
  injection e1 with e1
  injection e1 with e1
  rw [e1]
  exact hr.1
theorem owns_mono {w : World} {b0 b1 : Nat} {v : Value} {l : List Id2} (h : Owns w b0 v l) (hb : b1 ≤ b0) : Owns w b1 v l := by
  obtain ⟨h1, h2⟩ := h
  refine ⟨h1, ?_⟩
  rcases h2 with h2 | ⟨g, cap, cur, e, hg, rest⟩
  · exact .inl h2
  · exact .inr ⟨g, cap, cur, e, Nat.le_trans hb hg, rest⟩
set_option maxHeartbeats 4000000 in
theorem join_apart (vm vf vn vg : Value) (m n : List Mm) (f g : List Id2) (w : World) (h1 : Ms w vm m) (h2 : Ids w vf f) (h3 : Ms w vn n) (h4 : Ids w vg g) (hl : m.length + n.length ≤ 40000) (hg : f.length + g.length ≤ 40000) :
    Calls Tryz.prog 49 #[vm, vf, vn, vg] w fun e w' => ∃ V U hi, e = .returned (.tuple #[V, U]) ∧ Lies w.heap.size w' V (joinP m f n g).1 ∧ (∀ (g a c : Nat), V = .slice (some ⟨g, 0, none⟩) a c → g < hi) ∧ w.heap.size ≤ hi ∧ Owns w' hi U (joinP m f n g).2 ∧ Below w.heap.size w w' := by
  have H1 := Lib.hid (h1.below (below_one w (.cells #[vm, vn] 22)))
  have H3 := Lib.hid (h3.below (below_one w (.cells #[vm, vn] 22)))
  have HL := Lib.hid (lots_new w 22 vm vn)
  have HB := Lib.hid (below_one w (.cells #[vm, vn] 22))
  have H2 := Lib.hid h2
  have H4 := Lib.hid h4
  have HS : Hid (w.heap.size ≤ (w.alloc (.cells #[vm, vn] 22)).heap.size) := Lib.hid (by simp)
  have HJ : Hid (joinP m f n g = (united (((m ++ n).filter cnt).filter fun x => !goneM (floors ((m ++ n).filter cnt) ((f ++ g).filter vidP)) x), listF (floors ((m ++ n).filter cnt) ((f ++ g).filter vidP)))) := Lib.hid rfl
  obtain ⟨A1, k1, rfl, hz⟩ := h1
  clear hz
  obtain ⟨A2, k2, rfl, hz⟩ := h2
  clear hz
  obtain ⟨A3, k3, rfl, hz⟩ := h3
  clear hz
  obtain ⟨A4, k4, rfl, hz⟩ := h4
  clear hz
  go_enter Tryz.func49, Tryz.ntmps49
  go_wp2_with fail
  (with_reducible refine (concatM_two w.heap.size _ _ m n _ HL.out H1.out H3.out (by omega)).mono ?_)
  rintro e w1 ⟨V0, rfl, hO, hb⟩
  have HO := Lib.hid ((ownM_of hO).mono HS.out)
  have B1 := Lib.hid (below_after HB.out hb (Nat.le_refl _))
  clear hO hb H1 H3 HL
  go_wp2_with fail
  (with_reducible refine (deleteM_own badM_asks w.heap.size V0 (fun _ _ _ _ _ _ _ _ => trivial) (m ++ n) _ HO.out trivial (by rw [List.length_append]; omega) B1.out.size (fun _ _ => trivial)).mono ?_)
  rintro e w2 ⟨V1, rfl, hO, -, hb⟩
  rw [badM_filter] at hO
  have O2 := Lib.hid hO
  have B2 := Lib.hid (B1.out.trans hb)
  clear hO hb HO
  have X2 := Lib.hid ((H2.out.below B2.out).below (below_one w2 (.cells #[.slice A2 f.length k2, .slice A4 g.length k4] 23)))
  have X4 := Lib.hid ((H4.out.below B2.out).below (below_one w2 (.cells #[.slice A2 f.length k2, .slice A4 g.length k4] 23)))
  have XL := Lib.hid (lots_new w2 23 (.slice A2 f.length k2) (.slice A4 g.length k4))
  have XB := Lib.hid (B2.out.trans ((below_one w2 (.cells #[.slice A2 f.length k2, .slice A4 g.length k4] 23)).mono B2.out.size))
  have XO := Lib.hid (O2.out.below (below_one w2 (.cells #[.slice A2 f.length k2, .slice A4 g.length k4] 23)))
  clear O2
  go_wp2_with fail
  (with_reducible refine (concatI_two w2.heap.size _ _ f g _ XL.out X2.out X4.out (by omega)).mono ?_)
  rintro e w3 ⟨V2, rfl, hO, hb⟩
  have O3 := Lib.hid ((ownI_of hO))
  have B3 := Lib.hid (below_after XB.out hb (by simp))
  have C3 := Lib.hid hb
  clear hO hb X2 X4 XL
  go_wp2_with fail
  (with_reducible refine (deleteI_own badI_asksROS _ V2 (fun _ _ _ _ _ _ _ _ => trivial) (f ++ g) _ O3.out trivial (by rw [List.length_append]; omega) C3.out.size).mono ?_)
  rintro e w4 ⟨V3, rfl, hO, -, hb⟩
  rw [badI_filter] at hO
  have O4 := Lib.hid hO
  have M4 := Lib.hid (XO.out.below (C3.out.trans hb))
  have B4 := Lib.hid (XB.out.trans ((C3.out.trans hb).mono XB.out.size))
  clear hO hb XO C3 O3 B3 B2 XB
  have LM := Lib.hid (Nat.le_trans (List.length_filter_le cnt (m ++ n)) (by rw [List.length_append]; omega : (m ++ n).length ≤ 100000))
  have LI := Lib.hid (Nat.le_trans (List.length_filter_le vidP (f ++ g)) (by rw [List.length_append]; omega : (f ++ g).length ≤ 100000))
  have CM := Lib.hid (allC_filter (m ++ n))
  have CI := Lib.hid (allV_filter (f ++ g))
  generalize (m ++ n).filter cnt = ms at *
  generalize (f ++ g).filter vidP = gs at *
  go_wp2_with fail
  (with_reducible refine (raised_any V1 V3 ms gs _ M4.out.reads O4.out.reads LM.out LI.out CM.out CI.out).mono ?_)
  rintro e w5 ⟨F, rfl, hF, hL, hb⟩
  have L5 := Lib.hid (lives_below hL (below_one w5 (.cells #[.pointer (some ⟨F, 0, none⟩)] 109)))
  have P5 := Lib.hid (one_new w5 109 (.pointer (some ⟨F, 0, none⟩)))
  have M5 := Lib.hid ((M4.out.below hb).below (below_one w5 (.cells #[.pointer (some ⟨F, 0, none⟩)] 109)))
  have B5 := Lib.hid ((below_after B4.out hb (Nat.le_refl _)).trans ((below_one w5 (.cells #[.pointer (some ⟨F, 0, none⟩)] 109)).mono (below_after B4.out hb (Nat.le_refl _)).size))
  have HV4 : Hid (∀ (g a c : Nat), V1 = .slice (some ⟨g, 0, none⟩) a c → g ≠ F ∧ g ≠ w5.heap.size) := Lib.hid fun g' a c hv => by
    have hs := hb.size
    rcases M4.out with ⟨e, _⟩ | ⟨d, g0, c0, e, _, _, hr, _⟩
    · rw [hv] at e
      cases e
    · rw [hv] at e
      injection e with e1 e2 e3
      injection e1 with e1
      injection e1 with e1
      have := hr.1
      omega
  have HDc : Hid (∀ x ∈ ms, 0 ≤ x.1.1 ∧ x.1.1 < 13) := Lib.hid fun x hx => by
    have hcx : cnt x = true := CM.out x hx
    obtain ⟨⟨x1, x2, _⟩, _⟩ := cnt_iff.1 hcx
    exact ⟨by omega, by omega⟩
  have HX := Lib.hid (gone_asks w5.heap.size F (floors ms gs))
  clear hF hL hb O4 B4 M4
  generalize floors ms gs = L at *
  go_wp2_with fail
  (with_reducible refine (deleteM_own HX.out w.heap.size V1 (fun g' a c W W' hv hS hb => ⟨one_grown hS.1 hb (fun e => absurd e.symm (HV4.out g' a c hv).2), lives_grown hS.2 hb (fun e => absurd e.symm (HV4.out g' a c hv).1)⟩) ms _ M5.out ⟨P5.out, L5.out⟩ LM.out B5.out.size HDc.out).mono ?_)
  rintro e w6 ⟨V4, rfl, hO, ⟨hP, hL⟩, hb⟩
  have O6 := Lib.hid hO
  have P6 := Lib.hid hP
  have L6 := Lib.hid hL
  have B6 := Lib.hid (B5.out.trans hb)
  have C6 : Hid (AllC (ms.filter fun x => !goneM L x)) := Lib.hid fun x hx => (show ∀ x ∈ ms, cnt x = true from CM.out) x (List.mem_filter.1 hx).1
  have N6 := Lib.hid (Nat.le_trans (List.length_filter_le (fun x => !goneM L x) ms) LM.out)
  clear hO hP hL hb P5 L5 M5 B5 HX HV4 CM LM
  generalize (ms.filter fun x => !goneM L x) = fs at *
  go_wp2_with fail
  have c0 := one_cell P6.out
  have HS6 := Lib.hid B6.out.size
  have PS := Lib.hid fun w' (hb : Below w6.heap.size w6 w') => And.intro (one_cell (one_below P6.out hb)) (Lib.hid hb)
  go_region_held3 (fun w' => w'.cell? ⟨w5.heap.size, 0, none⟩ = some (.pointer (some ⟨F, 0, none⟩)) ∧ Hid (Below w6.heap.size w6 w'))
    (first | exact PS.out _ (Below.refl _ _).drew | exact PS.out _ HK.out)
    (first
      | (go_at_call 114; (with_reducible refine (united_any V4 fs _ (O6.out.reads.below (Below.refl _ _).drew) N6.out C6.out).mono ?_); rintro e w' ⟨V5, rfl, hV, hb⟩; have HK := Lib.hid ((Below.refl w6.heap.size w6).drew.trans hb); have U5 := Lib.hid hV; clear hb hV)
      | (go_at_call 115; (with_reducible refine (list_any F L _ (lives_below L6.out HK.out)).mono ?_); rintro e w' ⟨V6, rfl, hV, hb⟩; have U6 := Lib.hid (U5.out.below hb); have Z6 := Lib.hid (lies_lt U5.out); have Q6 := Lib.hid hV; have HZ := Lib.hid HK.out.size; have HK := Lib.hid (below_after HK.out hb (Nat.le_refl _)); clear hb hV))
  go_wp2_with fail
  refine bodyPost_ret (v := .tuple #[V5, V6]) (by simp [results, Tryz.results49, go_sem]) rfl ?_
  rw [HJ.out]
  exact ⟨_, _, _, rfl, U6.out.mono HS6.out, Z6.out, Nat.le_trans HS6.out HZ.out, Q6.out, B6.out.trans (HK.out.mono HS6.out)⟩
theorem join_anyROS (vm vf vn vg : Value) (m n : List Mm) (f g : List Id2) (w : World) (h1 : Ms w vm m) (h2 : Ids w vf f) (h3 : Ms w vn n) (h4 : Ids w vg g) (hl : m.length + n.length ≤ 40000) (hg : f.length + g.length ≤ 40000) :
    Calls Tryz.prog 49 #[vm, vf, vn, vg] w fun e w' => ∃ V U, e = .returned (.tuple #[V, U]) ∧ Lies w.heap.size w' V (joinP m f n g).1 ∧ Owns w' w.heap.size U (joinP m f n g).2 ∧ Below w.heap.size w w' :=
  (join_apart vm vf vn vg m n f g w h1 h2 h3 h4 hl hg).mono fun _ _ ⟨V, U, _, h1, h2, _, h4, h5, h6⟩ => ⟨V, U, h1, h2, owns_mono h5 h4, h6⟩
end Go.Proofs.YtjlnnmjhbccdoaaGreat
namespace Go.Proofs.YtjlnnmjhbccdoaaGreat
open Go Go.RowKit Ros
theorem same_next {α : Type} {l m : List α} {k : Nat} (h : k < l.length) (h' : k < m.length) (ht : l.take k = m.take k) (he : l[k] = m[k]) : l.take (k + 1) = m.take (k + 1) := by
  rw [List.take_succ_eq_append_getElem h, List.take_succ_eq_append_getElem h', ht, he]
theorem same_not {α : Type} {l m : List α} {k : Nat} (h : k < l.length) (h' : k < m.length) (he : l[k] ≠ m[k]) : l ≠ m := fun e => by
  subst e
  exact he rfl
end Go.Proofs.YtjlnnmjhbccdoaaGreat
namespace Go.Proofs.YtjlnnmjhbccdoaaGreat
open Go Go.RowKit Sets RowSets
set_option maxHeartbeats 2000000 in
theorem owners_any (v : Value) (qs : List Raw) (w : World) (h : Rcs encW 4 w v qs) (hl : qs.length ≤ 1000) :
    Calls Tryz.prog 153 #[v] w (Lists (qs.map (·.1)) w) := by
  have HI := Lib.hid h
  obtain ⟨A, c, rfl, hz⟩ := h
  clear hz
  go_enter Tryz.func153, Tryz.ntmps153
  go_wp2_with (at_make; refine wpList_make_all (enc := encI) 23 29 (0, 0) Tryz.underlying23 infoI encI_len (by omega) rfl (by omega) w rfl (.tmp 7) rfl qs.length rfl (by omega) ?_; intro w1 k1 k2 k3; have R1 := Lib.hid k1; have S1 := Lib.hid k2; have B1 := Lib.hid k3; clear k1 k2 k3)
  have hsz0 : (Array.replicate qs.length ((0, 0) : Id2)).size = qs.length := by simp
  obtain ⟨g, hg⟩ : ∃ g, w.heap.size = g := ⟨_, rfl⟩
  have HG := Lib.hid hg
  rw [hg] at R1 S1
  simp only [hg]
  clear hg
  go_loopw [11] (fun s11 wr => ∃ k : Nat, ∃ dk : Array Id2, k ≤ qs.length ∧ s11 = .int .i64 k ∧ dk.size = qs.length ∧ Hid (RowAtR encI 2 wr g dk) ∧ Hid (dk.toList.take k = (qs.take k).map (·.1)) ∧ Hid (Below w.heap.size w wr)) (fun s11 _ => qs.length - (intOf s11).toNat)
  case atStart => exact ⟨0, _, by omega, rfl, hsz0, R1, Lib.hid rfl, B1⟩
  case round =>
    obtain ⟨k, dk, hkl, rfl, hds, HR, HT, HW⟩ := hrel
    have i3 : (0 : Int) ≤ (k : Int) := by omega
    by_cases hlt : k < qs.length
    · have hd : decide ((k : Int) < (qs.length : Int)) = true := by simp; omega
      have i4 : (k : Int) < (qs.length : Int) := by omega
      obtain ⟨ad, rfl, c1, c2, c3, c4⟩ := HI.out.raw HW.out hlt
      have HX := Lib.hid (wbox_new wr qs[k].1.1 qs[k].1.2 qs[k].2.1 (.slice qs[k].2.2.1 qs[k].2.2.2.1 qs[k].2.2.2.2))
      have HB := Lib.hid (below_one wr (.cells #[.int .i64 qs[k].1.1, .int .i64 qs[k].1.2, .int .i64 qs[k].2.1, .slice qs[k].2.2.1 qs[k].2.2.2.1 qs[k].2.2.2.2] 46))
      have R2 := Lib.hid (rowAtR_kept HR.out HB.out)
      have W2 := Lib.hid (HW.out.trans (HB.out.mono HW.out.size))
      have HS := Lib.hid (take_set_snoc (show k < dk.size by omega) ((qs[k].1.1, qs[k].1.2) : Id2))
      have HT2 := Lib.hid (show (qs.take (k + 1)).map (·.1) = (qs.take k).map (·.1) ++ [(qs[k].1.1, qs[k].1.2)] by rw [take_snoc hlt, List.map_append]; rfl)
      generalize qs[k].1.1 = a at *
      generalize qs[k].1.2 = i at *
      generalize qs[k].2.1 = n at *
      generalize qs[k].2.2.1 = B at *
      generalize qs[k].2.2.2.1 = m at *
      generalize qs[k].2.2.2.2 = d at *
      obtain ⟨x1, x2, x3, x4⟩ := wbox_cells HX.out
      obtain ⟨⟨y1, y2⟩, f1, f2⟩ := R2.out.id (k := k) (by omega)
      have R3 := Lib.hid (rowI_set R2.out (show k < dk.size by omega) a i)
      have W3 := Lib.hid (below_setI (g := g) W2.out (by rw [HG.out]; exact Nat.le_refl g) k (.int .i64 a) (.int .i64 i))
      have HF := Lib.hid (show (dk.setIfInBounds k (a, i)).toList.take (k + 1) = (qs.take (k + 1)).map (·.1) by rw [HS.out, HT2.out, HT.out])
      go_wp2_with fail
      go_roundw
      case rel => exact ⟨k + 1, _, by omega, by go_num, by simpa using hds, R3, HF, W3⟩
      case measure => simp [intOf]; omega
    · obtain rfl : k = qs.length := by omega
      have hd : decide ((qs.length : Int) < (qs.length : Int)) = false := by simp
      have HF := Lib.hid (show dk.toList = qs.map (·.1) by
        have := HT.out
        rwa [List.take_of_length_le (by simp; omega), List.take_of_length_le (Nat.le_refl _)] at this)
      have HQ := Lib.hid (rowAtR_rcs HR.out (show dk.size ≤ qs.length by omega))
      rw [hds] at HQ
      go_wp2_with fail
      go_ret
      exact ⟨_, rfl, by rw [← HF.out]; exact ids_rcs HQ.out, HW.out⟩
/-- The IDs of rows in memory. -/
theorem EachReads.owners {w : World} : ∀ {qs : List Raw} {l : List Row}, EachReads w qs l → qs.map (·.1) = ids l
  | [], [], _ => rfl
  | q :: qs, r :: l, h => by
    rw [List.map_cons, h.2.owners, h.1.1]
    rfl
  | [], _ :: _, h => h.elim
  | _ :: _, [], h => h.elim
end Go.Proofs.YtjlnnmjhbccdoaaGreat
namespace Go.Proofs.YtjlnnmjhbccdoaaGreat
open Go Go.RowKit Sets RowSets
/-- Lists of one length that are bounded. -/
def Small (l : List Row) : Prop := l.length ≤ 1000 ∧ ∀ r ∈ l, r.2.2.length ≤ 20000
end Go.Proofs.YtjlnnmjhbccdoaaGreat
namespace Go.Proofs.YtjlnnmjhbccdoaaGreat.Clocks
open Go.Proofs.YtjlnnmjhbccdoaaGreat.Sets
abbrev Tick := Id2 × Int
/-- What a list says of an ID: the greatest count, 0 at least. -/
def says : List Tick → Id2 → Int
  | [], _ => 0
  | t :: c, x => if t.1 = x then max t.2 (says c x) else says c x
theorem says_pos (c : List Tick) (x : Id2) : 0 ≤ says c x := by
  induction c with
  | nil => exact Int.le_refl _
  | cons t c ih =>
    rw [says]
    split <;> omega
theorem says_append (a b : List Tick) (x : Id2) : says (a ++ b) x = max (says a x) (says b x) := by
  induction a with
  | nil => have := says_pos b x; simp only [List.nil_append, says]; omega
  | cons t a ih =>
    simp only [List.cons_append, says, ih]
    split <;> omega
theorem says_mem {c : List Tick} {x : Id2} (h : 0 < says c x) : (x, says c x) ∈ c := by
  induction c with
  | nil => simp [says] at h
  | cons t c ih =>
    rw [says] at h ⊢
    by_cases e : t.1 = x
    · rw [if_pos e] at h ⊢
      rcases Int.le_total t.2 (says c x) with h1 | h1
      · rw [Int.max_eq_right h1] at h ⊢
        exact List.mem_cons_of_mem _ (ih h)
      · rw [Int.max_eq_left h1, ← e]
        exact List.mem_cons_self ..
    · rw [if_neg e] at h ⊢
      exact List.mem_cons_of_mem _ (ih h)
theorem says_zero {c : List Tick} {x : Id2} (h : ∀ t ∈ c, t.1 = x → t.2 ≤ 0) : says c x = 0 := by
  rcases Int.lt_or_le 0 (says c x) with h1 | h1
  · have := h _ (says_mem h1) rfl
    simp at this
    omega
  · have := says_pos c x
    omega
/-- IDs that rise, each with a count above 0. -/
def Norm (c : List Tick) : Prop := Rises (c.map (·.1)) ∧ ∀ t ∈ c, 0 < t.2
theorem norm_nil : Norm [] := ⟨rises_nil, fun _ h => by cases h⟩
theorem norm_cons {t : Tick} {c : List Tick} : Norm (t :: c) ↔ (∀ u ∈ c, lt t.1 u.1) ∧ 0 < t.2 ∧ Norm c := by
  unfold Norm
  rw [List.map_cons, rises_cons]
  constructor
  · rintro ⟨⟨h1, h2⟩, h3⟩
    exact ⟨fun u hu => h1 _ (List.mem_map_of_mem hu), h3 t (List.mem_cons_self ..), h2, fun u hu => h3 u (List.mem_cons_of_mem _ hu)⟩
  · rintro ⟨h1, h2, h3, h4⟩
    refine ⟨⟨fun y hy => ?_, h3⟩, fun u hu => ?_⟩
    · obtain ⟨u, hu, rfl⟩ := List.mem_map.1 hy
      exact h1 u hu
    · rcases List.mem_cons.1 hu with rfl | hu
      · exact h2
      · exact h4 u hu
theorem norm_says {c : List Tick} (h : Norm c) {t : Tick} (ht : t ∈ c) : says c t.1 = t.2 := by
  induction c with
  | nil => cases ht
  | cons u c ih =>
    obtain ⟨h1, h2, h3⟩ := norm_cons.1 h
    rw [says]
    rcases List.mem_cons.1 ht with rfl | ht
    · rw [if_pos rfl, says_zero (fun v hv e => absurd (e ▸ h1 v hv) (lt_irrefl _))]
      omega
    · rw [if_neg (fun e => absurd (e ▸ h1 t ht) (lt_irrefl _))]
      exact ih h3 ht
theorem norm_mem {c : List Tick} (h : Norm c) (t : Tick) : t ∈ c ↔ 0 < t.2 ∧ says c t.1 = t.2 := by
  constructor
  · exact fun ht => ⟨h.2 t ht, norm_says h ht⟩
  · rintro ⟨h1, h2⟩
    have := says_mem (c := c) (x := t.1) (by omega)
    rw [h2] at this
    exact this
/-- Two such lists that say the same are the same. -/
theorem norm_ext : ∀ {a b : List Tick}, Norm a → Norm b → (∀ x, says a x = says b x) → a = b
  | [], [], _, _, _ => rfl
  | [], u :: b, _, hb, h => by
    have h1 := (norm_mem hb u).1 (List.mem_cons_self ..)
    have := h u.1
    rw [h1.2] at this
    simp only [says] at this
    omega
  | t :: a, [], ha, _, h => by
    have h1 := (norm_mem ha t).1 (List.mem_cons_self ..)
    have := h t.1
    rw [h1.2] at this
    simp only [says] at this
    omega
  | t :: a, u :: b, ha, hb, h => by
    obtain ⟨a1, a2, a3⟩ := norm_cons.1 ha
    obtain ⟨b1, b2, b3⟩ := norm_cons.1 hb
    have hm : ∀ v, v ∈ t :: a ↔ v ∈ u :: b := fun v => by rw [norm_mem ha, norm_mem hb, h]
    have e : t = u := by
      rcases List.mem_cons.1 ((hm t).1 (List.mem_cons_self ..)) with e | e
      · exact e
      · rcases List.mem_cons.1 ((hm u).2 (List.mem_cons_self ..)) with e2 | e2
        · exact e2.symm
        · exact absurd (a1 u e2) (lt_asymm (b1 t e))
    subst e
    congr 1
    refine norm_ext a3 b3 fun x => ?_
    have hx := h x
    rw [says, says] at hx
    by_cases e : t.1 = x
    · subst e
      rw [says_zero (fun v hv e => absurd (e ▸ a1 v hv) (lt_irrefl _)), says_zero (fun v hv e => absurd (e ▸ b1 v hv) (lt_irrefl _))]
    · rwa [if_neg e, if_neg e] at hx
/-- The clock that says of these IDs what f says. -/
def clk (f : Id2 → Int) (ids : List Id2) : List Tick := ((setOf ids).filter fun x => decide (0 < f x)).map fun x => (x, f x)
theorem clk_ids (f : Id2 → Int) (ids : List Id2) : (clk f ids).map (·.1) = (setOf ids).filter fun x => decide (0 < f x) := by
  unfold clk
  rw [List.map_map]
  exact List.map_id _
theorem norm_clk (f : Id2 → Int) (ids : List Id2) : Norm (clk f ids) := by
  refine ⟨?_, fun t ht => ?_⟩
  · rw [clk_ids]
    exact List.Pairwise.filter _ (rises_setOf ids)
  · obtain ⟨x, hx, rfl⟩ := List.mem_map.1 ht
    simpa using (List.mem_filter.1 hx).2
theorem says_clk {f : Id2 → Int} {ids : List Id2} (h0 : ∀ x, 0 ≤ f x) (h : ∀ x, 0 < f x → x ∈ ids) (x : Id2) : says (clk f ids) x = f x := by
  rcases Int.lt_or_le 0 (f x) with h1 | h1
  · have hm : (x, f x) ∈ clk f ids := List.mem_map.2 ⟨x, List.mem_filter.2 ⟨(mem_setOf ids x).2 (h x h1), by simpa using h1⟩, rfl⟩
    exact norm_says (norm_clk f ids) hm
  · have h2 := h0 x
    have h3 : f x = 0 := by omega
    rw [h3]
    refine says_zero fun t ht e => ?_
    obtain ⟨y, hy, rfl⟩ := List.mem_map.1 ht
    simp only at e ⊢
    subst e
    omega
/-- Join. -/
def joinC (a b : List Tick) : List Tick := clk (fun x => max (says a x) (says b x)) ((a ++ b).map (·.1))
theorem says_ids {c : List Tick} {x : Id2} (h : 0 < says c x) : x ∈ c.map (·.1) := List.mem_map.2 ⟨_, says_mem h, rfl⟩
theorem says_join (a b : List Tick) (x : Id2) : says (joinC a b) x = max (says a x) (says b x) := by
  refine says_clk (fun x => by have := says_pos a x; omega) (fun x h => ?_) x
  rw [← says_append] at h
  exact says_ids h
theorem norm_join (a b : List Tick) : Norm (joinC a b) := norm_clk _ _
theorem clk_len (f : Id2 → Int) (ids : List Id2) : (clk f ids).length ≤ ids.length := by
  unfold clk
  rw [List.length_map]
  exact Nat.le_trans (List.length_filter_le _ _) (setOf_len ids)
theorem join_len (a b : List Tick) : (joinC a b).length ≤ a.length + b.length := Nat.le_trans (clk_len _ _) (by simp)
/-- Does a say more than b of some ID? -/
def more (a b : List Tick) : Bool := a.any fun t => decide (says b t.1 < says a t.1)
theorem more_iff (a b : List Tick) : more a b = true ↔ ∃ x, says b x < says a x := by
  unfold more
  rw [List.any_eq_true]
  constructor
  · rintro ⟨t, _, h⟩
    exact ⟨t.1, by simpa using h⟩
  · rintro ⟨x, h⟩
    have := says_pos b x
    exact ⟨_, says_mem (c := a) (x := x) (by omega), by simpa using h⟩
/-- How two clocks stand: 1 the same, 2 behind, 3 ahead, 4 apart. -/
def cmpB (x y : Bool) : Nat := if x then (if y then 4 else 3) else (if y then 2 else 1)
def cmp (a b : List Tick) : Nat := cmpB (more a b) (more b a)
/-- Not behind, nor apart. -/
def above (a b : List Tick) : Bool := !more b a
/-- One more of an ID. -/
def up (c : List Tick) (y : Id2) : List Tick := clk (fun x => if x = y then says c x + 1 else says c x) (y :: c.map (·.1))
theorem says_up (c : List Tick) (y x : Id2) : says (up c y) x = if x = y then says c x + 1 else says c x := by
  refine says_clk (f := fun x => if x = y then says c x + 1 else says c x) (fun x => ?_) (fun x h => ?_) x
  · have := says_pos c x
    split <;> omega
  · split at h
    · rename_i e; rw [e]; exact List.mem_cons_self ..
    · exact List.mem_cons_of_mem _ (says_ids h)
theorem norm_up (c : List Tick) (y : Id2) : Norm (up c y) := norm_clk _ _
theorem up_up (c : List Tick) {a b : Id2} (h : a ≠ b) : up (up c a) b = joinC (up c a) (up c b) :=
  norm_ext (norm_up _ _) (norm_join _ _) fun x => by
    simp only [says_join, says_up]
    by_cases e1 : x = a
    · rw [if_neg (e1 ▸ h), if_pos e1, if_neg (e1 ▸ h)]; omega
    · by_cases e2 : x = b
      · rw [if_pos e2, if_neg e1, if_pos e2]; omega
      · rw [if_neg e2, if_neg e1, if_neg e2]; omega
end Go.Proofs.YtjlnnmjhbccdoaaGreat.Clocks
