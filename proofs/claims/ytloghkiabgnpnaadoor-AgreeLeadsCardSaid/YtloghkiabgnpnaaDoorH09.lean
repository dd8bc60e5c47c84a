/-
  Carried over and put together: contracts of this program's functions, and plain facts. No statement is proved in this text.
-/
import Derived.Test.YtloghkiabgnpnaaDoorH08
namespace Go.Proofs.YtloghkiabgnpnaaDoor
open Go Go.RowKit Ros
theorem sorts_last {w w1 w2 : World} {g : Nat} {P X Q : List Mm} (hg : w.grownBy w1 (some g)) {e : Ending} (h : Sorts w1 g P X Q e w2) : ∃ M, e = .returned (.tuple #[]) ∧ Stab.Sorted kM M ∧ Stab.Same kM X M ∧ RowL w2 g (P ++ M ++ Q) ∧ w.grownBy w2 (some g) := by
  obtain ⟨h0, M, h1, h2, h3, h4⟩ := h
  exact ⟨M, h0, h1, h2, h3, grown_trans hg h4⟩
/-- What stands behind the first of two parts. -/
def Half (w : World) (g : Nat) (P X R : List Mm) (W : World) : Prop := ∃ M, Stab.Sorted kM M ∧ Stab.Same kM X M ∧ RowL W g (P ++ M ++ R) ∧ w.grownBy W (some g)
theorem half_of {w W : World} {g : Nat} {P X R M : List Mm} (h1 : Stab.Sorted kM M) (h2 : Stab.Same kM X M) (h3 : RowL W g (P ++ M ++ R)) (h4 : w.grownBy W (some g)) : Half w g P X R W := ⟨M, h1, h2, h3, h4⟩
/-- What stands of two parts that were cut. -/
structure SymF (P X Y Q : List Mm) (N a m b s e i j : Nat) : Prop where
  sX : Stab.Sorted kM X
  sY : Stab.Sorted kM Y
  st : ∀ x ∈ X.drop i, ∀ y ∈ Y.take j, Sets.lt (kM y) (kM x)
  lo : ∀ x ∈ X.take i, ∀ y ∈ Y.drop j, ¬ Sets.lt (kM y) (kM x)
  ha : P.length = a
  t1 : (X.take i).length = i
  t2 : (Y.take j).length = j
  t3 : (X.drop i).length = m - s
  t4 : (Y.drop j).length = b - e
  n : P.length + X.length + Y.length + Q.length = N
  xl : X.length = m - a
  yl : Y.length = b - m
/-- The merge of fewer elements. -/
def SymIH (g c N z : Nat) : Prop := ∀ (a m b : Nat) (P X Y Q : List Mm) (w : World), X.length + Y.length ≤ z → RowL w g (P ++ X ++ Y ++ Q) → P.length + X.length + Y.length + Q.length = N → P.length = a → P.length + X.length = m → P.length + X.length + Y.length = b → 0 < X.length → 0 < Y.length → Stab.Sorted kM X → Stab.Sorted kM Y →
    Calls Tryd.prog 76 #[.slice (some ⟨g, 0, none⟩) N c, .int .i64 a, .int .i64 m, .int .i64 b, .func (.func 68) #[] #[]] w (Sorts w g P (X ++ Y) Q)
/-- What follows the first of two statements. -/
def laterCode : Code → Code
  | .seq _ b => b
  | _ => .skip
/-- What follows so many statements. -/
def codeFrom : Nat → Code → Code
  | 0, c => c
  | k + 1, c => codeFrom k (laterCode c)
noncomputable def sym3 : Code := codeFrom 11 (Tryd.f76.body.getD .skip)
noncomputable def sym2 : Code := codeFrom 10 (Tryd.f76.body.getD .skip)
noncomputable def sym1 : Code := codeFrom 9 (Tryd.f76.body.getD .skip)
set_option maxHeartbeats 8000000 in
set_option maxRecDepth 1000000 in
theorem sym3_any (g c N z a m b d s e i j : Nat) (P X Y Q : List Mm) (w we : World) (HIH : Hid (SymIH g c N z)) (HF : Hid (SymF P X Y Q N a m b s e i j)) (hl : N ≤ 100000) (b1 : a + 2 ≤ m) (b2 : m + 2 ≤ b) (b3 : b ≤ N) (b4 : b - a ≤ z + 1) (d1 : 2 * d ≤ a + b) (d2 : a + b ≤ 2 * d + 1) (k1 : s ≤ a + i) (k2 : a + i ≤ s) (k3 : d ≤ s + j) (k4 : s + j ≤ d) (k5 : e + s ≤ d + m) (k6 : d + m ≤ e + s) (_k7 : a ≤ s) (k8 : s ≤ m) (_k9 : s ≤ d) (k10 : e ≤ b) (HH : Hid (Half w g P (X.take i ++ Y.take j) (X.drop i ++ Y.drop j ++ Q) we))
    (v5 v6 v7 v8 v9 v10 v11 v12 v13 v14 v15 v16 v17 v19 v21 v22 v23 v25 v26 v27 v28 v29 v30 v31 v32 v33 v34 v35 v36 v37 v38 v39 v40 v41 v42 v43 v44 v45 v46 v47 v48 v49 v50 v51 v52 v53 v54 v55 v56 v57 v58 v59 v60 v61 v62 v63 v64 v65 v66 v67 v68 v69 v70 v71 v72 v73 v74 v75 v76 v77 v78 v79 v80 v81 v82 v83 v84 v85 v86 v87 v88 v89 v90 v91 v92 v93 v94 v95 v96 v97 v98 v99 v100 v101 v102 v103 v104 v105 v106 v107 v108 v109 v110 v111 v112 v113 v114 v115 v116 v117 v118 v119 v120 v121 v122 v123 v124 v125 v126 v127 v128 v129 v130 v131 v132 v133 v134 v135 v136 v137 v138 v139 v140 v141 v142 v143 v144 v145 v146 v147 v148 v149 v150 v151 v152 v153 v154 v155 v156 v157 v158 v159 v160 v161 v162 v163 v164 v165 v166 v167 v168 v169 v170 v171 v172 v173 v174 v175 v176 v177 v178 v179 v180 v181 v182 v183 v184 v185 v186 v187 v188 v189 v190 v191 v192 v193 v194 v195 v196 v197 v198 v199 v200 v201 v202 v203 v204 v205 v206 v207 v208 v209 v210 v211 v212 v213 v214 v215 v216 v217 v218 v219 : Value) : Code.wp Tryd.prog sym3 (bodyPost Tryd.prog Tryd.f76 (Sorts w g P (X ++ Y) Q)) ⟨List.toArray (.slice (some ⟨g, 0, none⟩) N c :: .int .i64 a :: .int .i64 m :: .int .i64 b :: .func (.func 68) #[] #[] :: v5 :: v6 :: v7 :: v8 :: v9 :: v10 :: v11 :: v12 :: v13 :: v14 :: v15 :: v16 :: v17 :: .int .i64 d :: v19 :: .int .i64 s :: v21 :: v22 :: v23 :: .int .i64 e :: v25 :: v26 :: v27 :: v28 :: v29 :: v30 :: v31 :: v32 :: v33 :: v34 :: v35 :: v36 :: v37 :: v38 :: v39 :: v40 :: v41 :: v42 :: v43 :: v44 :: v45 :: v46 :: v47 :: v48 :: v49 :: v50 :: v51 :: v52 :: v53 :: v54 :: v55 :: v56 :: v57 :: v58 :: v59 :: v60 :: v61 :: v62 :: v63 :: v64 :: v65 :: v66 :: v67 :: v68 :: v69 :: v70 :: v71 :: v72 :: v73 :: v74 :: v75 :: v76 :: v77 :: v78 :: v79 :: v80 :: v81 :: v82 :: v83 :: v84 :: v85 :: v86 :: v87 :: v88 :: v89 :: v90 :: v91 :: v92 :: v93 :: v94 :: v95 :: v96 :: v97 :: v98 :: v99 :: v100 :: v101 :: v102 :: v103 :: v104 :: v105 :: v106 :: v107 :: v108 :: v109 :: v110 :: v111 :: v112 :: v113 :: v114 :: v115 :: v116 :: v117 :: v118 :: v119 :: v120 :: v121 :: v122 :: v123 :: v124 :: v125 :: v126 :: v127 :: v128 :: v129 :: v130 :: v131 :: v132 :: v133 :: v134 :: v135 :: v136 :: v137 :: v138 :: v139 :: v140 :: v141 :: v142 :: v143 :: v144 :: v145 :: v146 :: v147 :: v148 :: v149 :: v150 :: v151 :: v152 :: v153 :: v154 :: v155 :: v156 :: v157 :: v158 :: v159 :: v160 :: v161 :: v162 :: v163 :: v164 :: v165 :: v166 :: v167 :: v168 :: v169 :: v170 :: v171 :: v172 :: v173 :: v174 :: v175 :: v176 :: v177 :: v178 :: v179 :: v180 :: v181 :: v182 :: v183 :: v184 :: v185 :: v186 :: v187 :: v188 :: v189 :: v190 :: v191 :: v192 :: v193 :: v194 :: v195 :: v196 :: v197 :: v198 :: v199 :: v200 :: v201 :: v202 :: v203 :: v204 :: v205 :: v206 :: v207 :: v208 :: v209 :: v210 :: v211 :: v212 :: v213 :: v214 :: v215 :: v216 :: v217 :: v218 :: v219 :: []), []⟩ we := by
  obtain ⟨M1, s1, s2, s3, s4⟩ := HH.out
  have S1 := Lib.hid s1
  have S2 := Lib.hid s2
  have S4 := Lib.hid s4
  have LM : Hid ((P ++ M1).length = d) := Lib.hid (by
    rw [List.length_append, ← s2.1, List.length_append, HF.out.t1, HF.out.t2, HF.out.ha]
    omega)
  have HR : Hid (RowL we g ((P ++ M1) ++ X.drop i ++ Y.drop j ++ Q)) := Lib.hid (by simp only [List.append_assoc] at s3 ⊢; exact s3)
  have HEnd := Lib.hid fun (M2 : List Mm) W (t1 : Stab.Sorted kM M2) (t2 : Stab.Same kM (X.drop i ++ Y.drop j) M2) (t3 : RowL W g ((P ++ M1) ++ M2 ++ Q)) (t4 : w.grownBy W (some g)) => (show Sorts w g P (X ++ Y) Q (.returned (.tuple #[])) W from by
    obtain ⟨z1, z2⟩ := Stab.cut_merge HF.out.sX HF.out.sY HF.out.st HF.out.lo S1.out t1 S2.out t2
    exact sorts_of z1 z2 (by simp only [List.append_assoc] at t3 ⊢; exact t3) t4)
  clear s1 s2 s3 s4 HH
  conv => arg 2; whnf
  go_upto_region 43 with fail
  go_cut [213] (fun sT wx => ∃ t : Bool, sT = .bool t ∧ Hid (t = decide (d < e ∧ e < b)) ∧ Hid (wx = we))
  case first =>
    by_cases q1 : d < e
    · have p1' : decide (d < e) = true := decide_eq_true q1
      obtain ⟨t, ht⟩ : ∃ t : Bool, decide (e < b) = t := ⟨_, rfl⟩
      have HT : Hid (t = decide (d < e ∧ e < b)) := Lib.hid (by rw [← ht]; simp [q1])
      go_wp2_with fail
      go_meet
      exact ⟨t, rfl, HT, Lib.hid rfl⟩
    · have p1' : decide (d < e) = false := decide_eq_false q1
      have HT : Hid (false = decide (d < e ∧ e < b)) := Lib.hid (by simp [q1])
      go_wp2_with fail
      go_meet
      exact ⟨false, rfl, HT, Lib.hid rfl⟩
  case rest =>
    obtain ⟨t, rfl, HT, HWx⟩ := hcut
  
    have HR := Lib.hid (show RowL wc g _ from HWx.out ▸ HR.out)
    have S4 := Lib.hid (show w.grownBy wc (some g) from HWx.out ▸ S4.out)
    clear HWx
    rcases t with _ | _
    · have hq : ¬ (d < e ∧ e < b) := of_decide_eq_false HT.out.symm
      have HZ := Lib.hid (HEnd.out (X.drop i ++ Y.drop j) wc (by
        by_cases q1 : d < e
        · have e0 : Y.drop j = [] := List.eq_nil_of_length_eq_zero (by rw [HF.out.t4]; omega)
          rw [e0, List.append_nil]
          exact HF.out.sX.drop i
        · have e0 : X.drop i = [] := List.eq_nil_of_length_eq_zero (by rw [HF.out.t3]; omega)
          rw [e0, List.nil_append]
          exact HF.out.sY.drop j) (Stab.Same.refl _) (by rw [← List.append_assoc]; exact HR.out) S4.out)
      clear hq HT
      go_wp2_with fail
      go_end0
      exact HZ.out
    · obtain ⟨q1, q2⟩ : d < e ∧ e < b := of_decide_eq_true HT.out.symm
      have HC := Lib.hid (HIH.out d e b (P ++ M1) (X.drop i) (Y.drop j) Q wc (by rw [HF.out.t3, HF.out.t4]; omega) HR.out (by rw [LM.out, HF.out.t3, HF.out.t4]; have := HF.out.n; have := HF.out.xl; have := HF.out.yl; have := HF.out.ha; omega) LM.out (by rw [LM.out, HF.out.t3]; omega) (by rw [LM.out, HF.out.t3, HF.out.t4]; omega) (by rw [HF.out.t3]; omega) (by rw [HF.out.t4]; omega) (HF.out.sX.drop i) (HF.out.sY.drop j))
      clear HT
      go_wp2_with fail
      (with_reducible refine HC.out.mono ?_)
      intro e' w3 hs
      obtain ⟨M, rfl, s1, s2, s3, s4⟩ := sorts_last S4.out hs
      have HZ := Lib.hid (HEnd.out M w3 s1 s2 s3 s4)
      clear hs s1 s2 s3 s4
      go_wp2_with fail
      go_end0
      exact HZ.out
end Go.Proofs.YtloghkiabgnpnaaDoor
namespace Go.Proofs.YtloghkiabgnpnaaDoor
open Go Go.RowKit Ros
set_option maxHeartbeats 8000000 in
set_option maxRecDepth 1000000 in
theorem sym2_any (g c N z a m b d s e i j : Nat) (P X Y Q : List Mm) (w wd : World) (HIH : Hid (SymIH g c N z)) (HF : Hid (SymF P X Y Q N a m b s e i j)) (hl : N ≤ 100000) (b1 : a + 2 ≤ m) (b2 : m + 2 ≤ b) (b3 : b ≤ N) (b4 : b - a ≤ z + 1) (d1 : 2 * d ≤ a + b) (d2 : a + b ≤ 2 * d + 1) (k1 : s ≤ a + i) (k2 : a + i ≤ s) (k3 : d ≤ s + j) (k4 : s + j ≤ d) (k5 : e + s ≤ d + m) (k6 : d + m ≤ e + s) (k7 : a ≤ s) (k8 : s ≤ m) (k9 : s ≤ d) (k10 : e ≤ b) (HR : Hid (RowL wd g (P ++ (X.take i ++ Y.take j) ++ (X.drop i ++ Y.drop j ++ Q)))) (HG : Hid (w.grownBy wd (some g)))
    (v5 v6 v7 v8 v9 v10 v11 v12 v13 v14 v15 v16 v17 v19 v21 v22 v23 v25 v26 v27 v28 v29 v30 v31 v32 v33 v34 v35 v36 v37 v38 v39 v40 v41 v42 v43 v44 v45 v46 v47 v48 v49 v50 v51 v52 v53 v54 v55 v56 v57 v58 v59 v60 v61 v62 v63 v64 v65 v66 v67 v68 v69 v70 v71 v72 v73 v74 v75 v76 v77 v78 v79 v80 v81 v82 v83 v84 v85 v86 v87 v88 v89 v90 v91 v92 v93 v94 v95 v96 v97 v98 v99 v100 v101 v102 v103 v104 v105 v106 v107 v108 v109 v110 v111 v112 v113 v114 v115 v116 v117 v118 v119 v120 v121 v122 v123 v124 v125 v126 v127 v128 v129 v130 v131 v132 v133 v134 v135 v136 v137 v138 v139 v140 v141 v142 v143 v144 v145 v146 v147 v148 v149 v150 v151 v152 v153 v154 v155 v156 v157 v158 v159 v160 v161 v162 v163 v164 v165 v166 v167 v168 v169 v170 v171 v172 v173 v174 v175 v176 v177 v178 v179 v180 v181 v182 v183 v184 v185 v186 v187 v188 v189 v190 v191 v192 v193 v194 v195 v196 v197 v198 v199 v200 v201 v202 v203 v204 v205 v206 v207 v208 v209 v210 v211 v212 v213 v214 v215 v216 v217 v218 v219 : Value) : Code.wp Tryd.prog sym2 (bodyPost Tryd.prog Tryd.f76 (Sorts w g P (X ++ Y) Q)) ⟨List.toArray (.slice (some ⟨g, 0, none⟩) N c :: .int .i64 a :: .int .i64 m :: .int .i64 b :: .func (.func 68) #[] #[] :: v5 :: v6 :: v7 :: v8 :: v9 :: v10 :: v11 :: v12 :: v13 :: v14 :: v15 :: v16 :: v17 :: .int .i64 d :: v19 :: .int .i64 s :: v21 :: v22 :: v23 :: .int .i64 e :: v25 :: v26 :: v27 :: v28 :: v29 :: v30 :: v31 :: v32 :: v33 :: v34 :: v35 :: v36 :: v37 :: v38 :: v39 :: v40 :: v41 :: v42 :: v43 :: v44 :: v45 :: v46 :: v47 :: v48 :: v49 :: v50 :: v51 :: v52 :: v53 :: v54 :: v55 :: v56 :: v57 :: v58 :: v59 :: v60 :: v61 :: v62 :: v63 :: v64 :: v65 :: v66 :: v67 :: v68 :: v69 :: v70 :: v71 :: v72 :: v73 :: v74 :: v75 :: v76 :: v77 :: v78 :: v79 :: v80 :: v81 :: v82 :: v83 :: v84 :: v85 :: v86 :: v87 :: v88 :: v89 :: v90 :: v91 :: v92 :: v93 :: v94 :: v95 :: v96 :: v97 :: v98 :: v99 :: v100 :: v101 :: v102 :: v103 :: v104 :: v105 :: v106 :: v107 :: v108 :: v109 :: v110 :: v111 :: v112 :: v113 :: v114 :: v115 :: v116 :: v117 :: v118 :: v119 :: v120 :: v121 :: v122 :: v123 :: v124 :: v125 :: v126 :: v127 :: v128 :: v129 :: v130 :: v131 :: v132 :: v133 :: v134 :: v135 :: v136 :: v137 :: v138 :: v139 :: v140 :: v141 :: v142 :: v143 :: v144 :: v145 :: v146 :: v147 :: v148 :: v149 :: v150 :: v151 :: v152 :: v153 :: v154 :: v155 :: v156 :: v157 :: v158 :: v159 :: v160 :: v161 :: v162 :: v163 :: v164 :: v165 :: v166 :: v167 :: v168 :: v169 :: v170 :: v171 :: v172 :: v173 :: v174 :: v175 :: v176 :: v177 :: v178 :: v179 :: v180 :: v181 :: v182 :: v183 :: v184 :: v185 :: v186 :: v187 :: v188 :: v189 :: v190 :: v191 :: v192 :: v193 :: v194 :: v195 :: v196 :: v197 :: v198 :: v199 :: v200 :: v201 :: v202 :: v203 :: v204 :: v205 :: v206 :: v207 :: v208 :: v209 :: v210 :: v211 :: v212 :: v213 :: v214 :: v215 :: v216 :: v217 :: v218 :: v219 :: []), []⟩ wd := by
  skip
  conv => arg 2; whnf
  go_upto_region 41 with fail
  go_cut [199] (fun sT wx => ∃ t : Bool, sT = .bool t ∧ Hid (t = decide (a < s ∧ s < d)) ∧ Hid (wx = wd))
  case first =>
    by_cases q1 : a < s
    · have p1' : decide (a < s) = true := decide_eq_true q1
      obtain ⟨t, ht⟩ : ∃ t : Bool, decide (s < d) = t := ⟨_, rfl⟩
      have HT : Hid (t = decide (a < s ∧ s < d)) := Lib.hid (by rw [← ht]; simp [q1])
      go_wp2_with fail
      go_meet
      exact ⟨t, rfl, HT, Lib.hid rfl⟩
    · have p1' : decide (a < s) = false := decide_eq_false q1
      have HT : Hid (false = decide (a < s ∧ s < d)) := Lib.hid (by simp [q1])
      go_wp2_with fail
      go_meet
      exact ⟨false, rfl, HT, Lib.hid rfl⟩
  case rest =>
    obtain ⟨t, rfl, HT, HWx⟩ := hcut
  
    have HR := Lib.hid (show RowL wc g _ from HWx.out ▸ HR.out)
    have HG := Lib.hid (show w.grownBy wc (some g) from HWx.out ▸ HG.out)
    clear HWx
    go_upto_if 199 with fail
    go_cut [24] (fun s24 wx => s24 = .int .i64 e ∧ Hid (Half w g P (X.take i ++ Y.take j) (X.drop i ++ Y.drop j ++ Q) wx))
    case first =>
      rcases t with _ | _
      · have hq : ¬ (a < s ∧ s < d) := of_decide_eq_false HT.out.symm
        have HZ := Lib.hid (half_of (by
          by_cases q1 : a < s
          · have e0 : Y.take j = [] := List.eq_nil_of_length_eq_zero (by rw [HF.out.t2]; omega)
            rw [e0, List.append_nil]
            exact HF.out.sX.take i
          · have e0 : X.take i = [] := List.eq_nil_of_length_eq_zero (by rw [HF.out.t1]; omega)
            rw [e0, List.nil_append]
            exact HF.out.sY.take j) (Stab.Same.refl _) HR.out HG.out)
        clear hq HT
        go_wp2_with fail
        go_meet
        exact ⟨rfl, HZ⟩
      · obtain ⟨q1, q2⟩ : a < s ∧ s < d := of_decide_eq_true HT.out.symm
        have HC := Lib.hid (HIH.out a s d P (X.take i) (Y.take j) (X.drop i ++ Y.drop j ++ Q) wc (by rw [HF.out.t1, HF.out.t2]; omega) (by have := HR.out; simp only [List.append_assoc] at this ⊢; exact this) (by simp only [List.length_append, HF.out.t1, HF.out.t2, HF.out.t3, HF.out.t4]; have := HF.out.n; have := HF.out.xl; have := HF.out.yl; have := HF.out.ha; omega) HF.out.ha (by rw [HF.out.t1, HF.out.ha]; omega) (by rw [HF.out.t1, HF.out.t2, HF.out.ha]; omega) (by rw [HF.out.t1]; omega) (by rw [HF.out.t2]; omega) (HF.out.sX.take i) (HF.out.sY.take j))
        clear HT
        go_wp2_with fail
        (with_reducible refine HC.out.mono ?_)
        intro e' w3 hs
        obtain ⟨M, rfl, s1, s2, s3, s4⟩ := sorts_last HG.out hs
        have HZ := Lib.hid (half_of s1 s2 s3 s4)
        clear hs s1 s2 s3 s4
        go_wp2_with fail
        go_meet
        exact ⟨rfl, HZ⟩
    case rest =>
      obtain ⟨rfl, HH⟩ := hcut
      refine ‹∀ (a : Act) (w' : World), Code.wp Tryd.prog _ (bodyPost Tryd.prog Tryd.f76 _) a w' → _› _ _ ?_
      exact sym3_any g c N z a m b d s e i j P X Y Q w _ HIH HF hl b1 b2 b3 b4 d1 d2 k1 k2 k3 k4 k5 k6 k7 k8 k9 k10 HH _ _ _ _ _ _ _ _ _ _ _ _ _ _ _ _ _ _ _ _ _ _ _ _ _ _ _ _ _ _ _ _ _ _ _ _ _ _ _ _ _ _ _ _ _ _ _ _ _ _ _ _ _ _ _ _ _ _ _ _ _ _ _ _ _ _ _ _ _ _ _ _ _ _ _ _ _ _ _ _ _ _ _ _ _ _ _ _ _ _ _ _ _ _ _ _ _ _ _ _ _ _ _ _ _ _ _ _ _ _ _ _ _ _ _ _ _ _ _ _ _ _ _ _ _ _ _ _ _ _ _ _ _ _ _ _ _ _ _ _ _ _ _ _ _ _ _ _ _ _ _ _ _ _ _ _ _ _ _ _ _ _ _ _ _ _ _ _ _ _ _ _ _ _ _ _ _ _ _ _ _ _ _ _ _ _ _ _ _ _ _ _ _ _ _ _ _ _ _ _ _ _ _ _ _ _ _ _ _ _ _ _
end Go.Proofs.YtloghkiabgnpnaaDoor
namespace Go.Proofs.YtloghkiabgnpnaaDoor
open Go Go.RowKit Ros
set_option maxHeartbeats 8000000 in
set_option maxRecDepth 1000000 in
theorem sym1_any (g c N z a m b d s e i j : Nat) (P X Y Q : List Mm) (w wb : World) (HIH : Hid (SymIH g c N z)) (HF : Hid (SymF P X Y Q N a m b s e i j)) (hl : N ≤ 100000) (b1 : a + 2 ≤ m) (b2 : m + 2 ≤ b) (b3 : b ≤ N) (b4 : b - a ≤ z + 1) (d1 : 2 * d ≤ a + b) (d2 : a + b ≤ 2 * d + 1) (k1 : s ≤ a + i) (k2 : a + i ≤ s) (k3 : d ≤ s + j) (k4 : s + j ≤ d) (k5 : e + s ≤ d + m) (k6 : d + m ≤ e + s) (k7 : a ≤ s) (k8 : s ≤ m) (k9 : s ≤ d) (k10 : e ≤ b) (HR : Hid (RowL wb g (P ++ X ++ Y ++ Q))) (HG : Hid (w.grownBy wb (some g)))
    (v5 v6 v7 v8 v9 v10 v11 v12 v13 v14 v15 v16 v17 v19 v21 v22 v23 v25 v26 v27 v28 v29 v30 v31 v32 v33 v34 v35 v36 v37 v38 v39 v40 v41 v42 v43 v44 v45 v46 v47 v48 v49 v50 v51 v52 v53 v54 v55 v56 v57 v58 v59 v60 v61 v62 v63 v64 v65 v66 v67 v68 v69 v70 v71 v72 v73 v74 v75 v76 v77 v78 v79 v80 v81 v82 v83 v84 v85 v86 v87 v88 v89 v90 v91 v92 v93 v94 v95 v96 v97 v98 v99 v100 v101 v102 v103 v104 v105 v106 v107 v108 v109 v110 v111 v112 v113 v114 v115 v116 v117 v118 v119 v120 v121 v122 v123 v124 v125 v126 v127 v128 v129 v130 v131 v132 v133 v134 v135 v136 v137 v138 v139 v140 v141 v142 v143 v144 v145 v146 v147 v148 v149 v150 v151 v152 v153 v154 v155 v156 v157 v158 v159 v160 v161 v162 v163 v164 v165 v166 v167 v168 v169 v170 v171 v172 v173 v174 v175 v176 v177 v178 v179 v180 v181 v182 v183 v184 v185 v186 v187 v188 v189 v190 v191 v192 v193 v194 v195 v196 v197 v198 v199 v200 v201 v202 v203 v204 v205 v206 v207 v208 v209 v210 v211 v212 v213 v214 v215 v216 v217 v218 v219 : Value) : Code.wp Tryd.prog sym1 (bodyPost Tryd.prog Tryd.f76 (Sorts w g P (X ++ Y) Q)) ⟨List.toArray (.slice (some ⟨g, 0, none⟩) N c :: .int .i64 a :: .int .i64 m :: .int .i64 b :: .func (.func 68) #[] #[] :: v5 :: v6 :: v7 :: v8 :: v9 :: v10 :: v11 :: v12 :: v13 :: v14 :: v15 :: v16 :: v17 :: .int .i64 d :: v19 :: .int .i64 s :: v21 :: v22 :: v23 :: .int .i64 e :: v25 :: v26 :: v27 :: v28 :: v29 :: v30 :: v31 :: v32 :: v33 :: v34 :: v35 :: v36 :: v37 :: v38 :: v39 :: v40 :: v41 :: v42 :: v43 :: v44 :: v45 :: v46 :: v47 :: v48 :: v49 :: v50 :: v51 :: v52 :: v53 :: v54 :: v55 :: v56 :: v57 :: v58 :: v59 :: v60 :: v61 :: v62 :: v63 :: v64 :: v65 :: v66 :: v67 :: v68 :: v69 :: v70 :: v71 :: v72 :: v73 :: v74 :: v75 :: v76 :: v77 :: v78 :: v79 :: v80 :: v81 :: v82 :: v83 :: v84 :: v85 :: v86 :: v87 :: v88 :: v89 :: v90 :: v91 :: v92 :: v93 :: v94 :: v95 :: v96 :: v97 :: v98 :: v99 :: v100 :: v101 :: v102 :: v103 :: v104 :: v105 :: v106 :: v107 :: v108 :: v109 :: v110 :: v111 :: v112 :: v113 :: v114 :: v115 :: v116 :: v117 :: v118 :: v119 :: v120 :: v121 :: v122 :: v123 :: v124 :: v125 :: v126 :: v127 :: v128 :: v129 :: v130 :: v131 :: v132 :: v133 :: v134 :: v135 :: v136 :: v137 :: v138 :: v139 :: v140 :: v141 :: v142 :: v143 :: v144 :: v145 :: v146 :: v147 :: v148 :: v149 :: v150 :: v151 :: v152 :: v153 :: v154 :: v155 :: v156 :: v157 :: v158 :: v159 :: v160 :: v161 :: v162 :: v163 :: v164 :: v165 :: v166 :: v167 :: v168 :: v169 :: v170 :: v171 :: v172 :: v173 :: v174 :: v175 :: v176 :: v177 :: v178 :: v179 :: v180 :: v181 :: v182 :: v183 :: v184 :: v185 :: v186 :: v187 :: v188 :: v189 :: v190 :: v191 :: v192 :: v193 :: v194 :: v195 :: v196 :: v197 :: v198 :: v199 :: v200 :: v201 :: v202 :: v203 :: v204 :: v205 :: v206 :: v207 :: v208 :: v209 :: v210 :: v211 :: v212 :: v213 :: v214 :: v215 :: v216 :: v217 :: v218 :: v219 :: []), []⟩ wb := by
  skip
  conv => arg 2; whnf
  go_upto_region 39 with fail
  go_cut [185] (fun sT wx => ∃ t : Bool, sT = .bool t ∧ Hid (t = decide (s < m ∧ m < e)) ∧ Hid (wx = wb))
  case first =>
    by_cases q1 : s < m
    · have p1' : decide (s < m) = true := decide_eq_true q1
      obtain ⟨t, ht⟩ : ∃ t : Bool, decide (m < e) = t := ⟨_, rfl⟩
      have HT : Hid (t = decide (s < m ∧ m < e)) := Lib.hid (by rw [← ht]; simp [q1])
      go_wp2_with fail
      go_meet
      exact ⟨t, rfl, HT, Lib.hid rfl⟩
    · have p1' : decide (s < m) = false := decide_eq_false q1
      have HT : Hid (false = decide (s < m ∧ m < e)) := Lib.hid (by simp [q1])
      go_wp2_with fail
      go_meet
      exact ⟨false, rfl, HT, Lib.hid rfl⟩
  case rest =>
    obtain ⟨t, rfl, HT, HWx⟩ := hcut
  
    have HR := Lib.hid (show RowL wc g _ from HWx.out ▸ HR.out)
    have HG := Lib.hid (show w.grownBy wc (some g) from HWx.out ▸ HG.out)
    clear HWx
    go_upto_if 185 with fail
    go_cut [24] (fun s24 wx => s24 = .int .i64 e ∧ Hid (RowL wx g (P ++ (X.take i ++ Y.take j) ++ (X.drop i ++ Y.drop j ++ Q))) ∧ Hid (w.grownBy wx (some g)))
    case first =>
      have E0 : Hid (P ++ X ++ Y ++ Q = (P ++ X.take i) ++ X.drop i ++ Y.take j ++ (Y.drop j ++ Q)) := Lib.hid (by
        have q1 := List.take_append_drop i X
        have q2 := List.take_append_drop j Y
        calc P ++ X ++ Y ++ Q = P ++ (X.take i ++ X.drop i) ++ (Y.take j ++ Y.drop j) ++ Q := by rw [q1, q2]
          _ = _ := by simp only [List.append_assoc])
      have HR0 : Hid (RowL wc g ((P ++ X.take i) ++ X.drop i ++ Y.take j ++ (Y.drop j ++ Q))) := Lib.hid (E0.out ▸ HR.out)
      rcases t with _ | _
      · have hq : ¬ (s < m ∧ m < e) := of_decide_eq_false HT.out.symm
        have HZ : Hid (X.drop i = [] ∨ Y.take j = []) := Lib.hid (by
          by_cases q1 : s < m
          · exact .inr (List.eq_nil_of_length_eq_zero (by rw [HF.out.t2]; omega))
          · exact .inl (List.eq_nil_of_length_eq_zero (by rw [HF.out.t3]; omega)))
        clear hq HT
        go_wp2_with fail
        go_meet
        exact ⟨rfl, Lib.hid (by
          have := HR0.out
          rcases HZ.out with e0 | e0
          all_goals
            rw [e0] at this ⊢
            simp only [List.append_assoc, List.append_nil, List.nil_append] at this ⊢
            exact this), HG⟩
      · obtain ⟨q1, q2⟩ : s < m ∧ m < e := of_decide_eq_true HT.out.symm
        have HC := Lib.hid (rotate_any g c N s m e (P ++ X.take i) (X.drop i) (Y.take j) (Y.drop j ++ Q) wc HR0.out (by simp only [List.length_append, HF.out.t1, HF.out.t2, HF.out.t3, HF.out.t4]; have := HF.out.n; have := HF.out.xl; have := HF.out.yl; have := HF.out.ha; omega) hl (by rw [List.length_append, HF.out.t1, HF.out.ha]; omega) (by rw [List.length_append, HF.out.t1, HF.out.t3, HF.out.ha]; omega) (by rw [List.length_append, HF.out.t1, HF.out.t2, HF.out.t3, HF.out.ha]; omega) (by rw [HF.out.t3]; omega) (by rw [HF.out.t2]; omega))
        clear HT
        go_wp2_with fail
        (with_reducible refine HC.out.mono ?_)
        rintro e' w3 ⟨rfl, hr, hg⟩
        have HZ := Lib.hid hr
        have HZ2 := Lib.hid (grown_trans HG.out hg)
        clear hr hg
        go_wp2_with fail
        go_meet
        exact ⟨rfl, Lib.hid (by have := HZ.out; simp only [List.append_assoc] at this ⊢; exact this), HZ2⟩
    case rest =>
      obtain ⟨rfl, HR2, HG2⟩ := hcut
      refine ‹∀ (a : Act) (w' : World), Code.wp Tryd.prog _ (bodyPost Tryd.prog Tryd.f76 _) a w' → _› _ _ ?_
      exact sym2_any g c N z a m b d s e i j P X Y Q w _ HIH HF hl b1 b2 b3 b4 d1 d2 k1 k2 k3 k4 k5 k6 k7 k8 k9 k10 HR2 HG2 _ _ _ _ _ _ _ _ _ _ _ _ _ _ _ _ _ _ _ _ _ _ _ _ _ _ _ _ _ _ _ _ _ _ _ _ _ _ _ _ _ _ _ _ _ _ _ _ _ _ _ _ _ _ _ _ _ _ _ _ _ _ _ _ _ _ _ _ _ _ _ _ _ _ _ _ _ _ _ _ _ _ _ _ _ _ _ _ _ _ _ _ _ _ _ _ _ _ _ _ _ _ _ _ _ _ _ _ _ _ _ _ _ _ _ _ _ _ _ _ _ _ _ _ _ _ _ _ _ _ _ _ _ _ _ _ _ _ _ _ _ _ _ _ _ _ _ _ _ _ _ _ _ _ _ _ _ _ _ _ _ _ _ _ _ _ _ _ _ _ _ _ _ _ _ _ _ _ _ _ _ _ _ _ _ _ _ _ _ _ _ _ _ _ _ _ _ _ _ _ _ _ _ _ _ _ _ _ _ _ _ _
end Go.Proofs.YtloghkiabgnpnaaDoor
namespace Go.Proofs.YtloghkiabgnpnaaDoor
open Go Go.RowKit Ros
set_option maxHeartbeats 8000000 in
set_option maxRecDepth 1000000 in
theorem sym_any (g c N : Nat) (hl : N ≤ 100000) : ∀ z, SymIH g c N z := by
  intro z
  induction z with
  | zero => intro a m b P X Y Q w h1 _ _ _ _ _ h2; omega
  | succ z IH =>
  intro a m b P X Y Q w hz h hN ha hm hb hx0 hy0 hX hY
  by_cases hx1 : X.length = 1
  · obtain ⟨x, rfl⟩ := List.length_eq_one_iff.1 hx1
    have e : (m : Int) = (a : Int) + 1 := by simp at hm; omega
    rw [e]
    exact sym_left g c N a b P Y Q x w (by simpa using h) (by simpa using hN) hl ha (by simpa using hb) hY
  by_cases hy1 : Y.length = 1
  · obtain ⟨y, rfl⟩ := List.length_eq_one_iff.1 hy1
    have e : (b : Int) = (m : Int) + 1 := by simp at hb; omega
    rw [e]
    exact sym_right g c N a m P X Q y w (by simpa using h) (by simpa using hN) hl ha hm hX (by omega)
  have HI := Lib.hid h
  have HX := Lib.hid hX
  have HY := Lib.hid hY
  have HA := Lib.hid ha
  have hXl : X.length = m - a := by omega
  have hYl : Y.length = b - m := by omega
  have b1 : a + 2 ≤ m := by omega
  have b2 : m + 2 ≤ b := by omega
  have b3 : b ≤ N := by omega
  have b4 : b - a ≤ z + 1 := by omega
  have HXl := Lib.hid hXl
  have HYl := Lib.hid hYl
  have HN := Lib.hid hN
  have HM := Lib.hid hm
  have HIH := Lib.hid IH
  have HL0 : Hid ((P ++ X ++ Y ++ Q).length = N) := Lib.hid (by simp; omega)
  obtain ⟨d, hd⟩ : ∃ d : Nat, ((a : Int) + (b : Int)) / 2 = (d : Int) := ⟨(a + b) / 2, by omega⟩
  have d1 : 2 * d ≤ a + b := by omega
  have d2 : a + b ≤ 2 * d + 1 := by omega
  obtain ⟨n, hn⟩ : ∃ n : Nat, (d : Int) + (m : Int) = (n : Int) := ⟨d + m, by omega⟩
  have n1 : d + m ≤ n := by omega
  have n2 : n ≤ d + m := by omega
  obtain ⟨p, hp⟩ : ∃ p : Nat, (n : Int) - 1 = (p : Int) := ⟨n - 1, by omega⟩
  have p1 : p + 1 ≤ n := by omega
  have p2 : n ≤ p + 1 := by omega
  obtain ⟨s1, hs1⟩ : ∃ s : Nat, s = n - b := ⟨_, rfl⟩
  have j1 : ((m : Int) - (a : Int) == 1) = false := beq_eq_false_iff_ne.2 (by omega)
  have j2 : ((b : Int) - (m : Int) == 1) = false := beq_eq_false_iff_ne.2 (by omega)
  have j3 : IntKind.i64.wrap ((m : Int) - (a : Int)) = (m : Int) - (a : Int) := IntWalk.i64_in _ ⟨by omega, by omega⟩
  have j4 : IntKind.i64.wrap ((b : Int) - (m : Int)) = (b : Int) - (m : Int) := IntWalk.i64_in _ ⟨by omega, by omega⟩
  have j5 : IntKind.i64.wrap (n : Int) = (n : Int) := IntWalk.i64_in _ ⟨by omega, by omega⟩
  have j6 : IntKind.i64.wrap (p : Int) = (p : Int) := IntWalk.i64_in _ ⟨by omega, by omega⟩
  clear h hN ha hm hb hX hY hXl hYl hx0 hy0 hx1 hy1 hz IH
  go_enter Tryd.func76, Tryd.ntmps76
  go_upto_if 140 with fail
  go_cut [20, 21] (fun s20 s21 wx => ∃ s r : Nat, s20 = .int .i64 s ∧ s21 = .int .i64 r ∧ a ≤ s ∧ n ≤ s + b ∧ s ≤ r ∧ r ≤ m ∧ r ≤ d ∧ (r = m ∨ r = d) ∧ (s = a ∨ s + b = n) ∧ Hid (wx = w))
  case first =>
    by_cases hdm : d < m
    · have hdd : decide (d < m) = true := decide_eq_true hdm
      have hs2 : (n : Int) - (b : Int) = (s1 : Int) := by omega
      have hs3 : IntKind.i64.wrap (s1 : Int) = (s1 : Int) := IntWalk.i64_in _ ⟨by omega, by omega⟩
      clear hs1
      go_wp2_with fail
      go_meet
      exact ⟨s1, d, rfl, rfl, by omega, by omega, by omega, by omega, by omega, .inr rfl, .inr (by omega), Lib.hid rfl⟩
    · have hdd : decide (d < m) = false := decide_eq_false hdm
      clear hs1
      go_wp2_with fail
      go_meet
      exact ⟨a, m, rfl, rfl, by omega, by omega, by omega, by omega, by omega, .inl rfl, .inl rfl, Lib.hid rfl⟩
  case rest =>
    obtain ⟨s0, r0, rfl, rfl, c1, c2, c3, c4, c5, c6, c7, HW⟩ := hcut
    have HI2 : Hid (RowL wc g (P ++ X ++ Y ++ Q)) := Lib.hid (by rw [HW.out]; exact HI.out)
    have HG2 : Hid (w.grownBy wc (some g)) := Lib.hid (by rw [HW.out]; exact World.grownBy.refl _ _)
    have C6 := Lib.hid c6
    have C7 := Lib.hid c7
    clear HI HW c6 c7 hs1 j1 j2 j3 j4
    go_wp2_with fail
    go_loopw [20, 21] (fun s20 s21 wr => ∃ s r : Nat, s20 = .int .i64 s ∧ s21 = .int .i64 r ∧ s0 ≤ s ∧ s ≤ r ∧ r ≤ r0 ∧ Hid (s = s0 ∨ ¬ Sets.lt Y[d - s]!.1 X[s - a - 1]!.1) ∧ Hid (r = r0 ∨ Sets.lt Y[d - r - 1]!.1 X[r - a]!.1) ∧ Hid (RowL wr g (P ++ X ++ Y ++ Q)) ∧ Hid (w.grownBy wr (some g))) (fun s20 s21 _ => (intOf s21).toNat - (intOf s20).toNat)
    case atStart => exact ⟨s0, r0, rfl, rfl, by omega, by omega, by omega, Lib.hid (.inl rfl), Lib.hid (.inl rfl), HI2, HG2⟩
    case round =>
      clear HI2 HG2
      obtain ⟨s, r, rfl, rfl, e1, e2, e3, H1, H2, HR, HG⟩ := hrel
      have HL := HL0
      by_cases hlt : s < r
      · have hdd : decide ((s : Int) < (r : Int)) = true := decide_eq_true (by omega)
        obtain ⟨k, hk⟩ : ∃ k : Nat, ((s : Int) + (r : Int)) / 2 = (k : Int) := ⟨(s + r) / 2, by omega⟩
        have hk1 : s ≤ k := by omega
        have hk2 : k < r := by omega
        obtain ⟨q, hq⟩ : ∃ q : Nat, (p : Int) - (k : Int) = (q : Int) := ⟨p - k, by omega⟩
        have hqw : IntKind.i64.wrap (q : Int) = (q : Int) := IntWalk.i64_in _ ⟨by omega, by omega⟩
        have i3 : (0 : Int) ≤ (k : Int) := by omega
        have i4 : (k : Int) < (N : Int) := by omega
        have i5 : (0 : Int) ≤ (q : Int) := by omega
        have i6 : (q : Int) < (N : Int) := by omega
        have EX' : Hid ((P ++ X ++ Y ++ Q)[q]! = Y[d - k - 1]!) := Lib.hid (at_seg (P ++ X) Y Q (a := m) (by rw [List.length_append]; exact HM.out) (by have := HYl.out; omega) (by omega))
        have EY' : Hid ((P ++ X ++ Y ++ Q)[k]! = X[k - a]!) := Lib.hid (by
          have := at_seg P X (Y ++ Q) (a := a) (i := k - a) (k := k) HA.out (by have := HXl.out; omega) (by omega)
          rwa [← List.append_assoc] at this)
        have E1 : Hid (d - (k + 1) = d - k - 1) := Lib.hid (by omega)
        have E2 : Hid (k + 1 - a - 1 = k - a) := Lib.hid (by omega)
        obtain ⟨⟨⟨x1, x2⟩, x3, x4⟩, hx⟩ : ∃ u, u = Y[d - k - 1]! := ⟨_, rfl⟩
        obtain ⟨⟨⟨y1, y2⟩, y3, y4⟩, hy⟩ : ∃ u, u = X[k - a]! := ⟨_, rfl⟩
        have EX := Lib.hid (EX'.out.trans hx.symm)
        have EY := Lib.hid (EY'.out.trans hy.symm)
        have FX := Lib.hid hx
        have FY := Lib.hid hy
        clear EX' EY' hx hy
        have HC := Lib.hid fun W => cmpM_any x1 x2 x3 x4 y1 y2 y3 y4 W
        obtain ⟨z, hz⟩ : ∃ z, z = cmpZ x1 x2 y1 y2 := ⟨_, rfl⟩
        rw [← hz] at HC
        have HQ := Lib.hid fun w' (hb : Below wr.heap.size wr w') => (show (w'.cell? ⟨g, q * 4, none⟩ = some (.int .i64 x1) ∧ w'.cell? ⟨g, q * 4 + 1, none⟩ = some (.int .i64 x2) ∧ w'.cell? ⟨g, q * 4 + 2, none⟩ = some (.int .u8 x3) ∧ w'.cell? ⟨g, q * 4 + 3, none⟩ = some (.int .i64 x4)) ∧ (w'.cell? ⟨g, k * 4, none⟩ = some (.int .i64 y1) ∧ w'.cell? ⟨g, k * 4 + 1, none⟩ = some (.int .i64 y2) ∧ w'.cell? ⟨g, k * 4 + 2, none⟩ = some (.int .u8 y3) ∧ w'.cell? ⟨g, k * 4 + 3, none⟩ = some (.int .i64 y4)) ∧ Hid (Below wr.heap.size wr w') from
          ⟨rowL_cells (rowL_kept HR.out hb) (by rw [HL.out]; omega) EX.out, rowL_cells (rowL_kept HR.out hb) (by rw [HL.out]; omega) EY.out, Lib.hid hb⟩)
        by_cases hc : Sets.lt (x1, x2) (y1, y2)
        · have hzd : decide (z < 0) = true := by rw [hz]; exact cmpZ_lt hc
          have HCt := Lib.hid hc
          clear hz hc
          go_wp2_with fail
          go_region_held3 (fun w' => (w'.cell? ⟨g, q * 4, none⟩ = some (.int .i64 x1) ∧ w'.cell? ⟨g, q * 4 + 1, none⟩ = some (.int .i64 x2) ∧ w'.cell? ⟨g, q * 4 + 2, none⟩ = some (.int .u8 x3) ∧ w'.cell? ⟨g, q * 4 + 3, none⟩ = some (.int .i64 x4)) ∧ (w'.cell? ⟨g, k * 4, none⟩ = some (.int .i64 y1) ∧ w'.cell? ⟨g, k * 4 + 1, none⟩ = some (.int .i64 y2) ∧ w'.cell? ⟨g, k * 4 + 2, none⟩ = some (.int .u8 y3) ∧ w'.cell? ⟨g, k * 4 + 3, none⟩ = some (.int .i64 y4)) ∧ Hid (Below wr.heap.size wr w'))
            (first | exact HQ.out _ (Below.refl _ _).drew | exact HQ.out _ HK.out)
            (first | (go_at_call 68; (with_reducible refine (HC.out _).mono ?_); rintro e w' ⟨rfl, hb⟩; have HK := Lib.hid (below_after (Below.refl _ _).drew hb (Nat.le_refl _)); clear hb))
          have HRn := Lib.hid (rowL_kept HR.out HK.out)
          have HGn := Lib.hid (grown_below HG.out HK.out)
          go_wp2_with fail
          go_roundw
          case rel => exact ⟨s, k, rfl, rfl, by omega, by omega, by omega, H1, Lib.hid (.inr (by rw [← FX.out, ← FY.out]; exact HCt.out)), HRn, HGn⟩
          case measure => simp [intOf]; omega
        · have hzd : decide (z < 0) = false := by rw [hz]; exact cmpZ_ge hc
          have HCt := Lib.hid hc
          clear hz hc
          go_wp2_with fail
          go_region_held3 (fun w' => (w'.cell? ⟨g, q * 4, none⟩ = some (.int .i64 x1) ∧ w'.cell? ⟨g, q * 4 + 1, none⟩ = some (.int .i64 x2) ∧ w'.cell? ⟨g, q * 4 + 2, none⟩ = some (.int .u8 x3) ∧ w'.cell? ⟨g, q * 4 + 3, none⟩ = some (.int .i64 x4)) ∧ (w'.cell? ⟨g, k * 4, none⟩ = some (.int .i64 y1) ∧ w'.cell? ⟨g, k * 4 + 1, none⟩ = some (.int .i64 y2) ∧ w'.cell? ⟨g, k * 4 + 2, none⟩ = some (.int .u8 y3) ∧ w'.cell? ⟨g, k * 4 + 3, none⟩ = some (.int .i64 y4)) ∧ Hid (Below wr.heap.size wr w'))
            (first | exact HQ.out _ (Below.refl _ _).drew | exact HQ.out _ HK.out)
            (first | (go_at_call 68; (with_reducible refine (HC.out _).mono ?_); rintro e w' ⟨rfl, hb⟩; have HK := Lib.hid (below_after (Below.refl _ _).drew hb (Nat.le_refl _)); clear hb))
          have HRn := Lib.hid (rowL_kept HR.out HK.out)
          have HGn := Lib.hid (grown_below HG.out HK.out)
          go_wp2_with fail
          go_roundw
          case rel => exact ⟨k + 1, r, by go_num, rfl, by omega, by omega, by omega, Lib.hid (.inr (by rw [E1.out, E2.out, ← FX.out, ← FY.out]; exact HCt.out)), H2, HRn, HGn⟩
          case measure => simp [intOf]; omega
      · obtain rfl : s = r := by omega
        have hdd : decide ((s : Int) < (s : Int)) = false := decide_eq_false (by omega)
        obtain ⟨e, he⟩ : ∃ e : Nat, (n : Int) - (s : Int) = (e : Int) := ⟨n - s, by omega⟩
        have hew : IntKind.i64.wrap (e : Int) = (e : Int) := IntWalk.i64_in _ ⟨by omega, by omega⟩
        obtain ⟨i, hi⟩ : ∃ i, i = s - a := ⟨_, rfl⟩
        obtain ⟨j, hj⟩ : ∃ j, j = d - s := ⟨_, rfl⟩
        have HF : Hid (SymF P X Y Q N a m b s e i j) := Lib.hid (by
          have l1 := HXl.out
          have l2 := HYl.out
          refine ⟨HX.out, HY.out, Stab.cut_strict HX.out HY.out (by omega) ?_, Stab.cut_low HX.out HY.out (by omega) ?_, HA.out, by rw [List.length_take]; omega, by rw [List.length_take]; omega, by rw [List.length_drop]; omega, by rw [List.length_drop]; omega, HN.out, HXl.out, HYl.out⟩
          · rcases H2.out with h | h
            · rcases C6.out with k | k
              · exact .inl (by omega)
              · exact .inr (.inl (by omega))
            · exact .inr (.inr (by rw [hi, hj]; exact h))
          · rcases H1.out with h | h
            · rcases C7.out with k | k
              · exact .inl (by omega)
              · exact .inr (.inl (by omega))
            · exact .inr (.inr (by rw [hi, hj]; exact h)))
        have k1 : s ≤ a + i := by omega
        have k2 : a + i ≤ s := by omega
        have k3 : d ≤ s + j := by omega
        have k4 : s + j ≤ d := by omega
        have k5 : e + s ≤ d + m := by omega
        have k6 : d + m ≤ e + s := by omega
        have k7 : a ≤ s := by omega
        have k8 : s ≤ m := by omega
        have k9 : s ≤ d := by omega
        have k10 : e ≤ b := by omega
        clear hi hj H1 H2 C6 C7
        go_upto_region 38 with fail
        go_cut [24] (fun s24 wx => s24 = .int .i64 e ∧ Hid (wx = wr))
        case first =>
          go_wp2_with fail
          go_meet
          exact ⟨rfl, Lib.hid rfl⟩
        case rest =>
          obtain ⟨rfl, HWx⟩ := hcut
          have HR2 := Lib.hid (show RowL wc g _ from HWx.out ▸ HR.out)
          have HG2 := Lib.hid (show w.grownBy wc (some g) from HWx.out ▸ HG.out)
          refine ‹∀ (a : Act) (w' : World), Code.wp Tryd.prog _ (bodyPost Tryd.prog Tryd.f76 _) a w' → _› _ _ ?_
          exact sym1_any g c N z a m b d s e i j P X Y Q w _ HIH HF hl b1 b2 b3 b4 d1 d2 k1 k2 k3 k4 k5 k6 k7 k8 k9 k10 HR2 HG2 _ _ _ _ _ _ _ _ _ _ _ _ _ _ _ _ _ _ _ _ _ _ _ _ _ _ _ _ _ _ _ _ _ _ _ _ _ _ _ _ _ _ _ _ _ _ _ _ _ _ _ _ _ _ _ _ _ _ _ _ _ _ _ _ _ _ _ _ _ _ _ _ _ _ _ _ _ _ _ _ _ _ _ _ _ _ _ _ _ _ _ _ _ _ _ _ _ _ _ _ _ _ _ _ _ _ _ _ _ _ _ _ _ _ _ _ _ _ _ _ _ _ _ _ _ _ _ _ _ _ _ _ _ _ _ _ _ _ _ _ _ _ _ _ _ _ _ _ _ _ _ _ _ _ _ _ _ _ _ _ _ _ _ _ _ _ _ _ _ _ _ _ _ _ _ _ _ _ _ _ _ _ _ _ _ _ _ _ _ _ _ _ _ _ _ _ _ _ _ _ _ _ _ _ _ _ _ _ _ _ _ _
end Go.Proofs.YtloghkiabgnpnaaDoor
