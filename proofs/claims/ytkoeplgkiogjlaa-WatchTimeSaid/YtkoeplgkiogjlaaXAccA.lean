/-
  Carried over: contracts of this program's functions. No statement is proved in this text.
-/
import Derived.WalkKit
set_option maxRecDepth 20000
namespace Go.Proofs.Ytkoeplgkiogjlaa
/-- A number kept within bounds. -/
def clampI (x lo hi : Int) : Int := max lo (min x hi)
/-- A detector: its bounds, its window, whether there is a last time, and which, and its gaps. -/
structure Dt where
  mn : Int
  mx : Int
  wi : Int
  bg : Bool
  la : Int
  ga : List Int
def Dt.time (d : Dt) (x : Int) : Int := clampI x d.la 1099511627776
def recd (wi : Int) (g : List Int) (x : Int) : List Int := g.drop (clampI (g.length + 1 - wi) 0 g.length).toNat ++ [x]
def Dt.start (d : Dt) (x : Int) : Dt := if d.bg = true then d else ⟨d.mn, d.mx, d.wi, true, d.time x, d.ga⟩
def Dt.heard (d : Dt) (x : Int) : Dt := ⟨d.mn, d.mx, d.wi, true, d.time x, if d.bg = true then recd d.wi d.ga (d.time x - d.la) else d.ga⟩
def sumI (l : List Int) : Int := l.foldl (fun a b => a + b) 0
def Dt.limit (d : Dt) : Int := if d.ga.length = 0 then d.mx else clampI ((2 * sumI d.ga + d.ga.length - 1).tdiv d.ga.length) d.mn d.mx
def Dt.late (d : Dt) (x : Int) : Bool := d.bg && decide (d.limit < d.time x - d.la)
/-- A detector that New made, whatever was done to it since. -/
structure Dt.Ok (d : Dt) : Prop where
  mn : 1 ≤ d.mn
  mx : d.mn ≤ d.mx
  hi : d.mx ≤ 4096
  wi : 1 ≤ d.wi
  wh : d.wi ≤ 4096
  l0 : 0 ≤ d.la
  l1 : d.la ≤ 1099511627776
  len : (d.ga.length : Int) ≤ d.wi
  each : ∀ g ∈ d.ga, 0 ≤ g ∧ g ≤ 1099511627776
  no : d.bg = false → d.la = 0 ∧ d.ga = []
theorem clamp_range {x lo hi : Int} (h : lo ≤ hi) : lo ≤ clampI x lo hi ∧ clampI x lo hi ≤ hi := by unfold clampI; omega
theorem Dt.time_range {d : Dt} (h : d.Ok) (x : Int) : d.la ≤ d.time x ∧ d.time x ≤ 1099511627776 := clamp_range h.l1
theorem recd_len {wi : Int} {g : List Int} {x : Int} (h1 : 1 ≤ wi) (h2 : (g.length : Int) ≤ wi) : ((recd wi g x).length : Int) ≤ wi ∧ 0 < (recd wi g x).length := by
  unfold recd clampI
  simp only [List.length_append, List.length_drop, List.length_cons, List.length_nil]
  omega
theorem recd_mem {wi : Int} {g : List Int} {x y : Int} (h : y ∈ recd wi g x) : y ∈ g ∨ y = x := by
  unfold recd at h
  rcases List.mem_append.1 h with h | h
  · exact .inl (List.mem_of_mem_drop h)
  · exact .inr (by simpa using h)
theorem Dt.start_ok {d : Dt} (h : d.Ok) (x : Int) : (d.start x).Ok := by
  unfold Dt.start
  split
  · exact h
  · have := Dt.time_range h x
    have := h.l0
    exact ⟨h.mn, h.mx, h.hi, h.wi, h.wh, by show 0 ≤ d.time x; omega, by show d.time x ≤ _; omega, h.len, h.each, fun e => by cases e⟩
theorem Dt.heard_ok {d : Dt} (h : d.Ok) (x : Int) : (d.heard x).Ok := by
  have h1 := Dt.time_range h x
  have h2 := h.l0
  have h3 := h.l1
  have h4 := recd_len (x := d.time x - d.la) h.wi h.len
  refine ⟨h.mn, h.mx, h.hi, h.wi, h.wh, by show 0 ≤ d.time x; omega, by show d.time x ≤ _; omega, ?_, ?_, fun e => by cases e⟩
  · show ((if d.bg = true then recd d.wi d.ga (d.time x - d.la) else d.ga).length : Int) ≤ d.wi
    split
    · exact h4.1
    · exact h.len
  · show ∀ g ∈ (if d.bg = true then recd d.wi d.ga (d.time x - d.la) else d.ga), 0 ≤ g ∧ g ≤ 1099511627776
    intro g hg
    split at hg
    · rcases recd_mem hg with hg | rfl
      · exact h.each g hg
      · omega
    · exact h.each g hg
/-- Which bounds and windows may be. -/
def newOk (mn mx wi : Int) : Bool := decide (1 ≤ mn ∧ mn ≤ mx ∧ mx ≤ 4096 ∧ 1 ≤ wi ∧ wi ≤ 4096)
def Dt.new (mn mx wi : Int) : Dt := ⟨mn, mx, wi, false, 0, []⟩
theorem newOk_yes {mn mx wi : Int} (h : newOk mn mx wi = true) : 1 ≤ mn ∧ mn ≤ mx ∧ mx ≤ 4096 ∧ 1 ≤ wi ∧ wi ≤ 4096 := by simpa [newOk] using h
theorem Dt.new_ok {mn mx wi : Int} (h : newOk mn mx wi = true) : (Dt.new mn mx wi).Ok := by
  obtain ⟨h1, h2, h3, h4, h5⟩ := newOk_yes h
  refine ⟨h1, h2, h3, h4, h5, ?_, ?_, ?_, ?_, fun _ => ⟨rfl, rfl⟩⟩
  · show (0 : Int) ≤ 0
    omega
  · show (0 : Int) ≤ 1099511627776
    omega
  · show ((0 : Nat) : Int) ≤ wi
    omega
  · intro g hg
    cases hg
theorem foldl_add (l : List Int) : ∀ a : Int, l.foldl (fun a b => a + b) a = a + sumI l := by
  unfold sumI
  induction l with
  | nil => intro a; simp
  | cons x l ih => intro a; rw [List.foldl_cons, List.foldl_cons, ih, ih (0 + x)]; omega
theorem sum_cons (x : Int) (l : List Int) : sumI (x :: l) = x + sumI l := by
  show (x :: l).foldl (fun a b => a + b) 0 = _
  rw [List.foldl_cons, foldl_add]
  omega
theorem sum_append (l m : List Int) : sumI (l ++ m) = sumI l + sumI m := by
  show (l ++ m).foldl (fun a b => a + b) 0 = _
  rw [List.foldl_append, foldl_add, foldl_add]
  omega
theorem sum_take {l : List Int} {k : Nat} (h : k < l.length) : sumI (l.take (k + 1)) = sumI (l.take k) + l[k] := by
  rw [List.take_succ_eq_append_getElem h, sum_append]
  congr 1
  show 0 + l[k] = l[k]
  omega
theorem sum_range {l : List Int} (h : ∀ g ∈ l, 0 ≤ g ∧ g ≤ 1099511627776) : 0 ≤ sumI l ∧ sumI l ≤ 1099511627776 * (l.length : Int) := by
  induction l with
  | nil => exact ⟨Int.le_refl _, Int.le_refl _⟩
  | cons x l ih =>
    have h1 := ih fun g hg => h g (List.mem_cons_of_mem _ hg)
    have h2 := h x (by simp)
    rw [sum_cons, List.length_cons]
    omega
theorem Dt.limit_range {d : Dt} (h : d.Ok) : d.mn ≤ d.limit ∧ d.limit ≤ d.mx := by
  unfold Dt.limit
  split
  · exact ⟨h.mx, Int.le_refl _⟩
  · exact clamp_range h.mx
/-- A step: how it is, and when. -/
abbrev St := Int × Int
def stepD (d : Dt) (s : St) : Dt := if s.1 = 0 then d.start s.2 else d.heard s.2
theorem stepD_ok {d : Dt} (h : d.Ok) (s : St) : (stepD d s).Ok := by
  unfold stepD
  split
  · exact Dt.start_ok h _
  · exact Dt.heard_ok h _
def runD (d : Dt) (l : List St) : Dt := l.foldl stepD d
theorem runD_ok {l : List St} : ∀ {d : Dt}, d.Ok → (runD d l).Ok := by
  induction l with
  | nil => intro d h; exact h
  | cons s l ih => intro d h; exact ih (stepD_ok h s)
theorem runD_take {d : Dt} {l : List St} {k : Nat} (h : k < l.length) : runD d (l.take (k + 1)) = stepD (runD d (l.take k)) l[k] := by
  unfold runD
  rw [List.take_succ_eq_append_getElem h, List.foldl_append]
  rfl
end Go.Proofs.Ytkoeplgkiogjlaa
