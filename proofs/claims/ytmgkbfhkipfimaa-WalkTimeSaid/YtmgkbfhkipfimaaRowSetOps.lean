/-
  Carried over: contracts of this program's functions. No statement is proved in this text.
-/
import Derived.Test.YtmgkbfhkipfimaaIdeSetOps
import Derived.Test.YtmgkbfhkipfimaaRowSort
set_option maxRecDepth 20000
set_option maxRecDepth 20000
namespace Go.Proofs.Ytmgkbfhkipfimaa
open Go.RowKit Sets
theorem set_new (v : Value) (l : List (Int × Int)) (w : World) (h : Ids w v l) (hl : l.length ≤ 40000) : Calls Try.prog 22 #[v] w (News (setOf l) w) := by
  have HI := Lib.hid h
  clear h
  go_enter Try.func22, Try.ntmps22
  go_wp2_with fail
  refine (sorted_new l.length v l _ HI.out (Nat.le_refl _) hl).mono ?_
  rintro e w1 ⟨r, rfl, hi, hb⟩
  have H1 := Lib.hid hi
  have B1 := Lib.hid hb
  clear hi hb
  go_wp2_with fail
  go_ret
  exact ⟨r, rfl, H1.out, B1.out⟩
theorem set_anyROW (v : Value) (l : List (Int × Int)) (w : World) (h : Ids w v l) (hl : l.length ≤ 40000) : Calls Try.prog 22 #[v] w (Lists (setOf l) w) := (set_new v l w h hl).mono fun _ _ h => h.lists
theorem chosen_new (K : Nat) (k : Bool → Bool → Bool) (hK : Keeps K k) (v u : Value) (l m : List (Int × Int)) (w : World) (h : Ids w v l) (h2 : Ids w u m) (hl : l.length ≤ 40000) (hm : m.length ≤ 40000) :
    Calls Try.prog 28 #[v, u, .func (.func K) #[] #[]] w (News (mrg k (setOf l) (setOf m)) w) := by
  have HI := Lib.hid h
  have HJ := Lib.hid h2
  have HK := Lib.hid hK
  have hl2 := setOf_len l
  have hm2 := setOf_len m
  clear h h2 hK
  go_enter Try.func28, Try.ntmps28
  go_wp2_with fail
  refine (set_new v l _ HI.out hl).mono ?_
  rintro e w1 ⟨r, rfl, hi, hb⟩
  have H1 := Lib.hid hi
  have B1 := Lib.hid hb
  have J1 := Lib.hid (HJ.out.below hb)
  clear hi hb
  go_wp2_with fail
  refine (set_new u m _ J1.out hm).mono ?_
  rintro e w2 ⟨r2, rfl, hi, hb⟩
  have H2 := Lib.hid hi
  have B2 := Lib.hid (below_after B1.out hb (Nat.le_refl _))
  have K2 := Lib.hid (H1.out.below hb)
  clear hi hb
  go_wp2_with fail
  refine (merged_new K k HK.out r r2 _ _ _ (ids_of_owns K2.out) (ids_of_owns H2.out) (by omega) (by omega)).mono ?_
  rintro e w3 ⟨r3, rfl, hi, hb⟩
  have H3 := Lib.hid hi
  have B3 := Lib.hid (below_after B2.out hb (Nat.le_refl _))
  clear hi hb
  go_wp2_with fail
  go_ret
  exact ⟨r3, rfl, H3.out.mono B2.out.size, B3.out⟩
theorem chosen_anyROW (K : Nat) (k : Bool → Bool → Bool) (hK : Keeps K k) (v u : Value) (l m : List (Int × Int)) (w : World) (h : Ids w v l) (h2 : Ids w u m) (hl : l.length ≤ 40000) (hm : m.length ≤ 40000) :
    Calls Try.prog 28 #[v, u, .func (.func K) #[] #[]] w (Lists (mrg k (setOf l) (setOf m)) w) := (chosen_new K k hK v u l m w h h2 hl hm).mono fun _ _ h => h.lists
theorem without_new (v u : Value) (l m : List (Int × Int)) (w : World) (h : Ids w v l) (h2 : Ids w u m) (hl : l.length ≤ 40000) (hm : m.length ≤ 40000) :
    Calls Try.prog 17 #[v, u] w (News (without l m) w) := by
  have HI := Lib.hid h
  have HJ := Lib.hid h2
  clear h h2
  go_enter Try.func17, Try.ntmps17
  go_wp2_with fail
  refine (chosen_new 29 _ keeps_not v u l m _ HI.out HJ.out hl hm).mono ?_
  rw [mrg_not]
  rintro e w3 ⟨r3, rfl, hi, hb⟩
  have H3 := Lib.hid hi
  have B3 := Lib.hid hb
  clear hi hb
  go_wp2_with fail
  go_ret
  exact ⟨r3, rfl, H3.out, B3.out⟩
theorem without_anyROW (v u : Value) (l m : List (Int × Int)) (w : World) (h : Ids w v l) (h2 : Ids w u m) (hl : l.length ≤ 40000) (hm : m.length ≤ 40000) :
    Calls Try.prog 17 #[v, u] w (Lists (without l m) w) := (without_new v u l m w h h2 hl hm).mono fun _ _ h => h.lists
end Go.Proofs.Ytmgkbfhkipfimaa
