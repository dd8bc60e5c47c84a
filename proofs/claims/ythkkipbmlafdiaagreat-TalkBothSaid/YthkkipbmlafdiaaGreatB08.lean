/-
  Contracts and plain facts.
-/
import Derived.Test.YthkkipbmlafdiaaGreatOy
import Derived.Laws.IdiomCopy
import Derived.Laws.NewBlocks
import Derived.WalkKit
import Derived.Below
import Derived.OwnWalk
import Derived.Deep.AppendLies
import Derived.Laws.AppendOwnNone
import Derived.Deep.Slices
import Derived.Lib.Hide
import Derived.Lib.SliceRun
import Derived.Lib.SlKept
import Derived.BigRegion
import Derived.Test.YthkkipbmlafdiaaGreatB00
import Derived.Test.YthkkipbmlafdiaaGreatB03
import Derived.Test.YthkkipbmlafdiaaGreatB04
import Derived.Test.YthkkipbmlafdiaaGreatB05
import Derived.Test.YthkkipbmlafdiaaGreatB06
import Derived.Test.YthkkipbmlafdiaaGreatB07
set_option maxRecDepth 20000
namespace Go.Proofs.YthkkipbmlafdiaaGreat
section
open Go Go.RowKit Ros
def encM (x : Mm) : List Value := [.int .i64 x.1.1, .int .i64 x.1.2, .int .u8 x.2.1, .int .i64 x.2.2]
theorem encM_len (x : Mm) : (encM x).length = 4 := rfl
theorem encM_one (x : Mm) : ∀ u ∈ encM x, u.oneCell' = true := by
 intro u hu;simp [encM] at hu
 rcases hu with rfl | rfl | rfl | rfl <;> rfl
abbrev Ms (w : World) (v : Value) (l : List Mm) : Prop := Rcs encM 4 w v l
theorem Ms.at_ {w w' : World} {A : Option Addr} {n c : Nat} {l : List Mm} (h : Ms w (.slice A n c) l) (hw : Below w.heap.size w w') {k : Nat} (hk : k < l.length) :
  ∃ ad, A = some ad ∧ w'.cell? (ad.add (k * 4)) = some (.int .i64 l[k].1.1) ∧ w'.cell? ⟨(ad.add (k * 4)).block, (ad.add (k * 4)).off + 1, none⟩ = some (.int .i64 l[k].1.2) ∧ w'.cell? ⟨(ad.add (k * 4)).block, (ad.add (k * 4)).off + 2, none⟩ = some (.int .u8 l[k].2.1) ∧ w'.cell? ⟨(ad.add (k * 4)).block, (ad.add (k * 4)).off + 3, none⟩ = some (.int .i64 l[k].2.2) := by
 obtain ⟨ad, rfl⟩ := h.addr (by omega)
 exact ⟨ad, rfl, h.first hw hk rfl, h.cell hw hk 1 (by omega) rfl, h.cell hw hk 2 (by omega) rfl, h.cell hw hk 3 (by omega) rfl⟩
theorem info32 : (Tryz.prog.info? 31).map (fun i => (i.zero, i.size, i.bytes)) = some (some (.agg #[.int .i64 0, .int .i64 0, .int .u8 0, .int .i64 0]), 4, 0x20) := by kernel_rfl
section
variable {α : Type} [Inhabited α] {enc : α → List Value} {sz : Nat}
end
theorem RowAtR.mem {w : World} {g : Nat} {d : Array Mm} (h : RowAtR encM 4 w g d) {k : Nat} (hk : k < d.size) :
  (w.cell? ⟨g, k * 4, none⟩ = some (.int .i64 d[k]!.1.1) ∧ w.cell? ⟨g, k * 4 + 1, none⟩ = some (.int .i64 d[k]!.1.2) ∧ w.cell? ⟨g, k * 4 + 2, none⟩ = some (.int .u8 d[k]!.2.1) ∧ w.cell? ⟨g, k * 4 + 3, none⟩ = some (.int .i64 d[k]!.2.2)) ∧
  (w.frozen? ⟨g, k * 4, none⟩ = false ∧ w.frozen? ⟨g, k * 4 + 1, none⟩ = false ∧ w.frozen? ⟨g, k * 4 + 2, none⟩ = false ∧ w.frozen? ⟨g, k * 4 + 3, none⟩ = false) :=
 ⟨⟨(h.2 k hk 0 _ rfl).1, (h.2 k hk 1 _ rfl).1, (h.2 k hk 2 _ rfl).1, (h.2 k hk 3 _ rfl).1⟩, (h.2 k hk 0 _ rfl).2, (h.2 k hk 1 _ rfl).2, (h.2 k hk 2 _ rfl).2, (h.2 k hk 3 _ rfl).2⟩
theorem rowM_set {w : World} {g : Nat} {d : Array Mm} (h : RowAtR encM 4 w g d) {i : Nat} (hi : i < d.size) (a j s n : Int) :
  RowAtR encM 4 ((((w.setCell ⟨g, i * 4, none⟩ (.int .i64 a)).setCell ⟨g, i * 4 + 1, none⟩ (.int .i64 j)).setCell ⟨g, i * 4 + 2, none⟩ (.int .u8 s)).setCell ⟨g, i * 4 + 3, none⟩ (.int .i64 n)) g (d.setIfInBounds i ((a, j), s, n)) :=
 rowAtR_set encM_len h hi ((a, j), s, n)
theorem grown_setM {a w : World} {g : Nat} (h : a.grownBy w (some g)) (i : Nat) (x y z t : Value) : a.grownBy ((((w.setCell ⟨g, i * 4, none⟩ x).setCell ⟨g, i * 4 + 1, none⟩ y).setCell ⟨g, i * 4 + 2, none⟩ z).setCell ⟨g, i * 4 + 3, none⟩ t) (some g) := grown_setCells h (i * 4) [x, y, z, t]
theorem below_setM {b0 : Nat} {a w : World} {g : Nat} (h : Below b0 a w) (hg : b0 ≤ g) (i : Nat) (x y z t : Value) : Below b0 a ((((w.setCell ⟨g, i * 4, none⟩ x).setCell ⟨g, i * 4 + 1, none⟩ y).setCell ⟨g, i * 4 + 2, none⟩ z).setCell ⟨g, i * 4 + 3, none⟩ t) := below_setCells h hg (i * 4) [x, y, z, t]
end
section
open Go.RowKit Ros
def MBox (w : World) (g : Nat) (a i s n : Int) : Prop := w.heap[g]? = some (.cells #[.int .i64 a, .int .i64 i, .int .u8 s, .int .i64 n] 31 (0, 0))
theorem aw_ {w : World} {g : Nat} {a i s n : Int} (h : MBox w g a i s n) : w.cell? ⟨g, 0, none⟩ = some (.int .i64 a) ∧ w.cell? ⟨g, 1, none⟩ = some (.int .i64 i) ∧ w.cell? ⟨g, 2, none⟩ = some (.int .u8 s) ∧ w.cell? ⟨g, 3, none⟩ = some (.int .i64 n) := by
 unfold MBox at h;exact ⟨by rw [cell_of_row _ _ 0 _ _ _ h]; rfl, by rw [cell_of_row _ _ 1 _ _ _ h]; rfl, by rw [cell_of_row _ _ 2 _ _ _ h]; rfl, by rw [cell_of_row _ _ 3 _ _ _ h]; rfl⟩
theorem mbox_free {w : World} {g : Nat} {a i s n : Int} (h : MBox w g a i s n) : w.frozen? ⟨g, 0, none⟩ = false ∧ w.frozen? ⟨g, 1, none⟩ = false ∧ w.frozen? ⟨g, 2, none⟩ = false ∧ w.frozen? ⟨g, 3, none⟩ = false := by
 unfold MBox at h;exact ⟨by simp [World.frozen?, h], by simp [World.frozen?, h], by simp [World.frozen?, h], by simp [World.frozen?, h]⟩
theorem mbox_new (w : World) (a i s n : Int) : MBox (w.alloc (.cells #[.int .i64 a, .int .i64 i, .int .u8 s, .int .i64 n] 31)) w.heap.size a i s n := heap_alloc_new w _
theorem mbox_lt {w : World} {g : Nat} {a i s n : Int} (h : MBox w g a i s n) : g < w.heap.size := row_lt h
theorem mbox_below {w w' : World} {g : Nat} {a i s n : Int} (h : MBox w g a i s n) (hb : Below w.heap.size w w') : MBox w' g a i s n := (hb.block _ (mbox_lt h)).trans h
def Lives (w : World) (g : Nat) (L : Nat → Int) : Prop := g < w.heap.size ∧ ∀ k, k < 13 → w.cell? ⟨g, k, none⟩ = some (.int .i64 (L k)) ∧ w.frozen? ⟨g, k, none⟩ = false
theorem lives_block {w w' : World} {g : Nat} {L : Nat → Int} (h : Lives w g L) (hs : w.heap.size ≤ w'.heap.size) (hb : w'.heap[g]? = w.heap[g]?) : Lives w' g L :=
 ⟨Nat.lt_of_lt_of_le h.1 hs, fun k hk => ⟨(World.cell?_of_block hb).trans (h.2 k hk).1, (World.frozen?_of_block hb).trans (h.2 k hk).2⟩⟩
theorem lives_below {w w' : World} {g : Nat} {L : Nat → Int} (h : Lives w g L) (hb : Below w.heap.size w w') : Lives w' g L := lives_block h hb.size (hb.block g h.1)
theorem lives_grown {w w' : World} {g r : Nat} {L : Nat → Int} (h : Lives w g L) (hb : w.grownBy w' (some r)) (hg : g ≠ r) : Lives w' g L := lives_block h hb.size (hb.block g h.1 (by simpa using fun e => hg e))
theorem one_grown {w w' : World} {g r t : Nat} {v : Value} (h : One w g t v) (hb : w.grownBy w' (some r)) (hg : g ≠ r) : One w' g t v := (hb.block g (one_lt h) (by simpa using fun e => hg e)).trans h
structure AsksM (K : Nat) (caps : Array Value) (p : Mm → Bool) (S : World → Prop) (D : Mm → Prop) : Prop where
 enters : ∀ args W, (callFunc K args).run Tryz.prog W = .ok (.enter K args) W
 kept : ∀ W W', S W → Below W.heap.size W W' → S W'
 call : ∀ a i s n W, D ((a, i), s, n) → S W → Calls Tryz.prog K (#[.agg #[.int .i64 a, .int .i64 i, .int .u8 s, .int .i64 n]] ++ caps) W fun e w' => e = .returned (.bool (p ((a, i), s, n))) ∧ Below W.heap.size W w'
def badIROS (x : Id2) : Bool := !vid x.1 x.2
theorem badI_asksROS : AsksI 119 #[] badIROS (fun _ => True) where
 enters := fun args W => enters_fn Tryz.func119 (by kernel_rfl) rfl args W
 kept _ _ _ _ := trivial
 call a i W _ := by
  have HB := hd_ (ad_ W (.cells #[.int .i64 a, .int .i64 i] 29));have HN : Hid (badIROS (a, i) = !vid a i) := hd_ rfl
  have HC := hd_ fun W => may_anyROS a i W
  generalize badIROS (a, i) = z at *;generalize vid a i = y at *;have HE := hd_ HN.out.symm;clear HN;go_enter Tryz.func119, Tryz.ntmps119
  go_wp2_with fail;refine (HC.out _).mono ?_
  rintro e w1 ⟨rfl, hb⟩;have H1 := hd_ (ba_ HB.out hb);clear hb;go_wp2_with fail;go_ret;exact ⟨af_ HE.out, H1.out⟩
set_option maxHeartbeats 1000000 in
theorem counts_any (a i s n : Int) (w : World) :
  Calls Tryz.prog 117 #[.agg #[.int .i64 a, .int .i64 i, .int .u8 s, .int .i64 n]] w fun e w' => e = .returned (.bool (cnt ((a, i), s, n))) ∧ Below w.heap.size w w' := by
 have HB := hd_ (ad_ w (.cells #[.int .i64 a, .int .i64 i, .int .u8 s, .int .i64 n] 31));have HM := hd_ (mbox_new w a i s n);have HC := hd_ fun W => may_anyROS a i W
 have HE : Hid (cnt ((a, i), s, n) = (vid a i && decide (1 ≤ s ∧ s ≤ 7))) := hd_ rfl
 generalize vid a i = y at *;cases y
 ·have HR := hd_ (show cnt ((a, i), s, n) = false by rw [HE.out]; rfl)
  go_enter Tryz.func117, Tryz.ntmps117
  go_wp2_with fail;refine (HC.out _).mono ?_
  rintro e w1 ⟨rfl, hb⟩;have H1 := hd_ (ba_ HB.out hb);clear hb;go_wp2_with fail;go_ret;exact ⟨af_ HR.out.symm, H1.out⟩
 ·by_cases h1 : 1 ≤ s
  ·by_cases h2 : s ≤ 7
   ·have HR := hd_ (show cnt ((a, i), s, n) = true by rw [HE.out]; simp; omega)
    clear HE;go_enter Tryz.func117, Tryz.ntmps117
    go_wp2_with fail;refine (HC.out _).mono ?_
    rintro e w1 ⟨rfl, hb⟩;have H1 := hd_ (ba_ HB.out hb);obtain ⟨c1, c2, c3, c4⟩ := aw_ (mbox_below HM.out hb);clear hb;go_wp2_with fail;go_ret;exact ⟨af_ HR.out.symm, H1.out⟩
   ·have HR := hd_ (show cnt ((a, i), s, n) = false by rw [HE.out]; simp; omega)
    clear HE;go_enter Tryz.func117, Tryz.ntmps117
    go_wp2_with fail;refine (HC.out _).mono ?_
    rintro e w1 ⟨rfl, hb⟩;have H1 := hd_ (ba_ HB.out hb);obtain ⟨c1, c2, c3, c4⟩ := aw_ (mbox_below HM.out hb);clear hb;go_wp2_with fail;go_ret;exact ⟨af_ (by rw [HR.out]; simpa using h2), H1.out⟩
  ·have HR := hd_ (show cnt ((a, i), s, n) = false by rw [HE.out]; simp; omega)
   clear HE;go_enter Tryz.func117, Tryz.ntmps117
   go_wp2_with fail;refine (HC.out _).mono ?_
   rintro e w1 ⟨rfl, hb⟩;have H1 := hd_ (ba_ HB.out hb);obtain ⟨c1, c2, c3, c4⟩ := aw_ (mbox_below HM.out hb);clear hb;go_wp2_with fail;go_ret;exact ⟨af_ HR.out.symm, H1.out⟩
def badM (x : Mm) : Bool := !cnt x
theorem badM_asks : AsksM 116 #[] badM (fun _ => True) (fun _ => True) where
 enters := fun args W => enters_fn Tryz.func116 (by kernel_rfl) rfl args W
 kept _ _ _ _ := trivial
 call a i s n W _ _ := by
  have HB := hd_ (ad_ W (.cells #[.int .i64 a, .int .i64 i, .int .u8 s, .int .i64 n] 31));have HN : Hid (badM ((a, i), s, n) = !cnt ((a, i), s, n)) := hd_ rfl
  have HC := hd_ fun W => counts_any a i s n W
  generalize badM ((a, i), s, n) = z at *;generalize cnt ((a, i), s, n) = y at *;have HE := hd_ HN.out.symm;clear HN;go_enter Tryz.func116, Tryz.ntmps116
  go_wp2_with fail;refine (HC.out _).mono ?_
  rintro e w1 ⟨rfl, hb⟩;have H1 := hd_ (ba_ HB.out hb);clear hb;go_wp2_with fail;go_ret;exact ⟨af_ HE.out, H1.out⟩
theorem noM_asks : AsksM 161 #[] noM (fun _ => True) (fun _ => True) where
 enters := fun args W => enters_fn Tryz.func161 (by kernel_rfl) rfl args W
 kept _ _ _ _ := trivial
 call a i s n W _ _ := by
  have HB := hd_ (ad_ W (.cells #[.int .i64 a, .int .i64 i, .int .u8 s, .int .i64 n] 31));by_cases h : s = 0
  ·subst h
   have HR := hd_ (show noM ((a, i), (0 : Int), n) = true by simp [noM])
   go_enter Tryz.func161, Tryz.ntmps161
   go_wp2_with fail;go_ret;exact ⟨af_ HR.out.symm, HB.out⟩
  ·have h2 : (s == 0) = false := by simpa using h
   have HR := hd_ (show noM ((a, i), s, n) = false by simp [noM, h])
   go_enter Tryz.func161, Tryz.ntmps161
   go_wp2_with fail;go_ret;exact ⟨af_ HR.out.symm, HB.out⟩
end
section
open Go Go.RowKit Ros
def FoundPROS {α : Type} (p : α → Bool) (l : List α) (r : Int) : Prop := (r = -1 ∧ ∀ x ∈ l, p x = false) ∨ ∃ k : Nat, ∃ h : k < l.length, r = k ∧ p l[k] = true ∧ ∀ x ∈ l.take k, p x = false
theorem foundP_nextROS {α : Type} {p : α → Bool} {l : List α} {k : Nat} (hk : k < l.length) (h : ∀ x ∈ l.take k, p x = false) (hn : p l[k] = false) : ∀ x ∈ l.take (k + 1), p x = false := by
 intro x hx;rw [List.take_succ_eq_append_getElem hk] at hx;rcases List.mem_append.1 hx with h1 | h1
 ·exact h x h1
 ·rw [List.mem_singleton.1 h1]
  exact hn
theorem foundP_noneROS {α : Type} {p : α → Bool} {l : List α} {k : Nat} (hk : l.length ≤ k) (h : ∀ x ∈ l.take k, p x = false) : FoundPROS p l (-1) := .inl ⟨rfl, by rwa [List.take_of_length_le hk] at h⟩
set_option maxHeartbeats 1000000 in
theorem indexI_anyROS {K : Nat} {caps : Array Value} {p : Id2 → Bool} {S : World → Prop} (hP : AsksI K caps p S) (v : Value) (l : List Id2) (w : World) (h : Ids w v l) (hS : S w) (hl : l.length ≤ 100000) :
  Calls Tryz.prog 154 #[v, .func (.func K) #[] caps] w fun e w' => (∃ r, e = .returned (.int .i64 r) ∧ FoundPROS p l r) ∧ Below w.heap.size w w' := by
 have HP := hd_ hP;have HI := hd_ h;have HS0 := hd_ hS;have hK := hP.enters;obtain ⟨A, c, rfl, hz⟩ := h;clear hz hP hS;go_enter Tryz.func154, Tryz.ntmps154
 go_wp2_with fail;go_loopw [8] (fun s3 wr => ∃ k : Nat, k ≤ l.length ∧ s3 = .int .i64 k ∧ Hid (∀ x ∈ l.take k, p x = false) ∧ Hid (S wr) ∧ Hid (Below w.heap.size w wr)) (fun s3 _ => l.length - (intOf s3).toNat)
 case atStart => exact ⟨0, by omega, rfl, hd_ (fun x hx => by simp at hx), HS0, hd_ (Below.refl _ _)⟩
 case round =>
  obtain ⟨k, hkl, rfl, HT, HS, HW⟩ := hrel;have i3 : (0 : Int) ≤ (k : Int) := by omega
  by_cases hlt : k < l.length
  ·have hd : decide ((k : Int) < (l.length : Int)) = true := by simp; omega
   have i4 : (k : Int) < (l.length : Int) := by omega
   obtain ⟨ad, rfl, c1, c2⟩ := HI.out.at_ HW.out hlt;have HM : Hid (l[k] = (l[k].1, l[k].2)) := hd_ rfl
   have HC := hd_ fun W hs => HP.out.call l[k].1 l[k].2 W hs
   have H0 := hd_ fun h => foundP_nextROS (p := p) hlt HT.out h
   have H1 := hd_ fun h => (show FoundPROS p l k from .inr ⟨k, hlt, rfl, h, HT.out⟩)
   rw [HM.out] at H0 H1;clear HM;generalize l[k].1 = a at *;generalize l[k].2 = i at *;cases hp : p (a, i)
   ·rw [hp] at HC
    have HF := hd_ (H0.out hp);clear hp H0 H1;go_wp2_with fail;(with_reducible refine (HC.out _ HS.out).mono ?_)
    rintro e w1 ⟨rfl, hb⟩;have HB := hd_ (ba_ HW.out hb);have HS1 := hd_ (HP.out.kept _ _ HS.out hb);clear hb;go_wp2_with fail;go_roundw
    case rel => exact ⟨k + 1, by omega, by go_num, HF, HS1, HB⟩
    case measure => simp [intOf]; omega
   ·rw [hp] at HC
    have HF := hd_ (H1.out hp);clear hp H0 H1;go_wp2_with fail;(with_reducible refine (HC.out _ HS.out).mono ?_)
    rintro e w1 ⟨rfl, hb⟩;have HB := hd_ (ba_ HW.out hb);clear hb;go_wp2_with fail;go_ret;exact ⟨⟨_, rfl, HF.out⟩, HB.out⟩
  ·have hd : decide ((k : Int) < (l.length : Int)) = false := by simp; omega
   have HF := hd_ (foundP_noneROS (by omega) HT.out)
   go_wp2_with fail;go_ret;exact ⟨⟨_, rfl, HF.out⟩, HW.out⟩
set_option maxHeartbeats 1000000 in
theorem indexM_any {K : Nat} {caps : Array Value} {p : Mm → Bool} {S : World → Prop} {D : Mm → Prop} (hP : AsksM K caps p S D) (v : Value) (l : List Mm) (w : World) (h : Ms w v l) (hS : S w) (hl : l.length ≤ 100000) (hD : ∀ x ∈ l, D x) :
  Calls Tryz.prog 156 #[v, .func (.func K) #[] caps] w fun e w' => (∃ r, e = .returned (.int .i64 r) ∧ FoundPROS p l r) ∧ Below w.heap.size w w' := by
 have HP := hd_ hP;have HI := hd_ h;have HS0 := hd_ hS;have HD := hd_ hD;have hK := hP.enters;obtain ⟨A, c, rfl, hz⟩ := h;clear hz hP hS hD;go_enter Tryz.func156, Tryz.ntmps156
 go_wp2_with fail;go_loopw [8] (fun s3 wr => ∃ k : Nat, k ≤ l.length ∧ s3 = .int .i64 k ∧ Hid (∀ x ∈ l.take k, p x = false) ∧ Hid (S wr) ∧ Hid (Below w.heap.size w wr)) (fun s3 _ => l.length - (intOf s3).toNat)
 case atStart => exact ⟨0, by omega, rfl, hd_ (fun x hx => by simp at hx), HS0, hd_ (Below.refl _ _)⟩
 case round =>
  obtain ⟨k, hkl, rfl, HT, HS, HW⟩ := hrel;have i3 : (0 : Int) ≤ (k : Int) := by omega
  by_cases hlt : k < l.length
  ·have hd : decide ((k : Int) < (l.length : Int)) = true := by simp; omega
   have i4 : (k : Int) < (l.length : Int) := by omega
   obtain ⟨ad, rfl, c1, c2, c3, c4⟩ := Ms.at_ HI.out HW.out hlt;have HM : Hid (l[k] = ((l[k].1.1, l[k].1.2), l[k].2.1, l[k].2.2)) := hd_ rfl
   have HC := hd_ fun W hs => HP.out.call l[k].1.1 l[k].1.2 l[k].2.1 l[k].2.2 W (HD.out _ (List.getElem_mem hlt)) hs
   have H0 := hd_ fun h => foundP_nextROS (p := p) hlt HT.out h
   have H1 := hd_ fun h => (show FoundPROS p l k from .inr ⟨k, hlt, rfl, h, HT.out⟩)
   rw [HM.out] at H0 H1;clear HM;generalize l[k].1.1 = a at *;generalize l[k].1.2 = i at *;generalize l[k].2.1 = s at *;generalize l[k].2.2 = n at *;cases hp : p ((a, i), s, n)
   ·rw [hp] at HC
    have HF := hd_ (H0.out hp);clear hp H0 H1;go_wp2_with fail;(with_reducible refine (HC.out _ HS.out).mono ?_)
    rintro e w1 ⟨rfl, hb⟩;have HB := hd_ (ba_ HW.out hb);have HS1 := hd_ (HP.out.kept _ _ HS.out hb);clear hb;go_wp2_with fail;go_roundw
    case rel => exact ⟨k + 1, by omega, by go_num, HF, HS1, HB⟩
    case measure => simp [intOf]; omega
   ·rw [hp] at HC
    have HF := hd_ (H1.out hp);clear hp H0 H1;go_wp2_with fail;(with_reducible refine (HC.out _ HS.out).mono ?_)
    rintro e w1 ⟨rfl, hb⟩;have HB := hd_ (ba_ HW.out hb);clear hb;go_wp2_with fail;go_ret;exact ⟨⟨_, rfl, HF.out⟩, HB.out⟩
  ·have hd : decide ((k : Int) < (l.length : Int)) = false := by simp; omega
   have HF := hd_ (foundP_noneROS (by omega) HT.out)
   go_wp2_with fail;go_ret;exact ⟨⟨_, rfl, HF.out⟩, HW.out⟩
end
section
open Go Go.RowKit Ros
theorem zero30 (W : World) : (zeroValue 29).run Tryz.prog W = .ok (.agg #[.int .i64 0, .int .i64 0]) W := by kernel_rfl
theorem zero32 (W : World) : (zeroValue 31).run Tryz.prog W = .ok (.agg #[.int .i64 0, .int .i64 0, .int .u8 0, .int .i64 0]) W := by kernel_rfl
set_option maxHeartbeats 4000000 in
theorem deleteI_anyROS {K : Nat} {caps : Array Value} {p : Id2 → Bool} {S : World → Prop} (hP : AsksI K caps p S) (g c : Nat) (hSg : ∀ W W', S W → W.grownBy W' (some g) → S W') (d : Array Id2) (w : World) (h : RowAtR encI 2 w g d) (hS : S w) (hc : d.size ≤ c) (hl : d.size ≤ 100000) :
  Calls Tryz.prog 106 #[.slice (some ⟨g, 0, none⟩) d.size c, .func (.func K) #[] caps] w fun e w' => ∃ d' : Array Id2, e = .returned (.slice (some ⟨g, 0, none⟩) d'.size c) ∧ (d'.toList = d.toList.filter fun t => !p t) ∧ d'.size ≤ d.size ∧ RowAtR encI 2 w' g d' ∧ w.grownBy w' (some g) := by
 have HP := hd_ hP;have HSG := hd_ hSg;have HS0 := hd_ hS;have HR := hd_ h;have HI := hd_ (show Ids w (.slice (some ⟨g, 0, none⟩) d.size c) d.toList from ids_rcs (rowAtR_rcs h hc))
 have HA : Hid (Go.Lib.keptUpTo (fun j => !p d[j]!) d d.size = d.toList.filter fun t => !p t) := hd_ (Go.Lib.keptUpTo_filter (fun t : Id2 => !p t) d)
 have hK := hP.enters;clear h hP hSg hS;go_enter Tryz.func106, Tryz.ntmps106
 go_wp2_with fail;(with_reducible refine (indexI_anyROS HP.out _ _ _ HI.out HS0.out (by simpa using hl)).mono ?_)
 rintro e w1 ⟨⟨r, rfl, hf⟩, hb⟩;have HB := hd_ hb;have R1 := hd_ (rowAtR_kept HR.out hb);have S1 := hd_ (HP.out.kept _ _ HS0.out hb);clear hb;rcases hf with ⟨rfl, hall⟩ | ⟨k0, hk0, rfl, hz, hbef⟩
 ·have HF := hd_ (show d.toList = d.toList.filter fun t => !p t by
   rw [← HA.out, Go.Lib.keptUpTo_all (fun j => !p d[j]!) d d.size (fun j hj => by rw [found_none (pp := fun t => p t) hall j hj]; rfl), Go.Lib.range_map_get])
  clear hall;go_wp2_with fail;go_ret;exact ⟨d, rfl, HF.out, Nat.le_refl _, R1.out, am_ (World.grownBy.refl _ _) HB.out⟩
 ·have hk0 : k0 < d.size := by simpa using hk0
  have hne1 : ((k0 : Int) == -1) = false := beq_eq_false_iff_ne.2 (by omega)
  have HS := hd_ (Go.Lib.KeptInv.start (kp := fun j => !p d[j]!) (d := d) (k0 := k0) (fun j hj => by show (!p d[j]!) = true; rw [found_take (pp := fun t => p t) (by omega) hbef j hj]; rfl) (by show (!p d[k0]!) = false; rw [show p d[k0]! = true by rw [getElem!_pos d k0 hk0]; simpa using hz]; rfl))
  have HG := hd_ (show w.grownBy w1 (some g) from am_ (World.grownBy.refl _ _) HB.out)
  have i0 : IntKind.i64.wrap ((k0 : Int) + 1) = (k0 : Int) + 1 := IntWalk.i64_in _ ⟨by omega, by omega⟩
  clear hbef hz;go_wp2_with fail;go_loopw [5, 6] (fun s5 s6 wr => ∃ (i j : Nat) (dk : Array Id2), s5 = .int .i64 i ∧ s6 = .int .i64 j ∧ j ≤ d.size ∧ Hid (Go.Lib.KeptInv (fun j => !p d[j]!) d j i dk) ∧ Hid (RowAtR encI 2 wr g dk) ∧ Hid (w.grownBy wr (some g)) ∧ Hid (S wr)) (fun _ s6 _ => d.size - (intOf s6).toNat)
  case atStart => exact ⟨k0, k0 + 1, d, rfl, by go_num, by omega, HS, R1, HG, S1⟩
  case round =>
   obtain ⟨i, j, dk, rfl, rfl, hjd, HK, H2, H3, H4⟩ := hrel;have hij := HK.out.lt;have hds := HK.out.size;have p1 : (0 : Int) ≤ (j : Int) := by omega
   have p2 : (0 : Int) ≤ (i : Int) := by omega
   by_cases hlt : j < d.size
   ·have hd : decide ((j : Int) < (d.size : Int)) = true := by simp; omega
    have p3 : (j : Int) < (d.size : Int) := by omega
    have p4 : (i : Int) < (d.size : Int) := by omega
    have hT := (H2.out.id (show j < dk.size by omega)).1
    rw [HK.out.high j (by omega)] at hT
    rcases hn : p d[j]! with _ | _
    ·have HKK := hd_ (HK.out.keep hlt (by show (!p d[j]!) = true; rw [hn]; rfl))
     have HC : Hid (∀ W, S W → Calls Tryz.prog K (#[.agg #[.int .i64 d[j]!.1, .int .i64 d[j]!.2]] ++ caps) W fun e w' => e = .returned (.bool false) ∧ Below W.heap.size W w') := hd_ fun W hs => by
      have := HP.out.call d[j]!.1 d[j]!.2 W hs
      rw [show p (d[j]!.1, d[j]!.2) = false from hn] at this
      exact this
     have HE := hd_ (show d[j]! = (d[j]!.1, d[j]!.2) from rfl)
     rw [HE.out] at HKK;clear hn HE;have HX := hd_ (ao_ wr d[j]!.1 d[j]!.2);have BX := hd_ (ad_ wr (.cells #[.int .i64 d[j]!.1, .int .i64 d[j]!.2] 29));have SX := hd_ (HP.out.kept _ _ H4.out BX.out);generalize d[j]!.1 = a at *;generalize d[j]!.2 = b at *;obtain ⟨c1, c2⟩ := hT;go_wp2_with fail;(with_reducible refine (HC.out _ SX.out).mono ?_)
     rintro e w2 ⟨rfl, hb⟩;have B2 := hd_ (ba_ BX.out hb);have R2 := hd_ (rowAtR_kept H2.out B2.out);have G2 := hd_ (am_ H3.out B2.out);have S2 := hd_ (HP.out.kept _ _ SX.out hb);have X2 := hd_ (ag_ HX.out hb);clear hb c1 c2;obtain ⟨x1, x2⟩ := ae_ X2.out;obtain ⟨⟨c1, c2⟩, f1, f2⟩ := H2.out.id (show i < dk.size by omega)
     clear c1 c2 f1 f2;obtain ⟨⟨c1, c2⟩, f1, f2⟩ := R2.out.id (show i < dk.size by omega)
     have R3 := hd_ (rowI_set R2.out (show i < dk.size by omega) a b)
     have G3 := hd_ (grown_setI G2.out i (.int .i64 a) (.int .i64 b));have S3 := hd_ (HSG.out _ _ S2.out (grown_setI (World.grownBy.refl w2 (some g)) i (.int .i64 a) (.int .i64 b)));go_wp2_with fail;go_roundw
     case rel => exact ⟨i + 1, j + 1, _, by go_num, by go_num, by omega, HKK, R3, G3, S3⟩
     case measure => simp [intOf]; omega
    ·have HKK := hd_ (HK.out.skip (by show (!p d[j]!) = false; rw [hn]; rfl))
     have HC : Hid (∀ W, S W → Calls Tryz.prog K (#[.agg #[.int .i64 d[j]!.1, .int .i64 d[j]!.2]] ++ caps) W fun e w' => e = .returned (.bool true) ∧ Below W.heap.size W w') := hd_ fun W hs => by
      have := HP.out.call d[j]!.1 d[j]!.2 W hs
      rw [show p (d[j]!.1, d[j]!.2) = true from hn] at this
      exact this
     clear hn;have BX := hd_ (ad_ wr (.cells #[.int .i64 d[j]!.1, .int .i64 d[j]!.2] 29));have HX := hd_ (ao_ wr d[j]!.1 d[j]!.2);have SX := hd_ (HP.out.kept _ _ H4.out BX.out);generalize d[j]!.1 = a at *;generalize d[j]!.2 = b at *;obtain ⟨c1, c2⟩ := hT;go_wp2_with fail;(with_reducible refine (HC.out _ SX.out).mono ?_)
     rintro e w2 ⟨rfl, hb⟩;have B2 := hd_ (ba_ BX.out hb);have R2 := hd_ (rowAtR_kept H2.out B2.out);have G2 := hd_ (am_ H3.out B2.out);have S2 := hd_ (HP.out.kept _ _ SX.out hb);clear hb c1 c2;go_wp2_with fail;go_roundw
     case rel => exact ⟨i, j + 1, dk, rfl, by go_num, by omega, HKK, R2, G2, S2⟩
     case measure => simp [intOf]; omega
   ·obtain rfl : j = d.size := by omega
    have hd : decide ((d.size : Int) < (d.size : Int)) = false := by simp
    obtain ⟨vs, hcl⟩ := run_clear_recs (P := Tryz.prog) (enc := encI) (sz := 2) encI_len (by omega) Tryz.underlying23 zero30 rfl (by intro u hu; simp [Value.cells] at hu; rcases hu with rfl | rfl <;> rfl) H2.out (show i < dk.size by omega) (c - i) 0
    have R3 := hd_ (rowAtR_front encI_len H2.out (show i ≤ dk.size by omega) vs)
    have G3 := hd_ (grown_setCells H3.out (i * 2) vs);have HF := hd_ (kept_front HK.out);have hci : ¬ c = i := by omega
    have p5 : (i : Int) ≤ (d.size : Int) := by omega
    rw [hds] at hcl;go_wp2_with fail;go_ret;exact ⟨dk.extract 0 i, by simp; omega, HF.out.trans HA.out, by simp; omega, R3.out, G3.out⟩
set_option maxHeartbeats 4000000 in
theorem deleteM_any {K : Nat} {caps : Array Value} {p : Mm → Bool} {S : World → Prop} {D : Mm → Prop} (hP : AsksM K caps p S D) (g c : Nat) (hSg : ∀ W W', S W → W.grownBy W' (some g) → S W') (d : Array Mm) (w : World) (h : RowAtR encM 4 w g d) (hS : S w) (hc : d.size ≤ c) (hl : d.size ≤ 100000) (hD : ∀ x ∈ d.toList, D x) :
  Calls Tryz.prog 114 #[.slice (some ⟨g, 0, none⟩) d.size c, .func (.func K) #[] caps] w fun e w' => ∃ d' : Array Mm, e = .returned (.slice (some ⟨g, 0, none⟩) d'.size c) ∧ (d'.toList = d.toList.filter fun t => !p t) ∧ d'.size ≤ d.size ∧ RowAtR encM 4 w' g d' ∧ w.grownBy w' (some g) := by
 have HP := hd_ hP;have HSG := hd_ hSg;have HS0 := hd_ hS;have HDl := hd_ hD;have HD : Hid (∀ j, j < d.size → D ((d[j]!.1.1, d[j]!.1.2), d[j]!.2.1, d[j]!.2.2)) := hd_ fun j hj => (show D d[j]! from hD _ (by rw [getElem!_pos d j hj]; simp))
 have HR := hd_ h;have HI := hd_ (show Ms w (.slice (some ⟨g, 0, none⟩) d.size c) d.toList from rowAtR_rcs h hc)
 have HA : Hid (Go.Lib.keptUpTo (fun j => !p d[j]!) d d.size = d.toList.filter fun t => !p t) := hd_ (Go.Lib.keptUpTo_filter (fun t : Mm => !p t) d)
 have hK := hP.enters;clear h hP hSg hS hD;go_enter Tryz.func114, Tryz.ntmps114
 go_wp2_with fail;(with_reducible refine (indexM_any HP.out _ _ _ HI.out HS0.out (by simpa using hl) HDl.out).mono ?_)
 rintro e w1 ⟨⟨r, rfl, hf⟩, hb⟩;have HB := hd_ hb;have R1 := hd_ (rowAtR_kept HR.out hb);have S1 := hd_ (HP.out.kept _ _ HS0.out hb);clear hb;rcases hf with ⟨rfl, hall⟩ | ⟨k0, hk0, rfl, hz, hbef⟩
 ·have HF := hd_ (show d.toList = d.toList.filter fun t => !p t by
   rw [← HA.out, Go.Lib.keptUpTo_all (fun j => !p d[j]!) d d.size (fun j hj => by rw [found_none (pp := fun t => p t) hall j hj]; rfl), Go.Lib.range_map_get])
  clear hall;go_wp2_with fail;go_ret;exact ⟨d, rfl, HF.out, Nat.le_refl _, R1.out, am_ (World.grownBy.refl _ _) HB.out⟩
 ·have hk0 : k0 < d.size := by simpa using hk0
  have hne1 : ((k0 : Int) == -1) = false := beq_eq_false_iff_ne.2 (by omega)
  have HS := hd_ (Go.Lib.KeptInv.start (kp := fun j => !p d[j]!) (d := d) (k0 := k0) (fun j hj => by show (!p d[j]!) = true; rw [found_take (pp := fun t => p t) (by omega) hbef j hj]; rfl) (by show (!p d[k0]!) = false; rw [show p d[k0]! = true by rw [getElem!_pos d k0 hk0]; simpa using hz]; rfl))
  have HG := hd_ (show w.grownBy w1 (some g) from am_ (World.grownBy.refl _ _) HB.out)
  have i0 : IntKind.i64.wrap ((k0 : Int) + 1) = (k0 : Int) + 1 := IntWalk.i64_in _ ⟨by omega, by omega⟩
  clear hbef hz;go_wp2_with fail;go_loopw [5, 6] (fun s5 s6 wr => ∃ (i j : Nat) (dk : Array Mm), s5 = .int .i64 i ∧ s6 = .int .i64 j ∧ j ≤ d.size ∧ Hid (Go.Lib.KeptInv (fun j => !p d[j]!) d j i dk) ∧ Hid (RowAtR encM 4 wr g dk) ∧ Hid (w.grownBy wr (some g)) ∧ Hid (S wr)) (fun _ s6 _ => d.size - (intOf s6).toNat)
  case atStart => exact ⟨k0, k0 + 1, d, rfl, by go_num, by omega, HS, R1, HG, S1⟩
  case round =>
   obtain ⟨i, j, dk, rfl, rfl, hjd, HK, H2, H3, H4⟩ := hrel;have hij := HK.out.lt;have hds := HK.out.size;have p1 : (0 : Int) ≤ (j : Int) := by omega
   have p2 : (0 : Int) ≤ (i : Int) := by omega
   by_cases hlt : j < d.size
   ·have hd : decide ((j : Int) < (d.size : Int)) = true := by simp; omega
    have p3 : (j : Int) < (d.size : Int) := by omega
    have p4 : (i : Int) < (d.size : Int) := by omega
    have hT := (H2.out.mem (show j < dk.size by omega)).1
    rw [HK.out.high j (by omega)] at hT
    rcases hn : p d[j]! with _ | _
    ·have HKK := hd_ (HK.out.keep hlt (by show (!p d[j]!) = true; rw [hn]; rfl))
     have HC : Hid (∀ W, S W → Calls Tryz.prog K (#[.agg #[.int .i64 d[j]!.1.1, .int .i64 d[j]!.1.2, .int .u8 d[j]!.2.1, .int .i64 d[j]!.2.2]] ++ caps) W fun e w' => e = .returned (.bool false) ∧ Below W.heap.size W w') := hd_ fun W hs => by
      have := HP.out.call d[j]!.1.1 d[j]!.1.2 d[j]!.2.1 d[j]!.2.2 W (HD.out j hlt) hs
      rw [show p ((d[j]!.1.1, d[j]!.1.2), d[j]!.2.1, d[j]!.2.2) = false from hn] at this
      exact this
     have HE := hd_ (show d[j]! = ((d[j]!.1.1, d[j]!.1.2), d[j]!.2.1, d[j]!.2.2) from rfl)
     rw [HE.out] at HKK;clear hn HE;have HX := hd_ (mbox_new wr d[j]!.1.1 d[j]!.1.2 d[j]!.2.1 d[j]!.2.2);have BX := hd_ (ad_ wr (.cells #[.int .i64 d[j]!.1.1, .int .i64 d[j]!.1.2, .int .u8 d[j]!.2.1, .int .i64 d[j]!.2.2] 31));have SX := hd_ (HP.out.kept _ _ H4.out BX.out);generalize d[j]!.1.1 = a at *;generalize d[j]!.1.2 = b at *;generalize d[j]!.2.1 = m at *;generalize d[j]!.2.2 = n at *;obtain ⟨c1, c2, c3, c4⟩ := hT;go_wp2_with fail;(with_reducible refine (HC.out _ SX.out).mono ?_)
     rintro e w2 ⟨rfl, hb⟩;have B2 := hd_ (ba_ BX.out hb);have R2 := hd_ (rowAtR_kept H2.out B2.out);have G2 := hd_ (am_ H3.out B2.out);have S2 := hd_ (HP.out.kept _ _ SX.out hb);have X2 := hd_ (mbox_below HX.out hb);clear hb c1 c2 c3 c4;obtain ⟨x1, x2, x3, x4⟩ := aw_ X2.out;obtain ⟨⟨c1, c2, c3, c4⟩, f1, f2, f3, f4⟩ := H2.out.mem (show i < dk.size by omega)
     clear c1 c2 c3 c4 f1 f2 f3 f4;obtain ⟨⟨c1, c2, c3, c4⟩, f1, f2, f3, f4⟩ := R2.out.mem (show i < dk.size by omega)
     have R3 := hd_ (rowM_set R2.out (show i < dk.size by omega) a b m n)
     have G3 := hd_ (grown_setM G2.out i (.int .i64 a) (.int .i64 b) (.int .u8 m) (.int .i64 n));have S3 := hd_ (HSG.out _ _ S2.out (grown_setM (World.grownBy.refl w2 (some g)) i (.int .i64 a) (.int .i64 b) (.int .u8 m) (.int .i64 n)));go_wp2_with fail;go_roundw
     case rel => exact ⟨i + 1, j + 1, _, by go_num, by go_num, by omega, HKK, R3, G3, S3⟩
     case measure => simp [intOf]; omega
    ·have HKK := hd_ (HK.out.skip (by show (!p d[j]!) = false; rw [hn]; rfl))
     have HC : Hid (∀ W, S W → Calls Tryz.prog K (#[.agg #[.int .i64 d[j]!.1.1, .int .i64 d[j]!.1.2, .int .u8 d[j]!.2.1, .int .i64 d[j]!.2.2]] ++ caps) W fun e w' => e = .returned (.bool true) ∧ Below W.heap.size W w') := hd_ fun W hs => by
      have := HP.out.call d[j]!.1.1 d[j]!.1.2 d[j]!.2.1 d[j]!.2.2 W (HD.out j hlt) hs
      rw [show p ((d[j]!.1.1, d[j]!.1.2), d[j]!.2.1, d[j]!.2.2) = true from hn] at this
      exact this
     clear hn;have BX := hd_ (ad_ wr (.cells #[.int .i64 d[j]!.1.1, .int .i64 d[j]!.1.2, .int .u8 d[j]!.2.1, .int .i64 d[j]!.2.2] 31));have HX := hd_ (mbox_new wr d[j]!.1.1 d[j]!.1.2 d[j]!.2.1 d[j]!.2.2);have SX := hd_ (HP.out.kept _ _ H4.out BX.out);generalize d[j]!.1.1 = a at *;generalize d[j]!.1.2 = b at *;generalize d[j]!.2.1 = m at *;generalize d[j]!.2.2 = n at *;obtain ⟨c1, c2, c3, c4⟩ := hT;go_wp2_with fail;(with_reducible refine (HC.out _ SX.out).mono ?_)
     rintro e w2 ⟨rfl, hb⟩;have B2 := hd_ (ba_ BX.out hb);have R2 := hd_ (rowAtR_kept H2.out B2.out);have G2 := hd_ (am_ H3.out B2.out);have S2 := hd_ (HP.out.kept _ _ SX.out hb);clear hb c1 c2 c3 c4;go_wp2_with fail;go_roundw
     case rel => exact ⟨i, j + 1, dk, rfl, by go_num, by omega, HKK, R2, G2, S2⟩
     case measure => simp [intOf]; omega
   ·obtain rfl : j = d.size := by omega
    have hd : decide ((d.size : Int) < (d.size : Int)) = false := by simp
    obtain ⟨vs, hcl⟩ := run_clear_recs (P := Tryz.prog) (enc := encM) (sz := 4) encM_len (by omega) Tryz.underlying22 zero32 rfl (by intro u hu; simp [Value.cells] at hu; rcases hu with rfl | rfl | rfl <;> rfl) H2.out (show i < dk.size by omega) (c - i) 0
    have R3 := hd_ (rowAtR_front encM_len H2.out (show i ≤ dk.size by omega) vs)
    have G3 := hd_ (grown_setCells H3.out (i * 4) vs);have HF := hd_ (kept_front HK.out);have hci : ¬ c = i := by omega
    have p5 : (i : Int) ≤ (d.size : Int) := by omega
    rw [hds] at hcl;go_wp2_with fail;go_ret;exact ⟨dk.extract 0 i, by simp; omega, HF.out.trans HA.out, by simp; omega, R3.out, G3.out⟩
end
end Go.Proofs.YthkkipbmlafdiaaGreat
