/-
  Carried over and put together: contracts of this program's functions, and plain facts. No statement is proved in this text.
-/
import Derived.Test.YtjlnnmjhbccdoaaGreatOz
import Derived.Deep.CutBlock
import Derived.Test.YtjlnnmjhbccdoaaGreatO37
set_option maxRecDepth 20000
namespace Go.Proofs.YtjlnnmjhbccdoaaGreat
open Go Go.RowKit
theorem nil_V5 (W : World) : RVt W ((none, 0, 0), (none, 0, 0), (none, 0, 0), (none, 0, 0), (none, 0, 0)) noV := ⟨Rcs.nil _, Ids.nil _, RowsAt.nil _, Rcs.nil _, Ids.nil _⟩
theorem oneW_start {w w1 : World} {v0 : Value} {l : List ActP} (h : ActsAt w v0 l) (hb : Below w.heap.size w w1) : OneW w w1.heap.size (w1.heap.size + 1) v0 l (fun _ => noV) [noV] (.slice (some ⟨w1.heap.size + 1, 0, none⟩) 1 1) ((w1.alloc (.cells #[.slice none 0 0, .slice none 0 0, .slice none 0 0, .slice none 0 0, .slice none 0 0, .slice none 0 0, .slice none 0 0, .slice none 0 0, .slice none 0 0, .slice none 0 0, .slice none 0 0, .slice none 0 0, .slice none 0 0, .slice none 0 0, .slice none 0 0, .slice none 0 0, .slice none 0 0, .slice none 0 0, .slice none 0 0, .slice none 0 0] 56)).alloc (.cells #[.slice none 0 0, .slice none 0 0, .slice none 0 0, .slice none 0 0, .slice none 0 0] 27)) := by
 have q1 := below_one w1 (.cells #[.slice none 0 0, .slice none 0 0, .slice none 0 0, .slice none 0 0, .slice none 0 0, .slice none 0 0, .slice none 0 0, .slice none 0 0, .slice none 0 0, .slice none 0 0, .slice none 0 0, .slice none 0 0, .slice none 0 0, .slice none 0 0, .slice none 0 0, .slice none 0 0, .slice none 0 0, .slice none 0 0, .slice none 0 0, .slice none 0 0] 56)
 have q2 := below_one (w1.alloc (.cells #[.slice none 0 0, .slice none 0 0, .slice none 0 0, .slice none 0 0, .slice none 0 0, .slice none 0 0, .slice none 0 0, .slice none 0 0, .slice none 0 0, .slice none 0 0, .slice none 0 0, .slice none 0 0, .slice none 0 0, .slice none 0 0, .slice none 0 0, .slice none 0 0, .slice none 0 0, .slice none 0 0, .slice none 0 0, .slice none 0 0] 56)) (.cells #[.slice none 0 0, .slice none 0 0, .slice none 0 0, .slice none 0 0, .slice none 0 0] 27)
 have q := below_after q1 q2 (Nat.le_refl _)
 have hN : ((w1.alloc (.cells #[.slice none 0 0, .slice none 0 0, .slice none 0 0, .slice none 0 0, .slice none 0 0, .slice none 0 0, .slice none 0 0, .slice none 0 0, .slice none 0 0, .slice none 0 0, .slice none 0 0, .slice none 0 0, .slice none 0 0, .slice none 0 0, .slice none 0 0, .slice none 0 0, .slice none 0 0, .slice none 0 0, .slice none 0 0, .slice none 0 0] 56)).alloc (.cells #[.slice none 0 0, .slice none 0 0, .slice none 0 0, .slice none 0 0, .slice none 0 0] 27)).heap[w1.heap.size]? = some (.cells #[.slice none 0 0, .slice none 0 0, .slice none 0 0, .slice none 0 0, .slice none 0 0, .slice none 0 0, .slice none 0 0, .slice none 0 0, .slice none 0 0, .slice none 0 0, .slice none 0 0, .slice none 0 0, .slice none 0 0, .slice none 0 0, .slice none 0 0, .slice none 0 0, .slice none 0 0, .slice none 0 0, .slice none 0 0, .slice none 0 0] 56) := (q2.block _ (by simp)).trans (heap_alloc_new w1 _)
 have hH : ((w1.alloc (.cells #[.slice none 0 0, .slice none 0 0, .slice none 0 0, .slice none 0 0, .slice none 0 0, .slice none 0 0, .slice none 0 0, .slice none 0 0, .slice none 0 0, .slice none 0 0, .slice none 0 0, .slice none 0 0, .slice none 0 0, .slice none 0 0, .slice none 0 0, .slice none 0 0, .slice none 0 0, .slice none 0 0, .slice none 0 0, .slice none 0 0] 56)).alloc (.cells #[.slice none 0 0, .slice none 0 0, .slice none 0 0, .slice none 0 0, .slice none 0 0] 27)).heap[w1.heap.size + 1]? = some (.cells #[.slice none 0 0, .slice none 0 0, .slice none 0 0, .slice none 0 0, .slice none 0 0] 27) := by
  have e := heap_alloc_new (w1.alloc (.cells #[.slice none 0 0, .slice none 0 0, .slice none 0 0, .slice none 0 0, .slice none 0 0, .slice none 0 0, .slice none 0 0, .slice none 0 0, .slice none 0 0, .slice none 0 0, .slice none 0 0, .slice none 0 0, .slice none 0 0, .slice none 0 0, .slice none 0 0, .slice none 0 0, .slice none 0 0, .slice none 0 0, .slice none 0 0, .slice none 0 0] 56)) (.cells #[.slice none 0 0, .slice none 0 0, .slice none 0 0, .slice none 0 0, .slice none 0 0] 27)
  simp only [World.size_alloc] at e
  exact e
 refine ⟨(h.kp (kp_below hb)).kp (kp_below q), ?_, ?_, by omega, by simp, hb.size, below_after hb q (Nat.le_refl _)⟩
 ·refine ⟨Array.replicate 4 ((none, 0, 0), (none, 0, 0), (none, 0, 0), (none, 0, 0), (none, 0, 0)), rfl, ⟨by simp; omega, fun k hk j u hu => ?_⟩, noInt_cells hN (by simp), fun k hk => ?_⟩
  ·have hk : k < 4 := hk
   have hj : j < 5 := (List.getElem?_eq_some_iff.1 hu).1
   have e1 : (Array.replicate 4 (((none, 0, 0), (none, 0, 0), (none, 0, 0), (none, 0, 0), (none, 0, 0)) : V5))[k]! = ((none, 0, 0), (none, 0, 0), (none, 0, 0), (none, 0, 0), (none, 0, 0)) := by
    rw [getElem!_pos _ k (by simpa using hk)]
    simp
   rw [e1] at hu
   refine ⟨?_, by simp [World.frozen?, hN]⟩
   rw [cell_of_row _ _ (k * 5 + j) _ _ _ hN, ← hu]
   rcases (show k = 0 ∨ k = 1 ∨ k = 2 ∨ k = 3 by omega) with rfl | rfl | rfl | rfl <;> rcases (show j = 0 ∨ j = 1 ∨ j = 2 ∨ j = 3 ∨ j = 4 by omega) with rfl | rfl | rfl | rfl | rfl <;> rfl
  ·have e1 : (Array.replicate 4 (((none, 0, 0), (none, 0, 0), (none, 0, 0), (none, 0, 0), (none, 0, 0)) : V5))[k]! = ((none, 0, 0), (none, 0, 0), (none, 0, 0), (none, 0, 0), (none, 0, 0)) := by
    rw [getElem!_pos _ k (by simpa using hk)]
    simp
   rw [e1]
   exact nil_V5 _
 ·refine ⟨[((none, 0, 0), (none, 0, 0), (none, 0, 0), (none, 0, 0), (none, 0, 0))], ⟨rfl, .inr ⟨w1.heap.size + 1, 1, _, rfl, Nat.le_refl _, hH, Nat.le_refl _, by unfold maxLen; omega, rfl, rfl⟩⟩, fun g e => ?_, rfl, fun k a b => ?_⟩
  ·have e : w1.heap.size + 1 = g := by injection e
   subst e
   exact noInt_cells hH (by simp)
  ·obtain rfl : k = 0 := by simp at a; omega
   exact nil_V5 _
theorem rem_u8 (x m : Int) (hx : IsU8 x) (hm : 0 < m) : ∃ k : Nat, x.tmod m = (k : Int) ∧ (k : Int) < m ∧ x % m = (k : Int) := by
 obtain ⟨h0, h1⟩ := hx
 have h2 : x.tmod m = x % m := Int.tmod_eq_emod_of_nonneg h0
 have h3 := Int.emod_nonneg x (b := m) (by omega)
 have h4 := Int.emod_lt_of_pos x hm
 exact ⟨(x % m).toNat, by rw [h2]; omega, by omega, by omega⟩
theorem wrap_small {n : Int} (h0 : -9223372036854775808 ≤ n) (h1 : n ≤ 9223372036854775807) : wrap64 n = n := by
 first | (unfold wrap64; omega) | (simp [wrap64]; omega) | go_num
structure ActG (w : World) (GN b1 B7 B8 : Nat) (v0 : Value) (l : List ActP) (now : Nat → Vw) (had : List Vw) (vh : Value) (k : Nat) (a b c d e : SL) (V : Vw) (W : World) : Prop where
 one : OneW w GN b1 v0 l now had vh W
 id : Box W B7 ((k : Int) + 1) 1
 was : VBox W B8 a b c d e
 rv : RV W a b c d e V
 n7 : GN < B7
 n8 : GN < B8
theorem ActG.step {w : World} {GN b1 B7 B8 : Nat} {v0 : Value} {l : List ActP} {now : Nat → Vw} {had : List Vw} {vh : Value} {k : Nat} {a b c d e : SL} {V : Vw} {W W' : World} (h : ActG w GN b1 B7 B8 v0 l now had vh k a b c d e V W) (hb : Below W.heap.size W W') : ActG w GN b1 B7 B8 v0 l now had vh k a b c d e V W' :=
 ⟨h.one.step hb, box_below h.id hb, vbox_below h.was hb, h.rv.below hb, h.n7, h.n8⟩
theorem ActG.put {w : World} {GN b1 B7 B8 : Nat} {v0 : Value} {l : List ActP} {now : Nat → Vw} {had : List Vw} {vh : Value} {k : Nat} {a b c d e : SL} {V : Vw} {W : World} (h : ActG w GN b1 B7 B8 v0 l now had vh k a b c d e V W) {j : Nat} (hj : j < 4) {t : V5} {T : Vw} (ht : RVt W t T) : ActG w GN b1 B7 B8 v0 l (now1 now j T) had vh k a b c d e V (W.setCells GN (j * 5) (encV t)) :=
 ⟨h.one.put hj ht, (heap_setCells _ _ _ _ _ (by have := h.n7; omega)).trans h.id, (heap_setCells _ _ _ _ _ (by have := h.n8; omega)).trans h.was, h.rv.kp (h.one.nb.put hj ht).2, h.n7, h.n8⟩
theorem ActsAt.at_ {w : World} {ad : Addr} {n c : Nat} {l : List ActP} (h : ActsAt w (.slice (some ad) n c) l) {k : Nat} (h' : k < l.length) : ∃ s : SL, w.cell? (ad.add (k * 7)) = some (.int .u8 l[k].who) ∧ w.cell? ⟨(ad.add (k * 7)).block, (ad.add (k * 7)).off + 1, none⟩ = some (.int .u8 l[k].kind) ∧
 w.cell? ⟨(ad.add (k * 7)).block, (ad.add (k * 7)).off + 2, none⟩ = some (.int .u8 l[k].m) ∧ w.cell? ⟨(ad.add (k * 7)).block, (ad.add (k * 7)).off + 3, none⟩ = some (.int .u8 l[k].s) ∧ w.cell? ⟨(ad.add (k * 7)).block, (ad.add (k * 7)).off + 4, none⟩ = some (.int .i64 l[k].n) ∧
 w.cell? ⟨(ad.add (k * 7)).block, (ad.add (k * 7)).off + 5, none⟩ = some (.slice s.1 s.2.1 s.2.2) ∧ w.cell? ⟨(ad.add (k * 7)).block, (ad.add (k * 7)).off + 6, none⟩ = some (.int .i64 l[k].view) ∧ Rcs encU 1 w (.slice s.1 s.2.1 s.2.2) l[k].not ∧ IsU8 l[k].who ∧ IsU8 l[k].kind ∧ IsU8 l[k].m ∧ IsU8 l[k].s ∧ ∀ x ∈ l[k].not, IsU8 x := by
 obtain ⟨A, c', e, hh⟩ := h
 injection e with e1 e2 e3
 subst e1
 obtain ⟨ad', s, e, h⟩ := hh k h'
 injection e with e
 subst e
 exact ⟨s, h⟩
theorem i64_small {n : Int} (h0 : -9223372036854775808 ≤ n) (h1 : n ≤ 9223372036854775807) : IntKind.i64.wrap n = n := by
 rw [IntKind.wrap_i64]; omega
theorem u8_small {n : Int} (h0 : 0 ≤ n) (h1 : n < 256) : IntKind.u8.wrap n = n := by
 have : IntKind.u8.wrap n = n % 256 := rfl
 omega
theorem u64_pos (n : Int) : 0 ≤ IntKind.u64.wrap n := by
 have : IntKind.u64.wrap n = n % 18446744073709551616 := rfl
 omega
theorem u64_small {n : Int} (h0 : 0 ≤ n) (h1 : n < 18446744073709551616) : IntKind.u64.wrap n = n := by
 have : IntKind.u64.wrap n = n % 18446744073709551616 := rfl
 omega
theorem mem_id {m : Int} (h : 0 ≤ m ∧ m < 256) : ∃ p q : Nat, (p : Int) < 5 ∧ (q : Int) < 2 ∧ m.tmod 5 = (p : Int) ∧ (IntKind.u8.wrap (m.tdiv 5)).tmod 2 = (q : Int) := by
 obtain ⟨h0, h1⟩ := h
 have h2 : m.tmod 5 = m % 5 := Int.tmod_eq_emod_of_nonneg h0
 have h3 : m.tdiv 5 = m / 5 := Int.tdiv_eq_ediv_of_nonneg h0
 have h4 : IntKind.u8.wrap (m / 5) = m / 5 := u8_small (by omega) (by omega)
 have h5 : (m / 5).tmod 2 = (m / 5) % 2 := Int.tmod_eq_emod_of_nonneg (by omega)
 exact ⟨(m % 5).toNat, ((m / 5) % 2).toNat, by omega, by omega, by omega, by rw [h3, h4, h5]; omega⟩
theorem num_cut (n : Int) (m : Nat) (hm : 0 < m) (hm2 : m ≤ 1000) : ∃ y : Nat, y < m ∧ wrap64 ((IntKind.u64.wrap n).tmod (m : Int)) = (y : Int) := by
 have h0 := u64_pos n
 have h2 : (IntKind.u64.wrap n).tmod (m : Int) = (IntKind.u64.wrap n) % (m : Int) := Int.tmod_eq_emod_of_nonneg h0
 have h3 := Int.emod_nonneg (IntKind.u64.wrap n) (b := (m : Int)) (by omega)
 have h4 := Int.emod_lt_of_pos (IntKind.u64.wrap n) (b := (m : Int)) (by omega)
 refine ⟨((IntKind.u64.wrap n) % (m : Int)).toNat, by omega, ?_⟩
 rw [h2]
 have : wrap64 (IntKind.u64.wrap n % (m : Int)) = IntKind.u64.wrap n % (m : Int) := by unfold wrap64; omega
 rw [this]
 omega
theorem mem_ok {p q : Nat} (hp : (p : Int) < 5) (hq : (q : Int) < 2) : InB ((p : Int) + 1, (q : Int) + 1) := by
 unfold InB
 dsimp only
 omega
theorem mem_ok2 {r : Nat} {y : Int} (hr : (r : Int) < 7) (h1 : (r : Int) + 1 < 3 → y = 0) (h2 : 3 ≤ (r : Int) + 1 → 1 ≤ y ∧ y ≤ 9) : (r : Int) + 1 = 7 ∨ Ros.mayNum ((r : Int) + 1) y = true := by
 by_cases e7 : (r : Int) + 1 = 7
 ·exact .inl e7
 ·right
  unfold Ros.mayNum
  by_cases e1 : (r : Int) + 1 = 1 ∨ (r : Int) + 1 = 2
  ·rw [if_pos e1]
   exact decide_eq_true (h1 (by omega))
  ·rw [if_neg e1]
   have := h2 (by omega)
   by_cases e2 : (r : Int) + 1 = 3 ∨ (r : Int) + 1 = 4
   ·rw [if_pos e2]
    exact decide_eq_true (by omega)
   ·rw [if_neg e2, if_pos (by omega)]
    exact decide_eq_true (by omega)
theorem mbox_no {w : World} {g : Nat} {a i s n : Int} (h : MBox w g a i s n) (v : Int) : MBox (w.setCell ⟨g, 3, none⟩ (.int .i64 v)) g a i s v := by
 unfold MBox at *
 simp [World.setCell, Array.getElem?_modify, h]
theorem wrap_y {y : Nat} (h : (y : Int) < 5) : wrap64 (y : Int) = (y : Int) ∧ wrap64 (1 + (y : Int)) = 1 + (y : Int) := ⟨wrap_small (by omega) (by omega), wrap_small (by omega) (by omega)⟩
theorem no_range {y : Nat} (h : y < 9) : 1 ≤ (y : Int) + 1 ∧ (y : Int) + 1 ≤ 9 := by omega
theorem actG_no {w : World} {GN b1 B7 B8 g : Nat} {v0 : Value} {l : List ActP} {now : Nat → Vw} {had : List Vw} {vh : Value} {k : Nat} {a b c d e : SL} {V : Vw} {w0 W : World} (h0 : ActG w GN b1 B7 B8 v0 l now had vh k a b c d e V w0) (hb : Below w0.heap.size w0 W) (hg : w0.heap.size ≤ g) (v : Value) : ActG w GN b1 B7 B8 v0 l now had vh k a b c d e V (W.setCell ⟨g, 3, none⟩ v) := h0.step (hb.setCell (p := ⟨g, 3, none⟩) hg v)
def notsOf (l : List Int) (m : Nat) : List Sets.Id2 := (l.take m).map fun x => (1 + x.tmod 5, 1)
theorem notsOf_succ {l : List Int} {m : Nat} (h : m < l.length) : notsOf l (m + 1) = notsOf l m ++ [(1 + l[m].tmod 5, 1)] := by
 unfold notsOf
 rw [List.take_succ_eq_append_getElem h, List.map_append]
 rfl
theorem notsOf_in {l : List Int} (h : ∀ x ∈ l, IsU8 x) (m : Nat) : ∀ x ∈ notsOf l m, InB x := fun x hx => by
 obtain ⟨y, hy, rfl⟩ := List.mem_map.1 hx
 have hu := h y (List.mem_of_mem_take hy)
 obtain ⟨q, q1, q2, _⟩ := rem_u8 y 5 hu (by omega)
 unfold InB
 dsimp only
 rw [q1]
 omega
theorem notsOf_len {l : List Int} {m : Nat} (h : m ≤ 4) : (notsOf l m).length ≤ 4 := by
 unfold notsOf
 rw [List.length_map, List.length_take]
 omega
structure LpA (w : World) (GN b1 : Nat) (v0 : Value) (l : List ActP) (now : Nat → Vw) (had : List Vw) (vh : Value) (GT : Nat) (s0 s1 s2 s3 s4 : SL) (T : Vw) (W : World) : Prop where
 one : OneW w GN b1 v0 l now had vh W
 x : VBox W GT s0 s1 s2 s3 s4
 rv : RV W s0 s1 s2 s3 s4 T
theorem LpA.step {w : World} {GN b1 : Nat} {v0 : Value} {l : List ActP} {now : Nat → Vw} {had : List Vw} {vh : Value} {GT : Nat} {s0 s1 s2 s3 s4 : SL} {T : Vw} {W W' : World} (h : LpA w GN b1 v0 l now had vh GT s0 s1 s2 s3 s4 T W) (hb : Below W.heap.size W W') : LpA w GN b1 v0 l now had vh GT s0 s1 s2 s3 s4 T W' := ⟨h.one.step hb, vbox_below h.x hb, h.rv.below hb⟩
theorem nots_room {l : List Sets.Id2} {x : Sets.Id2} (h : l.length ≤ 4) : l.length + [x].length ≤ 100000 := by
 simp
 omega
set_option maxHeartbeats 32000000 in
set_option maxRecDepth 100000 in
theorem viewOne_any (v0 : Value) (l : List ActP) (w : World) (h : ActsAt w v0 l) :
  Calls Tryz.prog 6 #[v0] w fun e w' => e = .returned (.bool true) ∧ Below w.heap.size w w' := by
 have HA := Lib.hid h
 obtain ⟨A, c, rfl, -⟩ := h
 by_cases hlen : 40 < l.length
 ·have hd : decide ((40 : Int) < (l.length : Int)) = true := decide_eq_true (by omega)
  go_enter Tryz.func6, Tryz.ntmps6
  go_wp2_with fail
  (with_reducible refine (awakeV_any _).mono ?_)
  rintro e1 w1 ⟨rfl, hb⟩
  have B1 := Lib.hid hb
  clear hb
  go_wp2_with fail
  go_ret
  exact ⟨rfl, B1.out⟩
 ·have hd : decide ((40 : Int) < (l.length : Int)) = false := decide_eq_false (by omega)
  go_enter Tryz.func6, Tryz.ntmps6
  go_wp2_with fail
  (with_reducible refine (awakeV_any _).mono ?_)
  rintro e1 w1 ⟨rfl, hb⟩
  have G1 := Lib.hid (oneW_start HA.out hb)
  clear hb hd
  go_wp2_with fail
  go_loopw [4, 5] (fun s4 s5 wr => ∃ i : Nat, ∃ n chg now had Ah ch, i ≤ l.length ∧ s4 = .slice Ah had.length ch ∧ s5 = .int .i64 i ∧ Hid (Acts i n chg now had) ∧ Hid (had.length = i + 1) ∧ Hid (OneW w w1.heap.size (w1.heap.size + 1) (.slice A l.length c) l now had (.slice Ah had.length ch) wr)) (fun _ s5 _ => l.length - (intOf s5).toNat)
  case atStart => exact ⟨0, _, _, _, _, _, _, by omega, rfl, rfl, Lib.hid Acts.start, Lib.hid rfl, G1⟩
  case round =>
   obtain ⟨i, n, chg, now, had, Ah, ch, hil, rfl, rfl, HC, HL, HW⟩ := hrel
   have i3 : (0 : Int) ≤ (i : Int) := by omega
   clear G1
   by_cases hlt : i < l.length
   ·have hdk : decide ((i : Int) < (l.length : Int)) = true := decide_eq_true (by omega)
    have i4 : (i : Int) < (l.length : Int) := by omega
    obtain ⟨A', c', e, hh⟩ := HW.out.acts
    injection e with e1 e2 e3
    subst e1 e3
    clear e2
    obtain ⟨ad, sn, rfl, c0, c1, c2, c3, c4, c5, c6, hr, u0, u1, u2, u3, u4⟩ := hh i hlt
    clear hh hr
    obtain ⟨k, hk1, hk2, hk3⟩ := rem_u8 l[i].who 4 u0 (by omega)
    have hk : k < 4 := by omega
    have k3 : (0 : Int) ≤ (k : Int) := by omega
    have k4 : (k : Int) < 4 := by omega
    have w1_ : wrap64 (k : Int) = (k : Int) := wrap_small (by omega) (by omega)
    have w2_ : wrap64 ((k : Int) + 1) = (k : Int) + 1 := wrap_small (by omega) (by omega)
    clear hk3
    go_wp2_with fail
    (with_reducible refine (at_any _ _).mono ?_)
    rintro e1 w2 ⟨rfl, hb⟩
    have q7 := below_one w2 (.cells #[.int .i64 ((k : Int) + 1), .int .i64 1] 29)
    have G2 := Lib.hid ((HW.out.step hb).step q7)
    have B7 := Lib.hid (box_new w2 ((k : Int) + 1) 1)
    have L7 := Lib.hid (show w1.heap.size < w2.heap.size from Nat.lt_of_lt_of_le HW.out.nb.lt hb.size)
    obtain ⟨o1, o2⟩ := box_cells (box_new w2 0 0)
    obtain ⟨o3, o4⟩ := box_free (box_new w2 0 0)
    clear hb q7 c0
    go_upto_region 10 with fail
    clear o1 o2 o3 o4
    obtain ⟨GB, hGB⟩ : ∃ g, g = w2.heap.size := ⟨_, rfl⟩
    rw [← hGB] at B7 L7
    rw [← hGB]
    generalize w2.alloc (.cells #[.int .i64 ((k : Int) + 1), .int .i64 1] 29) = w3 at *
    clear hGB
    obtain ⟨a, b, x, d, e, hv, ⟨n0, n1, n2, n3, n4⟩, -⟩ := G2.out.nb.at_ hk
    have q8 := below_one w3 (.cells #[.slice a.1 a.2.1 a.2.2, .slice b.1 b.2.1 b.2.2, .slice x.1 x.2.1 x.2.2, .slice d.1 d.2.1 d.2.2, .slice e.1 e.2.1 e.2.2] 27)
    have G3 : Hid (ActG w w1.heap.size (w1.heap.size + 1) GB w3.heap.size (.slice (some ad) l.length c) l now had (.slice Ah had.length ch) k a b x d e (now k) (w3.alloc (.cells #[.slice a.1 a.2.1 a.2.2, .slice b.1 b.2.1 b.2.2, .slice x.1 x.2.1 x.2.2, .slice d.1 d.2.1 d.2.2, .slice e.1 e.2.1 e.2.2] 27))) := Lib.hid ⟨G2.out.step q8, box_below B7.out q8, vbox_new w3 a b x d e, hv.below q8, L7.out, Nat.lt_of_lt_of_le (Nat.lt_succ_self _) G2.out.s1⟩
    obtain ⟨z0, z1, z2, z3, z4⟩ := vbox_cells (vbox_new w3 (none, 0, 0) (none, 0, 0) (none, 0, 0) (none, 0, 0) (none, 0, 0))
    obtain ⟨f0, f1, f2, f3, f4⟩ := vbox_free (vbox_new w3 (none, 0, 0) (none, 0, 0) (none, 0, 0) (none, 0, 0) (none, 0, 0))
    dsimp only at z0 z1 z2 z3 z4
    clear hv q8 G2 B7 L7 HW
    go_upto_region 12 with fail
    clear z0 z1 z2 z3 z4 f0 f1 f2 f3 f4 n0 n1 n2 n3 n4
    obtain ⟨GV, hGV⟩ : ∃ g, g = w3.heap.size := ⟨_, rfl⟩
    rw [← hGV] at G3
    rw [← hGV]
    generalize w3.alloc (.cells #[.slice a.1 a.2.1 a.2.2, .slice b.1 b.2.1 b.2.2, .slice x.1 x.2.1 x.2.2, .slice d.1 d.2.1 d.2.2, .slice e.1 e.2.1 e.2.2] 27) = w4 at *
    clear hGV
    obtain ⟨sn', c0, c1, c2, c3, c4, c5, c6, hr, -, v1, v2, v3, v4⟩ := G3.out.one.acts.at_ hlt
    go_upto_block 2 with fail
    go_cut [9] (fun s9 wx => ∃ T, s9 = .int .i64 0 ∧ Hid (Next i now had k T) ∧ Hid (ActG w w1.heap.size (w1.heap.size + 1) GB GV (.slice (some ad) l.length c) l (now1 now k T) had (.slice Ah had.length ch) k a b x d e (now k) wx))
    case first =>
     as_aux_lemma =>
      by_cases hK : l[i].kind = 0
      ·have hK0 : (l[i].kind == 0) = true := by simpa using hK
       obtain ⟨p, q, p2, q2, p1, q1⟩ := mem_id v2
       obtain ⟨r, r1, r2, -⟩ := rem_u8 l[i].s 7 v3 (by omega)
       have HS : Hid (∀ w', Below w4.heap.size w4 w' → (fun w' => (w'.cell? ⟨(ad.add (i * 7)).block, (ad.add (i * 7)).off + 2, none⟩ = some (.int .u8 l[i].m) ∧ w'.cell? ⟨(ad.add (i * 7)).block, (ad.add (i * 7)).off + 3, none⟩ = some (.int .u8 l[i].s)) ∧ Hid (Below w4.heap.size w4 w')) w') := Lib.hid fun w' hb => ⟨⟨(hb.cell (World.block_lt_of_cell? w4 _ c2)).trans c2, (hb.cell (World.block_lt_of_cell? w4 _ c3)).trans c3⟩, Lib.hid hb⟩
       clear c0 c1 c4 c5 c6 hr hK
       go_upto_region 15 with fail
       clear c2 c3
       go_cut [10] (fun s10 wx => ∃ g, s10 = .pointer (some ⟨g, 0, none⟩) ∧ Hid (w4.heap.size ≤ g) ∧ Hid (Below w4.heap.size w4 wx) ∧ Hid (MBox wx g ((p : Int) + 1) ((q : Int) + 1) ((r : Int) + 1) 0))
       case first =>
        as_aux_lemma =>
         refine wp_region_held_drew (S := fun w' => (w'.cell? ⟨(ad.add (i * 7)).block, (ad.add (i * 7)).off + 2, none⟩ = some (.int .u8 l[i].m) ∧ w'.cell? ⟨(ad.add (i * 7)).block, (ad.add (i * 7)).off + 3, none⟩ = some (.int .u8 l[i].s)) ∧ Hid (Below w4.heap.size w4 w')) (by kernel_rfl) ?_ (fun hHeld => ?_)
         ·exact HS.out _ (below_drewN (n := 1) (Below.refl _ _))
         (refine tk_ (i := 0) (oi := ⟨_, _, _, _, _, _⟩) (v := ?_) rfl (Or.inl ⟨by rfl, ?_⟩) ?_; rotate_left 1; · (intro w hSw; (try dsimp only at hSw); go_simp; all_goals with_reducible rfl))
         try simp only [Act.put, si0, si1, si2]
         (refine tk_ (i := 1) (oi := ⟨_, _, _, _, _, _⟩) (v := ?_) rfl (Or.inl ⟨by rfl, ?_⟩) ?_; rotate_left 1; · (intro w hSw; (try dsimp only at hSw); go_simp; all_goals with_reducible rfl))
         try simp only [Act.put, si0, si1, si2]
         (refine tk_ (i := 2) (oi := ⟨_, _, _, _, _, _⟩) (v := ?_) rfl (Or.inl ⟨by rfl, ?_⟩) ?_; rotate_left 1; · (intro w hSw; (try dsimp only at hSw); go_simp; all_goals with_reducible rfl))
         try simp only [Act.put, si0, si1, si2]
         (refine tk_ (i := 3) (oi := ⟨_, _, _, _, _, _⟩) (v := ?_) rfl (Or.inl ⟨by rfl, ?_⟩) ?_; rotate_left 1; · (intro w hSw; (try dsimp only at hSw); go_simp; all_goals with_reducible rfl))
         try simp only [Act.put, si0, si1, si2]
         (refine tk_ (i := 4) (oi := ⟨_, _, _, _, _, _⟩) (v := ?_) rfl (Or.inl ⟨by rfl, ?_⟩) ?_; rotate_left 1; · (intro w hSw; (try dsimp only at hSw); go_simp; all_goals with_reducible rfl))
         try simp only [Act.put, si0, si1, si2]
         (refine tk_ (i := 5) (oi := ⟨_, _, _, _, _, _⟩) (v := ?_) rfl (Or.inl ⟨by rfl, ?_⟩) ?_; rotate_left 1; · (intro w hSw; (try dsimp only at hSw); go_simp; all_goals with_reducible rfl))
         try simp only [Act.put, si0, si1, si2]
         (refine tk_ (i := 6) (oi := ⟨_, _, _, _, _, _⟩) (v := ?_) rfl (Or.inl ⟨by rfl, ?_⟩) ?_; rotate_left 1; · (intro w hSw; (try dsimp only at hSw); go_simp; all_goals with_reducible rfl))
         try simp only [Act.put, si0, si1, si2]
         (refine tk_ (i := 7) (oi := ⟨_, _, _, _, _, _⟩) (v := ?_) rfl (Or.inl ⟨by rfl, ?_⟩) ?_; rotate_left 1; · (intro w hSw; (try dsimp only at hSw); go_simp; all_goals with_reducible rfl))
         try simp only [Act.put, si0, si1, si2]
         (refine tk_ (i := 8) (oi := ⟨_, _, _, _, _, _⟩) (v := ?_) rfl (Or.inl ⟨by rfl, ?_⟩) ?_; rotate_left 1; · (intro w hSw; (try dsimp only at hSw); go_simp; all_goals with_reducible rfl))
         try simp only [Act.put, si0, si1, si2]
         (refine tk_ (i := 9) (oi := ⟨_, _, _, _, _, _⟩) (v := ?_) rfl (Or.inl ⟨by rfl, ?_⟩) ?_; rotate_left 1; · (intro w hSw; (try dsimp only at hSw); go_simp; all_goals with_reducible rfl))
         try simp only [Act.put, si0, si1, si2]
         (refine tk_ (i := 10) (oi := ⟨_, _, _, _, _, _⟩) (v := ?_) rfl (Or.inl ⟨by rfl, ?_⟩) ?_; rotate_left 1; · (intro w hSw; (try dsimp only at hSw); go_simp; all_goals with_reducible rfl))
         try simp only [Act.put, si0, si1, si2]
         (refine tk_ (i := 11) (oi := ⟨_, _, _, _, _, _⟩) (v := ?_) rfl (Or.inl ⟨by rfl, ?_⟩) ?_; rotate_left 1; · (intro w hSw; (try dsimp only at hSw); go_simp; all_goals with_reducible rfl))
         try simp only [Act.put, si0, si1, si2]
         (refine tk_ (i := 12) (oi := ⟨_, _, _, _, _, _⟩) (v := ?_) rfl (Or.inl ⟨by rfl, ?_⟩) ?_; rotate_left 1; · (intro w hSw; (try dsimp only at hSw); go_simp; all_goals with_reducible rfl))
         try simp only [Act.put, si0, si1, si2]
         (refine tk_ (i := 13) (oi := ⟨_, _, _, _, _, _⟩) (v := ?_) rfl (Or.inl ⟨by rfl, ?_⟩) ?_; rotate_left 1; · (intro w hSw; (try dsimp only at hSw); go_simp; all_goals with_reducible rfl))
         try simp only [Act.put, si0, si1, si2]
         (refine tk_ (i := 14) (oi := ⟨_, _, _, _, _, _⟩) (v := ?_) rfl (Or.inl ⟨by rfl, ?_⟩) ?_; rotate_left 1; · (intro w hSw; (try dsimp only at hSw); go_simp; all_goals with_reducible rfl))
         try simp only [Act.put, si0, si1, si2]
         (refine tk_ (i := 15) (oi := ⟨_, _, _, _, _, _⟩) (v := ?_) rfl (Or.inl ⟨by rfl, ?_⟩) ?_; rotate_left 1; · (intro w hSw; (try dsimp only at hSw); go_simp; all_goals with_reducible rfl))
         try simp only [Act.put, si0, si1, si2]
         (refine tk_ (i := 16) (oi := ⟨_, _, _, _, _, _⟩) (v := ?_) rfl (Or.inl ⟨by rfl, ?_⟩) ?_; rotate_left 1; · (intro w hSw; (try dsimp only at hSw); go_simp; all_goals with_reducible rfl))
         try simp only [Act.put, si0, si1, si2]
         (refine tk_ (i := 17) (oi := ⟨_, _, _, _, _, _⟩) (v := ?_) rfl (Or.inl ⟨by rfl, ?_⟩) ?_; rotate_left 1; · (intro w hSw; (try dsimp only at hSw); go_simp; all_goals with_reducible rfl))
         try simp only [Act.put, si0, si1, si2]
         (refine tk_ (i := 18) (oi := ⟨_, _, _, _, _, _⟩) (v := ?_) rfl (Or.inl ⟨by rfl, ?_⟩) ?_; rotate_left 1; · (intro w hSw; (try dsimp only at hSw); go_simp; all_goals with_reducible rfl))
         try simp only [Act.put, si0, si1, si2]
         (refine tk_ (i := 19) (oi := ⟨_, _, _, _, _, _⟩) (v := ?_) rfl (Or.inl ⟨by rfl, ?_⟩) ?_; rotate_left 1; · (intro w hSw; (try dsimp only at hSw); go_simp; all_goals with_reducible rfl))
         try simp only [Act.put, si0, si1, si2]
         (refine tk_ (i := 20) (oi := ⟨_, _, _, _, _, _⟩) (v := ?_) rfl (Or.inl ⟨by rfl, ?_⟩) ?_; rotate_left 1; · (intro w hSw; (try dsimp only at hSw); go_simp; all_goals with_reducible rfl))
         try simp only [Act.put, si0, si1, si2]
         (refine tk_ (i := 21) (oi := ⟨_, _, _, _, _, _⟩) (v := ?_) rfl (Or.inl ⟨by rfl, ?_⟩) ?_; rotate_left 1; · (intro w hSw; (try dsimp only at hSw); go_simp; all_goals with_reducible rfl))
         try simp only [Act.put, si0, si1, si2]
         (refine tk_ (i := 22) (oi := ⟨_, _, _, _, _, _⟩) (v := ?_) rfl (Or.inl ⟨by rfl, ?_⟩) ?_; rotate_left 1; · (intro w hSw; (try dsimp only at hSw); go_simp; all_goals with_reducible rfl))
         try simp only [Act.put, si0, si1, si2]
         (refine tk_ (i := 23) (oi := ⟨_, _, _, _, _, _⟩) (v := ?_) rfl (Or.inl ⟨by rfl, ?_⟩) ?_; rotate_left 1; · (intro w hSw; (try dsimp only at hSw); go_simp; all_goals with_reducible rfl))
         try simp only [Act.put, si0, si1, si2]
         (refine tk_ (i := 24) (oi := ⟨_, _, _, _, _, _⟩) (v := ?_) rfl (Or.inl ⟨by rfl, ?_⟩) ?_; rotate_left 1; · (intro w hSw; (try dsimp only at hSw); go_simp; all_goals with_reducible rfl))
         try simp only [Act.put, si0, si1, si2]
         (refine tk_ (i := 25) (oi := ⟨_, _, _, _, _, _⟩) (v := ?_) rfl (Or.inl ⟨by rfl, ?_⟩) ?_; rotate_left 1; · (intro w hSw; (try dsimp only at hSw); go_simp; all_goals with_reducible rfl))
         try simp only [Act.put, si0, si1, si2]
         refine wpAnyH_ready (rs := [26]) (by kernel_rfl) (by simp) ?_
         refine AllReadyH.cons (o := ⟨_, _, _, _, _, _⟩) rfl (fun Kq hKq => ?_) AllReadyH.nil
         go_simp
         clear hHeld
         skip
         refine hKq.out _ _ ?_ (fun hHeld => ?_)
         ·(try dsimp only); exact HS.out _ ((below_drewN (n := 1) (Below.refl _ _)).alloc (by simp) _)
         clear hKq Kq
         try simp only [Act.put, si0, si1, si2]
         refine wpAnyH_ready (rs := [27]) (by kernel_rfl) (by simp) ?_
         refine AllReadyH.cons (o := ⟨_, _, _, _, _, _⟩) rfl (fun Kq hKq => ?_) AllReadyH.nil
         obtain ⟨y1, y2, y3, y4⟩ := mbox_cells (mbox_new (w4.drewN 1) 0 0 0 0)
         obtain ⟨z1, z2, z3, z4⟩ := mbox_free (mbox_new (w4.drewN 1) 0 0 0 0)
         go_simp
         clear hHeld
         skip
         refine hKq.out _ _ ?_ (fun hHeld => ?_)
         ·(try dsimp only); exact HS.out _ ((below_drewN (n := 1) (Below.refl _ _)).alloc (by simp) _)
         clear hKq Kq
         try simp only [Act.put, si0, si1, si2]
         refine wpAnyH_done (by kernel_rfl) ?_ _
         have e1 : IntKind.i64.wrap (1 + IntKind.i64.wrap (p : Int)) = (p : Int) + 1 := by rw [i64_small (n := (p : Int)) (by omega) (by omega), i64_small (by omega) (by omega)]; omega
         have e2 : IntKind.i64.wrap (1 + IntKind.i64.wrap (q : Int)) = (q : Int) + 1 := by rw [i64_small (n := (q : Int)) (by omega) (by omega), i64_small (by omega) (by omega)]; omega
         have e3 : IntKind.u8.wrap (1 + (r : Int)) = (r : Int) + 1 := by rw [u8_small (by omega) (by omega)]; omega
         rw [e1, e2, e3]
         have qm : Below w4.heap.size w4 ((w4.alloc (.cells #[.int .i64 ((p : Int) + 1), .int .i64 ((q : Int) + 1), .int .u8 ((r : Int) + 1), .int .i64 0] 31)).drew) := (below_one w4 (.cells #[.int .i64 ((p : Int) + 1), .int .i64 ((q : Int) + 1), .int .u8 ((r : Int) + 1), .int .i64 0] 31)).trans (below_drewN (n := 1) (Below.refl _ _))
         have G5 := Lib.hid qm
         have M5 : Hid (MBox ((w4.alloc (.cells #[.int .i64 ((p : Int) + 1), .int .i64 ((q : Int) + 1), .int .u8 ((r : Int) + 1), .int .i64 0] 31)).drew) w4.heap.size ((p : Int) + 1) ((q : Int) + 1) ((r : Int) + 1) 0) := Lib.hid (mbox_new w4 _ _ _ _)
         have LM : Hid (w4.heap.size ≤ w4.heap.size) := Lib.hid (Nat.le_refl _)
         clear e1 e2 e3 qm HS p1 q1 r1 hK0
         go_wp2_with fail
         go_meet
         exact ⟨_, rfl, LM, G5, M5⟩
       case rest =>
        as_aux_lemma =>
         obtain ⟨GM, rfl, LM, G5, M5⟩ := hcut
         rename World => w5
         clear HS hK0 p1 q1 r1
         obtain ⟨y1, y2, y3, y4⟩ := mbox_cells M5.out
         obtain ⟨z1, z2, z3, z4⟩ := mbox_free M5.out
         obtain ⟨sn2, c0, c1, c2, c3, c4, c5, c6, -⟩ := (G3.out.step G5.out).one.acts.at_ hlt
         clear c0 c1 c2 c3 c5 c6
         go_upto_if 99 with fail
         go_cut [] (fun wx => ∃ no : Int, ((r : Int) + 1 < 3 → no = 0) ∧ (3 ≤ (r : Int) + 1 → 1 ≤ no ∧ no ≤ 9) ∧ Hid (ActG w w1.heap.size (w1.heap.size + 1) GB GV (.slice (some ad) l.length c) l now had (.slice Ah had.length ch) k a b x d e (now k) wx) ∧ Hid (MBox wx GM ((p : Int) + 1) ((q : Int) + 1) ((r : Int) + 1) no))
         case first =>
          as_aux_lemma =>
           by_cases h3 : 3 ≤ (r : Int) + 1
           ·have d1 : decide (3 ≤ (r : Int) + 1) = true := decide_eq_true h3
            have d2 : decide ((r : Int) + 1 ≥ 3) = true := decide_eq_true h3
            obtain ⟨y, yl, hy⟩ := num_cut l[i].n 9 (by omega) (by omega)
            have hy : wrap64 ((IntKind.u64.wrap l[i].n).tmod 9) = (y : Int) := hy
            have wy : wrap64 (1 + (y : Int)) = (y : Int) + 1 := by unfold wrap64; omega
            have LY := Lib.hid yl
            clear yl
            go_wp2_with fail
            go_meet
            exact ⟨(y : Int) + 1, fun h => absurd h (Int.not_lt.2 h3), fun _ => no_range LY.out, Lib.hid (actG_no G3.out G5.out LM.out _), Lib.hid (mbox_no M5.out _)⟩
           ·have d1 : decide (3 ≤ (r : Int) + 1) = false := decide_eq_false h3
            have d2 : decide ((r : Int) + 1 ≥ 3) = false := decide_eq_false h3
            go_wp2_with fail
            go_meet
            exact ⟨0, fun _ => rfl, fun h => absurd h (Int.not_le.2 h3), Lib.hid (G3.out.step G5.out), M5⟩
         case rest =>
          as_aux_lemma =>
           obtain ⟨no, HY1, HY2, G5, M5⟩ := hcut
           clear y1 y2 y3 y4 z1 z2 z3 z4 c4
           obtain ⟨b1, b2⟩ := box_cells G5.out.id
           obtain ⟨a0, a1, a2, a3, a4⟩ := vbox_cells G5.out.was
           obtain ⟨y1, y2, y3, y4⟩ := mbox_cells M5.out
           obtain ⟨T, hT, HN0⟩ := put_next HC.out (by omega) (by omega) hk (x := (((p : Int) + 1, (q : Int) + 1), (r : Int) + 1, no)) (mem_ok p2 q2) (mem_ok2 r2 HY1 HY2)
           have HT0 : Hid (changedV (now k) (putU (now k) ((k : Int) + 1, 1) (((p : Int) + 1, (q : Int) + 1), (r : Int) + 1, no)).1 (putU (now k) ((k : Int) + 1, 1) (((p : Int) + 1, (q : Int) + 1), (r : Int) + 1, no)).2 ((k : Int) + 1, 1) = (T, 0)) := Lib.hid hT
           have HN := Lib.hid HN0
           have HF := Lib.hid ((HC.out.fit hk).mono (show 13 ≤ 1000 by omega))
           clear hT HN0
           go_wp2_with fail
           (with_reducible refine (put_any _ (now k) ((k : Int) + 1) 1 ((p : Int) + 1) ((q : Int) + 1) ((r : Int) + 1) (no) _ G5.out.rv.at_ HF.out).mono ?_)
           rw [HT0.out]
           dsimp only
           rintro e1 w7 ⟨X, rfl, hx, hb⟩
           obtain ⟨t0, t1, t2, t3, t4, rfl, hr7⟩ := hx
           have G7 := Lib.hid (G5.out.step hb)
           have HT : Hid (RVt w7 (t0, t1, t2, t3, t4) T) := Lib.hid hr7
           clear hb hr7 b1 b2 a0 a1 a2 a3 a4 y1 y2 y3 y4
           obtain ⟨n0_, n1_, n2_, n3_, n4_, -, ⟨n0, n1, n2, n3, n4⟩, m0, m1, m2, m3, m4⟩ := G7.out.one.nb.at_ hk
           go_wp2_with fail
           go_meet
           exact ⟨T, rfl, HN, Lib.hid (G7.out.put hk (t := (t0, t1, t2, t3, t4)) HT.out)⟩
      ·by_cases hK1 : l[i].kind = 1
       ·have hK0 : (l[i].kind == 0) = false := by simpa using hK
        have hK2 : (l[i].kind == 1) = true := by simpa using hK1
        obtain ⟨N1, N2, N3⟩ := sn'
        obtain rfl : N2 = l[i].not.length := rcs_len hr
        dsimp only at c5 hr
        have HR := Lib.hid hr
        have b5 := World.block_lt_of_cell? w4 _ c5
        have C5 := Lib.hid c5
        have B5 := Lib.hid b5
        clear c0 c2 c3 c4 c5 c6 hr hK hK1 b5
        go_wp2_with fail
        go_loopw [11, 12] (fun s11 s12 wx => ∃ m : Nat, m ≤ 4 ∧ m ≤ l[i].not.length ∧ s12 = .int .i64 m ∧ Hid (OwnsI wx w4.heap.size s11 (notsOf l[i].not m)) ∧ Hid (Below w4.heap.size w4 wx)) (fun _ s12 _ => 4 - (intOf s12).toNat)
        case atStart => exact ⟨0, by omega, by omega, rfl, Lib.hid (OwnsR.nil _ _ _), Lib.hid (Below.refl _ _)⟩
        case round =>
         obtain ⟨m, hm4, hml, rfl, HO, HB⟩ := hrel
         have m3 : (0 : Int) ≤ (m : Int) := by omega
         have c5 : wr.cell? ⟨(ad.add (i * 7)).block, (ad.add (i * 7)).off + 5, none⟩ = some (.slice N1 l[i].not.length N3) := (HB.out.cell (show (⟨(ad.add (i * 7)).block, (ad.add (i * 7)).off + 5, none⟩ : Addr).block < w4.heap.size from B5.out)).trans C5.out
         by_cases hlm : m < l[i].not.length
         ·have d1 : decide ((m : Int) < (l[i].not.length : Int)) = true := decide_eq_true (by omega)
          have m4 : (m : Int) < (l[i].not.length : Int) := by omega
          by_cases h4 : m < 4
          ·have d2 : decide ((m : Int) < 4) = true := decide_eq_true (by omega)
           have HRW := Lib.hid (HR.out.below HB.out)
           obtain ⟨an, hNa⟩ := HRW.out.addr (Nat.lt_of_le_of_lt (Nat.zero_le _) hlm)
           rw [hNa] at c5 HRW
           have cb : wr.cell? (an.add m) = some (.int .u8 l[i].not[m]) := by
            have h := HRW.out.first (Below.refl _ _) hlm rfl
            rwa [Nat.mul_one] at h
           clear hNa
           obtain ⟨y, y1, y2, -⟩ := rem_u8 l[i].not[m] 5 (v4 _ (List.getElem_mem hlm)) (by omega)
           have HS1 : Hid (notsOf l[i].not (m + 1) = notsOf l[i].not m ++ [(1 + (y : Int), 1)]) := Lib.hid (by rw [notsOf_succ hlm, y1])
           obtain ⟨xb, hxb⟩ : ∃ xb, l[i].not[m] = xb := ⟨_, rfl⟩
           rw [hxb] at cb y1
           clear hxb
           have HY : Hid (wrap64 (1 + wrap64 (xb.tmod 5)) = 1 + (y : Int)) := Lib.hid (by rw [y1, (wrap_y y2).1, (wrap_y y2).2])
           clear y1 y2
           have HLN := Lib.hid (notsOf_len (l := l[i].not) hm4)
           go_wp2_with fail
           rw [HY.out]
           (with_reducible refine (at_any _ _).mono ?_)
           rintro e1 w5 ⟨rfl, hb⟩
           have q5 := below_one w5 (.cells #[.int .i64 (1 + (y : Int)), .int .i64 1] 29)
           have HB5 := Lib.hid (below_after (below_after HB.out hb (Nat.le_refl _)) q5 (Nat.le_refl _))
           have HO5 := Lib.hid (OwnsR.below (OwnsR.below HO.out hb) q5)
           have HI5 : Hid (Ids (w5.alloc (.cells #[.int .i64 (1 + (y : Int)), .int .i64 1] 29)) (.slice (some ⟨w5.heap.size, 0, none⟩) 1 1) [(1 + (y : Int), 1)]) := Lib.hid (ids_lit w5 [(1 + (y : Int), 1)])
           clear hb q5 c5 cb
           go_wp2_with first
            | (at_builtin; refine wpList_append_recs (enc := encI) (sz := 2) 23 29 Tryz.underlying23 info23 rfl encI_len (by decide) encI_one (by decide) rfl (.tmp 135) (.tmp 148) rfl _ w4.heap.size _ _ (notsOf l[i].not m) [(1 + (y : Int), 1)] rfl rfl HO5.out (rcs_ids HI5.out) (nots_room HLN.out) HB5.out.size ?_; intro v3 w6 k1 k2; have HO6 := Lib.hid k1; have HB6 := Lib.hid (HB5.out.trans k2); clear k1 k2)
           clear d1 d2 m4
           go_roundw
           case rel => exact ⟨m + 1, Nat.succ_le_of_lt h4, Nat.succ_le_of_lt hlm, by go_num, by rw [HS1.out]; exact HO6, HB6⟩
           case measure => simp [intOf]; omega
          ·have d2 : decide ((m : Int) < 4) = false := decide_eq_false (by omega)
           clear HR
           have G5 := Lib.hid (G3.out.step HB.out)
           have HI5 := Lib.hid (ids_rcs (rcs_owns encI_len HO.out))
           obtain ⟨vs, hvs⟩ := sl_ids HI5.out
           subst hvs
           obtain ⟨b1, b2⟩ := box_cells G5.out.id
           obtain ⟨a0, a1, a2, a3, a4⟩ := vbox_cells G5.out.was
           obtain ⟨T, hT, HN0⟩ := row_next HC.out (by omega) (by omega) hk (not := notsOf l[i].not m) (notsOf_in v4 m)
           have HT0 : Hid (changedV (now k) (rowU (now k) ((k : Int) + 1, 1) (notsOf l[i].not m)).1 (rowU (now k) ((k : Int) + 1, 1) (notsOf l[i].not m)).2 ((k : Int) + 1, 1) = (T, 0)) := Lib.hid hT
           have HN := Lib.hid HN0
           have HF := Lib.hid ((HC.out.fit hk).mono (show 13 ≤ 1000 by omega))
           have HU : Hid (Fit 1000 (rowU (now k) ((k : Int) + 1, 1) (notsOf l[i].not m)).1) := Lib.hid (fit_rowU hk (HC.out.few.1 k hk) (HC.out.ok hk) (by omega) (notsOf_in v4 m) (notsOf_len hm4))
           have HV := Lib.hid (show ∀ r ∈ (now k).r, -9223372036854775808 ≤ r.2.1 from fun r hr => by have := ((HC.out.few.1 k hk).r r hr).2.1; omega)
           have HNL := Lib.hid (show (notsOf l[i].not m).length ≤ 40000 from Nat.le_trans (notsOf_len hm4) (by decide))
           clear hT HN0 HO
           go_wp2_with fail
           (with_reducible refine (row_any _ (now k) ((k : Int) + 1) 1 vs (notsOf l[i].not m) _ G5.out.rv.at_ HF.out HI5.out HV.out HNL.out HU.out).mono ?_)
           rw [HT0.out]
           dsimp only
           rintro e1 w7 ⟨X, rfl, hx, hb⟩
           obtain ⟨t0, t1, t2, t3, t4, rfl, hr7⟩ := hx
           have G7 := Lib.hid (G5.out.step hb)
           have HT : Hid (RVt w7 (t0, t1, t2, t3, t4) T) := Lib.hid hr7
           clear hb hr7 b1 b2 a0 a1 a2 a3 a4
           obtain ⟨n0_, n1_, n2_, n3_, n4_, -, ⟨n0, n1, n2, n3, n4⟩, m0, m1, m2, m3, m4⟩ := G7.out.one.nb.at_ hk
           go_wp2_with fail
           go_meet
           exact ⟨T, rfl, HN, Lib.hid (G7.out.put hk (t := (t0, t1, t2, t3, t4)) HT.out)⟩
         ·have d1 : decide ((m : Int) < (l[i].not.length : Int)) = false := decide_eq_false (by omega)
          clear HR
          have G5 := Lib.hid (G3.out.step HB.out)
          have HI5 := Lib.hid (ids_rcs (rcs_owns encI_len HO.out))
          obtain ⟨vs, hvs⟩ := sl_ids HI5.out
          subst hvs
          obtain ⟨b1, b2⟩ := box_cells G5.out.id
          obtain ⟨a0, a1, a2, a3, a4⟩ := vbox_cells G5.out.was
          obtain ⟨T, hT, HN0⟩ := row_next HC.out (by omega) (by omega) hk (not := notsOf l[i].not m) (notsOf_in v4 m)
          have HT0 : Hid (changedV (now k) (rowU (now k) ((k : Int) + 1, 1) (notsOf l[i].not m)).1 (rowU (now k) ((k : Int) + 1, 1) (notsOf l[i].not m)).2 ((k : Int) + 1, 1) = (T, 0)) := Lib.hid hT
          have HN := Lib.hid HN0
          have HF := Lib.hid ((HC.out.fit hk).mono (show 13 ≤ 1000 by omega))
          have HU : Hid (Fit 1000 (rowU (now k) ((k : Int) + 1, 1) (notsOf l[i].not m)).1) := Lib.hid (fit_rowU hk (HC.out.few.1 k hk) (HC.out.ok hk) (by omega) (notsOf_in v4 m) (notsOf_len hm4))
          have HV := Lib.hid (show ∀ r ∈ (now k).r, -9223372036854775808 ≤ r.2.1 from fun r hr => by have := ((HC.out.few.1 k hk).r r hr).2.1; omega)
          have HNL := Lib.hid (show (notsOf l[i].not m).length ≤ 40000 from Nat.le_trans (notsOf_len hm4) (by decide))
          clear hT HN0 HO
          go_wp2_with fail
          (with_reducible refine (row_any _ (now k) ((k : Int) + 1) 1 vs (notsOf l[i].not m) _ G5.out.rv.at_ HF.out HI5.out HV.out HNL.out HU.out).mono ?_)
          rw [HT0.out]
          dsimp only
          rintro e1 w7 ⟨X, rfl, hx, hb⟩
          obtain ⟨t0, t1, t2, t3, t4, rfl, hr7⟩ := hx
          have G7 := Lib.hid (G5.out.step hb)
          have HT : Hid (RVt w7 (t0, t1, t2, t3, t4) T) := Lib.hid hr7
          clear hb hr7 b1 b2 a0 a1 a2 a3 a4
          obtain ⟨n0_, n1_, n2_, n3_, n4_, -, ⟨n0, n1, n2, n3, n4⟩, m0, m1, m2, m3, m4⟩ := G7.out.one.nb.at_ hk
          go_wp2_with fail
          go_meet
          exact ⟨T, rfl, HN, Lib.hid (G7.out.put hk (t := (t0, t1, t2, t3, t4)) HT.out)⟩
       ·have hK0 : (l[i].kind == 0) = false := by simpa using hK
        have hK2 : (l[i].kind == 1) = false := by simpa using hK1
        obtain ⟨j, jl, hj⟩ := num_cut l[i].view had.length (by have := HL.out; omega) (by have := HL.out; omega)
        obtain ⟨_, _, _, hno, _⟩ := G3.out.one.nb
        have ha6 : (ad.add (i * 7)).block ≠ w1.heap.size := fun e => hno _ e _ _ c0
        obtain ⟨ah, hae, hab, h0, h1, h2, h3, h4, hvh, g0, g1, g2, g3, g4⟩ := G3.out.one.hb.at_ jl
        obtain rfl := hae
        obtain ⟨a0, a1, a2, a3, a4⟩ := vbox_cells G3.out.was
        obtain ⟨b1, b2⟩ := box_cells G3.out.id
        have HB1 : ∀ q : Addr, q.block = ah.block → q.block ≠ w1.heap.size := fun q hq => by rw [hq]; omega
        have HS : Hid (∀ w' : World, (∀ j, j < w4.heap.size → j ≠ w1.heap.size → w'.heap[j]? = w4.heap[j]?) → (fun w' => (w'.cell? ⟨GV, 0, none⟩ = some (.slice a.1 a.2.1 a.2.2) ∧ w'.cell? ⟨GV, 1, none⟩ = some (.slice b.1 b.2.1 b.2.2) ∧ w'.cell? ⟨GV, 2, none⟩ = some (.slice x.1 x.2.1 x.2.2) ∧ w'.cell? ⟨GV, 3, none⟩ = some (.slice d.1 d.2.1 d.2.2) ∧ w'.cell? ⟨GV, 4, none⟩ = some (.slice e.1 e.2.1 e.2.2)) ∧ w'.cell? ⟨(ad.add (i * 7)).block, (ad.add (i * 7)).off + 6, none⟩ = some (.int .i64 l[i].view) ∧ (w'.cell? (ah.add (j * 5)) = some (.slice h0.1 h0.2.1 h0.2.2) ∧ w'.cell? ⟨(ah.add (j * 5)).block, (ah.add (j * 5)).off + 1, none⟩ = some (.slice h1.1 h1.2.1 h1.2.2) ∧ w'.cell? ⟨(ah.add (j * 5)).block, (ah.add (j * 5)).off + 2, none⟩ = some (.slice h2.1 h2.2.1 h2.2.2) ∧ w'.cell? ⟨(ah.add (j * 5)).block, (ah.add (j * 5)).off + 3, none⟩ = some (.slice h3.1 h3.2.1 h3.2.2) ∧ w'.cell? ⟨(ah.add (j * 5)).block, (ah.add (j * 5)).off + 4, none⟩ = some (.slice h4.1 h4.2.1 h4.2.2)) ∧ (w'.cell? ⟨GB, 0, none⟩ = some (.int .i64 ((k : Int) + 1)) ∧ w'.cell? ⟨GB, 1, none⟩ = some (.int .i64 1))) w') := Lib.hid fun w' hh => by
         have key : ∀ (q : Addr) (u : Value), w4.cell? q = some u → q.block ≠ w1.heap.size → w'.cell? q = some u := fun q u hu hne => (World.cell?_of_block (hh _ (World.block_lt_of_cell? w4 _ hu) hne)).trans hu
         have nv : GV ≠ w1.heap.size := by have := G3.out.n8; omega
         have nb : GB ≠ w1.heap.size := by have := G3.out.n7; omega
         exact ⟨⟨key _ _ a0 nv, key _ _ a1 nv, key _ _ a2 nv, key _ _ a3 nv, key _ _ a4 nv⟩, key _ _ c6 ha6, ⟨key _ _ g0 (HB1 _ (addr_block _ _)), key _ _ g1 (HB1 _ (addr_block _ _)), key _ _ g2 (HB1 _ (addr_block _ _)), key _ _ g3 (HB1 _ (addr_block _ _)), key _ _ g4 (HB1 _ (addr_block _ _))⟩, key _ _ b1 nb, key _ _ b2 nb⟩
        have HH := Lib.hid hvh
        have hm := List.getElem_mem jl
        have F1 := Lib.hid ((HC.out.fit hk).mono (show 13 ≤ 400 by omega))
        have F2 := Lib.hid ((HC.out.fitH hm).mono (show 13 ≤ 400 by omega))
        have U1 := Lib.hid (HC.out.ok hk).nr.1
        have U2 := Lib.hid (HC.out.okH hm).nr.1
        have HN := Lib.hid (HC.out.tell (by omega) hk hm)
        have HLn := Lib.hid (show had.length ≤ 1000 by have := HL.out; omega)
        have j3 : (0 : Int) ≤ (j : Int) := by omega
        have j4 : (j : Int) < (had.length : Int) := by omega
        have j5 : IntKind.u64.wrap (had.length : Int) = (had.length : Int) := u64_small (by omega) (by have := HLn.out; omega)
        have j7 : (had.length : Int) ≠ 0 := by omega
        have j6 : ((had.length : Int) == 0) = false := by simpa using j7
        have j8 : ¬ had = [] := fun e => by rw [e] at jl; exact Nat.not_lt_zero _ jl
        have hj2 : IntKind.i64.wrap ((IntKind.u64.wrap l[i].view).tmod (had.length : Int)) = (j : Int) := by
         rw [IntKind.wrap_i64]
         unfold wrap64 at hj
         exact hj
        clear j7 hj hno c0 c1 c2 c3 c4 c5 c6 hr hK hK1 hm hvh a0 a1 a2 a3 a4 b1 b2 g0 g1 g2 g3 g4 HB1 ha6 hab
        go_upto_region 13 with fail
        refine wp_region_held_drew (S := fun w' => (w'.cell? ⟨GV, 0, none⟩ = some (.slice a.1 a.2.1 a.2.2) ∧ w'.cell? ⟨GV, 1, none⟩ = some (.slice b.1 b.2.1 b.2.2) ∧ w'.cell? ⟨GV, 2, none⟩ = some (.slice x.1 x.2.1 x.2.2) ∧ w'.cell? ⟨GV, 3, none⟩ = some (.slice d.1 d.2.1 d.2.2) ∧ w'.cell? ⟨GV, 4, none⟩ = some (.slice e.1 e.2.1 e.2.2)) ∧ w'.cell? ⟨(ad.add (i * 7)).block, (ad.add (i * 7)).off + 6, none⟩ = some (.int .i64 l[i].view) ∧ (w'.cell? (ah.add (j * 5)) = some (.slice h0.1 h0.2.1 h0.2.2) ∧ w'.cell? ⟨(ah.add (j * 5)).block, (ah.add (j * 5)).off + 1, none⟩ = some (.slice h1.1 h1.2.1 h1.2.2) ∧ w'.cell? ⟨(ah.add (j * 5)).block, (ah.add (j * 5)).off + 2, none⟩ = some (.slice h2.1 h2.2.1 h2.2.2) ∧ w'.cell? ⟨(ah.add (j * 5)).block, (ah.add (j * 5)).off + 3, none⟩ = some (.slice h3.1 h3.2.1 h3.2.2) ∧ w'.cell? ⟨(ah.add (j * 5)).block, (ah.add (j * 5)).off + 4, none⟩ = some (.slice h4.1 h4.2.1 h4.2.2)) ∧ (w'.cell? ⟨GB, 0, none⟩ = some (.int .i64 ((k : Int) + 1)) ∧ w'.cell? ⟨GB, 1, none⟩ = some (.int .i64 1))) (by kernel_rfl) ?_ (fun hHeld => ?_)
        ·exact HS.out _ (fun j hj _ => (below_drewN (n := 1) (Below.refl w4.heap.size w4)).block j hj)
        (refine tk_ (i := 0) (oi := ⟨_, _, _, _, _, _⟩) (v := ?_) rfl (Or.inl ⟨by rfl, ?_⟩) ?_; rotate_left 1; · (intro w hSw; (try dsimp only at hSw); go_simp; all_goals with_reducible rfl))
        try simp only [Act.put, si0, si1, si2]
        (refine tk_ (i := 1) (oi := ⟨_, _, _, _, _, _⟩) (v := ?_) rfl (Or.inl ⟨by rfl, ?_⟩) ?_; rotate_left 1; · (intro w hSw; (try dsimp only at hSw); go_simp; all_goals with_reducible rfl))
        try simp only [Act.put, si0, si1, si2]
        (refine tk_ (i := 2) (oi := ⟨_, _, _, _, _, _⟩) (v := ?_) rfl (Or.inl ⟨by rfl, ?_⟩) ?_; rotate_left 1; · (intro w hSw; (try dsimp only at hSw); go_simp; all_goals with_reducible rfl))
        try simp only [Act.put, si0, si1, si2]
        (refine tk_ (i := 3) (oi := ⟨_, _, _, _, _, _⟩) (v := ?_) rfl (Or.inl ⟨by rfl, ?_⟩) ?_; rotate_left 1; · (intro w hSw; (try dsimp only at hSw); go_simp; all_goals with_reducible rfl))
        try simp only [Act.put, si0, si1, si2]
        (refine tk_ (i := 4) (oi := ⟨_, _, _, _, _, _⟩) (v := ?_) rfl (Or.inl ⟨by rfl, ?_⟩) ?_; rotate_left 1; · (intro w hSw; (try dsimp only at hSw); go_simp; all_goals with_reducible rfl))
        try simp only [Act.put, si0, si1, si2]
        (refine tk_ (i := 5) (oi := ⟨_, _, _, _, _, _⟩) (v := ?_) rfl (Or.inl ⟨by rfl, ?_⟩) ?_; rotate_left 1; · (intro w hSw; (try dsimp only at hSw); go_simp; all_goals with_reducible rfl))
        try simp only [Act.put, si0, si1, si2]
        (refine tk_ (i := 6) (oi := ⟨_, _, _, _, _, _⟩) (v := ?_) rfl (Or.inl ⟨by rfl, ?_⟩) ?_; rotate_left 1; · (intro w hSw; (try dsimp only at hSw); go_simp; all_goals with_reducible rfl))
        try simp only [Act.put, si0, si1, si2]
        (refine tk_ (i := 7) (oi := ⟨_, _, _, _, _, _⟩) (v := ?_) rfl (Or.inl ⟨by rfl, ?_⟩) ?_; rotate_left 1; · (intro w hSw; (try dsimp only at hSw); go_simp; all_goals with_reducible rfl))
        try simp only [Act.put, si0, si1, si2]
        (refine tk_ (i := 8) (oi := ⟨_, _, _, _, _, _⟩) (v := ?_) rfl (Or.inl ⟨by rfl, ?_⟩) ?_; rotate_left 1; · (intro w hSw; (try dsimp only at hSw); go_simp; all_goals with_reducible rfl))
        try simp only [Act.put, si0, si1, si2]
        (refine tk_ (i := 9) (oi := ⟨_, _, _, _, _, _⟩) (v := ?_) rfl (Or.inl ⟨by rfl, ?_⟩) ?_; rotate_left 1; · (intro w hSw; (try dsimp only at hSw); go_simp; all_goals with_reducible rfl))
        try simp only [Act.put, si0, si1, si2]
        (refine tk_ (i := 10) (oi := ⟨_, _, _, _, _, _⟩) (v := ?_) rfl (Or.inl ⟨by rfl, ?_⟩) ?_; rotate_left 1; · (intro w hSw; (try dsimp only at hSw); go_simp; all_goals with_reducible rfl))
        try simp only [Act.put, si0, si1, si2]
        (refine tk_ (i := 11) (oi := ⟨_, _, _, _, _, _⟩) (v := ?_) rfl (Or.inl ⟨by rfl, ?_⟩) ?_; rotate_left 1; · (intro w hSw; (try dsimp only at hSw); go_simp; all_goals with_reducible rfl))
        try simp only [Act.put, si0, si1, si2]
        (refine tk_ (i := 12) (oi := ⟨_, _, _, _, _, _⟩) (v := ?_) rfl (Or.inl ⟨by rfl, ?_⟩) ?_; rotate_left 1; · (intro w hSw; (try dsimp only at hSw); go_simp; all_goals with_reducible rfl))
        try simp only [Act.put, si0, si1, si2]
        (refine tk_ (i := 13) (oi := ⟨_, _, _, _, _, _⟩) (v := ?_) rfl (Or.inl ⟨by rfl, ?_⟩) ?_; rotate_left 1; · (intro w hSw; (try dsimp only at hSw); go_simp; all_goals with_reducible rfl))
        try simp only [Act.put, si0, si1, si2]
        (refine tk_ (i := 14) (oi := ⟨_, _, _, _, _, _⟩) (v := ?_) rfl (Or.inl ⟨by rfl, ?_⟩) ?_; rotate_left 1; · (intro w hSw; (try dsimp only at hSw); go_simp; all_goals with_reducible rfl))
        try simp only [Act.put, si0, si1, si2]
        (refine tk_ (i := 15) (oi := ⟨_, _, _, _, _, _⟩) (v := ?_) rfl (Or.inl ⟨by rfl, ?_⟩) ?_; rotate_left 1; · (intro w hSw; (try dsimp only at hSw); go_simp; all_goals with_reducible rfl))
        try simp only [Act.put, si0, si1, si2]
        (refine tk_ (i := 16) (oi := ⟨_, _, _, _, _, _⟩) (v := ?_) rfl (Or.inl ⟨by rfl, ?_⟩) ?_; rotate_left 1; · (intro w hSw; (try dsimp only at hSw); go_simp; all_goals with_reducible rfl))
        try simp only [Act.put, si0, si1, si2]
        refine wpAnyH_ready (rs := [17]) (by kernel_rfl) (by simp) ?_
        refine AllReadyH.cons (o := ⟨_, _, _, _, _, _⟩) rfl (fun Kq hKq => ?_) AllReadyH.nil
        go_simp
        clear hHeld
        (go_at_call 13; (with_reducible refine (tell_any _ _ (now k) had[j] ((k : Int) + 1) 1 _ (G3.out.rv.below (show Below w4.heap.size w4 w4.drew from below_drewN (n := 1) (Below.refl _ _))).at_ (HH.out.below (show Below w4.heap.size w4 w4.drew from below_drewN (n := 1) (Below.refl _ _))).at_ F1.out F2.out U1.out U2.out).mono ?_); rintro e1 w7 ⟨X, rfl, hx, hb⟩; obtain ⟨t0, t1, t2, t3, t4, rfl, hr7⟩ := hx; have HK := Lib.hid (show Below w4.heap.size w4 w7 from (below_drewN (n := 1) (Below.refl _ _)).trans hb); have HT : Hid (RVt w7 (t0, t1, t2, t3, t4) (tellP (now k) had[j] ((k : Int) + 1) 1)) := Lib.hid hr7; have G7 := Lib.hid (G3.out.step HK.out); clear hb hr7)
        refine hKq.out _ _ ?_ (fun hHeld => ?_)
        ·(try dsimp only); exact HS.out _ (fun j hj _ => HK.out.block j hj)
        clear hKq Kq
        try simp only [Act.put, si0, si1, si2]
        (refine tk_ (i := 18) (oi := ⟨_, _, _, _, _, _⟩) (v := ?_) rfl (Or.inl ⟨by rfl, ?_⟩) ?_; rotate_left 1; · (intro w hSw; (try dsimp only at hSw); go_simp; all_goals with_reducible rfl))
        try simp only [Act.put, si0, si1, si2]
        refine wpAnyH_ready (rs := [19]) (by kernel_rfl) (by simp) ?_
        refine AllReadyH.cons (o := ⟨_, _, _, _, _, _⟩) rfl (fun Kq hKq => ?_) AllReadyH.nil
        obtain ⟨n0_, n1_, n2_, n3_, n4_, -, ⟨n0, n1, n2, n3, n4⟩, m0, m1, m2, m3, m4⟩ := G7.out.one.nb.at_ hk
        go_simp
        clear hHeld
        skip
        refine hKq.out _ _ ?_ (fun hHeld => ?_)
        ·(try dsimp only); exact HS.out _ (fun j hj hne => (heap_setCells w1.heap.size (encV (t0, t1, t2, t3, t4)) (k * 5) w7 j hne).trans (HK.out.block j hj))
        clear hKq Kq
        try simp only [Act.put, si0, si1, si2]
        refine wpAnyH_done (by kernel_rfl) ?_ _
        go_wp2_with fail
        go_meet
        exact ⟨tellV (now k) had[j] k, rfl, HN, Lib.hid (by have h := G7.out.put hk (t := (t0, t1, t2, t3, t4)) HT.out; rw [tellP_is] at h; exact h)⟩
    case rest =>
     as_aux_lemma =>
      obtain ⟨T, rfl, HN, HG⟩ := hcut
      rename World => w5
      have hN := HN.out
      obtain ⟨hcv, n', chg', hA⟩ := hN
      have eT : now1 now k T k = T := now1_at _ _ _
      have HA := Lib.hid hA
      have HCV := Lib.hid hcv
      have HM : Hid (mayV T = true) := Lib.hid (by have h := hA.may (show ((i : Int) + 1) ≤ 1000 by omega) hk; rw [eT] at h; exact h)
      have FT : Hid (Fit 13 T) := Lib.hid (by have h := hA.fit hk; rw [eT] at h; exact h)
      have UT : Hid (RowSets.Up T.r) := Lib.hid (by have h := (hA.ok hk).nr.1; rw [eT] at h; exact h)
      have F0 := Lib.hid (FT.out.mono (show 13 ≤ 1000 by omega))
      have F1 := Lib.hid (FT.out.mono (show 13 ≤ 400 by omega))
      have F2 := Lib.hid ((HC.out.fit hk).mono (show 13 ≤ 400 by omega))
      have U1 := UT
      have U2 := Lib.hid (HC.out.ok hk).nr.1
      clear hcv hA eT c0 c1 c2 c3 c4 c5 c6 hr v1 v2 v3 v4
      go_upto_region 26 with fail
      go_cut [175] (fun sT wx => sT = .bool false ∧ Hid (ActG w w1.heap.size (w1.heap.size + 1) GB GV (.slice (some ad) l.length c) l (now1 now k T) had (.slice Ah had.length ch) k a b x d e (now k) wx))
      case first =>
       as_aux_lemma =>
        obtain ⟨h0, h1, h2, h3, h4, hvh, ⟨n0, n1, n2, n3, n4⟩, -⟩ := HG.out.one.nb.at_ hk
        rw [now1_at] at hvh
        have HH := Lib.hid hvh
        obtain ⟨a0, a1, a2, a3, a4⟩ := vbox_cells HG.out.was
        have HS : Hid (∀ w', Below w5.heap.size w5 w' → (fun w' => ((w'.cell? ⟨w1.heap.size, k * 5, none⟩ = some (.slice h0.1 h0.2.1 h0.2.2) ∧ w'.cell? ⟨w1.heap.size, k * 5 + 1, none⟩ = some (.slice h1.1 h1.2.1 h1.2.2) ∧ w'.cell? ⟨w1.heap.size, k * 5 + 2, none⟩ = some (.slice h2.1 h2.2.1 h2.2.2) ∧ w'.cell? ⟨w1.heap.size, k * 5 + 3, none⟩ = some (.slice h3.1 h3.2.1 h3.2.2) ∧ w'.cell? ⟨w1.heap.size, k * 5 + 4, none⟩ = some (.slice h4.1 h4.2.1 h4.2.2)) ∧ (w'.cell? ⟨GV, 0, none⟩ = some (.slice a.1 a.2.1 a.2.2) ∧ w'.cell? ⟨GV, 1, none⟩ = some (.slice b.1 b.2.1 b.2.2) ∧ w'.cell? ⟨GV, 2, none⟩ = some (.slice x.1 x.2.1 x.2.2) ∧ w'.cell? ⟨GV, 3, none⟩ = some (.slice d.1 d.2.1 d.2.2) ∧ w'.cell? ⟨GV, 4, none⟩ = some (.slice e.1 e.2.1 e.2.2))) ∧ Hid (Below w5.heap.size w5 w')) w') := Lib.hid fun w' hb => by
         have key : ∀ (q : Addr) (u : Value), w5.cell? q = some u → w'.cell? q = some u := fun q u hu => (hb.cell (World.block_lt_of_cell? w5 _ hu)).trans hu
         exact ⟨⟨⟨key _ _ n0, key _ _ n1, key _ _ n2, key _ _ n3, key _ _ n4⟩, key _ _ a0, key _ _ a1, key _ _ a2, key _ _ a3, key _ _ a4⟩, Lib.hid hb⟩
        clear hvh n0 n1 n2 n3 n4 a0 a1 a2 a3 a4
        refine wp_region_held_drew (S := fun w' => ((w'.cell? ⟨w1.heap.size, k * 5, none⟩ = some (.slice h0.1 h0.2.1 h0.2.2) ∧ w'.cell? ⟨w1.heap.size, k * 5 + 1, none⟩ = some (.slice h1.1 h1.2.1 h1.2.2) ∧ w'.cell? ⟨w1.heap.size, k * 5 + 2, none⟩ = some (.slice h2.1 h2.2.1 h2.2.2) ∧ w'.cell? ⟨w1.heap.size, k * 5 + 3, none⟩ = some (.slice h3.1 h3.2.1 h3.2.2) ∧ w'.cell? ⟨w1.heap.size, k * 5 + 4, none⟩ = some (.slice h4.1 h4.2.1 h4.2.2)) ∧ (w'.cell? ⟨GV, 0, none⟩ = some (.slice a.1 a.2.1 a.2.2) ∧ w'.cell? ⟨GV, 1, none⟩ = some (.slice b.1 b.2.1 b.2.2) ∧ w'.cell? ⟨GV, 2, none⟩ = some (.slice x.1 x.2.1 x.2.2) ∧ w'.cell? ⟨GV, 3, none⟩ = some (.slice d.1 d.2.1 d.2.2) ∧ w'.cell? ⟨GV, 4, none⟩ = some (.slice e.1 e.2.1 e.2.2))) ∧ Hid (Below w5.heap.size w5 w')) (by kernel_rfl) ?_ (fun hHeld => ?_)
        ·exact HS.out _ (below_drewN (n := 1) (Below.refl _ _))
        (refine tk_ (i := 0) (oi := ⟨_, _, _, _, _, _⟩) (v := ?_) rfl (Or.inl ⟨by rfl, ?_⟩) ?_; rotate_left 1; · (intro w hSw; (try dsimp only at hSw); go_simp; all_goals with_reducible rfl))
        try simp only [Act.put, si0, si1, si2]
        (refine tk_ (i := 1) (oi := ⟨_, _, _, _, _, _⟩) (v := ?_) rfl (Or.inl ⟨by rfl, ?_⟩) ?_; rotate_left 1; · (intro w hSw; (try dsimp only at hSw); go_simp; all_goals with_reducible rfl))
        try simp only [Act.put, si0, si1, si2]
        (refine tk_ (i := 2) (oi := ⟨_, _, _, _, _, _⟩) (v := ?_) rfl (Or.inl ⟨by rfl, ?_⟩) ?_; rotate_left 1; · (intro w hSw; (try dsimp only at hSw); go_simp; all_goals with_reducible rfl))
        try simp only [Act.put, si0, si1, si2]
        first | (refine tk_ (i := 3) (oi := ⟨_, _, _, _, _, _⟩) (v := ?_) rfl (Or.inl ⟨by rfl, ?_⟩) ?_; rotate_left 1; · (intro w hSw; (try dsimp only at hSw); go_simp; all_goals with_reducible rfl)) | refine tk_ (i := 3) (oi := ⟨_, _, _, _, _, _⟩) (v := undef) rfl (Or.inr ⟨by kernel_rfl, rfl⟩) ?_
        try simp only [Act.put, si0, si1, si2]
        first | (refine tk_ (i := 4) (oi := ⟨_, _, _, _, _, _⟩) (v := ?_) rfl (Or.inl ⟨by rfl, ?_⟩) ?_; rotate_left 1; · (intro w hSw; (try dsimp only at hSw); go_simp; all_goals with_reducible rfl)) | refine tk_ (i := 4) (oi := ⟨_, _, _, _, _, _⟩) (v := undef) rfl (Or.inr ⟨by kernel_rfl, rfl⟩) ?_
        try simp only [Act.put, si0, si1, si2]
        first | (refine tk_ (i := 5) (oi := ⟨_, _, _, _, _, _⟩) (v := ?_) rfl (Or.inl ⟨by rfl, ?_⟩) ?_; rotate_left 1; · (intro w hSw; (try dsimp only at hSw); go_simp; all_goals with_reducible rfl)) | refine tk_ (i := 5) (oi := ⟨_, _, _, _, _, _⟩) (v := undef) rfl (Or.inr ⟨by kernel_rfl, rfl⟩) ?_
        try simp only [Act.put, si0, si1, si2]
        refine wpAnyH_ready (rs := [6]) (by kernel_rfl) (by simp) ?_
        refine AllReadyH.cons (o := ⟨_, _, _, _, _, _⟩) rfl (fun Kq hKq => ?_) AllReadyH.nil
        go_simp
        clear hHeld
        (go_at_call 9; (with_reducible refine (mayV_any _ T _ (HH.out.below (show Below w5.heap.size w5 w5.drew from below_drewN (n := 1) (Below.refl _ _))).at_ F0.out).mono ?_); rw [HM.out]; rintro e1 w6 ⟨rfl, hb⟩; have HK := Lib.hid (show Below w5.heap.size w5 w6 from (below_drewN (n := 1) (Below.refl _ _)).trans hb); clear hb)
        refine hKq.out _ _ ?_ (fun hHeld => ?_)
        ·(try dsimp only); exact HS.out _ HK.out
        clear hKq Kq
        try simp only [Act.put, si0, si1, si2]
        first | (refine tk_ (i := 7) (oi := ⟨_, _, _, _, _, _⟩) (v := ?_) rfl (Or.inl ⟨by rfl, ?_⟩) ?_; rotate_left 1; · (intro w hSw; (try dsimp only at hSw); go_simp; all_goals with_reducible rfl)) | refine tk_ (i := 7) (oi := ⟨_, _, _, _, _, _⟩) (v := undef) rfl (Or.inr ⟨by kernel_rfl, rfl⟩) ?_
        try simp only [Act.put, si0, si1, si2]
        (refine tk_ (i := 8) (oi := ⟨_, _, _, _, _, _⟩) (v := ?_) rfl (Or.inl ⟨by rfl, ?_⟩) ?_; rotate_left 1; · (intro w hSw; (try dsimp only at hSw); go_simp; all_goals with_reducible rfl))
        try simp only [Act.put, si0, si1, si2]
        (refine tk_ (i := 9) (oi := ⟨_, _, _, _, _, _⟩) (v := ?_) rfl (Or.inl ⟨by rfl, ?_⟩) ?_; rotate_left 1; · (intro w hSw; (try dsimp only at hSw); go_simp; all_goals with_reducible rfl))
        try simp only [Act.put, si0, si1, si2]
        first | (refine tk_ (i := 10) (oi := ⟨_, _, _, _, _, _⟩) (v := ?_) rfl (Or.inl ⟨by rfl, ?_⟩) ?_; rotate_left 1; · (intro w hSw; (try dsimp only at hSw); go_simp; all_goals with_reducible rfl)) | refine tk_ (i := 10) (oi := ⟨_, _, _, _, _, _⟩) (v := undef) rfl (Or.inr ⟨by kernel_rfl, rfl⟩) ?_
        try simp only [Act.put, si0, si1, si2]
        first | (refine tk_ (i := 11) (oi := ⟨_, _, _, _, _, _⟩) (v := ?_) rfl (Or.inl ⟨by rfl, ?_⟩) ?_; rotate_left 1; · (intro w hSw; (try dsimp only at hSw); go_simp; all_goals with_reducible rfl)) | refine tk_ (i := 11) (oi := ⟨_, _, _, _, _, _⟩) (v := undef) rfl (Or.inr ⟨by kernel_rfl, rfl⟩) ?_
        try simp only [Act.put, si0, si1, si2]
        first | (refine tk_ (i := 12) (oi := ⟨_, _, _, _, _, _⟩) (v := ?_) rfl (Or.inl ⟨by rfl, ?_⟩) ?_; rotate_left 1; · (intro w hSw; (try dsimp only at hSw); go_simp; all_goals with_reducible rfl)) | refine tk_ (i := 12) (oi := ⟨_, _, _, _, _, _⟩) (v := undef) rfl (Or.inr ⟨by kernel_rfl, rfl⟩) ?_
        try simp only [Act.put, si0, si1, si2]
        first | (refine tk_ (i := 13) (oi := ⟨_, _, _, _, _, _⟩) (v := ?_) rfl (Or.inl ⟨by rfl, ?_⟩) ?_; rotate_left 1; · (intro w hSw; (try dsimp only at hSw); go_simp; all_goals with_reducible rfl)) | refine tk_ (i := 13) (oi := ⟨_, _, _, _, _, _⟩) (v := undef) rfl (Or.inr ⟨by kernel_rfl, rfl⟩) ?_
        try simp only [Act.put, si0, si1, si2]
        refine wpAnyH_ready (rs := [14]) (by kernel_rfl) (by simp) ?_
        refine AllReadyH.cons (o := ⟨_, _, _, _, _, _⟩) rfl (fun Kq hKq => ?_) AllReadyH.nil
        go_simp
        clear hHeld
        (go_at_call 26; (with_reducible refine (covers_any _ _ T (now k) _ (HH.out.below HK.out).at_ (HG.out.rv.below HK.out).at_ F1.out F2.out U1.out U2.out).mono ?_); rw [HCV.out]; rintro e1 w7 ⟨rfl, hb⟩; have HK := Lib.hid (below_after HK.out hb (Nat.le_refl _)); clear hb)
        refine hKq.out _ _ ?_ (fun hHeld => ?_)
        ·(try dsimp only); exact HS.out _ HK.out
        clear hKq Kq
        try simp only [Act.put, si0, si1, si2]
        first | (refine tk_ (i := 15) (oi := ⟨_, _, _, _, _, _⟩) (v := ?_) rfl (Or.inl ⟨by rfl, ?_⟩) ?_; rotate_left 1; · (intro w hSw; (try dsimp only at hSw); go_simp; all_goals with_reducible rfl)) | refine tk_ (i := 15) (oi := ⟨_, _, _, _, _, _⟩) (v := undef) rfl (Or.inr ⟨by kernel_rfl, rfl⟩) ?_
        try simp only [Act.put, si0, si1, si2]
        (refine tk_ (i := 16) (oi := ⟨_, _, _, _, _, _⟩) (v := ?_) rfl (Or.inl ⟨by rfl, ?_⟩) ?_; rotate_left 1; · (intro w hSw; (try dsimp only at hSw); go_simp; all_goals with_reducible rfl))
        try simp only [Act.put, si0, si1, si2]
        refine wpAnyH_done (by kernel_rfl) ?_ _
        go_wp2_with fail
        go_meet
        exact ⟨rfl, Lib.hid (HG.out.step HK.out)⟩
      case rest =>
       as_aux_lemma =>
        obtain ⟨rfl, HG⟩ := hcut
        rename World => w6
        obtain ⟨h0, h1, h2, h3, h4, hvh, ⟨n0, n1, n2, n3, n4⟩, -⟩ := HG.out.one.nb.at_ hk
        rw [now1_at] at hvh
        have HH := Lib.hid hvh
        clear hvh
        go_wp2_with fail
        (with_reducible refine (refCopy_any _ T _ HH.out.at_ F0.out).mono ?_)
        rintro e1 w7 ⟨X, rfl, hx, hb⟩
        obtain ⟨t0, t1, t2, t3, t4, rfl, hr7⟩ := hx
        have q8 := below_one w7 (.cells #[.slice t0.1 t0.2.1 t0.2.2, .slice t1.1 t1.2.1 t1.2.2, .slice t2.1 t2.2.1 t2.2.2, .slice t3.1 t3.2.1 t3.2.2, .slice t4.1 t4.2.1 t4.2.2] 27)
        have G8 := Lib.hid ((HG.out.one.step hb).step q8)
        have HT : Hid (RVt (w7.alloc (.cells #[.slice t0.1 t0.2.1 t0.2.2, .slice t1.1 t1.2.1 t1.2.2, .slice t2.1 t2.2.1 t2.2.2, .slice t3.1 t3.2.1 t3.2.2, .slice t4.1 t4.2.1 t4.2.2] 27)) (t0, t1, t2, t3, t4) T) := Lib.hid (RV.below hr7 q8)
        have HX := Lib.hid (heap_alloc_new w7 (.cells #[.slice t0.1 t0.2.1 t0.2.2, .slice t1.1 t1.2.1 t1.2.2, .slice t2.1 t2.2.1 t2.2.2, .slice t3.1 t3.2.1 t3.2.2, .slice t4.1 t4.2.1 t4.2.2] 27))
        have HL0 := Lib.hid (show had.length ≤ 1000 by have := HL.out; omega)
        clear hb hr7 q8 n0 n1 n2 n3 n4
        obtain ⟨hs, ho, hno, hhl, hhr⟩ := G8.out.hb
        have HO := Lib.hid ho
        have HNO := Lib.hid hno
        have HHL := Lib.hid hhl
        have HHR := Lib.hid hhr
        have HS1 := Lib.hid G8.out.s1
        have wH : wrap64 (had.length : Int) = (had.length : Int) := wrap_small (by omega) (by have := HL0.out; omega)
        have HL1 := Lib.hid (show hs.length ≤ 1000 by have := HL0.out; omega)
        clear ho hno hhl hhr
        go_upto_block 5 with first
         | (at_builtin; refine wpList_push_view rfl (.tmp 176) (.tmp 181) rfl _ (w1.heap.size + 1) _ hs (t0, t1, t2, t3, t4) w7.heap.size rfl rfl HO.out HNO.out HX.out HL1.out HS1.out ?_; intro v' w9 k1 k2 k3; have GP := Lib.hid (G8.out.push HT.out HO.out HNO.out HHL.out HHR.out k1 k2 k3); clear k1 k2 k3; obtain ⟨Ag, cg, hsh⟩ := GP.out.hb.shape; subst hsh; obtain ⟨ag, hag, -, s0, s1, s2, s3, s4, hv9, g0, g1, g2, g3, g4⟩ := GP.out.hb.at_ (k := had.length) (by simp); subst hag; have HV := Lib.hid hv9; clear hv9; obtain ⟨z0, z1, z2, z3, z4⟩ := vbox_cells (vbox_new w9 (none, 0, 0) (none, 0, 0) (none, 0, 0) (none, 0, 0) (none, 0, 0)); obtain ⟨f0, f1, f2, f3, f4⟩ := vbox_free (vbox_new w9 (none, 0, 0) (none, 0, 0) (none, 0, 0) (none, 0, 0) (none, 0, 0)); dsimp only at z0 z1 z2 z3 z4)
        have q9 := below_one w9 (.cells #[.slice s0.1 s0.2.1 s0.2.2, .slice s1.1 s1.2.1 s1.2.2, .slice s2.1 s2.2.1 s2.2.2, .slice s3.1 s3.2.1 s3.2.2, .slice s4.1 s4.2.1 s4.2.2] 27)
        have G10 := Lib.hid (GP.out.step q9)
        have V10 := Lib.hid (vbox_new w9 s0 s1 s2 s3 s4)
        have R10 : Hid (RV (w9.alloc (.cells #[.slice s0.1 s0.2.1 s0.2.2, .slice s1.1 s1.2.1 s1.2.2, .slice s2.1 s2.2.1 s2.2.2, .slice s3.1 s3.2.1 s3.2.2, .slice s4.1 s4.2.1 s4.2.2] 27)) s0 s1 s2 s3 s4 T) := Lib.hid (by
         have h := HV.out.below q9
         rwa [show (had ++ [T])[had.length]'(by simp) = T by simp] at h)
        have HTm : Hid (T ∈ had ++ [T]) := Lib.hid (by simp)
        have HLn : Hid ((had ++ [T]).length = i + 2) := Lib.hid (by simp [HL.out])
        clear z0 z1 z2 z3 z4 f0 f1 f2 f3 f4 g0 g1 g2 g3 g4 GP HV q9 HT HX HO HNO HHL HHR HS1 HL1 G8 HH wH HG
        obtain ⟨had', hd'⟩ : ∃ h, h = had ++ [T] := ⟨_, rfl⟩
        rw [← hd'] at HA G10 HTm HLn
        have eL : had.length + 1 = had'.length := by rw [hd']; simp
        rw [eL]
        obtain ⟨now', hn'⟩ : ∃ h, h = now1 now k T := ⟨_, rfl⟩
        rw [← hn'] at HA G10
        obtain ⟨GT, hGT⟩ : ∃ g, g = w9.heap.size := ⟨_, rfl⟩
        rw [← hGT] at V10 ⊢
        have LP : Hid (LpA w w1.heap.size (w1.heap.size + 1) (.slice (some ad) l.length c) l now' had' (.slice (some ag) had'.length cg) GT s0 s1 s2 s3 s4 T (w9.alloc (.cells #[.slice s0.1 s0.2.1 s0.2.2, .slice s1.1 s1.2.1 s1.2.2, .slice s2.1 s2.2.1 s2.2.2, .slice s3.1 s3.2.1 s3.2.2, .slice s4.1 s4.2.1 s4.2.2] 27))) := Lib.hid ⟨G10.out, V10.out, R10.out⟩
        have hHL : had'.length ≤ 42 := by have := HLn.out; omega
        clear hd' eL hn' hGT G10 V10 R10 HN HC HL HCV HM F0 F2 U1 U2 HL0
        generalize w9.alloc (.cells #[.slice s0.1 s0.2.1 s0.2.2, .slice s1.1 s1.2.1 s1.2.2, .slice s2.1 s2.2.1 s2.2.2, .slice s3.1 s3.2.1 s3.2.2, .slice s4.1 s4.2.1 s4.2.2] 27) = w10 at LP ⊢
        go_wp2_with fail
        go_loopw [14] (fun s14 wr => ∃ m : Nat, m ≤ had'.length ∧ s14 = .int .i64 m ∧ Hid (LpA w w1.heap.size (w1.heap.size + 1) (.slice (some ad) l.length c) l now' had' (.slice (some ag) had'.length cg) GT s0 s1 s2 s3 s4 T wr)) (fun s14 _ => had'.length - (intOf s14).toNat)
        case atStart => exact ⟨0, Nat.zero_le _, rfl, LP⟩
        case round =>
         obtain ⟨m, hml, rfl, HP⟩ := hrel
         clear LP
         have m3 : (0 : Int) ≤ (m : Int) := by omega
         by_cases hmt : m < had'.length
         ·have hdm : decide ((m : Int) < (had'.length : Int)) = true := decide_eq_true (by omega)
          have m4 : (m : Int) < (had'.length : Int) := by omega
          obtain ⟨ag', hag, -, g0, g1, g2, g3, g4, hvm, j0, j1, j2, j3, j4⟩ := HP.out.one.hb.at_ hmt
          injection hag with hag
          subst hag
          have HVm := Lib.hid hvm
          obtain ⟨z0, z1, z2, z3, z4⟩ := vbox_cells HP.out.x
          have hmem := List.getElem_mem hmt
          have FM := Lib.hid (HA.out.fitH hmem)
          have UM := Lib.hid (HA.out.okH hmem).nr.1
          have HONE := Lib.hid (fun hc => stands_one HA.out.four hmem HTm.out hc)
          have HSEE := Lib.hid (fun s hs hc => stands_seen HA.out.four hmem (k := s) hs hc)
          have FN := Lib.hid (fun s hs => HA.out.fit (k := s) hs)
          have UN := Lib.hid (fun s hs => (HA.out.ok (k := s) hs).nr.1)
          have HS : Hid (∀ w', Below wr.heap.size wr w' → (fun w' => ((w'.cell? (ag.add (m * 5)) = some (.slice g0.1 g0.2.1 g0.2.2) ∧ w'.cell? ⟨(ag.add (m * 5)).block, (ag.add (m * 5)).off + 1, none⟩ = some (.slice g1.1 g1.2.1 g1.2.2) ∧ w'.cell? ⟨(ag.add (m * 5)).block, (ag.add (m * 5)).off + 2, none⟩ = some (.slice g2.1 g2.2.1 g2.2.2) ∧ w'.cell? ⟨(ag.add (m * 5)).block, (ag.add (m * 5)).off + 3, none⟩ = some (.slice g3.1 g3.2.1 g3.2.2) ∧ w'.cell? ⟨(ag.add (m * 5)).block, (ag.add (m * 5)).off + 4, none⟩ = some (.slice g4.1 g4.2.1 g4.2.2)) ∧ (w'.cell? ⟨GT, 0, none⟩ = some (.slice s0.1 s0.2.1 s0.2.2) ∧ w'.cell? ⟨GT, 1, none⟩ = some (.slice s1.1 s1.2.1 s1.2.2) ∧ w'.cell? ⟨GT, 2, none⟩ = some (.slice s2.1 s2.2.1 s2.2.2) ∧ w'.cell? ⟨GT, 3, none⟩ = some (.slice s3.1 s3.2.1 s3.2.2) ∧ w'.cell? ⟨GT, 4, none⟩ = some (.slice s4.1 s4.2.1 s4.2.2))) ∧ Hid (Below wr.heap.size wr w')) w') := Lib.hid fun w' hb => by
           have key : ∀ (q : Addr) (u : Value), wr.cell? q = some u → w'.cell? q = some u := fun q u hu => (hb.cell (World.block_lt_of_cell? wr _ hu)).trans hu
           exact ⟨⟨⟨key _ _ j0, key _ _ j1, key _ _ j2, key _ _ j3, key _ _ j4⟩, key _ _ z0, key _ _ z1, key _ _ z2, key _ _ z3, key _ _ z4⟩, Lib.hid hb⟩
          have HJ := Lib.hid (show _ ∧ _ ∧ _ ∧ _ ∧ _ from ⟨j0, j1, j2, j3, j4⟩)
          clear hvm hmem
          go_upto_region 33 with fail
          clear j0 j1 j2 j3 j4 z0 z1 z2 z3 z4
          go_cut [212] (fun sT wx => sT = .bool false ∧ Hid (Below wr.heap.size wr wx))
          case first =>
           as_aux_lemma =>
            obtain ⟨z, hz⟩ : ∃ z, Clocks.cmp had'[m].c T.c = z := ⟨_, rfl⟩
            have HZ := Lib.hid hz
            by_cases h1 : z = 1
            ·subst h1
             have HCO : Hid (coreB had'[m] T = true) := Lib.hid (HONE.out hz)
             clear hz
             refine wp_region_held_drew (S := fun w' => ((w'.cell? (ag.add (m * 5)) = some (.slice g0.1 g0.2.1 g0.2.2) ∧ w'.cell? ⟨(ag.add (m * 5)).block, (ag.add (m * 5)).off + 1, none⟩ = some (.slice g1.1 g1.2.1 g1.2.2) ∧ w'.cell? ⟨(ag.add (m * 5)).block, (ag.add (m * 5)).off + 2, none⟩ = some (.slice g2.1 g2.2.1 g2.2.2) ∧ w'.cell? ⟨(ag.add (m * 5)).block, (ag.add (m * 5)).off + 3, none⟩ = some (.slice g3.1 g3.2.1 g3.2.2) ∧ w'.cell? ⟨(ag.add (m * 5)).block, (ag.add (m * 5)).off + 4, none⟩ = some (.slice g4.1 g4.2.1 g4.2.2)) ∧ (w'.cell? ⟨GT, 0, none⟩ = some (.slice s0.1 s0.2.1 s0.2.2) ∧ w'.cell? ⟨GT, 1, none⟩ = some (.slice s1.1 s1.2.1 s1.2.2) ∧ w'.cell? ⟨GT, 2, none⟩ = some (.slice s2.1 s2.2.1 s2.2.2) ∧ w'.cell? ⟨GT, 3, none⟩ = some (.slice s3.1 s3.2.1 s3.2.2) ∧ w'.cell? ⟨GT, 4, none⟩ = some (.slice s4.1 s4.2.1 s4.2.2))) ∧ Hid (Below wr.heap.size wr w')) (by kernel_rfl) ?_ (fun hHeld => ?_)
             ·exact HS.out _ (below_drewN (n := 1) (Below.refl _ _))
             (refine tk_ (i := 0) (oi := ⟨_, _, _, _, _, _⟩) (v := ?_) rfl (Or.inl ⟨by rfl, ?_⟩) ?_; rotate_left 1; · (intro w hSw; (try dsimp only at hSw); go_simp; all_goals with_reducible rfl))
             try simp only [Act.put, si0, si1, si2]
             (refine tk_ (i := 1) (oi := ⟨_, _, _, _, _, _⟩) (v := ?_) rfl (Or.inl ⟨by rfl, ?_⟩) ?_; rotate_left 1; · (intro w hSw; (try dsimp only at hSw); go_simp; all_goals with_reducible rfl))
             try simp only [Act.put, si0, si1, si2]
             (refine tk_ (i := 2) (oi := ⟨_, _, _, _, _, _⟩) (v := ?_) rfl (Or.inl ⟨by rfl, ?_⟩) ?_; rotate_left 1; · (intro w hSw; (try dsimp only at hSw); go_simp; all_goals with_reducible rfl))
             try simp only [Act.put, si0, si1, si2]
             (refine tk_ (i := 3) (oi := ⟨_, _, _, _, _, _⟩) (v := ?_) rfl (Or.inl ⟨by rfl, ?_⟩) ?_; rotate_left 1; · (intro w hSw; (try dsimp only at hSw); go_simp; all_goals with_reducible rfl))
             try simp only [Act.put, si0, si1, si2]
             (refine tk_ (i := 4) (oi := ⟨_, _, _, _, _, _⟩) (v := ?_) rfl (Or.inl ⟨by rfl, ?_⟩) ?_; rotate_left 1; · (intro w hSw; (try dsimp only at hSw); go_simp; all_goals with_reducible rfl))
             try simp only [Act.put, si0, si1, si2]
             (refine tk_ (i := 5) (oi := ⟨_, _, _, _, _, _⟩) (v := ?_) rfl (Or.inl ⟨by rfl, ?_⟩) ?_; rotate_left 1; · (intro w hSw; (try dsimp only at hSw); go_simp; all_goals with_reducible rfl))
             try simp only [Act.put, si0, si1, si2]
             (refine tk_ (i := 6) (oi := ⟨_, _, _, _, _, _⟩) (v := ?_) rfl (Or.inl ⟨by rfl, ?_⟩) ?_; rotate_left 1; · (intro w hSw; (try dsimp only at hSw); go_simp; all_goals with_reducible rfl))
             try simp only [Act.put, si0, si1, si2]
             refine wpAnyH_ready (rs := [7]) (by kernel_rfl) (by simp) ?_
             refine AllReadyH.cons (o := ⟨_, _, _, _, _, _⟩) rfl (fun Kq hKq => ?_) AllReadyH.nil
             go_simp
             clear hHeld
             (go_at_call 33; (with_reducible refine (compare_clocks _ _ had'[m].c T.c _ (Rcs.below HVm.out.c (show Below wr.heap.size wr wr.drew from below_drewN (n := 1) (Below.refl _ _))) (Rcs.below HP.out.rv.c (show Below wr.heap.size wr wr.drew from below_drewN (n := 1) (Below.refl _ _))) (Nat.le_trans FM.out.c (by decide)) (Nat.le_trans FT.out.c (by decide))).mono ?_); rw [HZ.out]; rintro e1 w7 ⟨rfl, hb⟩; have HK := Lib.hid (show Below wr.heap.size wr w7 from (below_drewN (n := 1) (Below.refl _ _)).trans hb); clear hb)
             refine hKq.out _ _ ?_ (fun hHeld => ?_)
             ·(try dsimp only); exact HS.out _ HK.out
             clear hKq Kq
             try simp only [Act.put, si0, si1, si2]
             (refine tk_ (i := 8) (oi := ⟨_, _, _, _, _, _⟩) (v := ?_) rfl (Or.inl ⟨by rfl, ?_⟩) ?_; rotate_left 1; · (intro w hSw; (try dsimp only at hSw); go_simp; all_goals with_reducible rfl))
             try simp only [Act.put, si0, si1, si2]
             (refine tk_ (i := 9) (oi := ⟨_, _, _, _, _, _⟩) (v := ?_) rfl (Or.inl ⟨by rfl, ?_⟩) ?_; rotate_left 1; · (intro w hSw; (try dsimp only at hSw); go_simp; all_goals with_reducible rfl))
             try simp only [Act.put, si0, si1, si2]
             first | (refine tk_ (i := 10) (oi := ⟨_, _, _, _, _, _⟩) (v := ?_) rfl (Or.inl ⟨by rfl, ?_⟩) ?_; rotate_left 1; · (intro w hSw; (try dsimp only at hSw); go_simp; all_goals with_reducible rfl)) | refine tk_ (i := 10) (oi := ⟨_, _, _, _, _, _⟩) (v := undef) rfl (Or.inr ⟨by kernel_rfl, rfl⟩) ?_
             try simp only [Act.put, si0, si1, si2]
             first | (refine tk_ (i := 11) (oi := ⟨_, _, _, _, _, _⟩) (v := ?_) rfl (Or.inl ⟨by rfl, ?_⟩) ?_; rotate_left 1; · (intro w hSw; (try dsimp only at hSw); go_simp; all_goals with_reducible rfl)) | refine tk_ (i := 11) (oi := ⟨_, _, _, _, _, _⟩) (v := undef) rfl (Or.inr ⟨by kernel_rfl, rfl⟩) ?_
             try simp only [Act.put, si0, si1, si2]
             first | (refine tk_ (i := 12) (oi := ⟨_, _, _, _, _, _⟩) (v := ?_) rfl (Or.inl ⟨by rfl, ?_⟩) ?_; rotate_left 1; · (intro w hSw; (try dsimp only at hSw); go_simp; all_goals with_reducible rfl)) | refine tk_ (i := 12) (oi := ⟨_, _, _, _, _, _⟩) (v := undef) rfl (Or.inr ⟨by kernel_rfl, rfl⟩) ?_
             try simp only [Act.put, si0, si1, si2]
             first | (refine tk_ (i := 13) (oi := ⟨_, _, _, _, _, _⟩) (v := ?_) rfl (Or.inl ⟨by rfl, ?_⟩) ?_; rotate_left 1; · (intro w hSw; (try dsimp only at hSw); go_simp; all_goals with_reducible rfl)) | refine tk_ (i := 13) (oi := ⟨_, _, _, _, _, _⟩) (v := undef) rfl (Or.inr ⟨by kernel_rfl, rfl⟩) ?_
             try simp only [Act.put, si0, si1, si2]
             first | (refine tk_ (i := 14) (oi := ⟨_, _, _, _, _, _⟩) (v := ?_) rfl (Or.inl ⟨by rfl, ?_⟩) ?_; rotate_left 1; · (intro w hSw; (try dsimp only at hSw); go_simp; all_goals with_reducible rfl)) | refine tk_ (i := 14) (oi := ⟨_, _, _, _, _, _⟩) (v := undef) rfl (Or.inr ⟨by kernel_rfl, rfl⟩) ?_
             try simp only [Act.put, si0, si1, si2]
             refine wpAnyH_ready (rs := [15]) (by kernel_rfl) (by simp) ?_
             refine AllReadyH.cons (o := ⟨_, _, _, _, _, _⟩) rfl (fun Kq hKq => ?_) AllReadyH.nil
             go_simp
             clear hHeld
             (go_at_call 24; (with_reducible refine (core_any _ _ had'[m] T _ (HVm.out.below HK.out).at_ (HP.out.rv.below HK.out).at_ (FM.out.mono (by decide)) (FT.out.mono (by decide))).mono ?_); rw [HCO.out]; rintro e1 w8 ⟨rfl, hb⟩; have HK := Lib.hid (below_after HK.out hb (Nat.le_refl _)); clear hb)
             refine hKq.out _ _ ?_ (fun hHeld => ?_)
             ·(try dsimp only); exact HS.out _ HK.out
             clear hKq Kq
             try simp only [Act.put, si0, si1, si2]
             first | (refine tk_ (i := 16) (oi := ⟨_, _, _, _, _, _⟩) (v := ?_) rfl (Or.inl ⟨by rfl, ?_⟩) ?_; rotate_left 1; · (intro w hSw; (try dsimp only at hSw); go_simp; all_goals with_reducible rfl)) | refine tk_ (i := 16) (oi := ⟨_, _, _, _, _, _⟩) (v := undef) rfl (Or.inr ⟨by kernel_rfl, rfl⟩) ?_
             try simp only [Act.put, si0, si1, si2]
             (refine tk_ (i := 17) (oi := ⟨_, _, _, _, _, _⟩) (v := ?_) rfl (Or.inl ⟨by rfl, ?_⟩) ?_; rotate_left 1; · (intro w hSw; (try dsimp only at hSw); go_simp; all_goals with_reducible rfl))
             try simp only [Act.put, si0, si1, si2]
             refine wpAnyH_done (by kernel_rfl) ?_ _
             go_wp2_with fail
             go_meet
             exact ⟨rfl, HK⟩
            ·have nz : ((z : Int) == 1) = false := by simp; omega
             clear hz h1
             refine wp_region_held_drew (S := fun w' => ((w'.cell? (ag.add (m * 5)) = some (.slice g0.1 g0.2.1 g0.2.2) ∧ w'.cell? ⟨(ag.add (m * 5)).block, (ag.add (m * 5)).off + 1, none⟩ = some (.slice g1.1 g1.2.1 g1.2.2) ∧ w'.cell? ⟨(ag.add (m * 5)).block, (ag.add (m * 5)).off + 2, none⟩ = some (.slice g2.1 g2.2.1 g2.2.2) ∧ w'.cell? ⟨(ag.add (m * 5)).block, (ag.add (m * 5)).off + 3, none⟩ = some (.slice g3.1 g3.2.1 g3.2.2) ∧ w'.cell? ⟨(ag.add (m * 5)).block, (ag.add (m * 5)).off + 4, none⟩ = some (.slice g4.1 g4.2.1 g4.2.2)) ∧ (w'.cell? ⟨GT, 0, none⟩ = some (.slice s0.1 s0.2.1 s0.2.2) ∧ w'.cell? ⟨GT, 1, none⟩ = some (.slice s1.1 s1.2.1 s1.2.2) ∧ w'.cell? ⟨GT, 2, none⟩ = some (.slice s2.1 s2.2.1 s2.2.2) ∧ w'.cell? ⟨GT, 3, none⟩ = some (.slice s3.1 s3.2.1 s3.2.2) ∧ w'.cell? ⟨GT, 4, none⟩ = some (.slice s4.1 s4.2.1 s4.2.2))) ∧ Hid (Below wr.heap.size wr w')) (by kernel_rfl) ?_ (fun hHeld => ?_)
             ·exact HS.out _ (below_drewN (n := 1) (Below.refl _ _))
             (refine tk_ (i := 0) (oi := ⟨_, _, _, _, _, _⟩) (v := ?_) rfl (Or.inl ⟨by rfl, ?_⟩) ?_; rotate_left 1; · (intro w hSw; (try dsimp only at hSw); go_simp; all_goals with_reducible rfl))
             try simp only [Act.put, si0, si1, si2]
             (refine tk_ (i := 1) (oi := ⟨_, _, _, _, _, _⟩) (v := ?_) rfl (Or.inl ⟨by rfl, ?_⟩) ?_; rotate_left 1; · (intro w hSw; (try dsimp only at hSw); go_simp; all_goals with_reducible rfl))
             try simp only [Act.put, si0, si1, si2]
             (refine tk_ (i := 2) (oi := ⟨_, _, _, _, _, _⟩) (v := ?_) rfl (Or.inl ⟨by rfl, ?_⟩) ?_; rotate_left 1; · (intro w hSw; (try dsimp only at hSw); go_simp; all_goals with_reducible rfl))
             try simp only [Act.put, si0, si1, si2]
             (refine tk_ (i := 3) (oi := ⟨_, _, _, _, _, _⟩) (v := ?_) rfl (Or.inl ⟨by rfl, ?_⟩) ?_; rotate_left 1; · (intro w hSw; (try dsimp only at hSw); go_simp; all_goals with_reducible rfl))
             try simp only [Act.put, si0, si1, si2]
             (refine tk_ (i := 4) (oi := ⟨_, _, _, _, _, _⟩) (v := ?_) rfl (Or.inl ⟨by rfl, ?_⟩) ?_; rotate_left 1; · (intro w hSw; (try dsimp only at hSw); go_simp; all_goals with_reducible rfl))
             try simp only [Act.put, si0, si1, si2]
             (refine tk_ (i := 5) (oi := ⟨_, _, _, _, _, _⟩) (v := ?_) rfl (Or.inl ⟨by rfl, ?_⟩) ?_; rotate_left 1; · (intro w hSw; (try dsimp only at hSw); go_simp; all_goals with_reducible rfl))
             try simp only [Act.put, si0, si1, si2]
             (refine tk_ (i := 6) (oi := ⟨_, _, _, _, _, _⟩) (v := ?_) rfl (Or.inl ⟨by rfl, ?_⟩) ?_; rotate_left 1; · (intro w hSw; (try dsimp only at hSw); go_simp; all_goals with_reducible rfl))
             try simp only [Act.put, si0, si1, si2]
             refine wpAnyH_ready (rs := [7]) (by kernel_rfl) (by simp) ?_
             refine AllReadyH.cons (o := ⟨_, _, _, _, _, _⟩) rfl (fun Kq hKq => ?_) AllReadyH.nil
             go_simp
             clear hHeld
             (go_at_call 33; (with_reducible refine (compare_clocks _ _ had'[m].c T.c _ (Rcs.below HVm.out.c (show Below wr.heap.size wr wr.drew from below_drewN (n := 1) (Below.refl _ _))) (Rcs.below HP.out.rv.c (show Below wr.heap.size wr wr.drew from below_drewN (n := 1) (Below.refl _ _))) (Nat.le_trans FM.out.c (by decide)) (Nat.le_trans FT.out.c (by decide))).mono ?_); rw [HZ.out]; rintro e1 w7 ⟨rfl, hb⟩; have HK := Lib.hid (show Below wr.heap.size wr w7 from (below_drewN (n := 1) (Below.refl _ _)).trans hb); clear hb)
             refine hKq.out _ _ ?_ (fun hHeld => ?_)
             ·(try dsimp only); exact HS.out _ HK.out
             clear hKq Kq
             try simp only [Act.put, si0, si1, si2]
             (refine tk_ (i := 8) (oi := ⟨_, _, _, _, _, _⟩) (v := ?_) rfl (Or.inl ⟨by rfl, ?_⟩) ?_; rotate_left 1; · (intro w hSw; (try dsimp only at hSw); go_simp; all_goals with_reducible rfl))
             try simp only [Act.put, si0, si1, si2]
             (refine tk_ (i := 9) (oi := ⟨_, _, _, _, _, _⟩) (v := ?_) rfl (Or.inl ⟨by rfl, ?_⟩) ?_; rotate_left 1; · (intro w hSw; (try dsimp only at hSw); go_simp; all_goals with_reducible rfl))
             try simp only [Act.put, si0, si1, si2]
             refine tk_ (i := 10) (oi := ⟨_, _, _, _, _, _⟩) (v := undef) rfl (Or.inr ⟨by kernel_rfl, rfl⟩) ?_
             try simp only [Act.put, si0, si1, si2]
             refine tk_ (i := 11) (oi := ⟨_, _, _, _, _, _⟩) (v := undef) rfl (Or.inr ⟨by kernel_rfl, rfl⟩) ?_
             try simp only [Act.put, si0, si1, si2]
             refine tk_ (i := 12) (oi := ⟨_, _, _, _, _, _⟩) (v := undef) rfl (Or.inr ⟨by kernel_rfl, rfl⟩) ?_
             try simp only [Act.put, si0, si1, si2]
             refine tk_ (i := 13) (oi := ⟨_, _, _, _, _, _⟩) (v := undef) rfl (Or.inr ⟨by kernel_rfl, rfl⟩) ?_
             try simp only [Act.put, si0, si1, si2]
             refine tk_ (i := 14) (oi := ⟨_, _, _, _, _, _⟩) (v := undef) rfl (Or.inr ⟨by kernel_rfl, rfl⟩) ?_
             try simp only [Act.put, si0, si1, si2]
             refine tk_ (i := 15) (oi := ⟨_, _, _, _, _, _⟩) (v := undef) rfl (Or.inr ⟨by kernel_rfl, rfl⟩) ?_
             try simp only [Act.put, si0, si1, si2]
             refine tk_ (i := 16) (oi := ⟨_, _, _, _, _, _⟩) (v := undef) rfl (Or.inr ⟨by kernel_rfl, rfl⟩) ?_
             try simp only [Act.put, si0, si1, si2]
             (refine tk_ (i := 17) (oi := ⟨_, _, _, _, _, _⟩) (v := ?_) rfl (Or.inl ⟨by rfl, ?_⟩) ?_; rotate_left 1; · (intro w hSw; (try dsimp only at hSw); go_simp; all_goals with_reducible rfl))
             try simp only [Act.put, si0, si1, si2]
             refine wpAnyH_done (by kernel_rfl) ?_ _
             go_wp2_with fail
             go_meet
             exact ⟨rfl, HK⟩
          case rest =>
           as_aux_lemma =>
            obtain ⟨rfl, HB⟩ := hcut
            rename World => w11
            have HP2 := Lib.hid (HP.out.step HB.out)
            have HVm2 := Lib.hid (HVm.out.below HB.out)
            have HJ2 := Lib.hid (show (w11.cell? (ag.add (m * 5)) = some (.slice g0.1 g0.2.1 g0.2.2) ∧ w11.cell? ⟨(ag.add (m * 5)).block, (ag.add (m * 5)).off + 1, none⟩ = some (.slice g1.1 g1.2.1 g1.2.2) ∧ w11.cell? ⟨(ag.add (m * 5)).block, (ag.add (m * 5)).off + 2, none⟩ = some (.slice g2.1 g2.2.1 g2.2.2) ∧ w11.cell? ⟨(ag.add (m * 5)).block, (ag.add (m * 5)).off + 3, none⟩ = some (.slice g3.1 g3.2.1 g3.2.2) ∧ w11.cell? ⟨(ag.add (m * 5)).block, (ag.add (m * 5)).off + 4, none⟩ = some (.slice g4.1 g4.2.1 g4.2.2)) from (by
             obtain ⟨j0, j1, j2, j3, j4⟩ := HJ.out
             have key : ∀ (q : Addr) (u : Value), wr.cell? q = some u → w11.cell? q = some u := fun q u hu => (HB.out.cell (World.block_lt_of_cell? wr _ hu)).trans hu
             exact ⟨key _ _ j0, key _ _ j1, key _ _ j2, key _ _ j3, key _ _ j4⟩))
            clear HP HVm HS HB HJ
            go_wp2_with fail
            go_loopw [15] (fun s15 wr => ∃ s : Nat, s ≤ 4 ∧ s15 = .int .i64 s ∧ Hid (Below w11.heap.size w11 wr)) (fun s15 _ => 4 - (intOf s15).toNat)
            case atStart => exact ⟨0, Nat.zero_le _, rfl, Lib.hid (Below.refl _ _)⟩
            case round =>
             obtain ⟨s, hs4, rfl, HB⟩ := hrel
             have s3_ : (0 : Int) ≤ (s : Int) := by omega
             by_cases hst : s < 4
             ·have hds : decide ((s : Int) < 4) = true := decide_eq_true (by omega)
              have s4_ : (s : Int) < 4 := by omega
              have ws : wrap64 ((s : Int) + 1) = (s : Int) + 1 := wrap_small (by omega) (by omega)
              have wi : IntKind.i64.wrap ((s : Int) + 1) = (s : Int) + 1 := i64_small (by omega) (by omega)
              have HP3 := Lib.hid (HP2.out.step HB.out)
              have HVm3 := Lib.hid (HVm2.out.below HB.out)
              have hcm : (wr.cell? (ag.add (m * 5)) = some (.slice g0.1 g0.2.1 g0.2.2) ∧ wr.cell? ⟨(ag.add (m * 5)).block, (ag.add (m * 5)).off + 1, none⟩ = some (.slice g1.1 g1.2.1 g1.2.2) ∧ wr.cell? ⟨(ag.add (m * 5)).block, (ag.add (m * 5)).off + 2, none⟩ = some (.slice g2.1 g2.2.1 g2.2.2) ∧ wr.cell? ⟨(ag.add (m * 5)).block, (ag.add (m * 5)).off + 3, none⟩ = some (.slice g3.1 g3.2.1 g3.2.2) ∧ wr.cell? ⟨(ag.add (m * 5)).block, (ag.add (m * 5)).off + 4, none⟩ = some (.slice g4.1 g4.2.1 g4.2.2)) := by
               obtain ⟨j0, j1, j2, j3, j4⟩ := HJ2.out
               have key : ∀ (q : Addr) (u : Value), w11.cell? q = some u → wr.cell? q = some u := fun q u hu => (HB.out.cell (World.block_lt_of_cell? w11 _ hu)).trans hu
               exact ⟨key _ _ j0, key _ _ j1, key _ _ j2, key _ _ j3, key _ _ j4⟩
              obtain ⟨j0, j1, j2, j3, j4⟩ := hcm
              obtain ⟨h0, h1, h2, h3, h4, hvn, ⟨n0, n1, n2, n3, n4⟩, -⟩ := HP3.out.one.nb.at_ hst
              have HVn := Lib.hid hvn
              have HS : Hid (∀ w', Below wr.heap.size wr w' → (fun w' => ((w'.cell? (ag.add (m * 5)) = some (.slice g0.1 g0.2.1 g0.2.2) ∧ w'.cell? ⟨(ag.add (m * 5)).block, (ag.add (m * 5)).off + 1, none⟩ = some (.slice g1.1 g1.2.1 g1.2.2) ∧ w'.cell? ⟨(ag.add (m * 5)).block, (ag.add (m * 5)).off + 2, none⟩ = some (.slice g2.1 g2.2.1 g2.2.2) ∧ w'.cell? ⟨(ag.add (m * 5)).block, (ag.add (m * 5)).off + 3, none⟩ = some (.slice g3.1 g3.2.1 g3.2.2) ∧ w'.cell? ⟨(ag.add (m * 5)).block, (ag.add (m * 5)).off + 4, none⟩ = some (.slice g4.1 g4.2.1 g4.2.2)) ∧ (w'.cell? ⟨w1.heap.size, s * 5, none⟩ = some (.slice h0.1 h0.2.1 h0.2.2) ∧ w'.cell? ⟨w1.heap.size, s * 5 + 1, none⟩ = some (.slice h1.1 h1.2.1 h1.2.2) ∧ w'.cell? ⟨w1.heap.size, s * 5 + 2, none⟩ = some (.slice h2.1 h2.2.1 h2.2.2) ∧ w'.cell? ⟨w1.heap.size, s * 5 + 3, none⟩ = some (.slice h3.1 h3.2.1 h3.2.2) ∧ w'.cell? ⟨w1.heap.size, s * 5 + 4, none⟩ = some (.slice h4.1 h4.2.1 h4.2.2))) ∧ Hid (Below wr.heap.size wr w')) w') := Lib.hid fun w' hb => by
               have key : ∀ (q : Addr) (u : Value), wr.cell? q = some u → w'.cell? q = some u := fun q u hu => (hb.cell (World.block_lt_of_cell? wr _ hu)).trans hu
               exact ⟨⟨⟨key _ _ j0, key _ _ j1, key _ _ j2, key _ _ j3, key _ _ j4⟩, key _ _ n0, key _ _ n1, key _ _ n2, key _ _ n3, key _ _ n4⟩, Lib.hid hb⟩
              clear hvn
              go_upto_region 38 with fail
              clear j0 j1 j2 j3 j4 n0 n1 n2 n3 n4
              go_cut [236] (fun sT wx => sT = .bool false ∧ Hid (Below wr.heap.size wr wx))
              case first =>
               as_aux_lemma =>
                rcases hz : hasB ((s : Int) + 1, 1) had'[m].s with _ | _
                ·have HZ := Lib.hid hz
                 clear hz
                 refine wp_region_held_drew (S := fun w' => ((w'.cell? (ag.add (m * 5)) = some (.slice g0.1 g0.2.1 g0.2.2) ∧ w'.cell? ⟨(ag.add (m * 5)).block, (ag.add (m * 5)).off + 1, none⟩ = some (.slice g1.1 g1.2.1 g1.2.2) ∧ w'.cell? ⟨(ag.add (m * 5)).block, (ag.add (m * 5)).off + 2, none⟩ = some (.slice g2.1 g2.2.1 g2.2.2) ∧ w'.cell? ⟨(ag.add (m * 5)).block, (ag.add (m * 5)).off + 3, none⟩ = some (.slice g3.1 g3.2.1 g3.2.2) ∧ w'.cell? ⟨(ag.add (m * 5)).block, (ag.add (m * 5)).off + 4, none⟩ = some (.slice g4.1 g4.2.1 g4.2.2)) ∧ (w'.cell? ⟨w1.heap.size, s * 5, none⟩ = some (.slice h0.1 h0.2.1 h0.2.2) ∧ w'.cell? ⟨w1.heap.size, s * 5 + 1, none⟩ = some (.slice h1.1 h1.2.1 h1.2.2) ∧ w'.cell? ⟨w1.heap.size, s * 5 + 2, none⟩ = some (.slice h2.1 h2.2.1 h2.2.2) ∧ w'.cell? ⟨w1.heap.size, s * 5 + 3, none⟩ = some (.slice h3.1 h3.2.1 h3.2.2) ∧ w'.cell? ⟨w1.heap.size, s * 5 + 4, none⟩ = some (.slice h4.1 h4.2.1 h4.2.2))) ∧ Hid (Below wr.heap.size wr w')) (by kernel_rfl) ?_ (fun hHeld => ?_)
                 ·exact HS.out _ (below_drewN (n := 1) (Below.refl _ _))
                 (refine tk_ (i := 0) (oi := ⟨_, _, _, _, _, _⟩) (v := ?_) rfl (Or.inl ⟨by rfl, ?_⟩) ?_; rotate_left 1; · (intro w hSw; (try dsimp only at hSw); go_simp; all_goals with_reducible rfl))
                 try simp only [Act.put, si0, si1, si2]
                 (refine tk_ (i := 1) (oi := ⟨_, _, _, _, _, _⟩) (v := ?_) rfl (Or.inl ⟨by rfl, ?_⟩) ?_; rotate_left 1; · (intro w hSw; (try dsimp only at hSw); go_simp; all_goals with_reducible rfl))
                 try simp only [Act.put, si0, si1, si2]
                 (refine tk_ (i := 2) (oi := ⟨_, _, _, _, _, _⟩) (v := ?_) rfl (Or.inl ⟨by rfl, ?_⟩) ?_; rotate_left 1; · (intro w hSw; (try dsimp only at hSw); go_simp; all_goals with_reducible rfl))
                 try simp only [Act.put, si0, si1, si2]
                 (refine tk_ (i := 3) (oi := ⟨_, _, _, _, _, _⟩) (v := ?_) rfl (Or.inl ⟨by rfl, ?_⟩) ?_; rotate_left 1; · (intro w hSw; (try dsimp only at hSw); go_simp; all_goals with_reducible rfl))
                 try simp only [Act.put, si0, si1, si2]
                 (refine tk_ (i := 4) (oi := ⟨_, _, _, _, _, _⟩) (v := ?_) rfl (Or.inl ⟨by rfl, ?_⟩) ?_; rotate_left 1; · (intro w hSw; (try dsimp only at hSw); go_simp; all_goals with_reducible rfl))
                 try simp only [Act.put, si0, si1, si2]
                 (refine tk_ (i := 5) (oi := ⟨_, _, _, _, _, _⟩) (v := ?_) rfl (Or.inl ⟨by rfl, ?_⟩) ?_; rotate_left 1; · (intro w hSw; (try dsimp only at hSw); go_simp; all_goals with_reducible rfl))
                 try simp only [Act.put, si0, si1, si2]
                 (refine tk_ (i := 6) (oi := ⟨_, _, _, _, _, _⟩) (v := ?_) rfl (Or.inl ⟨by rfl, ?_⟩) ?_; rotate_left 1; · (intro w hSw; (try dsimp only at hSw); go_simp; all_goals with_reducible rfl))
                 try simp only [Act.put, si0, si1, si2]
                 refine wpAnyH_ready (rs := [7]) (by kernel_rfl) (by simp) ?_
                 refine AllReadyH.cons (o := ⟨_, _, _, _, _, _⟩) rfl (fun Kq hKq => ?_) AllReadyH.nil
                 go_simp
                 clear hHeld
                 (go_at_call 32; (with_reducible refine (at_any _ _).mono ?_); rintro e1 w7 ⟨rfl, hb⟩; have HK := Lib.hid (show Below wr.heap.size wr w7 from (below_drewN (n := 1) (Below.refl _ _)).trans hb); clear hb)
                 refine hKq.out _ _ ?_ (fun hHeld => ?_)
                 ·(try dsimp only); exact HS.out _ HK.out
                 clear hKq Kq
                 try simp only [Act.put, si0, si1, si2]
                 refine wpAnyH_ready (rs := [8]) (by kernel_rfl) (by simp) ?_
                 refine AllReadyH.cons (o := ⟨_, _, _, _, _, _⟩) rfl (fun Kq hKq => ?_) AllReadyH.nil
                 go_simp
                 clear hHeld
                 (go_at_call 34; (with_reducible refine (has_any _ had'[m].s ((s : Int) + 1) 1 _ (HVm3.out.s.below HK.out) (Nat.le_trans FM.out.s (by decide))).mono ?_); rw [HZ.out]; rintro e1 w8 ⟨rfl, hb⟩; have HK := Lib.hid (below_after HK.out hb (Nat.le_refl _)); clear hb)
                 refine hKq.out _ _ ?_ (fun hHeld => ?_)
                 ·(try dsimp only); exact HS.out _ HK.out
                 clear hKq Kq
                 try simp only [Act.put, si0, si1, si2]
                 (refine tk_ (i := 9) (oi := ⟨_, _, _, _, _, _⟩) (v := ?_) rfl (Or.inl ⟨by rfl, ?_⟩) ?_; rotate_left 1; · (intro w hSw; (try dsimp only at hSw); go_simp; all_goals with_reducible rfl))
                 try simp only [Act.put, si0, si1, si2]
                 refine tk_ (i := 10) (oi := ⟨_, _, _, _, _, _⟩) (v := undef) rfl (Or.inr ⟨by kernel_rfl, rfl⟩) ?_
                 try simp only [Act.put, si0, si1, si2]
                 refine tk_ (i := 11) (oi := ⟨_, _, _, _, _, _⟩) (v := undef) rfl (Or.inr ⟨by kernel_rfl, rfl⟩) ?_
                 try simp only [Act.put, si0, si1, si2]
                 refine tk_ (i := 12) (oi := ⟨_, _, _, _, _, _⟩) (v := undef) rfl (Or.inr ⟨by kernel_rfl, rfl⟩) ?_
                 try simp only [Act.put, si0, si1, si2]
                 refine tk_ (i := 13) (oi := ⟨_, _, _, _, _, _⟩) (v := undef) rfl (Or.inr ⟨by kernel_rfl, rfl⟩) ?_
                 try simp only [Act.put, si0, si1, si2]
                 refine tk_ (i := 14) (oi := ⟨_, _, _, _, _, _⟩) (v := undef) rfl (Or.inr ⟨by kernel_rfl, rfl⟩) ?_
                 try simp only [Act.put, si0, si1, si2]
                 refine tk_ (i := 15) (oi := ⟨_, _, _, _, _, _⟩) (v := undef) rfl (Or.inr ⟨by kernel_rfl, rfl⟩) ?_
                 try simp only [Act.put, si0, si1, si2]
                 refine tk_ (i := 16) (oi := ⟨_, _, _, _, _, _⟩) (v := undef) rfl (Or.inr ⟨by kernel_rfl, rfl⟩) ?_
                 try simp only [Act.put, si0, si1, si2]
                 refine tk_ (i := 17) (oi := ⟨_, _, _, _, _, _⟩) (v := undef) rfl (Or.inr ⟨by kernel_rfl, rfl⟩) ?_
                 try simp only [Act.put, si0, si1, si2]
                 refine tk_ (i := 18) (oi := ⟨_, _, _, _, _, _⟩) (v := undef) rfl (Or.inr ⟨by kernel_rfl, rfl⟩) ?_
                 try simp only [Act.put, si0, si1, si2]
                 (refine tk_ (i := 19) (oi := ⟨_, _, _, _, _, _⟩) (v := ?_) rfl (Or.inl ⟨by rfl, ?_⟩) ?_; rotate_left 1; · (intro w hSw; (try dsimp only at hSw); go_simp; all_goals with_reducible rfl))
                 try simp only [Act.put, si0, si1, si2]
                 refine wpAnyH_done (by kernel_rfl) ?_ _
                 go_wp2_with fail
                 go_meet
                 exact ⟨rfl, HK⟩
                ·have HZ := Lib.hid hz
                 have HCO : Hid (covB (now' s) had'[m] = true) := Lib.hid (HSEE.out s hst (has_nid (k := s) hz))
                 clear hz
                 refine wp_region_held_drew (S := fun w' => ((w'.cell? (ag.add (m * 5)) = some (.slice g0.1 g0.2.1 g0.2.2) ∧ w'.cell? ⟨(ag.add (m * 5)).block, (ag.add (m * 5)).off + 1, none⟩ = some (.slice g1.1 g1.2.1 g1.2.2) ∧ w'.cell? ⟨(ag.add (m * 5)).block, (ag.add (m * 5)).off + 2, none⟩ = some (.slice g2.1 g2.2.1 g2.2.2) ∧ w'.cell? ⟨(ag.add (m * 5)).block, (ag.add (m * 5)).off + 3, none⟩ = some (.slice g3.1 g3.2.1 g3.2.2) ∧ w'.cell? ⟨(ag.add (m * 5)).block, (ag.add (m * 5)).off + 4, none⟩ = some (.slice g4.1 g4.2.1 g4.2.2)) ∧ (w'.cell? ⟨w1.heap.size, s * 5, none⟩ = some (.slice h0.1 h0.2.1 h0.2.2) ∧ w'.cell? ⟨w1.heap.size, s * 5 + 1, none⟩ = some (.slice h1.1 h1.2.1 h1.2.2) ∧ w'.cell? ⟨w1.heap.size, s * 5 + 2, none⟩ = some (.slice h2.1 h2.2.1 h2.2.2) ∧ w'.cell? ⟨w1.heap.size, s * 5 + 3, none⟩ = some (.slice h3.1 h3.2.1 h3.2.2) ∧ w'.cell? ⟨w1.heap.size, s * 5 + 4, none⟩ = some (.slice h4.1 h4.2.1 h4.2.2))) ∧ Hid (Below wr.heap.size wr w')) (by kernel_rfl) ?_ (fun hHeld => ?_)
                 ·exact HS.out _ (below_drewN (n := 1) (Below.refl _ _))
                 (refine tk_ (i := 0) (oi := ⟨_, _, _, _, _, _⟩) (v := ?_) rfl (Or.inl ⟨by rfl, ?_⟩) ?_; rotate_left 1; · (intro w hSw; (try dsimp only at hSw); go_simp; all_goals with_reducible rfl))
                 try simp only [Act.put, si0, si1, si2]
                 (refine tk_ (i := 1) (oi := ⟨_, _, _, _, _, _⟩) (v := ?_) rfl (Or.inl ⟨by rfl, ?_⟩) ?_; rotate_left 1; · (intro w hSw; (try dsimp only at hSw); go_simp; all_goals with_reducible rfl))
                 try simp only [Act.put, si0, si1, si2]
                 (refine tk_ (i := 2) (oi := ⟨_, _, _, _, _, _⟩) (v := ?_) rfl (Or.inl ⟨by rfl, ?_⟩) ?_; rotate_left 1; · (intro w hSw; (try dsimp only at hSw); go_simp; all_goals with_reducible rfl))
                 try simp only [Act.put, si0, si1, si2]
                 (refine tk_ (i := 3) (oi := ⟨_, _, _, _, _, _⟩) (v := ?_) rfl (Or.inl ⟨by rfl, ?_⟩) ?_; rotate_left 1; · (intro w hSw; (try dsimp only at hSw); go_simp; all_goals with_reducible rfl))
                 try simp only [Act.put, si0, si1, si2]
                 (refine tk_ (i := 4) (oi := ⟨_, _, _, _, _, _⟩) (v := ?_) rfl (Or.inl ⟨by rfl, ?_⟩) ?_; rotate_left 1; · (intro w hSw; (try dsimp only at hSw); go_simp; all_goals with_reducible rfl))
                 try simp only [Act.put, si0, si1, si2]
                 (refine tk_ (i := 5) (oi := ⟨_, _, _, _, _, _⟩) (v := ?_) rfl (Or.inl ⟨by rfl, ?_⟩) ?_; rotate_left 1; · (intro w hSw; (try dsimp only at hSw); go_simp; all_goals with_reducible rfl))
                 try simp only [Act.put, si0, si1, si2]
                 (refine tk_ (i := 6) (oi := ⟨_, _, _, _, _, _⟩) (v := ?_) rfl (Or.inl ⟨by rfl, ?_⟩) ?_; rotate_left 1; · (intro w hSw; (try dsimp only at hSw); go_simp; all_goals with_reducible rfl))
                 try simp only [Act.put, si0, si1, si2]
                 refine wpAnyH_ready (rs := [7]) (by kernel_rfl) (by simp) ?_
                 refine AllReadyH.cons (o := ⟨_, _, _, _, _, _⟩) rfl (fun Kq hKq => ?_) AllReadyH.nil
                 go_simp
                 clear hHeld
                 (go_at_call 32; (with_reducible refine (at_any _ _).mono ?_); rintro e1 w7 ⟨rfl, hb⟩; have HK := Lib.hid (show Below wr.heap.size wr w7 from (below_drewN (n := 1) (Below.refl _ _)).trans hb); clear hb)
                 refine hKq.out _ _ ?_ (fun hHeld => ?_)
                 ·(try dsimp only); exact HS.out _ HK.out
                 clear hKq Kq
                 try simp only [Act.put, si0, si1, si2]
                 refine wpAnyH_ready (rs := [8]) (by kernel_rfl) (by simp) ?_
                 refine AllReadyH.cons (o := ⟨_, _, _, _, _, _⟩) rfl (fun Kq hKq => ?_) AllReadyH.nil
                 go_simp
                 clear hHeld
                 (go_at_call 34; (with_reducible refine (has_any _ had'[m].s ((s : Int) + 1) 1 _ (HVm3.out.s.below HK.out) (Nat.le_trans FM.out.s (by decide))).mono ?_); rw [HZ.out]; rintro e1 w8 ⟨rfl, hb⟩; have HK := Lib.hid (below_after HK.out hb (Nat.le_refl _)); clear hb)
                 refine hKq.out _ _ ?_ (fun hHeld => ?_)
                 ·(try dsimp only); exact HS.out _ HK.out
                 clear hKq Kq
                 try simp only [Act.put, si0, si1, si2]
                 (refine tk_ (i := 9) (oi := ⟨_, _, _, _, _, _⟩) (v := ?_) rfl (Or.inl ⟨by rfl, ?_⟩) ?_; rotate_left 1; · (intro w hSw; (try dsimp only at hSw); go_simp; all_goals with_reducible rfl))
                 try simp only [Act.put, si0, si1, si2]
                 first | (refine tk_ (i := 10) (oi := ⟨_, _, _, _, _, _⟩) (v := ?_) rfl (Or.inl ⟨by rfl, ?_⟩) ?_; rotate_left 1; · (intro w hSw; (try dsimp only at hSw); go_simp; all_goals with_reducible rfl)) | refine tk_ (i := 10) (oi := ⟨_, _, _, _, _, _⟩) (v := undef) rfl (Or.inr ⟨by kernel_rfl, rfl⟩) ?_
                 try simp only [Act.put, si0, si1, si2]
                 first | (refine tk_ (i := 11) (oi := ⟨_, _, _, _, _, _⟩) (v := ?_) rfl (Or.inl ⟨by rfl, ?_⟩) ?_; rotate_left 1; · (intro w hSw; (try dsimp only at hSw); go_simp; all_goals with_reducible rfl)) | refine tk_ (i := 11) (oi := ⟨_, _, _, _, _, _⟩) (v := undef) rfl (Or.inr ⟨by kernel_rfl, rfl⟩) ?_
                 try simp only [Act.put, si0, si1, si2]
                 first | (refine tk_ (i := 12) (oi := ⟨_, _, _, _, _, _⟩) (v := ?_) rfl (Or.inl ⟨by rfl, ?_⟩) ?_; rotate_left 1; · (intro w hSw; (try dsimp only at hSw); go_simp; all_goals with_reducible rfl)) | refine tk_ (i := 12) (oi := ⟨_, _, _, _, _, _⟩) (v := undef) rfl (Or.inr ⟨by kernel_rfl, rfl⟩) ?_
                 try simp only [Act.put, si0, si1, si2]
                 first | (refine tk_ (i := 13) (oi := ⟨_, _, _, _, _, _⟩) (v := ?_) rfl (Or.inl ⟨by rfl, ?_⟩) ?_; rotate_left 1; · (intro w hSw; (try dsimp only at hSw); go_simp; all_goals with_reducible rfl)) | refine tk_ (i := 13) (oi := ⟨_, _, _, _, _, _⟩) (v := undef) rfl (Or.inr ⟨by kernel_rfl, rfl⟩) ?_
                 try simp only [Act.put, si0, si1, si2]
                 first | (refine tk_ (i := 14) (oi := ⟨_, _, _, _, _, _⟩) (v := ?_) rfl (Or.inl ⟨by rfl, ?_⟩) ?_; rotate_left 1; · (intro w hSw; (try dsimp only at hSw); go_simp; all_goals with_reducible rfl)) | refine tk_ (i := 14) (oi := ⟨_, _, _, _, _, _⟩) (v := undef) rfl (Or.inr ⟨by kernel_rfl, rfl⟩) ?_
                 try simp only [Act.put, si0, si1, si2]
                 first | (refine tk_ (i := 15) (oi := ⟨_, _, _, _, _, _⟩) (v := ?_) rfl (Or.inl ⟨by rfl, ?_⟩) ?_; rotate_left 1; · (intro w hSw; (try dsimp only at hSw); go_simp; all_goals with_reducible rfl)) | refine tk_ (i := 15) (oi := ⟨_, _, _, _, _, _⟩) (v := undef) rfl (Or.inr ⟨by kernel_rfl, rfl⟩) ?_
                 try simp only [Act.put, si0, si1, si2]
                 first | (refine tk_ (i := 16) (oi := ⟨_, _, _, _, _, _⟩) (v := ?_) rfl (Or.inl ⟨by rfl, ?_⟩) ?_; rotate_left 1; · (intro w hSw; (try dsimp only at hSw); go_simp; all_goals with_reducible rfl)) | refine tk_ (i := 16) (oi := ⟨_, _, _, _, _, _⟩) (v := undef) rfl (Or.inr ⟨by kernel_rfl, rfl⟩) ?_
                 try simp only [Act.put, si0, si1, si2]
                 refine wpAnyH_ready (rs := [17]) (by kernel_rfl) (by simp) ?_
                 refine AllReadyH.cons (o := ⟨_, _, _, _, _, _⟩) rfl (fun Kq hKq => ?_) AllReadyH.nil
                 go_simp
                 clear hHeld
                 (go_at_call 26; (with_reducible refine (covers_any _ _ (now' s) had'[m] _ (HVn.out.below HK.out).at_ (HVm3.out.below HK.out).at_ ((FN.out s hst).mono (by decide)) (FM.out.mono (by decide)) (UN.out s hst) UM.out).mono ?_); rw [HCO.out]; rintro e1 w9 ⟨rfl, hb⟩; have HK := Lib.hid (below_after HK.out hb (Nat.le_refl _)); clear hb)
                 refine hKq.out _ _ ?_ (fun hHeld => ?_)
                 ·(try dsimp only); exact HS.out _ HK.out
                 clear hKq Kq
                 try simp only [Act.put, si0, si1, si2]
                 first | (refine tk_ (i := 18) (oi := ⟨_, _, _, _, _, _⟩) (v := ?_) rfl (Or.inl ⟨by rfl, ?_⟩) ?_; rotate_left 1; · (intro w hSw; (try dsimp only at hSw); go_simp; all_goals with_reducible rfl)) | refine tk_ (i := 18) (oi := ⟨_, _, _, _, _, _⟩) (v := undef) rfl (Or.inr ⟨by kernel_rfl, rfl⟩) ?_
                 try simp only [Act.put, si0, si1, si2]
                 (refine tk_ (i := 19) (oi := ⟨_, _, _, _, _, _⟩) (v := ?_) rfl (Or.inl ⟨by rfl, ?_⟩) ?_; rotate_left 1; · (intro w hSw; (try dsimp only at hSw); go_simp; all_goals with_reducible rfl))
                 try simp only [Act.put, si0, si1, si2]
                 refine wpAnyH_done (by kernel_rfl) ?_ _
                 go_wp2_with fail
                 go_meet
                 exact ⟨rfl, HK⟩
              case rest =>
               as_aux_lemma =>
                obtain ⟨rfl, HB2⟩ := hcut
                go_wp2_with fail
                go_roundw
                case rel => exact ⟨s + 1, by omega, by go_num, Lib.hid (below_after HB.out HB2.out (Nat.le_refl _))⟩
                case measure => simp [intOf]; omega
             ·have hds : decide ((s : Int) < 4) = false := decide_eq_false (by omega)
              go_wp2_with fail
              go_roundw
              case rel => exact ⟨m + 1, by omega, by go_num, Lib.hid (HP2.out.step HB.out)⟩
              case measure => simp [intOf]; omega
         ·have hdm : decide ((m : Int) < (had'.length : Int)) = false := decide_eq_false (by omega)
          have HA2 : Hid (Acts ((i + 1 : Nat) : Int) n' chg' now' had') := Lib.hid (by
           have h := HA.out
           rwa [show ((i + 1 : Nat) : Int) = (i : Int) + 1 by omega])
          go_wp2_with fail
          go_roundw
          case rel => exact ⟨i + 1, n', chg', now', had', _, _, by omega, rfl, by go_num, HA2, HLn, Lib.hid HP.out.one⟩
          case measure => simp [intOf]; omega

   ·have hdk : decide ((i : Int) < (l.length : Int)) = false := decide_eq_false (by omega)
    go_wp2_with fail
    go_ret
    exact ⟨rfl, HW.out.below⟩
end Go.Proofs.YtjlnnmjhbccdoaaGreat
