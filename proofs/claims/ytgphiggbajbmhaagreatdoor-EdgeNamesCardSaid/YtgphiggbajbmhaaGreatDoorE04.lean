/-
  Carried over and put together: contracts of this program's functions, and plain facts. No statement is proved in this text.
-/
import Derived.Lib.SlKept
import Derived.BigRegion
import Derived.Test.YtgphiggbajbmhaaGreatDoorE03
set_option maxRecDepth 20000
namespace Go.Proofs.YtgphiggbajbmhaaGreatDoor
open Go Go.RowKit Sets RowSets
section
variable {α : Type} [Inhabited α] {enc : α → List Value} {sz : Nat}
omit [Inhabited α] in
theorem made_flat (hs : ∀ a, (enc a).length = sz) (h0 : 0 < sz) {zc : Array Value} {r0 : α} (hz : zc.toList = enc r0) (n : Nat) : (madeCells zc (n * sz)).toList = flatR enc (List.replicate n r0) := by
 have hzs : zc.size = sz := by rw [← Array.length_toList, hz, hs]
 apply List.ext_getElem?
 intro j
 by_cases hj : j < n * sz
 ·have hk : j / sz < n := (Nat.div_lt_iff_lt_mul h0).2 hj
  have hm := Nat.mod_lt j h0
  have he : j = j / sz * sz + j % sz := by rw [Nat.mul_comm]; exact (Nat.div_add_mod j sz).symm
  have hk2 : j / sz < (List.replicate n r0).length := by simpa using hk
  have hg : (List.replicate n r0)[j / sz] = r0 := by simp
  have hl : j % sz < (enc r0).length := by rw [hs]; exact hm
  have h1 := flatR_at hs (List.replicate n r0) (j / sz) hk2 (j % sz) ((enc r0)[j % sz]) (by rw [hg]; exact List.getElem?_eq_getElem hl)
  rw [← he] at h1
  rw [h1, Array.getElem?_toList, Array.getElem?_eq_getElem (by rw [size_madeCells]; exact hj)]
  congr 1
  have hl2 : j % sz < zc.size := by rw [hzs]; exact hm
  simp only [madeCells, Array.getElem_map, Array.getElem_range, hzs]
  rw [getElem!_pos zc _ hl2, ← Array.getElem_toList]
  simp only [hz]
 ·rw [List.getElem?_eq_none (by simp [size_madeCells]; omega), List.getElem?_eq_none (by rw [flatR_len hs]; simp; omega)]
variable {P : Program}
theorem wpList_make_all {ops : Array Oper} {rest : List Oper} {o : Oper} {a : Act} {Q : Exit → Act → World → Prop} (t e : TypeId) {z : Value} {bytes : Nat} (r0 : α) (ht : P.underlying t = some (.slice e))
  (hinfo : (P.info? e).map (fun i => (i.zero, i.size, i.bytes)) = some (some z, sz, bytes)) (hs : ∀ a, (enc a).length = sz) (h0 : 0 < sz) (hz : z.cells.toList = enc r0) (hby : bytes ≤ 1000)
  (w : World) (hgd : o.guard = none) (x : Operand) (hop : o.op = .makeSlice t x x) (n : Nat) (hx : a.eval x = .int .i64 n) (hn : n ≤ 100000)
  (h : ∀ w', RowAtR enc sz w' w.heap.size (Array.replicate n r0) → w.heap.size < w'.heap.size → Below w.heap.size w w' → wpList P ops Q rest (a.put o.dst (.slice (some ⟨w.heap.size, 0, none⟩) n n)) w') : wpList P ops Q (o :: rest) a w := by
 obtain ⟨i0, hi, hz0, hz1, hz2⟩ := info_parts hinfo
 have hnb : n * bytes ≤ 100000 * 1000 := Nat.mul_le_mul hn hby
 refine wpList_make_full w hgd x x t hop w.heap.size e i0 z sz ht hi hz0 hz1 .i64 .i64 n n n hx hx rfl rfl (by rw [hz2]; have := Nat.mul_comm n bytes; omega) (by unfold maxLen; omega) (Nat.le_refl _) fun w' h1 h2 => ?_
 rw [made_flat hs h0 hz] at h1
 have ho : OwnsR enc sz e w' w.heap.size (.slice (some ⟨w.heap.size, 0, none⟩) (Array.replicate n r0).size n) (Array.replicate n r0).toList := by
  unfold OwnsR
  simpa using h1
 have hr := rowAtR_owns hs ho
 exact h w' hr hr.1 ((Below.refl w.heap.size w).grown h2 (Nat.le_refl _) (fun k hk => by cases hk))
end
theorem RowAtR.row {w : World} {g : Nat} {d : Array Raw} (h : RowAtR encW 4 w g d) {k : Nat} (hk : k < d.size) :
  (w.cell? ⟨g, k * 4, none⟩ = some (.int .i64 d[k]!.1.1) ∧ w.cell? ⟨g, k * 4 + 1, none⟩ = some (.int .i64 d[k]!.1.2) ∧ w.cell? ⟨g, k * 4 + 2, none⟩ = some (.int .i64 d[k]!.2.1) ∧ w.cell? ⟨g, k * 4 + 3, none⟩ = some (.slice d[k]!.2.2.1 d[k]!.2.2.2.1 d[k]!.2.2.2.2)) ∧
  (w.frozen? ⟨g, k * 4, none⟩ = false ∧ w.frozen? ⟨g, k * 4 + 1, none⟩ = false ∧ w.frozen? ⟨g, k * 4 + 2, none⟩ = false ∧ w.frozen? ⟨g, k * 4 + 3, none⟩ = false) :=
 ⟨⟨(h.2 k hk 0 _ rfl).1, (h.2 k hk 1 _ rfl).1, (h.2 k hk 2 _ rfl).1, (h.2 k hk 3 _ rfl).1⟩, (h.2 k hk 0 _ rfl).2, (h.2 k hk 1 _ rfl).2, (h.2 k hk 2 _ rfl).2, (h.2 k hk 3 _ rfl).2⟩
theorem RowAtR.id {w : World} {g : Nat} {d : Array Id2} (h : RowAtR encI 2 w g d) {k : Nat} (hk : k < d.size) :
  (w.cell? ⟨g, k * 2, none⟩ = some (.int .i64 d[k]!.1) ∧ w.cell? ⟨g, k * 2 + 1, none⟩ = some (.int .i64 d[k]!.2)) ∧
  (w.frozen? ⟨g, k * 2, none⟩ = false ∧ w.frozen? ⟨g, k * 2 + 1, none⟩ = false) :=
 ⟨⟨(h.2 k hk 0 _ rfl).1, (h.2 k hk 1 _ rfl).1⟩, (h.2 k hk 0 _ rfl).2, (h.2 k hk 1 _ rfl).2⟩
theorem rowW_set {w : World} {g : Nat} {d : Array Raw} (h : RowAtR encW 4 w g d) {i : Nat} (hi : i < d.size) (a j n : Int) (A : Option Addr) (m c : Nat) :
  RowAtR encW 4 ((((w.setCell ⟨g, i * 4, none⟩ (.int .i64 a)).setCell ⟨g, i * 4 + 1, none⟩ (.int .i64 j)).setCell ⟨g, i * 4 + 2, none⟩ (.int .i64 n)).setCell ⟨g, i * 4 + 3, none⟩ (.slice A m c)) g (d.setIfInBounds i ((a, j), n, A, m, c)) :=
 rowAtR_set encW_len h hi ((a, j), n, A, m, c)
theorem rowI_set {w : World} {g : Nat} {d : Array Id2} (h : RowAtR encI 2 w g d) {i : Nat} (hi : i < d.size) (a j : Int) :
  RowAtR encI 2 ((w.setCell ⟨g, i * 2, none⟩ (.int .i64 a)).setCell ⟨g, i * 2 + 1, none⟩ (.int .i64 j)) g (d.setIfInBounds i (a, j)) :=
 rowAtR_set encI_len h hi (a, j)
theorem grown_setW {a w : World} {g : Nat} (h : a.grownBy w (some g)) (i : Nat) (x y z t : Value) : a.grownBy ((((w.setCell ⟨g, i * 4, none⟩ x).setCell ⟨g, i * 4 + 1, none⟩ y).setCell ⟨g, i * 4 + 2, none⟩ z).setCell ⟨g, i * 4 + 3, none⟩ t) (some g) := grown_setCells h (i * 4) [x, y, z, t]
theorem grown_setI {a w : World} {g : Nat} (h : a.grownBy w (some g)) (i : Nat) (x y : Value) : a.grownBy ((w.setCell ⟨g, i * 2, none⟩ x).setCell ⟨g, i * 2 + 1, none⟩ y) (some g) := grown_setCells h (i * 2) [x, y]
theorem below_setW {b0 : Nat} {a w : World} {g : Nat} (h : Below b0 a w) (hg : b0 ≤ g) (i : Nat) (x y z t : Value) : Below b0 a ((((w.setCell ⟨g, i * 4, none⟩ x).setCell ⟨g, i * 4 + 1, none⟩ y).setCell ⟨g, i * 4 + 2, none⟩ z).setCell ⟨g, i * 4 + 3, none⟩ t) := below_setCells h hg (i * 4) [x, y, z, t]
theorem below_setI {b0 : Nat} {a w : World} {g : Nat} (h : Below b0 a w) (hg : b0 ≤ g) (i : Nat) (x y : Value) : Below b0 a ((w.setCell ⟨g, i * 2, none⟩ x).setCell ⟨g, i * 2 + 1, none⟩ y) := below_setCells h hg (i * 2) [x, y]
def OwnRow (w : World) (lo : Nat) (q : Raw) (r : Row) : Prop := q.1 = r.1 ∧ q.2.1 = r.2.1 ∧ OwnsI w lo (slc q) r.2.2
def EachOwn (w : World) (lo : Nat) : List Raw → List Row → Prop
 | [], [] => True
 | q :: qs, r :: l => OwnRow w lo q r ∧ EachOwn w lo qs l
 | _, _ => False
def Apart (q q' : Raw) : Prop := ∀ b, (slc q).ownBlock = some b → (slc q').ownBlock ≠ some b
theorem EachOwn.imp {w w' : World} {lo lo' : Nat} (f : ∀ q r, OwnRow w lo q r → OwnRow w' lo' q r) : ∀ {qs : List Raw} {l : List Row}, EachOwn w lo qs l → EachOwn w' lo' qs l
 | [], [], _ => trivial
 | _ :: _, _ :: _, h => ⟨f _ _ h.1, EachOwn.imp f h.2⟩
 | [], _ :: _, h => h.elim
 | _ :: _, [], h => h.elim
theorem EachOwn.below {w w' : World} {lo : Nat} {qs : List Raw} {l : List Row} (h : EachOwn w lo qs l) (hb : Below w.heap.size w w') : EachOwn w' lo qs l := h.imp fun _ _ k => ⟨k.1, k.2.1, k.2.2.below hb⟩
theorem EachOwn.mono {w : World} {lo lo' : Nat} {qs : List Raw} {l : List Row} (h : EachOwn w lo qs l) (hb : lo' ≤ lo) : EachOwn w lo' qs l := h.imp fun _ _ k => ⟨k.1, k.2.1, k.2.2.mono hb⟩
theorem EachOwn.grown {w w' : World} {lo g : Nat} {qs : List Raw} {l : List Row} (h : EachOwn w lo qs l) (hb : w.grownBy w' (some g)) (hg : g < lo) : EachOwn w' lo qs l := h.imp fun _ _ k => ⟨k.1, k.2.1, k.2.2.grown hb (ownsR_ne k.2.2 hg)⟩
theorem EachOwn.append {w : World} {lo : Nat} {qs qs' : List Raw} {l l' : List Row} (h : EachOwn w lo qs l) (h' : EachOwn w lo qs' l') : EachOwn w lo (qs ++ qs') (l ++ l') := by
 induction qs generalizing l with
 | nil =>
  cases l with
  | nil => exact h'
  | cons r l => exact h.elim
 | cons q qs ih =>
  cases l with
  | nil => exact h.elim
  | cons r l => exact ⟨h.1, ih h.2⟩
theorem EachOwn.reads {w : World} {lo : Nat} : ∀ {qs : List Raw} {l : List Row}, EachOwn w lo qs l → EachReads w qs l
 | [], [], _ => trivial
 | _ :: _, _ :: _, h => ⟨⟨h.1.1, h.1.2.1, ownsI_ids h.1.2.2⟩, EachOwn.reads h.2⟩
 | [], _ :: _, h => h.elim
 | _ :: _, [], h => h.elim
theorem EachOwn.len {w : World} {lo : Nat} {qs : List Raw} {l : List Row} (h : EachOwn w lo qs l) : qs.length = l.length := h.reads.len
theorem EachOwn.lt {w : World} {lo : Nat} : ∀ {qs : List Raw} {l : List Row}, EachOwn w lo qs l → ∀ q ∈ qs, ∀ b, (slc q).ownBlock = some b → lo ≤ b ∧ b < w.heap.size
 | [], [], _ => fun q hq => by cases hq
 | _ :: _, _ :: _, h => fun q hq b hb => by
  rcases List.mem_cons.1 hq with rfl | hq
  ·exact World.ownsRow.lt h.1.2.2 b hb
  ·exact EachOwn.lt h.2 q hq b hb
 | [], _ :: _, h => h.elim
 | _ :: _, [], h => h.elim
theorem apart_snoc {w : World} {lo : Nat} {qs : List Raw} {l : List Row} {q : Raw} (h : EachOwn w lo qs l) (ha : qs.Pairwise Apart) (hq : ∀ b, (slc q).ownBlock = some b → w.heap.size ≤ b) : (qs ++ [q]).Pairwise Apart := by
 refine List.pairwise_append.2 ⟨ha, List.pairwise_singleton _ _, fun x hx y hy b hb e => ?_⟩
 rw [List.mem_singleton.1 hy] at e
 have h1 := (h.lt x hx b hb).2
 have h2 := hq b e
 omega
theorem take_set_snoc {α : Type} {d : Array α} {k : Nat} (hk : k < d.size) (q : α) : (d.setIfInBounds k q).toList.take (k + 1) = d.toList.take k ++ [q] := by
 have hk2 : k < (d.setIfInBounds k q).toList.length := by simpa using hk
 rw [List.take_succ_eq_append_getElem hk2]
 congr 1
 ·rw [Array.toList_setIfInBounds, List.take_set_of_le (Nat.le_refl _)]
 ·simp
theorem take_snoc {α : Type} {l : List α} {k : Nat} (hk : k < l.length) : l.take (k + 1) = l.take k ++ [l[k]] := List.take_succ_eq_append_getElem hk
set_option maxHeartbeats 2000000 in
theorem copiedAll_any (v : Value) (l : List Row) (w : World) (h : RowsAt w v l) (hl : l.length ≤ 1000) (hn : ∀ r ∈ l, r.2.2.length ≤ 100000) :
  Calls Tryz.prog 106 #[v] w fun e w' => ∃ g, ∃ d : Array Raw, e = .returned (.slice (some ⟨g, 0, none⟩) d.size d.size) ∧ w.heap.size ≤ g ∧ RowAtR encW 4 w' g d ∧ EachOwn w' (g + 1) d.toList l ∧ d.toList.Pairwise Apart ∧ Below w.heap.size w w' := by
 obtain ⟨qs, h1, h2⟩ := h
 have hlen := h2.len.symm
 have HI := Lib.hid h1
 have HE := Lib.hid h2
 have HN := Lib.hid hn
 obtain ⟨A, c, rfl, hz⟩ := h1
 clear hz h2 hn
 go_enter Tryz.func106, Tryz.ntmps106
 go_wp2_with (at_make; refine wpList_make_all (enc := encW) 24 65 ((0, 0), 0, none, 0, 0) Tryz.underlying24 infoW encW_len (by omega) rfl (by omega) w rfl (.tmp 7) rfl qs.length rfl (by omega) ?_; intro w1 k1 k2 k3; have R1 := Lib.hid k1; have S1 := Lib.hid k2; have B1 := Lib.hid k3; clear k1 k2 k3)
 have hsz0 : (Array.replicate qs.length (((0, 0), 0, none, 0, 0) : Raw)).size = qs.length := by simp
 obtain ⟨g, hg⟩ : ∃ g, w.heap.size = g := ⟨_, rfl⟩
 have HG := Lib.hid hg
 rw [hg] at R1 S1
 simp only [hg]
 clear hg
 go_loopw [11] (fun s11 wr => ∃ k : Nat, ∃ dk : Array Raw, k ≤ qs.length ∧ s11 = .int .i64 k ∧ dk.size = qs.length ∧ Hid (RowAtR encW 4 wr g dk) ∧ Hid (EachOwn wr (g + 1) (dk.toList.take k) (l.take k)) ∧ Hid ((dk.toList.take k).Pairwise Apart) ∧ Hid (Below w.heap.size w wr) ∧ Hid (g < wr.heap.size)) (fun s11 _ => qs.length - (intOf s11).toNat)
 case atStart => exact ⟨0, _, by omega, rfl, hsz0, R1, Lib.hid trivial, Lib.hid List.Pairwise.nil, B1, S1⟩
 case round =>
  obtain ⟨k, dk, hkl, rfl, hds, HR, HO, HA, HW, HS⟩ := hrel
  have i3 : (0 : Int) ≤ (k : Int) := by omega
  by_cases hlt : k < qs.length
  ·have hd : decide ((k : Int) < (qs.length : Int)) = true := by simp; omega
   have i4 : (k : Int) < (qs.length : Int) := by omega
   obtain ⟨ad, rfl, c1, c2, c3, c4⟩ := HI.out.raw HW.out hlt
   have hlt2 : k < l.length := by omega
   have HQ := Lib.hid (HE.out.at_ k hlt hlt2)
   have HL := Lib.hid (HN.out l[k] (List.getElem_mem hlt2))
   have HX := Lib.hid (wbox_new wr qs[k].1.1 qs[k].1.2 qs[k].2.1 (.slice qs[k].2.2.1 qs[k].2.2.2.1 qs[k].2.2.2.2))
   have HB := Lib.hid (below_one wr (.cells #[.int .i64 qs[k].1.1, .int .i64 qs[k].1.2, .int .i64 qs[k].2.1, .slice qs[k].2.2.1 qs[k].2.2.2.1 qs[k].2.2.2.2] 65))
   have HQ1 := Lib.hid (show (qs[k].1.1, qs[k].1.2) = l[k].1 from HQ.out.1)
   have HQ2 := Lib.hid HQ.out.2.1
   have HJ := Lib.hid (show Ids w (.slice qs[k].2.2.1 qs[k].2.2.2.1 qs[k].2.2.2.2) l[k].2.2 from HQ.out.2.2)
   have HTL := Lib.hid (take_snoc hlt2)
   clear HQ
   generalize qs[k].1.1 = a at *
   generalize qs[k].1.2 = i at *
   generalize qs[k].2.1 = n at *
   generalize qs[k].2.2.1 = B at *
   generalize qs[k].2.2.2.1 = m at *
   generalize qs[k].2.2.2.2 = d at *
   obtain ⟨x1, x2, x3, x4⟩ := wbox_cells HX.out
   go_wp2_with fail
   refine (copied_any a i n B m d l[k].2.2 _ (HJ.out.below (HW.out.alloc HW.out.size _)) HL.out).mono ?_
   rintro e w2 ⟨C, m', c', rfl, ho, hb⟩
   have HB2 := Lib.hid (below_boxed (Below.refl wr.heap.size wr) hb (Nat.le_refl _))
   have R2 := Lib.hid (rowAtR_kept HR.out HB2.out)
   have O2 := Lib.hid (ho.mono (show wr.heap.size ≤ _ by simp))
   have E2 := Lib.hid (HO.out.below HB2.out)
   have W2 := Lib.hid (below_after HW.out HB2.out (Nat.le_refl _))
   have S2 := Lib.hid (Nat.lt_of_lt_of_le HS.out HB2.out.size)
   have A2 := Lib.hid (apart_snoc (q := ((a, i), n, C, m', c')) HO.out HA.out (fun b hb => (World.ownsRow.lt O2.out b hb).1))
   clear ho hb x1 x2 x3 x4 c1 c2 c3 c4
   obtain ⟨⟨c1, c2, c3, c4⟩, f1, f2, f3, f4⟩ := R2.out.row (k := k) (by omega)
   have R3 := Lib.hid (rowW_set R2.out (show k < dk.size by omega) a i n C m' c')
   have G3 := Lib.hid (grown_setW (World.grownBy.refl w2 (some g)) k (.int .i64 a) (.int .i64 i) (.int .i64 n) (.slice C m' c'))
   have W3 := Lib.hid (below_setW (g := g) W2.out (by rw [HG.out]; exact Nat.le_refl g) k (.int .i64 a) (.int .i64 i) (.int .i64 n) (.slice C m' c'))
   have S3 := Lib.hid (Nat.lt_of_lt_of_le S2.out G3.out.size)
   have hgw : g + 1 ≤ wr.heap.size := HS.out
   have O3 := Lib.hid ((O2.out.mono hgw).grown G3.out (ownsR_ne (O2.out.mono hgw) (by omega)))
   have E3 := Lib.hid (E2.out.grown G3.out (by omega))
   have HT := Lib.hid (take_set_snoc (show k < dk.size by omega) (((a, i), n, C, m', c') : Raw))
   have E4 := Lib.hid (E3.out.append (show EachOwn _ (g + 1) [((a, i), n, C, m', c')] [l[k]] from ⟨⟨HQ1.out, HQ2.out, O3.out⟩, trivial⟩))
   rw [← HT.out, ← HTL.out] at E4
   rw [← HT.out] at A2
   clear E2 E3 O2 O3 HO HA R2 HR
   go_wp2_with fail
   go_roundw
   case rel => exact ⟨k + 1, _, by omega, by go_num, by simpa using hds, R3, E4, A2, W3, S3⟩
   case measure => simp [intOf]; omega
  ·obtain rfl : k = qs.length := by omega
   have hd : decide ((qs.length : Int) < (qs.length : Int)) = false := by simp
   have HT := Lib.hid (show dk.toList.take qs.length = dk.toList from List.take_of_length_le (by simp; omega))
   have HT2 := Lib.hid (show l.take qs.length = l from List.take_of_length_le (by omega))
   rw [HT.out, HT2.out] at HO
   rw [HT.out] at HA
   go_wp2_with fail
   go_ret
   exact ⟨g, dk, by rw [hds]; rfl, by rw [HG.out]; exact Nat.le_refl g, HR.out, HO.out, HA.out, HW.out⟩
end Go.Proofs.YtgphiggbajbmhaaGreatDoor
namespace Go.Proofs.YtgphiggbajbmhaaGreatDoor
open Go Go.RowKit Sets RowSets
theorem zero23 (W : World) : (zeroValue 32).run Tryz.prog W = .ok (.agg #[.int .i64 0, .int .i64 0]) W := by kernel_rfl
theorem zero26 (W : World) : (zeroValue 65).run Tryz.prog W = .ok (.agg #[.int .i64 0, .int .i64 0, .int .i64 0, .slice none 0 0]) W := by kernel_rfl
theorem kept_front {α : Type} [Inhabited α] {kp : Nat → Bool} {d dk : Array α} {k : Nat} (h : Go.Lib.KeptInv kp d d.size k dk) : (dk.extract 0 k).toList = Go.Lib.keptUpTo kp d d.size := by
 have hk := h.lt
 have hs := h.size
 apply List.ext_getElem?
 intro j
 by_cases c : j < k
 ·rw [h.low j c]
  have h1 : j < (dk.extract 0 k).size := by simp; omega
  rw [Array.getElem?_toList, Array.getElem?_eq_getElem h1, getElem!_pos dk j (by omega)]
  simp
 ·rw [List.getElem?_eq_none (by simp; omega), List.getElem?_eq_none (by rw [h.len]; omega)]
theorem found_none {α : Type} [Inhabited α] {d : Array α} {pp : α → Bool} (h : ∀ x ∈ d.toList, pp x = false) (j : Nat) (hj : j < d.size) : pp d[j]! = false := by
 rw [getElem!_pos d j hj]
 exact h _ (by simp)
theorem found_take {α : Type} [Inhabited α] {d : Array α} {pp : α → Bool} {k : Nat} (hk : k ≤ d.size) (h : ∀ x ∈ d.toList.take k, pp x = false) (j : Nat) (hj : j < k) : pp d[j]! = false := by
 rw [getElem!_pos d j (by omega)]
 refine h _ ?_
 have : d[j]'(by omega) = (d.toList.take k)[j]'(by simp; omega) := by simp
 rw [this]
 exact List.getElem_mem _
set_option maxHeartbeats 4000000 in
theorem deleteI_any {K : Nat} {caps : Array Value} {p : Id2 → Bool} {S : World → Prop} (hP : AsksI K caps p S) (g c : Nat) (hSg : ∀ W W', S W → W.grownBy W' (some g) → S W') (d : Array Id2) (w : World) (h : RowAtR encI 2 w g d) (hS : S w) (hc : d.size ≤ c) (hl : d.size ≤ 100000) :
  Calls Tryz.prog 108 #[.slice (some ⟨g, 0, none⟩) d.size c, .func (.func K) #[] caps] w fun e w' => ∃ d' : Array Id2, e = .returned (.slice (some ⟨g, 0, none⟩) d'.size c) ∧ (d'.toList = d.toList.filter fun t => !p t) ∧ d'.size ≤ d.size ∧ RowAtR encI 2 w' g d' ∧ w.grownBy w' (some g) := by
 have HP := Lib.hid hP
 have HSG := Lib.hid hSg
 have HS0 := Lib.hid hS
 have HR := Lib.hid h
 have HI := Lib.hid (show Ids w (.slice (some ⟨g, 0, none⟩) d.size c) d.toList from ids_rcs (rowAtR_rcs h hc))
 have HA : Hid (Go.Lib.keptUpTo (fun j => !p d[j]!) d d.size = d.toList.filter fun t => !p t) := Lib.hid (Go.Lib.keptUpTo_filter (fun t : Id2 => !p t) d)
 have hK := hP.enters
 clear h hP hSg hS
 go_enter Tryz.func108, Tryz.ntmps108
 go_wp2_with fail
 (with_reducible refine (indexI_any HP.out _ _ _ HI.out HS0.out (by simpa using hl)).mono ?_)
 rintro e w1 ⟨⟨r, rfl, hf⟩, hb⟩
 have HB := Lib.hid hb
 have R1 := Lib.hid (rowAtR_kept HR.out hb)
 have S1 := Lib.hid (HP.out.kept _ _ HS0.out hb)
 clear hb
 rcases hf with ⟨rfl, hall⟩ | ⟨k0, hk0, rfl, hz, hbef⟩
 ·have HF := Lib.hid (show d.toList = d.toList.filter fun t => !p t by
   rw [← HA.out, Go.Lib.keptUpTo_all (fun j => !p d[j]!) d d.size (fun j hj => by rw [found_none (pp := fun t => p t) hall j hj]; rfl), Go.Lib.range_map_get])
  clear hall
  go_wp2_with fail
  go_ret
  exact ⟨d, rfl, HF.out, Nat.le_refl _, R1.out, grown_below (World.grownBy.refl _ _) HB.out⟩
 ·have hk0 : k0 < d.size := by simpa using hk0
  have hne1 : ((k0 : Int) == -1) = false := beq_eq_false_iff_ne.2 (by omega)
  have HS := Lib.hid (Go.Lib.KeptInv.start (kp := fun j => !p d[j]!) (d := d) (k0 := k0) (fun j hj => by show (!p d[j]!) = true; rw [found_take (pp := fun t => p t) (by omega) hbef j hj]; rfl) (by show (!p d[k0]!) = false; rw [show p d[k0]! = true by rw [getElem!_pos d k0 hk0]; simpa using hz]; rfl))
  have HG := Lib.hid (show w.grownBy w1 (some g) from grown_below (World.grownBy.refl _ _) HB.out)
  have i0 : IntKind.i64.wrap ((k0 : Int) + 1) = (k0 : Int) + 1 := IntWalk.i64_in _ ⟨by omega, by omega⟩
  clear hbef hz
  go_wp2_with fail
  go_loopw [5, 6] (fun s5 s6 wr => ∃ (i j : Nat) (dk : Array Id2), s5 = .int .i64 i ∧ s6 = .int .i64 j ∧ j ≤ d.size ∧ Hid (Go.Lib.KeptInv (fun j => !p d[j]!) d j i dk) ∧ Hid (RowAtR encI 2 wr g dk) ∧ Hid (w.grownBy wr (some g)) ∧ Hid (S wr)) (fun _ s6 _ => d.size - (intOf s6).toNat)
  case atStart => exact ⟨k0, k0 + 1, d, rfl, by go_num, by omega, HS, R1, HG, S1⟩
  case round =>
   obtain ⟨i, j, dk, rfl, rfl, hjd, HK, H2, H3, H4⟩ := hrel
   have hij := HK.out.lt
   have hds := HK.out.size
   have p1 : (0 : Int) ≤ (j : Int) := by omega
   have p2 : (0 : Int) ≤ (i : Int) := by omega
   by_cases hlt : j < d.size
   ·have hd : decide ((j : Int) < (d.size : Int)) = true := by simp; omega
    have p3 : (j : Int) < (d.size : Int) := by omega
    have p4 : (i : Int) < (d.size : Int) := by omega
    have hT := (H2.out.id (show j < dk.size by omega)).1
    rw [HK.out.high j (by omega)] at hT
    rcases hn : p d[j]! with _ | _
    ·have HKK := Lib.hid (HK.out.keep hlt (by show (!p d[j]!) = true; rw [hn]; rfl))
     have HC : Hid (∀ W, S W → Calls Tryz.prog K (#[.agg #[.int .i64 d[j]!.1, .int .i64 d[j]!.2]] ++ caps) W fun e w' => e = .returned (.bool false) ∧ Below W.heap.size W w') := Lib.hid fun W hs => by
      have := HP.out.call d[j]!.1 d[j]!.2 W hs
      rw [show p (d[j]!.1, d[j]!.2) = false from hn] at this
      exact this
     have HE := Lib.hid (show d[j]! = (d[j]!.1, d[j]!.2) from rfl)
     rw [HE.out] at HKK
     clear hn HE
     have HX := Lib.hid (box_new wr d[j]!.1 d[j]!.2)
     have BX := Lib.hid (below_one wr (.cells #[.int .i64 d[j]!.1, .int .i64 d[j]!.2] 32))
     have SX := Lib.hid (HP.out.kept _ _ H4.out BX.out)
     generalize d[j]!.1 = a at *
     generalize d[j]!.2 = b at *
     obtain ⟨c1, c2⟩ := hT
     go_wp2_with fail
     (with_reducible refine (HC.out _ SX.out).mono ?_)
     rintro e w2 ⟨rfl, hb⟩
     have B2 := Lib.hid (below_after BX.out hb (Nat.le_refl _))
     have R2 := Lib.hid (rowAtR_kept H2.out B2.out)
     have G2 := Lib.hid (grown_below H3.out B2.out)
     have S2 := Lib.hid (HP.out.kept _ _ SX.out hb)
     have X2 := Lib.hid (box_below HX.out hb)
     clear hb c1 c2
     obtain ⟨x1, x2⟩ := box_cells X2.out
     obtain ⟨⟨c1, c2⟩, f1, f2⟩ := H2.out.id (show i < dk.size by omega)
     clear c1 c2 f1 f2
     obtain ⟨⟨c1, c2⟩, f1, f2⟩ := R2.out.id (show i < dk.size by omega)
     have R3 := Lib.hid (rowI_set R2.out (show i < dk.size by omega) a b)
     have G3 := Lib.hid (grown_setI G2.out i (.int .i64 a) (.int .i64 b))
     have S3 := Lib.hid (HSG.out _ _ S2.out (grown_setI (World.grownBy.refl w2 (some g)) i (.int .i64 a) (.int .i64 b)))
     go_wp2_with fail
     go_roundw
     case rel => exact ⟨i + 1, j + 1, _, by go_num, by go_num, by omega, HKK, R3, G3, S3⟩
     case measure => simp [intOf]; omega
    ·have HKK := Lib.hid (HK.out.skip (by show (!p d[j]!) = false; rw [hn]; rfl))
     have HC : Hid (∀ W, S W → Calls Tryz.prog K (#[.agg #[.int .i64 d[j]!.1, .int .i64 d[j]!.2]] ++ caps) W fun e w' => e = .returned (.bool true) ∧ Below W.heap.size W w') := Lib.hid fun W hs => by
      have := HP.out.call d[j]!.1 d[j]!.2 W hs
      rw [show p (d[j]!.1, d[j]!.2) = true from hn] at this
      exact this
     clear hn
     have BX := Lib.hid (below_one wr (.cells #[.int .i64 d[j]!.1, .int .i64 d[j]!.2] 32))
     have HX := Lib.hid (box_new wr d[j]!.1 d[j]!.2)
     have SX := Lib.hid (HP.out.kept _ _ H4.out BX.out)
     generalize d[j]!.1 = a at *
     generalize d[j]!.2 = b at *
     obtain ⟨c1, c2⟩ := hT
     go_wp2_with fail
     (with_reducible refine (HC.out _ SX.out).mono ?_)
     rintro e w2 ⟨rfl, hb⟩
     have B2 := Lib.hid (below_after BX.out hb (Nat.le_refl _))
     have R2 := Lib.hid (rowAtR_kept H2.out B2.out)
     have G2 := Lib.hid (grown_below H3.out B2.out)
     have S2 := Lib.hid (HP.out.kept _ _ SX.out hb)
     clear hb c1 c2
     go_wp2_with fail
     go_roundw
     case rel => exact ⟨i, j + 1, dk, rfl, by go_num, by omega, HKK, R2, G2, S2⟩
     case measure => simp [intOf]; omega
   ·obtain rfl : j = d.size := by omega
    have hd : decide ((d.size : Int) < (d.size : Int)) = false := by simp
    obtain ⟨vs, hcl⟩ := run_clear_recs (P := Tryz.prog) (enc := encI) (sz := 2) encI_len (by omega) Tryz.underlying23 zero23 rfl (by intro u hu; simp [Value.cells] at hu; rcases hu with rfl | rfl <;> rfl) H2.out (show i < dk.size by omega) (c - i) 0
    have R3 := Lib.hid (rowAtR_front encI_len H2.out (show i ≤ dk.size by omega) vs)
    have G3 := Lib.hid (grown_setCells H3.out (i * 2) vs)
    have HF := Lib.hid (kept_front HK.out)
    have hci : ¬ c = i := by omega
    have p5 : (i : Int) ≤ (d.size : Int) := by omega
    rw [hds] at hcl
    go_wp2_with fail
    go_ret
    exact ⟨dk.extract 0 i, by simp; omega, HF.out.trans HA.out, by simp; omega, R3.out, G3.out⟩
set_option maxHeartbeats 4000000 in
theorem deleteW_any {K : Nat} {caps : Array Value} {p : Id2 → Bool} {S : World → Prop} (hP : AsksW K caps p S) (g c : Nat) (hSg : ∀ W W', S W → W.grownBy W' (some g) → S W') (d : Array Raw) (w : World) (h : RowAtR encW 4 w g d) (hS : S w) (hc : d.size ≤ c) (hl : d.size ≤ 100000) :
  Calls Tryz.prog 105 #[.slice (some ⟨g, 0, none⟩) d.size c, .func (.func K) #[] caps] w fun e w' => ∃ d' : Array Raw, e = .returned (.slice (some ⟨g, 0, none⟩) d'.size c) ∧ (d'.toList = d.toList.filter fun t => !p t.1) ∧ d'.size ≤ d.size ∧ RowAtR encW 4 w' g d' ∧ w.grownBy w' (some g) := by
 have HP := Lib.hid hP
 have HSG := Lib.hid hSg
 have HS0 := Lib.hid hS
 have HR := Lib.hid h
 have HI := Lib.hid (rowAtR_rcs h hc)
 have HA : Hid (Go.Lib.keptUpTo (fun j => !p d[j]!.1) d d.size = d.toList.filter fun t => !p t.1) := Lib.hid (Go.Lib.keptUpTo_filter (fun t : Raw => !p t.1) d)
 have hK := hP.enters
 clear h hP hSg hS
 go_enter Tryz.func105, Tryz.ntmps105
 go_wp2_with fail
 (with_reducible refine (indexW_any HP.out _ _ _ HI.out HS0.out (by simpa using hl)).mono ?_)
 rintro e w1 ⟨⟨r, rfl, hf⟩, hb⟩
 have HB := Lib.hid hb
 have R1 := Lib.hid (rowAtR_kept HR.out hb)
 have S1 := Lib.hid (HP.out.kept _ _ HS0.out hb)
 clear hb
 rcases hf with ⟨rfl, hall⟩ | ⟨k0, hk0, rfl, hz, hbef⟩
 ·have HF := Lib.hid (show d.toList = d.toList.filter fun t => !p t.1 by
   rw [← HA.out, Go.Lib.keptUpTo_all (fun j => !p d[j]!.1) d d.size (fun j hj => by rw [found_none (pp := fun t : Raw => p t.1) (fun x hx => hall _ (List.mem_map_of_mem hx)) j hj]; rfl), Go.Lib.range_map_get])
  clear hall
  go_wp2_with fail
  go_ret
  exact ⟨d, rfl, HF.out, Nat.le_refl _, R1.out, grown_below (World.grownBy.refl _ _) HB.out⟩
 ·have hk0 : k0 < d.size := by simpa using hk0
  have hne1 : ((k0 : Int) == -1) = false := beq_eq_false_iff_ne.2 (by omega)
  have HS := Lib.hid (Go.Lib.KeptInv.start (kp := fun j => !p d[j]!.1) (d := d) (k0 := k0) (fun j hj => by show (!p d[j]!.1) = true; rw [found_take (pp := fun t : Raw => p t.1) (by omega) (fun x hx => hbef _ (by rw [← List.map_take]; exact List.mem_map_of_mem hx)) j hj]; rfl) (by show (!p d[k0]!.1) = false; rw [show p d[k0]!.1 = true by rw [getElem!_pos d k0 hk0]; simpa using hz]; rfl))
  have HG := Lib.hid (show w.grownBy w1 (some g) from grown_below (World.grownBy.refl _ _) HB.out)
  have i0 : IntKind.i64.wrap ((k0 : Int) + 1) = (k0 : Int) + 1 := IntWalk.i64_in _ ⟨by omega, by omega⟩
  clear hbef hz
  go_wp2_with fail
  go_loopw [5, 6] (fun s5 s6 wr => ∃ (i j : Nat) (dk : Array Raw), s5 = .int .i64 i ∧ s6 = .int .i64 j ∧ j ≤ d.size ∧ Hid (Go.Lib.KeptInv (fun j => !p d[j]!.1) d j i dk) ∧ Hid (RowAtR encW 4 wr g dk) ∧ Hid (w.grownBy wr (some g)) ∧ Hid (S wr)) (fun _ s6 _ => d.size - (intOf s6).toNat)
  case atStart => exact ⟨k0, k0 + 1, d, rfl, by go_num, by omega, HS, R1, HG, S1⟩
  case round =>
   obtain ⟨i, j, dk, rfl, rfl, hjd, HK, H2, H3, H4⟩ := hrel
   have hij := HK.out.lt
   have hds := HK.out.size
   have p1 : (0 : Int) ≤ (j : Int) := by omega
   have p2 : (0 : Int) ≤ (i : Int) := by omega
   by_cases hlt : j < d.size
   ·have hd : decide ((j : Int) < (d.size : Int)) = true := by simp; omega
    have p3 : (j : Int) < (d.size : Int) := by omega
    have p4 : (i : Int) < (d.size : Int) := by omega
    have hT := (H2.out.row (show j < dk.size by omega)).1
    rw [HK.out.high j (by omega)] at hT
    rcases hn : p d[j]!.1 with _ | _
    ·have HKK := Lib.hid (HK.out.keep hlt (by show (!p d[j]!.1) = true; rw [hn]; rfl))
     have HC : Hid (∀ W, S W → Calls Tryz.prog K (#[.agg #[.int .i64 d[j]!.1.1, .int .i64 d[j]!.1.2, .int .i64 d[j]!.2.1, .slice d[j]!.2.2.1 d[j]!.2.2.2.1 d[j]!.2.2.2.2]] ++ caps) W fun e w' => e = .returned (.bool false) ∧ Below W.heap.size W w') := Lib.hid fun W hs => by
      have := HP.out.call d[j]!.1.1 d[j]!.1.2 d[j]!.2.1 d[j]!.2.2.1 d[j]!.2.2.2.1 d[j]!.2.2.2.2 W hs
      rw [show p (d[j]!.1.1, d[j]!.1.2) = false from hn] at this
      exact this
     have HE := Lib.hid (show d[j]! = ((d[j]!.1.1, d[j]!.1.2), d[j]!.2.1, d[j]!.2.2.1, d[j]!.2.2.2.1, d[j]!.2.2.2.2) from rfl)
     rw [HE.out] at HKK
     clear hn HE
     have HX := Lib.hid (wbox_new wr d[j]!.1.1 d[j]!.1.2 d[j]!.2.1 (.slice d[j]!.2.2.1 d[j]!.2.2.2.1 d[j]!.2.2.2.2))
     have BX := Lib.hid (below_one wr (.cells #[.int .i64 d[j]!.1.1, .int .i64 d[j]!.1.2, .int .i64 d[j]!.2.1, .slice d[j]!.2.2.1 d[j]!.2.2.2.1 d[j]!.2.2.2.2] 65))
     have SX := Lib.hid (HP.out.kept _ _ H4.out BX.out)
     generalize d[j]!.1.1 = a at *
     generalize d[j]!.1.2 = b at *
     generalize d[j]!.2.1 = n at *
     generalize d[j]!.2.2.1 = A at *
     generalize d[j]!.2.2.2.1 = m at *
     generalize d[j]!.2.2.2.2 = k at *
     obtain ⟨c1, c2, c3, c4⟩ := hT
     go_wp2_with fail
     (with_reducible refine (HC.out _ SX.out).mono ?_)
     rintro e w2 ⟨rfl, hb⟩
     have B2 := Lib.hid (below_after BX.out hb (Nat.le_refl _))
     have R2 := Lib.hid (rowAtR_kept H2.out B2.out)
     have G2 := Lib.hid (grown_below H3.out B2.out)
     have S2 := Lib.hid (HP.out.kept _ _ SX.out hb)
     have X2 := Lib.hid (wbox_below HX.out hb)
     clear hb c1 c2 c3 c4
     obtain ⟨x1, x2, x3, x4⟩ := wbox_cells X2.out
     obtain ⟨⟨c1, c2, c3, c4⟩, f1, f2, f3, f4⟩ := H2.out.row (show i < dk.size by omega)
     clear c1 c2 c3 c4 f1 f2 f3 f4
     obtain ⟨⟨c1, c2, c3, c4⟩, f1, f2, f3, f4⟩ := R2.out.row (show i < dk.size by omega)
     have R3 := Lib.hid (rowW_set R2.out (show i < dk.size by omega) a b n A m k)
     have G3 := Lib.hid (grown_setW G2.out i (.int .i64 a) (.int .i64 b) (.int .i64 n) (.slice A m k))
     have S3 := Lib.hid (HSG.out _ _ S2.out (grown_setW (World.grownBy.refl w2 (some g)) i (.int .i64 a) (.int .i64 b) (.int .i64 n) (.slice A m k)))
     go_wp2_with fail
     go_roundw
     case rel => exact ⟨i + 1, j + 1, _, by go_num, by go_num, by omega, HKK, R3, G3, S3⟩
     case measure => simp [intOf]; omega
    ·have HKK := Lib.hid (HK.out.skip (by show (!p d[j]!.1) = false; rw [hn]; rfl))
     have HC : Hid (∀ W, S W → Calls Tryz.prog K (#[.agg #[.int .i64 d[j]!.1.1, .int .i64 d[j]!.1.2, .int .i64 d[j]!.2.1, .slice d[j]!.2.2.1 d[j]!.2.2.2.1 d[j]!.2.2.2.2]] ++ caps) W fun e w' => e = .returned (.bool true) ∧ Below W.heap.size W w') := Lib.hid fun W hs => by
      have := HP.out.call d[j]!.1.1 d[j]!.1.2 d[j]!.2.1 d[j]!.2.2.1 d[j]!.2.2.2.1 d[j]!.2.2.2.2 W hs
      rw [show p (d[j]!.1.1, d[j]!.1.2) = true from hn] at this
      exact this
     clear hn
     have BX := Lib.hid (below_one wr (.cells #[.int .i64 d[j]!.1.1, .int .i64 d[j]!.1.2, .int .i64 d[j]!.2.1, .slice d[j]!.2.2.1 d[j]!.2.2.2.1 d[j]!.2.2.2.2] 65))
     have HX := Lib.hid (wbox_new wr d[j]!.1.1 d[j]!.1.2 d[j]!.2.1 (.slice d[j]!.2.2.1 d[j]!.2.2.2.1 d[j]!.2.2.2.2))
     have SX := Lib.hid (HP.out.kept _ _ H4.out BX.out)
     generalize d[j]!.1.1 = a at *
     generalize d[j]!.1.2 = b at *
     generalize d[j]!.2.1 = n at *
     generalize d[j]!.2.2.1 = A at *
     generalize d[j]!.2.2.2.1 = m at *
     generalize d[j]!.2.2.2.2 = k at *
     obtain ⟨c1, c2, c3, c4⟩ := hT
     go_wp2_with fail
     (with_reducible refine (HC.out _ SX.out).mono ?_)
     rintro e w2 ⟨rfl, hb⟩
     have B2 := Lib.hid (below_after BX.out hb (Nat.le_refl _))
     have R2 := Lib.hid (rowAtR_kept H2.out B2.out)
     have G2 := Lib.hid (grown_below H3.out B2.out)
     have S2 := Lib.hid (HP.out.kept _ _ SX.out hb)
     clear hb c1 c2 c3 c4
     go_wp2_with fail
     go_roundw
     case rel => exact ⟨i, j + 1, dk, rfl, by go_num, by omega, HKK, R2, G2, S2⟩
     case measure => simp [intOf]; omega
   ·obtain rfl : j = d.size := by omega
    have hd : decide ((d.size : Int) < (d.size : Int)) = false := by simp
    obtain ⟨vs, hcl⟩ := run_clear_recs (P := Tryz.prog) (enc := encW) (sz := 4) encW_len (by omega) Tryz.underlying24 zero26 rfl (by intro u hu; simp [Value.cells] at hu; rcases hu with rfl | rfl <;> rfl) H2.out (show i < dk.size by omega) (c - i) 0
    have R3 := Lib.hid (rowAtR_front encW_len H2.out (show i ≤ dk.size by omega) vs)
    have G3 := Lib.hid (grown_setCells H3.out (i * 4) vs)
    have HF := Lib.hid (kept_front HK.out)
    have hci : ¬ c = i := by omega
    have p5 : (i : Int) ≤ (d.size : Int) := by omega
    rw [hds] at hcl
    go_wp2_with fail
    go_ret
    exact ⟨dk.extract 0 i, by simp; omega, HF.out.trans HA.out, by simp; omega, R3.out, G3.out⟩
end Go.Proofs.YtgphiggbajbmhaaGreatDoor
