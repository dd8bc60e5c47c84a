/-
  Walks over the program's watch: a look. No statement is proved in this text; it holds for every input that its premises let by.
-/
import Derived.Test.YtkoeplgkiogjlaaWchF
set_option maxRecDepth 20000
namespace Go.Proofs.Ytkoeplgkiogjlaa
open Go Go.RowKit Sets Go.Maps Go.ChangeMaps Go.MapKept
variable {S S2 : Nat → Prop} {W W' : World} {p f n : Nat} {mb : Option Nat} {e : Dt} {K : List Id2} {D : Id2 → Dt} {L : Id2 → Nat}
/-- A list of IDs that lies in new memory, apart from the blocks of S. -/
def Apart (S : Nat → Prop) (W : World) (base : Nat) (v : Value) (l : List Id2) : Prop := Owns W base v l ∧ ∀ g, v.ownBlock = some g → ¬ S g
theorem look_late {e : Dt} {K l : List Id2} {D : Id2 → Dt} {x : Int} : lateL (withD e (K.filter fun q => decide (q ∈ l)) D x) x l = lateL (withD e K D x) x l := by
  unfold lateL
  refine List.filter_congr fun q hq => ?_
  unfold withD
  by_cases h : q ∈ K <;> simp [h, hq]
set_option maxHeartbeats 2000000 in
/-- THE PROGRAM's Look. -/
theorem look_any (h : Wat S W p n e K D) (v : Value) (l : List Id2) (x : Int) (hv : Ids W v l) (hl : l.length ≤ 40000) (hi : ∀ q ∈ l, In2 q) (hn : n ≤ 100000) :
    Calls Try.prog 16 #[.pointer (some ⟨p, 0, none⟩), v, .int .i64 x] W fun en W' => ∃ S' v', en = .returned v' ∧ Wat S' W' p (n + l.length) e (setOf l) (withD e K D x) ∧ Upd S W W' S' ∧ Apart S' W' W.heap.size v' (lateL (withD e K D x) x (setOf l)) := by
  obtain ⟨f, mb, L, h⟩ := h
  have H := Lib.hid h
  have HI := Lib.hid hv
  have H2 : Hid (∀ q ∈ setOf l, In2 q) := Lib.hid fun q hq => hi q ((mem_setOf l q).1 hq)
  have hsl := setOf_len l
  clear h hv hi
  go_enter Try.func16, Try.ntmps16
  go_wp2_with fail
  (with_reducible refine (set_new v l _ HI.out hl).mono ?_)
  rintro en w1 ⟨r, rfl, h1, h2⟩
  have O1 := Lib.hid h1
  have B1 := Lib.hid h2
  have G1 := Lib.hid (H.out.keep h2)
  have N1 : Hid (∀ g, r.ownBlock = some g → W.heap.size ≤ g ∧ g < w1.heap.size) := Lib.hid fun g hg => ⟨(World.ownsRow.lt h1 g hg).1, (World.ownsRow.lt h1 g hg).2⟩
  have F1 : Hid (∀ g, r.ownBlock = some g → ¬ S g) := Lib.hid fun g hg hS => by
    have := (N1.out g hg).1
    have := H.out.lt g hS
    omega
  clear h1 h2
  go_wp2_with fail
  (with_reducible refine (keep_any G1.out r (setOf l) (ids_of_owns O1.out) (rises_setOf l) (by omega) F1.out).mono ?_)
  rintro en w2 ⟨rfl, h1, h2⟩
  have G2 := Lib.hid h1
  have U2 := Lib.hid ((Upd.keep (S := S) B1.out).trans (.of_fr h2))
  have I2 := Lib.hid ((ids_of_owns O1.out).frame h2 F1.out)
  have Z2 := Lib.hid h2.size
  clear h1 h2 G1 O1
  go_wp2_with fail
  (with_reducible refine (begins_any G2.out r (setOf l) x I2.out (by omega) F1.out H2.out hn).mono ?_)
  rintro en w3 ⟨rfl, S3, b, m, L3, h1, h2, h3⟩
  have G3 := Lib.hid (h1.perm (K' := setOf l) fun q => by simp)
  have F3 : Hid (∀ g, r.ownBlock = some g → ¬ S3 g) := Lib.hid fun g hg hS => by
    rcases h3.sub g hS with e | e
    · exact F1.out g hg e
    · have := (N1.out g hg).2
      have := Z2.out
      omega
  have U3 := Lib.hid (U2.out.trans h3)
  have I3 := Lib.hid (I2.out.frame h3.fr F1.out)
  have M3 := Lib.hid h2
  clear h1 h2 h3 G2 U2 I2
  go_wp2_with fail
  (with_reducible refine (wlate_any G3.out r (setOf l) x I3.out (by omega) (fun q hq => hq)).mono ?_)
  rw [look_late]
  rintro en w4 ⟨u, rfl, h1, h2⟩
  have O4 := Lib.hid h1
  have G4 := Lib.hid (G3.out.keep h2)
  have U4 := Lib.hid (U3.out.trans (.keep h2))
  have A4 : Hid (∀ g, u.ownBlock = some g → ¬ S3 g) := Lib.hid fun g hg hS => by
    have := (World.ownsRow.lt h1 g hg).1
    have := G3.out.lt g hS
    omega
  clear h1 h2
  go_wp2_with fail
  go_ret
  refine ⟨S3, u, rfl, ⟨f, some b, L3, (G4.out.mono (by have := M3.out; omega)).congr fun q hq => ?_⟩, U4.out, O4.out.mono U3.out.fr.size, A4.out⟩
  unfold withD
  by_cases hk : q ∈ K <;> simp [hk, hq]
end Go.Proofs.Ytkoeplgkiogjlaa
