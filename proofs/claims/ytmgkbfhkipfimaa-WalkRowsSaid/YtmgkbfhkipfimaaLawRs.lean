/-
  A walk over a statement: from a new walk on each n calls make a row. No statement is proved in this text; it holds for every input that its premises let by.
-/
import Derived.Test.YtmgkbfhkipfimaaWlkK
import Derived.Test.YtmgkbfhkipfimaaXSetOps
set_option maxRecDepth 20000
namespace Go.Proofs.Ytmgkbfhkipfimaa
open Go Go.RowKit Sets
set_option maxHeartbeats 4000000 in
theorem lawRows_any (u : Value) (ps : List Id2) (vd : Value) (ds : List Nat) (W : World)
    (hI : Ids W u ps) (hD : Rcs encD 1 W vd ds) (hdd : ∀ n ∈ ds, n < 4294967296) :
    Calls Try.prog 8 #[u, vd] W fun e w' => e = .returned (.bool true) ∧ Below W.heap.size W w' := by
  have HD := Lib.hid hD
  have HDD := Lib.hid hdd
  have HI := Lib.hid fun w' (hb : Below W.heap.size W w') => hI.below hb
  obtain ⟨AI, cI, rfl, hz⟩ := hI
  clear hz hdd
  obtain ⟨AD, cD, rfl, hz⟩ := hD
  clear hz
  go_enter Try.func8, Try.ntmps8
  go_wp2_with fail
  refine (works_any _).mono ?_
  rintro e w2 ⟨rfl, hb⟩
  have B2 := Lib.hid hb
  clear hb
  by_cases hpl : 60 < ps.length
  · have hq1 : decide ((60 : Int) < (ps.length : Int)) = true := decide_eq_true (by omega)
    go_wp2_with fail
    refine (works_any _).mono ?_
    rintro e w3 ⟨rfl, hb⟩
    have B3 := Lib.hid (below_after B2.out hb (Nat.le_refl _))
    clear hb
    go_wp2_with fail
    go_ret
    exact ⟨rfl, B3.out⟩
  have hq1 : decide ((60 : Int) < (ps.length : Int)) = false := decide_eq_false (by omega)
  by_cases hdl : 200 < ds.length
  · have hq2 : decide ((200 : Int) < (ds.length : Int)) = true := decide_eq_true (by omega)
    go_wp2_with fail
    refine (works_any _).mono ?_
    rintro e w3 ⟨rfl, hb⟩
    have B3 := Lib.hid (below_after B2.out hb (Nat.le_refl _))
    clear hb
    go_wp2_with fail
    go_ret
    exact ⟨rfl, B3.out⟩
  have hq2 : decide ((200 : Int) < (ds.length : Int)) = false := decide_eq_false (by omega)
  have hpl2 : ps.length ≤ 40000 := by omega
  have HSL := Lib.hid (setOf_len ps)
  go_wp2_with fail
  refine (new_any _).mono ?_
  rintro e w3 ⟨p, S0, rfl, hw, hlo, hb⟩
  have F0 : Hid (Four W w3 (WlP 51 p []) NoP NoP NoP S0 (fun _ => False) (fun _ => False) (fun _ => False)) := Lib.hid (Four.one hw (below_after B2.out hb (Nat.le_refl _)) fun k hk => Nat.le_trans B2.out.size (hlo k hk))
  clear hw hlo hb B2
  go_wp2_with fail
  refine (set_any _ ps _ (HI.out _ F0.out.below) hpl2).mono ?_
  rintro e w4 ⟨t, rfl, ht, hb⟩
  obtain ⟨A3, c3, rfl, hz⟩ := ht
  have F4 := Lib.hid (F0.out.keep (fdWl _ _ _) fdNo fdNo fdNo hb)
  clear hz hb F0
  obtain ⟨n, hn⟩ : ∃ n, n = (setOf ps).length := ⟨_, rfl⟩
  have HNE := Lib.hid hn
  have hn60 : n ≤ 60 := by have := HSL.out; omega
  rw [← hn]
  clear hn
  go_wp2_with fail
  go_loopw [7] (fun s7 wr => ∃ (i : Nat) (S : Nat → Prop), s7 = .int .i64 i ∧ i ≤ ds.length ∧ Hid (Four W wr (WlP 51 p []) NoP NoP NoP S (fun _ => False) (fun _ => False) (fun _ => False))) (fun s7 _ => ds.length + 1 - (intOf s7).toNat)
  case atStart => exact ⟨0, S0, rfl, by omega, F4⟩
  case round =>
    clear F4
    obtain ⟨i, S, rfl, hi, F⟩ := hrel
    have i3 : (0 : Int) ≤ (i : Int) := by omega
    have j1 : IntKind.i64.wrap ((i : Int) + (n : Int)) = (i : Int) + (n : Int) := IntWalk.i64_in _ ⟨by omega, by omega⟩
    by_cases hn0 : 0 < n
    · have hd0 : decide ((0 : Int) < (n : Int)) = true := decide_eq_true (by omega)
      by_cases hin : i + n ≤ ds.length
      · have hd1 : decide ((i : Int) + (n : Int) ≤ (ds.length : Int)) = true := decide_eq_true (by omega)
        have hps : ps ≠ [] := fun e => by
          have := HNE.out
          rw [e] at this
          have h0 : (setOf []).length = 0 := rfl
          omega
        obtain ⟨ae, rfl⟩ := HD.out.addr (show 0 < ds.length by omega)
        have hid : i < ds.length := by omega
        obtain ⟨d0, hd0q⟩ : ∃ d0, d0 = ds[i] := ⟨_, rfl⟩
        have hd0l : d0 < 4294967296 := by rw [hd0q]; exact HDD.out _ (List.getElem_mem hid)
        have HC0 : Hid (∀ w', Below W.heap.size W w' → w'.cell? (ae.add i) = some (.int .u32 d0)) := Lib.hid fun w' hb => by
          have := HD.out.first hb hid (u := .int .u32 ds[i]) rfl
          rw [Nat.mul_one] at this
          rw [hd0q]
          exact this
        have HQ0 : Hid (ds[i]? = some d0) := Lib.hid (by rw [hd0q]; exact List.getElem?_eq_getElem hid)
        clear hd0q
        have HZ := Lib.hid (show (rowP ps d0).length = n by rw [rowP_len]; exact HNE.out.symm)
        have HLF := Lib.hid fun (k f : Nat) (hk : k < (rowP ps d0).length) h0 => nx_lf (ps := ps) (d := d0) (f := f) hk h0
        have HRW := Lib.hid fun (W' : World) (h : Ids W' (.slice AI ps.length cI) ps) => row_any _ ps d0 W' h hpl2 hd0l
        generalize rowP ps d0 = Z at *
        have F5 : Hid (Four W wr (WlP 51 p (lf Z 0)) (LsP (.slice none 0 0) (Z.take 0)) NoP NoP S (fun _ => False) (fun _ => False) (fun _ => False)) := Lib.hid F.out.list
        clear F
        go_wp2_with fail
        go_loopw [8, 9] (fun s8 s9 wr => ∃ (k : Nat) (Am : Option Addr) (cm : Nat) (S S2 : Nat → Prop), s8 = .slice Am k cm ∧ s9 = .int .i64 k ∧ k ≤ n ∧ Hid (Four W wr (WlP 51 p (lf Z k)) (LsP (.slice Am k cm) (Z.take k)) NoP NoP S S2 (fun _ => False) (fun _ => False))) (fun _ s9 _ => n - (intOf s9).toNat)
        case atStart => exact ⟨0, none, 0, S, _, rfl, rfl, by omega, F5⟩
        case round =>
          clear F5
          obtain ⟨k, Am, cm, S, Sm, rfl, rfl, hk2, F⟩ := hrel
          by_cases hlt : k < n
          · have hd2 : decide ((k : Int) < (n : Int)) = true := decide_eq_true (by omega)
            have i7 : IntKind.i64.wrap ((k : Int) + 1) = (k : Int) + 1 := IntWalk.i64_in _ ⟨by omega, by omega⟩
            obtain ⟨m, hm⟩ : ∃ m : Nat, m = i + k := ⟨_, rfl⟩
            have hmi : (i : Int) + (k : Int) = (m : Int) := by omega
            have hmd : m < ds.length := by omega
            have hmw : IntKind.i64.wrap (m : Int) = (m : Int) := IntWalk.i64_in _ ⟨by omega, by omega⟩
            have m0 : (0 : Int) ≤ (m : Int) := by omega
            have m1 : (m : Int) < (ds.length : Int) := by omega
            have c0 := HD.out.first F.out.below hmd (u := .int .u32 ds[m]) rfl
            rw [Nat.mul_one] at c0
            have hdk := HDD.out _ (List.getElem_mem hmd)
            have h0 : k = 0 → ds[m] = d0 := fun e => by
              have h1 := HQ0.out
              have e2 : m = i := by omega
              subst e2
              rw [List.getElem?_eq_getElem hmd] at h1
              exact Option.some.inj h1
            have HX := Lib.hid (HLF.out k ds[m] (by rw [HZ.out]; exact hlt) h0)
            generalize ds[m] = dk at *
            have hkz : k < Z.length := by have := HZ.out; omega
            have HTK : Hid (Z.take k ++ [(Z[k].1, Z[k].2)] = Z.take (k + 1)) := Lib.hid (by rw [List.take_succ_eq_append_getElem hkz])
            have HLN := Lib.hid (show (Z.take k).length = k by simp; omega)
            generalize Z[k] = x at *
            obtain ⟨xa, xi⟩ := x
            clear h0 hm hkz
            go_wp2_with fail
            refine (next_any F.out.a (F.out.arg HI.out) hps hpl2 (by have := lf_len Z k; have := HZ.out; omega) hdk HX.out).mono ?_
            rintro e w6 ⟨rfl, S6, hw, hu⟩
            have F6 := Lib.hid (F.out.op (fdLs _ _) fdNo fdNo hw hu)
            clear hw hu F HX c0
            go_upto_region 13 with fail
            have B7 := Lib.hid (F6.out.box (fdWl _ _ _) (fdLs _ _) fdNo fdNo xa xi)
            have F7 := Lib.hid (F6.out.keep (fdWl _ _ _) (fdLs _ _) fdNo fdNo (below_one w6 (.cells #[.int .i64 xa, .int .i64 xi] 24)))
            generalize World.alloc w6 (.cells #[.int .i64 xa, .int .i64 xi] 24) = w7 at *
            clear F6
            obtain ⟨p0, p1⟩ := box_cells B7.out.box
            go_wp2_with (first
              | (at_builtin; refine wpList_push_lsN rfl (.tmp 61) (.tmp 63) rfl w7 Sm _ (Z.take k) k xa xi HLN.out rfl rfl F7.out.b (by omega) ?_; intro g8 c8 w8 S8 h1 h2; have F8 := Lib.hid (F7.out.opB (fdWl _ _ _) fdNo fdNo h1 h2); clear h1 h2 p0 p1))
            go_roundw
            case rel => exact ⟨k + 1, some ⟨g8, 0, none⟩, c8, S6, S8, rfl, by go_num, by omega, Lib.hid (by have f := F8.out; rw [HTK.out] at f; exact f)⟩
            case measure => simp [intOf]; omega
          · obtain rfl : k = n := by omega
            have hd2 : decide ((k : Int) < (k : Int)) = false := decide_eq_false (by omega)
            have FE : Hid (Four W wr (WlP 51 p []) (LsP (.slice Am k cm) Z) NoP NoP S Sm (fun _ => False) (fun _ => False)) := Lib.hid (by
              have f := F.out
              have e1 : lf Z k = [] := by rw [← HZ.out]; exact lf_all (by have := HZ.out; omega)
              have e2 : Z.take k = Z := List.take_of_length_le (by have := HZ.out; omega)
              rw [e1, e2] at f
              exact f)
            have HSB := Lib.hid (show sameB Z Z = true from decide_eq_true rfl)
            have c0 := HC0.out _ FE.out.below
            have i4 : (i : Int) < (ds.length : Int) := by omega
            clear F HLF
            go_wp2_with fail
            refine (HRW.out _ (HI.out _ FE.out.below)).mono ?_
            rintro e w6 ⟨t, rfl, hv, hb⟩
            have V6 := Lib.hid hv.ids
            have F6 := Lib.hid (FE.out.keep (fdWl _ _ _) (fdLs _ _) fdNo fdNo hb)
            clear hv hb FE c0
            go_wp2_with fail
            refine (ids_any _ _ Z Z _ (ls_ids F6.out.b) V6.out (by have := HZ.out; omega)).mono ?_
            rw [HSB.out]
            rintro e w7 ⟨rfl, hb⟩
            have F7 := Lib.hid (F6.out.keep (fdWl _ _ _) (fdLs _ _) fdNo fdNo hb)
            clear hb F6
            go_wp2_with fail
            refine (left_any F7.out.a).mono ?_
            rintro e w8 ⟨rfl, hb⟩
            have F8 := Lib.hid (F7.out.keep (fdWl _ _ _) (fdLs _ _) fdNo fdNo hb)
            clear hb F7
            go_wp2_with fail
            go_roundw
            case rel => exact ⟨i + k, S, by go_num, by omega, Lib.hid F8.out.only⟩
            case measure => simp [intOf]; omega
      · have hd1 : decide ((i : Int) + (n : Int) ≤ (ds.length : Int)) = false := decide_eq_false (by omega)
        have HB := Lib.hid F.out.below
        go_wp2_with fail
        go_ret
        exact ⟨rfl, HB.out⟩
    · have hd0 : decide ((0 : Int) < (n : Int)) = false := decide_eq_false (by omega)
      have HB := Lib.hid F.out.below
      go_wp2_with fail
      go_ret
      exact ⟨rfl, HB.out⟩
  end Go.Proofs.Ytmgkbfhkipfimaa
