/- For every feature, PartsOf of package impl gives what the model gives, in memory of its own, and leaves its argument as it was. -/
import Derived.Test.YtbnjaaegbmhopaaGreatDoorFnExactPartsOfB1
import Derived.Test.YtbnjaaegbmhopaaGreatDoorRows
import Derived.Test.YtbnjaaegbmhopaaGreatDoorTie
import Derived.Test.YtbnjaaegbmhopaaGreatDoorCards
import Derived.WalkKit
import Derived.ProofKit
import Derived.OpenShut
import Derived.ShutString
import Derived.LaidMore
import Derived.SizedLaws
import Derived.Stop.Joined
import Derived.SevenTiedAt
import Derived.Below
section
/- The exact law of PartsOf. -/
namespace Go.Proofs.YtbnjaaegbmhopaaGreatDoor
open Go.ChangeShapes Go.WideShapes Go.ChangeAt Go.RowKit
set_option linter.unusedVariables false

set_option maxRecDepth 100000 in
set_option maxHeartbeats 4000000 in
theorem law_FnExactPartsOf (fa0 fk0 fr0 : Int) (fs0 : ByteArray) (fA0 : Option Addr) (fm0 fc0 : Nat) (fp0 : List (Int × Int)) (w : World) (wf0 : ShowsFt w fs0 fA0 fm0 fc0 fp0) (a0 : Addr) (hE : ErrAt a0 w) :
    Calls Tryz.prog 5 #[FtV fa0 fk0 fr0 fs0 fA0 fm0 fc0] w fun e w' => e = .returned (.bool true) ∧ Below w.heap.size w w' := by
  have HE := Lib.hid hE; clear hE
  obtain ⟨hs0, ⟨rfl, hp0, hm0⟩, -, -⟩ := wf0
  have HS0 := Lib.hid hs0; have HP0 := Lib.hid hp0; clear hs0 hp0
  obtain ⟨R, hR⟩ : ∃ R, partsV (fa0, fk0, fr0, fs0, fp0) = R := ⟨_, rfl⟩
  have HI := Lib.hid hR; clear hR
  have HV := Lib.hid (Vars.of1 w (FtC fa0 fk0 fr0 fs0 fA0 fp0.length fc0) 54)
  go_enter Tryz.func5, Tryz.ntmps5
  go_upto_region 2 with fail
  generalize (w.alloc (.cells (FtC fa0 fk0 fr0 fs0 fA0 fp0.length fc0) 54)) = v0 at HV ⊢
  have hz0 := HV.out.2.1
  simp only [List.length_cons, List.length_nil] at hz0
  obtain ⟨m0, hmz⟩ : ∃ m, szF (1048576) (fa0, fk0, fr0, fs0, fp0) = m := ⟨_, rfl⟩
  have HZ0 := Lib.hid hmz; clear hmz
  obtain ⟨k0, k1, k2, k3, k4⟩ := HV.out.fiveAt (w.heap.size) 0 rfl rfl
  go_wp2_with fail
  refine (szFeature_is fa0 fk0 fr0 fs0 fA0 fc0 fp0 (1048576) m0 _ (by omega) (by omega) HS0.out hm0 HZ0.out).mono ?_
  rintro e v1 ⟨rfl, hb⟩
  clear k0 k1 k2 k3 k4
  have hz1 := hb.size
  replace HV := Lib.hid (HV.out.next hb)
  clear hb
  by_cases hn0 : m0 < 0
  · go_wp2
    go_ret
    exact ⟨rfl, HV.out.1⟩
  obtain ⟨hq0, -, hl0⟩ := szF_le (left := 1048576) (f := (fa0, fk0, fr0, fs0, fp0)) (by rw [HZ0.out]; omega)
  rw [HZ0.out] at hq0
  dsimp only at hl0
  have hR1 : R.length ≤ 1048576 := by
    rw [← HI.out]
    exact Nat.le_trans (parts_len _) (by decide)
  obtain ⟨k0, k1, k2, k3, k4⟩ := HV.out.fiveAt (w.heap.size) 0 rfl rfl
  go_wp2_with fail
  refine (toFeature_any fa0 fk0 fr0 fs0 fA0 fc0 fp0 _ ((HP0.out.below HV.out.1).mono HV.out.1.size) (by omega)).mono ?_
  rintro e v2 ⟨At0, Lt0, ct0, hLt0, rfl, hot0, hb⟩
  clear k0 k1 k2 k3 k4
  obtain rfl : fp0 = Lt0 := hLt0.out.symm
  have HOt0 := Lib.hid hot0.held; clear hLt0 hot0
  have hz2 := hb.size
  replace HV := Lib.hid (HV.out.next hb)
  clear hb
  obtain ⟨k0, k1, k2, k3, k4⟩ := HV.out.fiveAt (w.heap.size) 0 rfl rfl
  go_wp2_with fail
  refine (sPartsOf_any fa0 fk0 fr0 fs0 At0 ct0 fp0 _ (HOt0.out.seesAll elPoint) (by omega) HS0.out).mono ?_
  rintro e v3 ⟨As, cs, Ls, hLs, rfl, hos, hb⟩
  clear k0 k1 k2 k3 k4
  obtain rfl : Ls = R := hLs.out.trans HI.out
  have HOs := Lib.hid hos.held; clear hLs hos
  have hz3 := hb.size
  replace HV := Lib.hid (HV.out.next hb)
  replace HOt0 := Lib.hid (HOt0.out.belowAll hb)
  clear hb
  clear HOt0
  obtain ⟨k0, k1, k2, k3, k4⟩ := HV.out.fiveAt (w.heap.size) 0 rfl rfl
  go_wp2_with fail
  refine (toFeature_any fa0 fk0 fr0 fs0 fA0 fc0 fp0 _ ((HP0.out.below HV.out.1).mono HV.out.1.size) (by omega)).mono ?_
  rintro e v4 ⟨Ax0, Lx0, cx0, hLx0, rfl, hox0, hb⟩
  clear k0 k1 k2 k3 k4
  obtain rfl : fp0 = Lx0 := hLx0.out.symm
  have HOx0 := Lib.hid hox0.held; clear hLx0 hox0
  have hz4 := hb.size
  replace HV := Lib.hid (HV.out.next hb)
  replace HOs := Lib.hid (HOs.out.belowAll hb)
  clear hb
  have hb : Below v4.heap.size v4 (v4.alloc (.cells (FtC fa0 fk0 fr0 fs0 Ax0 fp0.length cx0) 41)) := (Below.refl _ _).alloc (Nat.le_refl _) _
  have HXx0 := Lib.hid (OneV.new (m := 0) v4 (Nat.zero_le _) (FtC fa0 fk0 fr0 fs0 Ax0 fp0.length cx0) 41)
  have hz5 : v4.heap.size + 1 ≤ (v4.alloc (.cells (FtC fa0 fk0 fr0 fs0 Ax0 fp0.length cx0) 41)).heap.size := by simp
  replace HV := Lib.hid (HV.out.next hb)
  replace HOs := Lib.hid (HOs.out.belowAll hb)
  replace HOx0 := Lib.hid (HOx0.out.belowAll hb)
  clear hb
  obtain ⟨k0, k1, k2, k3, k4⟩ := HV.out.fiveAt (w.heap.size) 0 rfl rfl
  obtain ⟨k5, k6, k7, k8, k9⟩ := HXx0.out.five
  go_wp2_with fail
  generalize (v4.alloc (.cells (FtC fa0 fk0 fr0 fs0 Ax0 fp0.length cx0) 41)) = v5 at HV HOs HOx0 HXx0 hz5 k0 k1 k2 k3 k4 k5 k6 k7 k8 k9 ⊢
  clear k0 k1 k2 k3 k4 k5 k6 k7 k8 k9
  refine (partsOf_any a0 fa0 fk0 fr0 fs0 Ax0 cx0 fp0 _ (HE.out.all HV.out.1) (HOx0.out.seesAll elPoint) (by omega) HOx0.out.caps.1 HOx0.out.caps.2 HS0.out).mono ?_
  rintro e v6 ⟨Ag, cg, Lg, hLg, rfl, hog, hb⟩
  obtain rfl : Ls = Lg := HI.out.symm.trans hLg.out.symm
  have HOg := Lib.hid hog.held; clear hLg hog
  have hz6 := hb.size
  replace HV := Lib.hid (HV.out.next hb)
  replace HOs := Lib.hid (HOs.out.belowAll hb)
  replace HOx0 := Lib.hid (HOx0.out.belowAll hb)
  replace HXx0 := Lib.hid (HXx0.out.next hb)
  clear hb
  obtain ⟨k0, k1, k2, k3, k4⟩ := HV.out.fiveAt (w.heap.size) 0 rfl rfl
  obtain ⟨k5, k6, k7, k8, k9⟩ := HXx0.out.five
  go_wp2_with fail
  refine (eqSegmentS_yes Ag As cg cs Ls Ls _ (HOg.out.seesAll elSegment) (HOs.out.seesAll elSegment) rfl (by omega)).mono ?_
  rintro e v7 ⟨rfl, hb⟩
  clear k0 k1 k2 k3 k4 k5 k6 k7 k8 k9
  have hz7 := hb.size
  replace HV := Lib.hid (HV.out.next hb)
  replace HOs := Lib.hid (HOs.out.belowAll hb)
  replace HOx0 := Lib.hid (HOx0.out.belowAll hb)
  replace HXx0 := Lib.hid (HXx0.out.next hb)
  replace HOg := Lib.hid (HOg.out.belowAll hb)
  clear hb
  have HQ : Hid (∀ W, OneV 0 W (v4.heap.size) (FtC fa0 fk0 fr0 fs0 Ax0 fp0.length cx0) → Vars w W [FtC fa0 fk0 fr0 fs0 fA0 fp0.length fc0] → W.cell? ⟨v4.heap.size, 0, none⟩ = some (.int .i64 fa0) ∧ W.cell? ⟨v4.heap.size, 1, none⟩ = some (.int .i64 fk0) ∧ W.cell? ⟨v4.heap.size, 2, none⟩ = some (.int .i64 fr0) ∧ W.cell? ⟨v4.heap.size, 3, none⟩ = some (.string fs0) ∧ W.cell? ⟨v4.heap.size, 4, none⟩ = some (.slice Ax0 fp0.length cx0) ∧ W.cell? ⟨w.heap.size, 0, none⟩ = some (.int .i64 fa0) ∧ W.cell? ⟨w.heap.size, 1, none⟩ = some (.int .i64 fk0) ∧ W.cell? ⟨w.heap.size, 2, none⟩ = some (.int .i64 fr0) ∧ W.cell? ⟨w.heap.size, 3, none⟩ = some (.string fs0) ∧ W.cell? ⟨w.heap.size, 4, none⟩ = some (.slice fA0 fp0.length fc0)) := Lib.hid fun W hX hW => by
    obtain ⟨p0, p1, p2, p3, p4⟩ := hX.five
    obtain ⟨q0, q1, q2, q3, q4⟩ := hW.fiveAt (w.heap.size) 0 rfl rfl
    exact ⟨p0, p1, p2, p3, p4, q0, q1, q2, q3, q4⟩
  go_upto_region 10 with fail
  go_cut [31] (fun sx wx => sx = .bool false ∧ v7.heap.size ≤ wx.heap.size ∧ Hid (Vars w wx [FtC fa0 fk0 fr0 fs0 fA0 fp0.length fc0]) ∧ Hid (HeldE 4 encSegment wx (v2.heap.size) (v3.heap.size) 78 (.slice As Ls.length cs) Ls) ∧ Hid (HeldE 2 encPoint wx (v3.heap.size) (v4.heap.size) 33 (.slice Ax0 fp0.length cx0) fp0) ∧ Hid (OneV 0 wx (v4.heap.size) (FtC fa0 fk0 fr0 fs0 Ax0 fp0.length cx0)) ∧ Hid (HeldE 4 encSegment wx (v5.heap.size) (v6.heap.size) 78 (.slice Ag Ls.length cg) Ls))
  case first =>
    have HQ0 := Lib.hid (HQ.out _ HXx0.out HV.out)
    have hbd : Below v7.heap.size v7 v7.drew := (Below.refl v7.heap.size v7).drew
    have HVd := Lib.hid (HV.out.next hbd); have HOsd := Lib.hid (HOs.out.belowAll hbd); have HOx0d := Lib.hid (HOx0.out.belowAll hbd); have HOgd := Lib.hid (HOg.out.belowAll hbd); have HXx0d := Lib.hid (HXx0.out.next hbd); have HQd := Lib.hid (HQ.out _ HXx0d.out HVd.out)
    go_region_held3 (fun w' => w'.cell? ⟨v4.heap.size, 0, none⟩ = some (.int .i64 fa0) ∧ w'.cell? ⟨v4.heap.size, 1, none⟩ = some (.int .i64 fk0) ∧ w'.cell? ⟨v4.heap.size, 2, none⟩ = some (.int .i64 fr0) ∧ w'.cell? ⟨v4.heap.size, 3, none⟩ = some (.string fs0) ∧ w'.cell? ⟨v4.heap.size, 4, none⟩ = some (.slice Ax0 fp0.length cx0) ∧ w'.cell? ⟨w.heap.size, 0, none⟩ = some (.int .i64 fa0) ∧ w'.cell? ⟨w.heap.size, 1, none⟩ = some (.int .i64 fk0) ∧ w'.cell? ⟨w.heap.size, 2, none⟩ = some (.int .i64 fr0) ∧ w'.cell? ⟨w.heap.size, 3, none⟩ = some (.string fs0) ∧ w'.cell? ⟨w.heap.size, 4, none⟩ = some (.slice fA0 fp0.length fc0)) (first | with_reducible exact HQ0.out | with_reducible exact HQd.out | with_reducible exact HQe.out | with_reducible exact HQg.out) (first
      | (go_at_call 27; refine (toFeature_any fa0 fk0 fr0 fs0 fA0 fc0 fp0 _ ((HP0.out.below HVd.out.1).mono HVd.out.1.size) (by omega)).mono ?_; rintro e w9 ⟨At, Lt, ct, hLt, rfl, hot, hbt⟩; obtain rfl : fp0 = Lt := hLt.out.symm; have HVe := Lib.hid (HVd.out.next hbt); have HOse := Lib.hid (HOsd.out.belowAll hbt); have HOx0e := Lib.hid (HOx0d.out.belowAll hbt); have HOge := Lib.hid (HOgd.out.belowAll hbt); have HXx0e := Lib.hid (HXx0d.out.next hbt); have HQe := Lib.hid (HQ.out _ HXx0e.out HVe.out); have HOt := Lib.hid (hot.sees elPoint))
      | (go_at_call 30; refine (eqFeature_yes fa0 fk0 fr0 fs0 Ax0 At cx0 ct fp0 fp0 _ (HOx0e.out.seesAll elPoint) HOt.out rfl (by omega)).mono ?_; rintro e w9 ⟨rfl, hbg⟩; have HVg := Lib.hid (HVe.out.next hbg); have HOsg := Lib.hid (HOse.out.belowAll hbg); have HOx0g := Lib.hid (HOx0e.out.belowAll hbg); have HOgg := Lib.hid (HOge.out.belowAll hbg); have HXx0g := Lib.hid (HXx0e.out.next hbg); have HQg := Lib.hid (HQ.out _ HXx0g.out HVg.out); have hzg := Nat.le_trans hbd.size (Nat.le_trans hbt.size hbg.size))
      | fail)
    all_goals
      go_wp2_with fail
      go_meet
      exact ⟨rfl, hzg, HVg, HOsg, HOx0g, HXx0g, HOgg⟩
  case rest =>
  clear HQ HV HOs HOx0 HXx0 HOg
  obtain ⟨rfl, hz8, HV, HOs, HOx0, HXx0, HOg⟩ := hcut
  obtain ⟨v8, hvc⟩ : ∃ v, v = wc := ⟨_, rfl⟩
  subst hvc
  obtain ⟨k0, k1, k2, k3, k4⟩ := HV.out.fiveAt (w.heap.size) 0 rfl rfl
  obtain ⟨k5, k6, k7, k8, k9⟩ := HXx0.out.five
  go_wp2_with fail
  refine (markFeature_held fa0 fk0 fr0 fs0 Ax0 fp0.length cx0 1 _ _ fp0 _ HOx0.out rfl (by omega) (by omega)).mono ?_
  rintro e v9 ⟨k_0, Hk_0, rfl, ho, hw⟩
  clear k0 k1 k2 k3 k4 k5 k6 k7 k8 k9
  have hz9 := hw.size
  replace HV := Lib.hid (HV.out.within hw (by show w.heap.size + 1 ≤ _; omega))
  replace HOs := Lib.hid (HOs.out.within (by omega) hw)
  replace HXx0 := Lib.hid (HXx0.out.within hw (by omega))
  replace HOg := Lib.hid (HOg.out.within (by omega) hw)
  replace HOx0 := Lib.hid ho; clear ho hw
  have hkq : ¬ ((k_0 : Int) < 0) := by omega
  obtain ⟨k0, k1, k2, k3, k4⟩ := HV.out.fiveAt (w.heap.size) 0 rfl rfl
  obtain ⟨k5, k6, k7, k8, k9⟩ := HXx0.out.five
  go_wp2_with fail
  refine (eqSegmentS_yes Ag As cg cs Ls Ls _ (HOg.out.seesAll elSegment) (HOs.out.seesAll elSegment) rfl (by omega)).mono ?_
  rintro e v10 ⟨rfl, hb⟩
  clear k0 k1 k2 k3 k4 k5 k6 k7 k8 k9
  have hz10 := hb.size
  replace HV := Lib.hid (HV.out.next hb)
  replace HOs := Lib.hid (HOs.out.belowAll hb)
  replace HOx0 := Lib.hid (HOx0.out.belowAll hb)
  replace HXx0 := Lib.hid (HXx0.out.next hb)
  replace HOg := Lib.hid (HOg.out.belowAll hb)
  clear hb
  clear HOx0 HXx0
  obtain ⟨k0, k1, k2, k3, k4⟩ := HV.out.fiveAt (w.heap.size) 0 rfl rfl
  go_wp2_with fail
  refine (markSegment_held Ag Ls.length cg 1 _ _ Ls _ HOg.out rfl (by omega) (by omega)).mono ?_
  rintro e v11 ⟨m, Hm, rfl, ho, hg⟩
  clear k0 k1 k2 k3 k4
  have hw := HOg.out.wits hg; clear hg
  have hz11 := hw.size
  replace HV := Lib.hid (HV.out.within hw (by show w.heap.size + 1 ≤ _; omega))
  replace HOs := Lib.hid (HOs.out.within (by omega) hw)
  replace HOg := Lib.hid ho; clear ho hw
  obtain ⟨k0, k1, k2, k3, k4⟩ := HV.out.fiveAt (w.heap.size) 0 rfl rfl
  go_wp2_with fail
  refine (heldSegment_q Ag Ls.length cg 1 _ _ (HOg.out.seesAll elSegment) (by omega) (by omega)).mono ?_
  rintro e w9 ⟨q, Hq, rfl, rfl⟩
  clear k0 k1 k2 k3 k4
  obtain rfl : m = q := Hm.out.trans Hq.out.symm
  have hmq : ¬ ((m : Int) < 0) := by omega
  obtain ⟨k0, k1, k2, k3, k4⟩ := HV.out.fiveAt (w.heap.size) 0 rfl rfl
  go_wp2_with fail
  refine (toFeature_any fa0 fk0 fr0 fs0 fA0 fc0 fp0 _ ((HP0.out.below HV.out.1).mono HV.out.1.size) (by omega)).mono ?_
  rintro e v13 ⟨Au0, Lu0, cu0, hLu0, rfl, hou0, hb⟩
  clear k0 k1 k2 k3 k4
  obtain rfl : fp0 = Lu0 := hLu0.out.symm
  have HOu0 := Lib.hid hou0.held; clear hLu0 hou0
  have hz13 := hb.size
  replace HV := Lib.hid (HV.out.next hb)
  replace HOs := Lib.hid (HOs.out.belowAll hb)
  replace HOg := Lib.hid (HOg.out.belowAll hb)
  clear hb
  obtain ⟨k0, k1, k2, k3, k4⟩ := HV.out.fiveAt (w.heap.size) 0 rfl rfl
  go_wp2_with fail
  refine (partsOf_any a0 fa0 fk0 fr0 fs0 Au0 cu0 fp0 _ (HE.out.all HV.out.1) (HOu0.out.seesAll elPoint) (by omega) HOu0.out.caps.1 HOu0.out.caps.2 HS0.out).mono ?_
  rintro e v14 ⟨Ah, ch, Lh, hLh, rfl, hoh, hb⟩
  clear k0 k1 k2 k3 k4
  obtain rfl : Ls = Lh := HI.out.symm.trans hLh.out.symm
  have HOh := Lib.hid hoh.held; clear hLh hoh
  have hz14 := hb.size
  replace HV := Lib.hid (HV.out.next hb)
  replace HOs := Lib.hid (HOs.out.belowAll hb)
  replace HOg := Lib.hid (HOg.out.belowAll hb)
  replace HOu0 := Lib.hid (HOu0.out.belowAll hb)
  clear hb
  obtain ⟨k0, k1, k2, k3, k4⟩ := HV.out.fiveAt (w.heap.size) 0 rfl rfl
  go_wp2_with fail
  refine (eqSegmentS_yes Ah As ch cs Ls Ls _ (HOh.out.seesAll elSegment) (HOs.out.seesAll elSegment) rfl (by omega)).mono ?_
  rintro e v15 ⟨rfl, hb⟩
  clear k0 k1 k2 k3 k4
  have hz15 := hb.size
  replace HV := Lib.hid (HV.out.next hb)
  replace HOs := Lib.hid (HOs.out.belowAll hb)
  replace HOg := Lib.hid (HOg.out.belowAll hb)
  replace HOu0 := Lib.hid (HOu0.out.belowAll hb)
  replace HOh := Lib.hid (HOh.out.belowAll hb)
  clear hb
  obtain ⟨k0, k1, k2, k3, k4⟩ := HV.out.fiveAt (w.heap.size) 0 rfl rfl
  go_wp2_with fail
  refine (heldSegment_q Ag Ls.length cg 1 _ _ (HOg.out.seesAll elSegment) (by omega) (by omega)).mono ?_
  rintro e w9 ⟨q2, Hq2, rfl, rfl⟩
  clear k0 k1 k2 k3 k4
  obtain rfl : m = q2 := Hm.out.trans Hq2.out.symm
  go_wp2
  go_ret
  exact ⟨rfl, HV.out.1⟩
theorem law_FnExactPartsOf_laid (w : World) (fa0 fk0 fr0 : Int) (fs0 : ByteArray) (fA0 : Option Addr) (fm0 fc0 : Nat) (fp0 : List (Int × Int)) (wf0 : ShowsFt w fs0 fA0 fm0 fc0 fp0) (hL : laidMet Tryz.prog Rows.fnExactPartsOfRow.laid w) :
    Calls Tryz.prog 5 #[FtV fa0 fk0 fr0 fs0 fA0 fm0 fc0] w fun e w' => e = .returned (.bool true) ∧ Below w.heap.size w w' := by
  obtain ⟨a0, hE⟩ := errAt_of hL
  exact law_FnExactPartsOf fa0 fk0 fr0 fs0 fA0 fm0 fc0 fp0 w wf0 a0 hE
end Go.Proofs.YtbnjaaegbmhopaaGreatDoor
end
section
namespace Go.Proofs.YtbnjaaegbmhopaaGreatDoor.fnExactPartsOf
open Go.ChangeShapes Go.WideShapes Go.ChangeAt Go.WideMaps Go.WideElems Go.RowKit
open Go.ChangeMaps (open_string shut_string)
set_option linter.unusedVariables false

theorem own : ownKnob Tryz.prog.godebug = none := by kernel_rfl
theorem laidOut : laidOutB Tryz.prog = true := by kernel_rfl

/-- What the package-level variables hold behind the program's own initialisers meets the row's condition. -/
theorem door_met (os : Os) (args : Array Value) : laidMetH Tryz.prog Rows.fnExactPartsOfRow.laid ((World.doorLaid Tryz.prog 28 os).forCall (fun _ _ => 0) ⟨#[], args, []⟩).memory :=
  laidMetH_of_parts3 (fuel := 8) (laidMet_of_run' 8 (by kernel_rfl) (by kernel_rfl)) (by kernel_rfl) (by kernel_rfl)

set_option maxRecDepth 100000 in
theorem lifted (os : Os) (started : os.Started) (H : Type) (enc : TypeId × Value → H) :
    ReturnsInHanded {} Tryz.checked os 5 .any (fun w args => (Rows.fnExactPartsOfSpec.pre enc Tryz.prog Tryz.f5 [] false w args ∧ laidMetH Tryz.prog Rows.fnExactPartsOfRow.laid w) ∧ sizedMet enc Tryz.prog Tryz.f5 (OpenSpec.ofChange Rows.fnExactPartsOfSpec) false w args)
      (Rows.fnExactPartsOfSpec.post enc Tryz.prog Tryz.f5 false true false false) := by
  refine returnsInHanded_of_change_and (C := Tryz.checked) (X := fun w _ => laidMetH Tryz.prog Rows.fnExactPartsOfRow.laid w) (fun _ _ _ hh h => h.of_heap hh) own started (by kernel_rfl) Tryz.func5
    (ChangeSpec.witness_shaped (enc := enc) (C := Tryz.checked) (os := os) (X := fun w _ => laidMetH Tryz.prog Rows.fnExactPartsOfRow.laid w) false (World.doorLaid Tryz.prog 28 os) #[.agg #[.int .i64 0, .int .i64 0, .int .i64 0, .string ⟨#[]⟩, .slice none 0 0]] 8 rfl (World.shaped_of_RefB (by kernel_rfl) (by kernel_rfl)) (by kernel_rfl) (by kernel_rfl) (by kernel_rfl) (door_met os _)) ?_
  intro W base args ds gs before hval0 hW _ hsz0 hL0 _
  have hsz : (DataW.weightsEach Tryz.prog (Tryz.f5.params.toList ++ Rows.fnExactPartsOfSpec.plain.varTypes Tryz.prog) (ds ++ gs)).all (· ≤ reachBytes) = true := hsz0
  clear hsz0
  have hL : laidMet Tryz.prog Rows.fnExactPartsOfRow.laid W := by rw [MakeChecks.laidMetH_plain _ _ _ (by kernel_rfl)] at hL0; exact hL0
  have hval : ∀ (j : Nat) t v, Tryz.f5.params[j]? = some t → args[j]? = some v → Value.okWide Tryz.prog W .any base t v := hval0
  have hW' := hW
  obtain ⟨p, q, hA0, hV, rfl, hfz, hnd⟩ := hW
  have hA : DataW.TrodAll enc Tryz.prog W 0 (fun _ => true) true Tryz.f5.params.toList args.toList ds p := hA0
  rw [Tryz.params5] at hA hval hsz
  obtain ⟨v0, vs0, d0, ds0, p0, q0, hargs, rfl, rfl, h0, r0⟩ := trodAll_cons hA
  obtain ⟨rfl, rfl, rfl⟩ := trodAll_nil r0
  obtain rfl : args = #[v0] := by cases args; simp_all
  obtain ⟨a0, hv0⟩ := errVar_of hL
  have hV1 : DataW.TrodVars enc Tryz.prog W (fun _ => true) ["loop.example/g03005/impl.errNoRing"] gs q := hV
  obtain ⟨rfl, rfl⟩ := hV1.unique (errVars enc hv0 _)
  have k0 := h0
  have lt0 : ∀ x ∈ p0, x.block < W.heap.size := by obtain ⟨m, hm⟩ := k0; exact DataW.trod_lt m _ _ _ hm
  obtain ⟨fa0, fk0, fr0, fs0, fA0, fm0, fc0, fp0, rfl, wf0⟩ := open_feat (hval 0 54 v0 rfl rfl) h0
  clear hA0 hval0
  refine (law_FnExactPartsOf_laid W fa0 fk0 fr0 fs0 fA0 fm0 fc0 fp0 wf0 hL).mono fun e W' ⟨he, bel⟩ => ?_
  subst he
  exact ⟨_, rfl, _, _, _, [], _, _, hW', trodAll_mk1 (shut_bool Tryz.underlying4 _), (trodAll_cons_mk (Below.trod laidOut (by kernel_rfl) (of_decide_eq_true (by kernel_rfl)) k0 bel lt0) trodAll_mk0), errVars enc (errVar_below hv0 bel) _, bel.frame _, fun h => by cases h⟩

theorem over : Rows.fnExactPartsOfRow.holds Tryz.pinned (OpenSpec.ofChange Rows.fnExactPartsOfSpec) :=
  OpenClaim.holds_of_wide 5 Tryz.f5 rfl rfl rfl rfl rfl rfl rfl ⟨rfl, rfl, rfl, rfl, rfl⟩ rfl rfl rfl rfl rfl (by kernel_rfl) Tryz.func5 (by kernel_rfl)
    (of_decide_eq_true (by kernel_rfl)) (by unfold Func.isWrapper; first | (rw [if_pos (by decide +kernel)]; kernel_rfl) | (rw [if_neg (by decide +kernel)]; exact ⟨rfl, rfl⟩))
    (fun os started H enc _ => lifted os started H enc)

/-- THE STATEMENT. -/
theorem proved : Rows.FnExactPartsOfCardSaid :=
  Claim7.holds_tied_plain_at .later [] [.sentinel] true (true, "4fd9553954a1f4fcd77f7bf2d22849ecbae6f39362e0ed4adff318da18115798") true
    over (fun _ h => by cases h) (by kernel_rfl) (fun _ h => by cases h) fnExactPartsOf_row_tie rfl ⟨rfl, rfl⟩ (by kernel_rfl) rfl
    (fun f fn hf hfn => by
      obtain rfl : f = 5 := Option.some.inj ((show Tryz.prog.funcNamed "loop.example/g03005/laws.FnExactPartsOf" = some 5 by kernel_rfl).symm.trans hf) |>.symm
      obtain rfl : fn = Tryz.f5 := (Option.some.inj (Tryz.func5.symm.trans hfn)).symm
      exact ⟨by kernel_rfl, fun j t ht => by
        rw [Tryz.params5] at ht
        have hm : t ∈ [54] := by simpa using Array.mem_of_getElem? ht
        have hall : ([54].all fun u => !Tryz.prog.wantsStandIn u) = true := by kernel_rfl
        exact (show Tryz.prog.wantsStandIn t = false by simpa using List.all_eq_true.1 hall t hm)⟩)
    (by kernel_rfl)
#print axioms proved
end Go.Proofs.YtbnjaaegbmhopaaGreatDoor.fnExactPartsOf
end
