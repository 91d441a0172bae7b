/- Lines that never cross: CanDrop and MeetsAll of package impl. -/
import Derived.Test.YtbnjaaegbmhopaaSafeI
import Derived.Test.YtbnjaaegbmhopaaSafeT
import Derived.Test.YtbnjaaegbmhopaaLineN
import Derived.Test.YtbnjaaegbmhopaaVars2
import Derived.Test.YtbnjaaegbmhopaaOneVar
import Derived.Shelf.Abstract
import Derived.Deep.LoopGhost
import Derived.LoopTactic
namespace Go.Proofs.Ytbnjaaegbmhopaa
open Go.ChangeShapes Go.WideShapes Go.ChangeAt Go.RowKit
set_option linter.unusedVariables false

/-- Does one of the others meet D more than l? -/
def moreB (D l : List (Int × Int)) (O : List (List (Int × Int))) : Bool := O.any fun o => decide (mtL l o < mtL D o)
theorem moreB_not (D l : List (Int × Int)) (O : List (List (Int × Int))) : (!moreB D l O) = noMtB D l O := by
  unfold moreB noMtB
  rw [List.not_any_eq_all_not]
  congr 1
  funext o
  by_cases h : mtL l o < mtL D o
  · simp [h]
  · simp [h]; omega
theorem moreB_take {D l : List (Int × Int)} {O : List (List (Int × Int))} {j : Nat} {p : List (Int × Int)} (h : O[j]? = some p) : moreB D l (O.take (j + 1)) = (moreB D l (O.take j) || decide (mtL l p < mtL D p)) := by
  unfold moreB
  rw [takeLs h, List.any_append]
  simp
set_option maxRecDepth 100000 in
set_option maxHeartbeats 4000000 in
theorem meetsMore_is (Ad A Ap : Option Addr) (cd c cp : Nat) (D l p : List (Int × Int)) (B C : Nat) (z : Bool) (w : World) (k0 : w.cell? ⟨B, 0, none⟩ = some (.slice Ad D.length cd)) (k1 : w.cell? ⟨C, 0, none⟩ = some (.slice A l.length c))
    (hd : SeesE 2 encPoint w w.heap.size Ad D) (hs : SeesE 2 encPoint w w.heap.size A l) (hp : SeesE 2 encPoint w w.heap.size Ap p) (hD : D.length ≤ 1099511627776) (hl : l.length ≤ 1099511627776) (hpl : p.length ≤ 1099511627776) (hz : decide (mtL l p < mtL D p) = z) :
    Calls Try.prog 101 #[.slice Ap p.length cp, .pointer (some ⟨B, 0, none⟩), .pointer (some ⟨C, 0, none⟩)] w fun e w' => e = .returned (.bool z) ∧ Below w.heap.size w w' := by
  obtain ⟨u, hu⟩ : ∃ u, mtL D p = u := ⟨_, rfl⟩
  obtain ⟨v, hv⟩ : ∃ v, mtL l p = v := ⟨_, rfl⟩
  have HU : Hid (mtV (sgV D) (sgV p) = u) := Lib.hid hu
  have HV : Hid (mtV (sgV l) (sgV p) = v) := Lib.hid hv
  have HZ : Hid (decide (v < u) = z) := Lib.hid (by rw [← hz, hu, hv])
  have HQ : Hid (∀ W, Below w.heap.size w W → W.cell? ⟨B, 0, none⟩ = some (.slice Ad D.length cd) ∧ W.cell? ⟨C, 0, none⟩ = some (.slice A l.length c)) := Lib.hid fun W hW => ⟨(hW.cell (World.block_lt_of_cell? _ _ k0)).trans k0, (hW.cell (World.block_lt_of_cell? _ _ k1)).trans k1⟩
  have HD3 : Hid (∀ W, Below w.heap.size w W → SeesE 2 encPoint W W.heap.size Ad D) := Lib.hid fun W hW => hd.belowAll hW
  have HL3 : Hid (∀ W, Below w.heap.size w W → SeesE 2 encPoint W W.heap.size A l) := Lib.hid fun W hW => hs.belowAll hW
  have HSp : Hid (∀ W, Below w.heap.size w W → SeesE 2 encPoint W W.heap.size Ap p) := Lib.hid fun W hW => hp.belowAll hW
  have HBd : Hid (Below w.heap.size w w.drew) := Lib.hid (Below.refl _ _).drew
  have HQ0 := Lib.hid (HQ.out _ (Below.refl _ _)); have HQd := Lib.hid (HQ.out _ HBd.out)
  have HDd := Lib.hid (HD3.out _ HBd.out); have HPd := Lib.hid (HSp.out _ HBd.out)
  clear hu hv hz k0 k1 hd hs hp
  go_enter Try.func101, Try.ntmps101
  go_upto_region 1 with fail
  go_region_held3 (fun W => W.cell? ⟨B, 0, none⟩ = some (.slice Ad D.length cd) ∧ W.cell? ⟨C, 0, none⟩ = some (.slice A l.length c)) (first | with_reducible exact HQ0.out | with_reducible exact HQd.out | with_reducible exact HQ9.out | with_reducible exact HQ8.out) (first
    | (go_at_call 38; (with_reducible refine (linesMeet_is Ad Ap cd cp D p _ HDd.out HPd.out hD hpl u HU.out).mono ?_); rintro e w9 ⟨rfl, hb9⟩; have HB9 := Lib.hid (HBd.out.trans (hb9.mono HBd.out.size)); have HQ9 := Lib.hid (HQ.out _ HB9.out); have HL9 := Lib.hid (HL3.out _ HB9.out); have HP9 := Lib.hid (HSp.out _ HB9.out))
    | (go_at_call 38; (with_reducible refine (linesMeet_is A Ap c cp l p _ HL9.out HP9.out hl hpl v HV.out).mono ?_); rintro e w8 ⟨rfl, hb8⟩; have HB8 := Lib.hid (HB9.out.trans (hb8.mono HB9.out.size)); have HQ8 := Lib.hid (HQ.out _ HB8.out))
    | fail)
  all_goals
    go_wp2
    go_ret
    exact ⟨ret_eq HZ.out, HB8.out⟩
set_option maxRecDepth 100000 in
theorem indexMt_is (Ad A Ao : Option Addr) (cd c co : Nat) (D l : List (Int × Int)) (O : List (List (Int × Int))) (B C : Nat) (z : Bool) (w : World) (k0 : w.cell? ⟨B, 0, none⟩ = some (.slice Ad D.length cd)) (k1 : w.cell? ⟨C, 0, none⟩ = some (.slice A l.length c))
    (hd : SeesE 2 encPoint w w.heap.size Ad D) (hs : SeesE 2 encPoint w w.heap.size A l) (ho : SeesLs 2 encPoint w w.heap.size Ao O) (hD : D.length ≤ 1099511627776) (hl : l.length ≤ 1099511627776) (hO : O.length ≤ 1099511627776) (hF : FewLs O) (hz : moreB D l O = z) :
    Calls Try.prog 124 #[.slice Ao O.length co, .func (.func 101) #[] #[.pointer (some ⟨B, 0, none⟩), .pointer (some ⟨C, 0, none⟩)]] w fun e w' => (∃ i : Int, e = .returned (.int .i64 i) ∧ decide (0 ≤ i) = z) ∧ Below w.heap.size w w' := by
  have eg : ∀ args w, (callFunc 101 args).run Try.prog w = .ok (.enter 101 args) w := enters_of Try.func101 (by kernel_rfl) rfl
  have HO := Lib.hid ho; have HZ := Lib.hid hz; have H0 := Lib.hid k0; have H1 := Lib.hid k1; have HD := Lib.hid hd; have HS := Lib.hid hs; have HF := Lib.hid hF
  clear ho hz k0 k1 hd hs hF
  go_enter Try.func124, Try.ntmps124
  go_wp2
  go_loopg [5, 8] O.length (fun g _ s8 wr => ∃ j : Nat, j + g = O.length ∧ s8 = .int .i64 j ∧ Hid (moreB D l (O.take j) = false) ∧ Hid (Below w.heap.size w wr))
  case atStart => exact ⟨0, by omega, rfl, Lib.hid rfl, Lib.hid (Below.refl _ _)⟩
  case round =>
    obtain ⟨j, hg, rfl, HN, HB⟩ := hrel
    by_cases hlt : j < O.length
    · have hlt' : (j : Int) < (O.length : Int) := by omega
      obtain ⟨p, hp⟩ : ∃ p, O[j]? = some p := ⟨_, List.getElem?_eq_getElem hlt⟩
      obtain ⟨b, off, A', c', rfl, hbl, hss, -, q0⟩ := (HO.out.below HB.out).at_ hp
      have hpl : p.length ≤ 1099511627776 := Nat.le_trans (HF.out j _ hp) (by decide)
      have HP := Lib.hid hp
      have G0 := Lib.hid ((HB.out.cell (World.block_lt_of_cell? _ _ H0.out)).trans H0.out)
      have G1 := Lib.hid ((HB.out.cell (World.block_lt_of_cell? _ _ H1.out)).trans H1.out)
      have HSp := Lib.hid (hss.mono HB.out.size)
      have HDr := Lib.hid (HD.out.belowAll HB.out)
      have HSr := Lib.hid (HS.out.belowAll HB.out)
      obtain ⟨v, hv⟩ : ∃ v, decide (mtL l p < mtL D p) = v := ⟨_, rfl⟩
      have HY := Lib.hid hv
      clear hp hss hv
      cases v
      all_goals
        go_wp2_with (go_at_fn 101; refine (meetsMore_is Ad A A' cd c c' D l p B C _ _ G0.out G1.out HDr.out HSr.out HSp.out hD hl hpl HY.out).mono ?_; rintro e9 w9 ⟨rfl, hb9⟩)
      · have HB9 := Lib.hid (HB.out.trans (hb9.mono HB.out.size))
        have HNx : Hid (moreB D l (O.take (j + 1)) = false) := Lib.hid (by rw [moreB_take HP.out, HN.out, HY.out]; rfl)
        go_roundg (O.length - (j + 1))
        case measure => omega
        case rel => exact ⟨j + 1, by omega, by go_num, HNx, HB9⟩
      · obtain rfl : true = z := by
          rw [← HZ.out]
          exact (List.any_eq_true.2 ⟨_, List.mem_of_getElem? HP.out, HY.out⟩).symm
        go_ret
        exact ⟨by first | exact ⟨_, rfl, decide_eq_true (by omega)⟩ | (simp; done) | (simp; omega), HB.out.trans (hb9.mono HB.out.size)⟩
    · obtain rfl : j = O.length := by omega
      have hlt' : ¬ (O.length : Int) < (O.length : Int) := by omega
      obtain rfl : false = z := by rw [← HZ.out]; have := HN.out; rw [List.take_length] at this; exact this.symm
      go_wp2
      go_ret
      exact ⟨by first | exact ⟨_, rfl, rfl⟩ | simp, HB.out⟩
set_option maxRecDepth 100000 in
theorem containsMt_is (Ad A Ao : Option Addr) (cd c co : Nat) (D l : List (Int × Int)) (O : List (List (Int × Int))) (B C : Nat) (z : Bool) (w : World) (k0 : w.cell? ⟨B, 0, none⟩ = some (.slice Ad D.length cd)) (k1 : w.cell? ⟨C, 0, none⟩ = some (.slice A l.length c))
    (hd : SeesE 2 encPoint w w.heap.size Ad D) (hs : SeesE 2 encPoint w w.heap.size A l) (ho : SeesLs 2 encPoint w w.heap.size Ao O) (hD : D.length ≤ 1099511627776) (hl : l.length ≤ 1099511627776) (hO : O.length ≤ 1099511627776) (hF : FewLs O) (hz : moreB D l O = z) :
    Calls Try.prog 102 #[.slice Ao O.length co, .func (.func 101) #[] #[.pointer (some ⟨B, 0, none⟩), .pointer (some ⟨C, 0, none⟩)]] w fun e w' => e = .returned (.bool z) ∧ Below w.heap.size w w' := by
  go_enter Try.func102, Try.ntmps102
  go_wp2_with fail
  refine (indexMt_is Ad A Ao cd c co D l O B C z w k0 k1 hd hs ho hD hl hO hF hz).mono ?_
  rintro e9 w1 ⟨⟨i, rfl, hi⟩, hb1⟩
  subst hi
  go_wp2
  go_ret
  exact ⟨rfl, hb1⟩
set_option maxRecDepth 100000 in
set_option maxHeartbeats 4000000 in
theorem canDrop_is (A Ao : Option Addr) (c co : Nat) (l : List (Int × Int)) (i : Int) (O : List (List (Int × Int))) (z : Bool) (w : World) (hs : SeesE 2 encPoint w w.heap.size A l) (ho : SeesLs 2 encPoint w w.heap.size Ao O) (hl : l.length ≤ 274877906944) (hlc : l.length ≤ c) (hc : (c : Int) ≤ 9223372036854775807) (hO : O.length ≤ 1099511627776) (hF : FewLs O) (hz : canV l i O = z) :
    Calls Try.prog 46 #[.slice A l.length c, .int .i64 i, .slice Ao O.length co] w fun e w' => e = .returned (.bool z) ∧ Below w.heap.size w w' := by
  have hmf : ∀ (fn : Fn) (first cap : Array Value) (w : World), (Instr.makeFunc fn first cap).run Try.prog w = .ok (.func fn first cap) w := fun _ _ _ _ => rfl
  have HV := Lib.hid (Vars.of1 w #[.slice A l.length c] 47)
  have HS := Lib.hid (hs.belowAll HV.out.1); have HO := Lib.hid (ho.belowAll HV.out.1); have HF := Lib.hid hF
  have HZ := Lib.hid hz
  have k0 := HV.out.c1 w.heap.size 0 rfl rfl
  clear hs ho hF hz
  go_enter Try.func46, Try.ntmps46
  go_wp2_with fail
  refine (dropPoint_any A c l i _ HS.out hl hlc hc).mono ?_
  rintro e w1 ⟨Ad, cd, D, k, hD, hk, rfl, hod, hb1⟩
  have HD := hD; have HK := hk
  have HV1 := Lib.hid (HV.out.next hb1)
  have HSd := Lib.hid (hod.sees elPoint)
  have HSl := Lib.hid (HS.out.belowAll hb1)
  have HO1 := Lib.hid (HO.out.belowAll hb1)
  have hDl : D.length ≤ 1099511627776 := by rw [hD.out]; have := dropV_len l i; omega
  have hll : l.length ≤ 1099511627776 := by omega
  have HL2 : Hid (OneV w.heap.size (w1.alloc (.cells #[.slice Ad D.length cd] 47)) w1.heap.size #[.slice Ad D.length cd]) := Lib.hid (OneV.new (m := w.heap.size) w1 HV1.out.1.size #[.slice Ad D.length cd] 47)
  have hb2 : Below w1.heap.size w1 (w1.alloc (.cells #[.slice Ad D.length cd] 47)) := (Below.refl _ w1).alloc (Nat.le_refl _) _
  have HV2 := Lib.hid (HV1.out.next hb2)
  have HSd2 := Lib.hid (HSd.out.belowAll hb2)
  have HSl2 := Lib.hid (HSl.out.belowAll hb2)
  have HO2 := Lib.hid (HO1.out.belowAll hb2)
  have k1 := HL2.out.cell 0 rfl
  clear hod hb1 hb2 hD hk k0 HV HS HO HV1 HSd HSl HO1
  cases k
  · obtain rfl : false = z := by rw [← HZ.out]; unfold canV; rw [← HK.out]; rfl
    go_wp2
    go_ret
    exact ⟨rfl, HV2.out.1⟩
  cases hsm : smpV D
  · obtain rfl : false = z := by rw [← HZ.out]; unfold canV; rw [← HK.out, ← HD.out, hsm]; rfl
    go_wp2_with fail
    refine (isSimple_is Ad cd D _ HSd2.out hDl _ hsm).mono ?_
    rintro e w2 ⟨rfl, hb2⟩
    go_wp2
    go_ret
    exact ⟨rfl, (HV2.out.next hb2).1⟩
  have HZ2 : Hid (noMtB D l O = z) := Lib.hid (by rw [← HZ.out]; unfold canV; rw [← HK.out, ← HD.out, hsm]; rfl)
  obtain ⟨m, hm⟩ : ∃ m, moreB D l O = m := ⟨_, rfl⟩
  have HM := Lib.hid hm
  have HZ3 : Hid ((!m) = z) := Lib.hid (by rw [← HZ2.out, ← moreB_not, hm])
  clear hm HZ HZ2
  go_wp2_with fail
  refine (isSimple_is Ad cd D _ HSd2.out hDl _ hsm).mono ?_
  rintro e w2 ⟨rfl, hb2⟩
  have HV3 := Lib.hid (HV2.out.next hb2)
  have HL3 := Lib.hid (HL2.out.next hb2)
  have HSd3 := Lib.hid (HSd2.out.belowAll hb2)
  have HSl3 := Lib.hid (HSl2.out.belowAll hb2)
  have HO3 := Lib.hid (HO2.out.belowAll hb2)
  clear hb2 hsm k1
  go_wp2_with fail
  refine (containsMt_is Ad A Ao cd c co D l O w1.heap.size w.heap.size m _ (HL3.out.cell 0 rfl) (HV3.out.c1 w.heap.size 0 rfl rfl) HSd3.out HSl3.out HO3.out hDl hll hO HF.out HM.out).mono ?_
  rintro e w4 ⟨rfl, hb4⟩
  go_wp2
  go_ret
  exact ⟨ret_eq HZ3.out, (HV3.out.next hb4).1⟩
set_option maxRecDepth 100000 in
set_option maxHeartbeats 4000000 in
theorem meetsAll_any (A Ao : Option Addr) (c co : Nat) (l : List (Int × Int)) (O : List (List (Int × Int))) (w : World) (hs : SeesE 2 encPoint w w.heap.size A l) (ho : SeesLs 2 encPoint w w.heap.size Ao O) (hl : l.length ≤ 1099511627776) (hO : O.length ≤ 1099511627776) (hF : FewLs O) :
    Calls Try.prog 44 #[.slice A l.length c, .slice Ao O.length co] w (Gives 3 .i64 (mtsV l O) w) := by
  have HS := Lib.hid hs; have HO := Lib.hid ho; have HF := Lib.hid hF
  clear hs ho hF
  go_enter Try.func44, Try.ntmps44
  go_wp2
  go_loopw [5, 7, 11] (fun s5 _ s6 wr => ∃ (j : Nat) (A1 : Option Addr) (c1 : Nat) (L : List Int), j ≤ O.length ∧ s6 = .int .i64 (j : Int) ∧ s5 = .slice A1 L.length c1 ∧ Hid (L = mtsV l (O.take j)) ∧ L.length ≤ O.length ∧ Hid (Own wr w.heap.size 3 .i64 (.slice A1 L.length c1) L) ∧ Hid (Below w.heap.size w wr)) (fun _ _ s6 _ => O.length - (intOf s6).toNat)
  case atStart => exact ⟨0, _, 0, [], Nat.zero_le _, rfl, rfl, Lib.hid rfl, Nat.zero_le _, Lib.hid (Own.lit _ _ _ _ (Nat.le_refl _)), Lib.hid ((Below.refl _ _).alloc (Nat.le_refl _) _)⟩
  case round =>
    obtain ⟨j, A1, c1, L, hj, rfl, rfl, HL, hLl, HOw, HB⟩ := hrel
    by_cases hlt : j < O.length
    · have hlt' : (j : Int) < (O.length : Int) := by omega
      obtain ⟨p, hp⟩ : ∃ p, O[j]? = some p := ⟨_, List.getElem?_eq_getElem hlt⟩
      obtain ⟨b, off, A', c', rfl, hbl, hss, -, q0⟩ := (HO.out.below HB.out).at_ hp
      have hpl : p.length ≤ 1099511627776 := Nat.le_trans (HF.out j _ hp) (by decide)
      have HP := Lib.hid hp
      obtain ⟨u, hu⟩ : ∃ u, mtL l p = u := ⟨_, rfl⟩
      have HU : Hid (mtV (sgV l) (sgV p) = u) := Lib.hid hu
      have HSp := Lib.hid (hss.mono HB.out.size)
      have HSl := Lib.hid (HS.out.belowAll HB.out)
      have hLj : L.length = j := by rw [HL.out, mtsV_len, List.length_take]; omega
      have HLj := Lib.hid hLj
      have hL10 : L.length + 1 ≤ 17592186044416 := by omega
      clear hp hss hu hLj
      go_wp2_with fail
      refine (linesMeet_is A A' c c' l p _ HSl.out HSp.out hl hpl u HU.out).mono ?_
      rintro e w1 ⟨rfl, hb1⟩
      have HO1 := Lib.hid (HOw.out.belowAll hb1)
      have HB1 := Lib.hid (HB.out.trans (hb1.mono HB.out.size))
      have hz1 := HB1.out.size
      clear hb1 q0
      go_wp2_with (at_builtin; refine app64 _ rfl _ _ rfl w.heap.size _ L rfl (HO1.out.alloc _) (w1.heap.size + 1) _ 1 _ [u] rfl rfl (sees_new w1 .i64 u _ _ (Nat.lt_succ_self _)) (by simp; omega) (by simp; omega) ?_; intro A4 c4 L4 w4 hL4 h1 h2 ho4 hb4)
      go_roundw
      case rel => exact ⟨j + 1, A4, c4, L4, by omega, by go_num, rfl, Lib.hid (by rw [hL4.out, HL.out, mts_take HP.out, ← HU.out]; rfl), by have := HLj.out; simp at h1; omega, Lib.hid ho4, Lib.hid ((HB1.out.alloc hz1 _).trans hb4)⟩
      case measure => simp [intOf]; omega
    · obtain rfl : j = O.length := by omega
      have hlt' : ¬ (O.length : Int) < (O.length : Int) := by omega
      go_wp2
      go_ret
      exact ⟨A1, c1, L, Lib.hid (by rw [HL.out, List.take_length]), rfl, HOw.out, HB.out⟩
end Go.Proofs.Ytbnjaaegbmhopaa
