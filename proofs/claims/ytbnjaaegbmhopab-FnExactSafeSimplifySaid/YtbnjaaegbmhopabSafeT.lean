/- Lines that never cross: CanDrop and MeetsAll of the model. -/
import Derived.Test.YtbnjaaegbmhopabSafeS
import Derived.Test.YtbnjaaegbmhopabLineS3
import Derived.Test.YtbnjaaegbmhopabLs
import Derived.Deep.DeepCutAuto
namespace Go.Proofs.Ytbnjaaegbmhopab
open Go.ChangeShapes Go.WideShapes Go.ChangeAt Go.RowKit
set_option linter.unusedVariables false

theorem noMt_take {d l : List (Int × Int)} {O : List (List (Int × Int))} {j : Nat} {p : List (Int × Int)} (h : O[j]? = some p) : noMtB d l (O.take (j + 1)) = (noMtB d l (O.take j) && decide (mtL d p ≤ mtL l p)) := by
  unfold noMtB
  rw [takeLs h, List.all_append]
  simp
theorem noMt_stop {d l : List (Int × Int)} {O : List (List (Int × Int))} {j : Nat} {p : List (Int × Int)} (h : O[j]? = some p) (hn : ¬ mtL d p ≤ mtL l p) : noMtB d l O = false := by
  unfold noMtB
  rw [List.all_eq_false]
  exact ⟨p, List.mem_of_getElem? h, by simpa using hn⟩
set_option maxRecDepth 100000 in
set_option maxHeartbeats 4000000 in
theorem sCanDrop_is (A Ao : Option Addr) (c co : Nat) (l : List (Int × Int)) (i : Int) (O : List (List (Int × Int))) (z : Bool) (w : World) (hs : SeesE 2 encPoint w w.heap.size A l) (ho : SeesLs 2 encPoint w w.heap.size Ao O) (hl : l.length ≤ 274877906944) (hlc : l.length ≤ c) (hc : (c : Int) ≤ 9223372036854775807) (hO : O.length ≤ 1099511627776) (hF : FewLs O) (hz : canV l i O = z) :
    Calls Try.prog 13 #[.slice A l.length c, .int .i64 i, .slice Ao O.length co] w fun e w' => e = .returned (.bool z) ∧ Below w.heap.size w w' := by
  have HS := Lib.hid hs; have HO := Lib.hid ho; have HF := Lib.hid hF
  have HZ := Lib.hid hz
  clear hs ho hF hz
  go_enter Try.func13, Try.ntmps13
  go_wp2_with fail
  refine (sDropPoint_any A c l i _ HS.out hl hlc hc).mono ?_
  rintro e w1 ⟨Ad, cd, D, k, hD, hk, rfl, hod, hb1⟩
  have HD := hD
  have HSd := Lib.hid (hod.sees elPoint)
  have HSl := Lib.hid (HS.out.belowAll hb1)
  have HO1 := Lib.hid (HO.out.belowAll hb1)
  have HB1 := Lib.hid hb1
  have hDl : D.length ≤ 1099511627776 := by rw [hD.out]; have := dropV_len l i; omega
  have hll : l.length ≤ 1099511627776 := by omega
  cases k
  · obtain rfl : false = z := by rw [← HZ.out]; unfold canV; rw [← hk.out]; rfl
    clear hod hb1
    go_wp2
    go_ret
    exact ⟨rfl, HB1.out⟩
  cases hs : smpV D
  · obtain rfl : false = z := by rw [← HZ.out]; unfold canV; rw [← hk.out, ← hD.out, hs]; rfl
    clear hod hb1
    go_wp2_with fail
    refine (sIsSimple_is Ad cd D _ HSd.out hDl _ hs).mono ?_
    rintro e w2 ⟨rfl, hb2⟩
    go_wp2
    go_ret
    exact ⟨rfl, HB1.out.trans (hb2.mono HB1.out.size)⟩
  have HZ2 : Hid (noMtB D l O = z) := Lib.hid (by rw [← HZ.out]; unfold canV; rw [← hk.out, ← hD.out, hs]; rfl)
  clear HZ hk hod hb1 hD HD
  go_wp2_with fail
  refine (sIsSimple_is Ad cd D _ HSd.out hDl _ hs).mono ?_
  rintro e w2 ⟨rfl, hb2⟩
  have HSd2 := Lib.hid (HSd.out.belowAll hb2)
  have HSl2 := Lib.hid (HSl.out.belowAll hb2)
  have HO2 := Lib.hid (HO1.out.belowAll hb2)
  have HB2 := Lib.hid (HB1.out.trans (hb2.mono HB1.out.size))
  clear hb2 hs HSd HSl HO1 HB1
  go_wp2
  go_loopw [9] (fun s9 wr => ∃ j : Nat, j ≤ O.length ∧ s9 = .int .i64 (j : Int) ∧ Hid (noMtB D l (O.take j) = true) ∧ Hid (Below w2.heap.size w2 wr)) (fun s9 _ => O.length - (intOf s9).toNat)
  case atStart => exact ⟨0, Nat.zero_le _, rfl, Lib.hid rfl, Lib.hid (Below.refl _ _)⟩
  case round =>
    obtain ⟨j, hj, rfl, HN, HB⟩ := hrel
    by_cases hlt : j < O.length
    · have hlt' : (j : Int) < (O.length : Int) := by omega
      obtain ⟨p, hp⟩ : ∃ p, O[j]? = some p := ⟨_, List.getElem?_eq_getElem hlt⟩
      obtain ⟨b, off, A', c', rfl, hbl, hss, -, q0⟩ := (HO2.out.below HB.out).at_ hp
      have hpl : p.length ≤ 1099511627776 := Nat.le_trans (HF.out j _ hp) (by decide)
      have HP := Lib.hid hp
      obtain ⟨u, hu⟩ : ∃ u, mtL D p = u := ⟨_, rfl⟩
      obtain ⟨v, hv⟩ : ∃ v, mtL l p = v := ⟨_, rfl⟩
      have HU : Hid (mtV (sgV D) (sgV p) = u) := Lib.hid hu
      have HV : Hid (mtV (sgV l) (sgV p) = v) := Lib.hid hv
      have HUV := Lib.hid (And.intro hu hv)
      have HSp : Hid (∀ W, Below wr.heap.size wr W → SeesE 2 encPoint W W.heap.size A' p) := Lib.hid fun W hW => ((hss.mono HB.out.size).below hW).mono hW.size
      have HD3 : Hid (∀ W, Below wr.heap.size wr W → SeesE 2 encPoint W W.heap.size Ad D) := Lib.hid fun W hW => ((HSd2.out.belowAll HB.out).below hW).mono hW.size
      have HL3 : Hid (∀ W, Below wr.heap.size wr W → SeesE 2 encPoint W W.heap.size A l) := Lib.hid fun W hW => ((HSl2.out.belowAll HB.out).below hW).mono hW.size
      have HQ : Hid (∀ W, Below wr.heap.size wr W → W.cell? ⟨b, off + j, none⟩ = some (.slice A' p.length c')) := Lib.hid fun W hW => (hW.cell (World.block_lt_of_cell? _ _ q0)).trans q0
      have HBd : Hid (Below wr.heap.size wr wr.drew) := Lib.hid (Below.refl _ _).drew
      clear hp hss q0 hu hv
      go_upto_region 7 with fail
      go_cut [41] (fun s wx => s = .bool (decide (v < u)) ∧ Hid (Below wr.heap.size wr wx))
      case first =>
        have HQ0 := Lib.hid (HQ.out _ (Below.refl _ _)); have HQd := Lib.hid (HQ.out _ HBd.out)
        have HDd := Lib.hid (HD3.out _ HBd.out); have HPd := Lib.hid (HSp.out _ HBd.out)
        go_region_held3 (fun W => W.cell? ⟨b, off + j, none⟩ = some (.slice A' p.length c')) (first | with_reducible exact HQ0.out | with_reducible exact HQd.out | with_reducible exact HQ9.out | with_reducible exact HQ8.out) (first
          | (go_at_call 38; (with_reducible refine (sLinesMeet_is Ad A' cd c' D p _ HDd.out HPd.out hDl hpl u HU.out).mono ?_); rintro e w9 ⟨rfl, hb9⟩; have HB9 := Lib.hid (HBd.out.trans (hb9.mono HBd.out.size)); have HQ9 := Lib.hid (HQ.out _ HB9.out); have HL9 := Lib.hid (HL3.out _ HB9.out); have HP9 := Lib.hid (HSp.out _ HB9.out))
          | (go_at_call 38; (with_reducible refine (sLinesMeet_is A A' c c' l p _ HL9.out HP9.out hll hpl v HV.out).mono ?_); rintro e w8 ⟨rfl, hb8⟩; have HB8 := Lib.hid (HB9.out.trans (hb8.mono HB9.out.size)); have HQ8 := Lib.hid (HQ.out _ HB8.out))
          | fail)
        all_goals
          go_wp2_with fail
          go_meet
          exact ⟨rfl, HB8⟩
      case rest =>
      obtain ⟨rfl, HB9⟩ := hcut
      have HB10 := Lib.hid (HB.out.trans (HB9.out.mono HB.out.size))
      clear HQ HBd HSp HD3 HL3 HU HV
      by_cases hgt : v < u
      · obtain rfl : false = z := by rw [← HZ2.out]; exact (noMt_stop HP.out (by rw [HUV.out.1, HUV.out.2]; omega)).symm
        go_wp2
        go_ret
        exact ⟨rfl, HB2.out.trans (HB10.out.mono HB2.out.size)⟩
      · have HNx : Hid (noMtB D l (O.take (j + 1)) = true) := Lib.hid (by rw [noMt_take HP.out, HN.out, HUV.out.1, HUV.out.2]; simp; omega)
        go_wp2
        go_roundw
        case rel => exact ⟨j + 1, by omega, by go_num, HNx, HB10⟩
        case measure => simp [intOf]; omega
    · obtain rfl : j = O.length := by omega
      have hlt' : ¬ (O.length : Int) < (O.length : Int) := by omega
      obtain rfl : true = z := by rw [← HZ2.out]; have := HN.out; rw [List.take_length] at this; exact this.symm
      go_wp2
      go_ret
      exact ⟨rfl, HB2.out.trans (HB.out.mono HB2.out.size)⟩
theorem mts_take {l : List (Int × Int)} {O : List (List (Int × Int))} {j : Nat} {p : List (Int × Int)} (h : O[j]? = some p) : mtsV l (O.take (j + 1)) = mtsV l (O.take j) ++ [mtL l p] := by
  unfold mtsV
  rw [takeLs h, List.map_append]; rfl
theorem mtsV_len (l : List (Int × Int)) (O : List (List (Int × Int))) : (mtsV l O).length = O.length := by simp [mtsV]
set_option maxRecDepth 100000 in
set_option maxHeartbeats 4000000 in
theorem sMeetsAll_any (A Ao : Option Addr) (c co : Nat) (l : List (Int × Int)) (O : List (List (Int × Int))) (w : World) (hs : SeesE 2 encPoint w w.heap.size A l) (ho : SeesLs 2 encPoint w w.heap.size Ao O) (hl : l.length ≤ 1099511627776) (hO : O.length ≤ 1099511627776) (hF : FewLs O) :
    Calls Try.prog 22 #[.slice A l.length c, .slice Ao O.length co] w (Gives 3 .i64 (mtsV l O) w) := by
  have HS := Lib.hid hs; have HO := Lib.hid ho; have HF := Lib.hid hF
  clear hs ho hF
  go_enter Try.func22, Try.ntmps22
  go_wp2
  go_loopw [5, 6] (fun s5 s6 wr => ∃ (j : Nat) (A1 : Option Addr) (c1 : Nat) (L : List Int), j ≤ O.length ∧ s6 = .int .i64 (j : Int) ∧ s5 = .slice A1 L.length c1 ∧ Hid (L = mtsV l (O.take j)) ∧ L.length ≤ O.length ∧ Hid (Own wr w.heap.size 3 .i64 (.slice A1 L.length c1) L) ∧ Hid (Below w.heap.size w wr)) (fun _ s6 _ => O.length - (intOf s6).toNat)
  case atStart => exact ⟨0, _, 0, [], Nat.zero_le _, rfl, rfl, Lib.hid rfl, Nat.zero_le _, Lib.hid (Own.lit _ _ _ _ (Nat.le_refl _)), Lib.hid ((Below.refl _ _).alloc (Nat.le_refl _) _)⟩
  case round =>
    obtain ⟨j, A1, c1, L, hj, rfl, rfl, HL, hLl, HOw, HB⟩ := hrel
    by_cases hlt : j < O.length
    · have hlt' : (j : Int) < (O.length : Int) := by omega
      obtain ⟨p, hp⟩ : ∃ p, O[j]? = some p := ⟨_, List.getElem?_eq_getElem hlt⟩
      obtain ⟨b, off, A', c', rfl, hbl, hss, -, q0⟩ := (HO.out.below HB.out).at_ hp
      have hpl : p.length ≤ 1099511627776 := Nat.le_trans (HF.out j _ hp) (by decide)
      have HP := Lib.hid hp
      obtain ⟨u, hu⟩ : ∃ u, mtL l p = u := ⟨_, rfl⟩
      have HU : Hid (mtV (sgV l) (sgV p) = u) := Lib.hid hu
      have HSp := Lib.hid (hss.mono HB.out.size)
      have HSl := Lib.hid (HS.out.belowAll HB.out)
      have hLj : L.length = j := by rw [HL.out, mtsV_len, List.length_take]; omega
      have HLj := Lib.hid hLj
      have hL10 : L.length + 1 ≤ 17592186044416 := by omega
      clear hp hss hu hLj
      go_wp2_with fail
      refine (sLinesMeet_is A A' c c' l p _ HSl.out HSp.out hl hpl u HU.out).mono ?_
      rintro e w1 ⟨rfl, hb1⟩
      have HO1 := Lib.hid (HOw.out.belowAll hb1)
      have HB1 := Lib.hid (HB.out.trans (hb1.mono HB.out.size))
      have hz1 := HB1.out.size
      clear hb1 q0
      go_wp2_with (at_builtin; refine app64 _ rfl _ _ rfl w.heap.size _ L rfl (HO1.out.alloc _) (w1.heap.size + 1) _ 1 _ [u] rfl rfl (sees_new w1 .i64 u _ _ (Nat.lt_succ_self _)) (by simp; omega) (by simp; omega) ?_; intro A4 c4 L4 w4 hL4 h1 h2 ho4 hb4)
      go_roundw
      case rel => exact ⟨j + 1, A4, c4, L4, by omega, by go_num, rfl, Lib.hid (by rw [hL4.out, HL.out, mts_take HP.out, ← HU.out]; rfl), by have := HLj.out; simp at h1; omega, Lib.hid ho4, Lib.hid ((HB1.out.alloc hz1 _).trans hb4)⟩
      case measure => simp [intOf]; omega
    · obtain rfl : j = O.length := by omega
      have hlt' : ¬ (O.length : Int) < (O.length : Int) := by omega
      go_wp2
      go_ret
      exact ⟨A1, c1, L, Lib.hid (by rw [HL.out, List.take_length]), rfl, HOw.out, HB.out⟩
end Go.Proofs.Ytbnjaaegbmhopab
