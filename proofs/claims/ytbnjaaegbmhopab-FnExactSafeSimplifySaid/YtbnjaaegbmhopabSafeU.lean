/- Lines that never cross: SafeSimplify of the model. -/
import Derived.Test.YtbnjaaegbmhopabSafeT
namespace Go.Proofs.Ytbnjaaegbmhopab
open Go.ChangeShapes Go.WideShapes Go.ChangeAt Go.RowKit
set_option linter.unusedVariables false

def lenOfU : Value → Nat
  | .slice _ n _ => n
  | _ => 0
set_option maxRecDepth 100000 in
set_option maxHeartbeats 8000000 in
theorem sSafeSimplify_any (A Ao : Option Addr) (c co : Nat) (l : List (Int × Int)) (O : List (List (Int × Int))) (least : Int) (w : World) (hs : SeesE 2 encPoint w w.heap.size A l) (ho : SeesLs 2 encPoint w w.heap.size Ao O) (hl : l.length ≤ 274877906944) (hO : O.length ≤ 1099511627776) (hF : FewLs O) :
    Calls Try.prog 17 #[.slice A l.length c, .slice Ao O.length co, .int .i64 least] w (GivesE 2 encPoint 48 (safeV l O least) w) := by
  have HS := Lib.hid hs; have HO := Lib.hid ho; have HF := Lib.hid hF
  clear hs ho hF
  obtain ⟨sm, hsm⟩ : ∃ s, smpV l = s := ⟨_, rfl⟩
  have HSm := Lib.hid hsm; clear hsm
  go_enter Try.func17, Try.ntmps17
  go_wp2_with (at_builtin; refine appPoint _ rfl _ _ rfl w.heap.size _ [] rfl (OwnE.lit _ w.heap.size 48 (Nat.le_refl _)) _ A _ c l rfl rfl (HS.out.alloc (Nat.le_refl _) _) (by simp; omega) (by simp) ?_; intro A1 c1 L1 w1 hL1 h1 h2 ho1 hb1)
  have HB1 := Lib.hid (((Below.refl _ w).alloc (Nat.le_refl _) _).trans hb1)
  have HL1 : Hid (L1 = l) := Lib.hid (by rw [hL1.out]; rfl)
  have HO1 := Lib.hid ho1
  clear hL1 h1 h2 ho1 hb1
  go_loopw [7, 8, 9, 10, 50] (fun s7 _ _ _ _ wr => ∃ (A2 : Option Addr) (c2 : Nat) (L : List (Int × Int)), s7 = .slice A2 L.length c2 ∧ Hid (safeS O least L.length L = safeS O least l.length l) ∧ Hid (sm = false → L = l) ∧ L.length ≤ l.length ∧ Hid (OwnE 2 encPoint wr w.heap.size 48 (.slice A2 L.length c2) L) ∧ Hid (Below w.heap.size w wr)) (fun s7 _ _ _ _ _ => lenOfU s7)
  case atStart => exact ⟨A1, c1, L1, rfl, Lib.hid (by rw [HL1.out]), Lib.hid (fun _ => HL1.out), by rw [HL1.out]; exact Nat.le_refl _, HO1, HB1⟩
  case round =>
    obtain ⟨A2, c2, L, rfl, HR, HE, hLl, HOw, HB⟩ := hrel
    have HSl := Lib.hid (HS.out.belowAll HB.out)
    cases sm
    · have HV : Hid (L = safeV l O least) := Lib.hid (by rw [safeV_no HSm.out]; exact HE.out rfl)
      go_wp2_with fail
      refine (sIsSimple_is A c l _ HSl.out (by omega) _ HSm.out).mono ?_
      rintro e w2 ⟨rfl, hb2⟩
      go_wp2
      go_ret
      exact ⟨A2, c2, L, HV, rfl, HOw.out.belowAll hb2, HB.out.trans (hb2.mono HB.out.size)⟩
    · have HV : Hid (safeS O least L.length L = safeV l O least) := Lib.hid (by rw [HR.out]; unfold safeV; rw [if_pos HSm.out])
      go_wp2_with fail
      refine (sIsSimple_is A c l _ HSl.out (by omega) _ HSm.out).mono ?_
      rintro e w2 ⟨rfl, hb2⟩
      have HOw2 := Lib.hid (HOw.out.belowAll hb2)
      have HB2 := Lib.hid (HB.out.trans (hb2.mono HB.out.size))
      have hcap := capsLs HOw.out
      have hLc : L.length ≤ c2 := hcap.2.1
      have hc2 : (c2 : Int) ≤ 9223372036854775807 := hcap.2.2
      clear hb2 hcap HSl HOw HB
      go_wp2
      go_loopw [8, 9, 10] (fun s8 s9 _ wx => ∃ t : Nat, (t = 0 ∨ t + 2 ≤ L.length) ∧ s8 = .int .i64 (cutS L O least t) ∧ s9 = .int .i64 ((t + 1 : Nat) : Int) ∧ Hid (OwnE 2 encPoint wx w.heap.size 48 (.slice A2 L.length c2) L) ∧ Hid (Below w.heap.size w wx)) (fun _ s9 _ _ => L.length - (intOf s9).toNat)
      case atStart => exact ⟨0, .inl rfl, rfl, by go_num, HOw2, HB2⟩
      case round =>
        obtain ⟨t, ht, rfl, rfl, HOx, HBx⟩ := hrel
        obtain ⟨B0, hB0⟩ : ∃ b, cutS L O least t = b := ⟨_, rfl⟩
        have HB0 := Lib.hid hB0
        rw [hB0]
        clear hB0
        have HSL := Lib.hid (HOx.out.sees elPoint)
        have HOO := Lib.hid (HO.out.belowAll HBx.out)
        have hLl2 : L.length ≤ 1099511627776 := by omega
        by_cases hlt : t + 2 < L.length
        · have hlt' : ((t + 1 : Nat) : Int) + 1 < (L.length : Int) := by omega
          obtain ⟨a, ha⟩ : ∃ a, crnV L ((t + 1 : Nat) : Int) = a := ⟨_, rfl⟩
          have HA := Lib.hid ha
          clear ha
          obtain ⟨i, hi⟩ : ∃ i : Int, ((t + 1 : Nat) : Int) = i := ⟨_, rfl⟩
          have HI := Lib.hid hi
          have hi0 : 0 ≤ i ∧ i ≤ 1099511627776 := by omega
          rw [hi] at hlt' HA ⊢
          clear hi
          have hw1 : IntKind.i64.wrap (i + 1) = i + 1 := by rw [IntKind.wrap_i64]; omega
          go_wp2_with fail
          refine (sCornerArea_is A2 c2 L i a _ HSL.out hLl2 HA.out).mono ?_
          rintro e w3 ⟨rfl, hb3⟩
          have HO3 := Lib.hid (HOx.out.belowAll hb3)
          have HB3 := Lib.hid (HBx.out.trans (hb3.mono HBx.out.size))
          have HSL3 := Lib.hid (HSL.out.belowAll hb3)
          have HOO3 := Lib.hid (HOO.out.belowAll hb3)
          clear hb3 HSL HOO HOx HBx
          by_cases h1 : a < least
          · by_cases h2 : B0 < 0
            · obtain ⟨z, hz⟩ : ∃ z, canV L i O = z := ⟨_, rfl⟩
              have HZ := Lib.hid hz
              clear hz
              have HN : Hid (cutS L O least (t + 1) = if z = true then i else B0) := Lib.hid (by
                cases z
                · rw [cutS_no (fun h => by have := h.2.2; rw [HI.out, HZ.out] at this; cases this), HB0.out]; rfl
                · rw [cutS_yes ⟨by rw [HI.out, HA.out]; exact h1, .inl (by rw [HB0.out]; exact h2), by rw [HI.out]; exact HZ.out⟩, HI.out]; rfl)
              cases z
              all_goals
                go_wp2_with fail
                refine (sCanDrop_is A2 Ao c2 co L i O _ _ HSL3.out HOO3.out (by omega) hLc hc2 hO HF.out HZ.out).mono ?_
                rintro e w4 ⟨rfl, hb4⟩
                have HO4 := Lib.hid (HO3.out.belowAll hb4)
                have HB4 := Lib.hid (HB3.out.trans (hb4.mono HB3.out.size))
                clear hb4
                go_wp2
                go_roundw
                case rel => exact ⟨t + 1, by omega, by rw [HN.out]; rfl, by have := HI.out; go_num, HO4, HB4⟩
                case measure => have := HI.out; simp [intOf]; omega
            · obtain ⟨a2, ha2⟩ : ∃ a, crnV L B0 = a := ⟨_, rfl⟩
              have HA2 := Lib.hid ha2
              clear ha2
              by_cases h3 : a < a2
              · obtain ⟨z, hz⟩ : ∃ z, canV L i O = z := ⟨_, rfl⟩
                have HZ := Lib.hid hz
                clear hz
                have HN : Hid (cutS L O least (t + 1) = if z = true then i else B0) := Lib.hid (by
                  cases z
                  · rw [cutS_no (fun h => by have := h.2.2; rw [HI.out, HZ.out] at this; cases this), HB0.out]; rfl
                  · rw [cutS_yes ⟨by rw [HI.out, HA.out]; exact h1, .inr (by rw [HI.out, HA.out, HB0.out, HA2.out]; exact h3), by rw [HI.out]; exact HZ.out⟩, HI.out]; rfl)
                cases z
                all_goals
                  go_wp2_with fail
                  refine (sCornerArea_is A2 c2 L B0 a2 _ HSL3.out hLl2 HA2.out).mono ?_
                  rintro e w4 ⟨rfl, hb4⟩
                  have HO4 := Lib.hid (HO3.out.belowAll hb4)
                  have HB4 := Lib.hid (HB3.out.trans (hb4.mono HB3.out.size))
                  have HSL4 := Lib.hid (HSL3.out.belowAll hb4)
                  have HOO4 := Lib.hid (HOO3.out.belowAll hb4)
                  clear hb4
                  go_wp2_with fail
                  refine (sCanDrop_is A2 Ao c2 co L i O _ _ HSL4.out HOO4.out (by omega) hLc hc2 hO HF.out HZ.out).mono ?_
                  rintro e w5 ⟨rfl, hb5⟩
                  have HO5 := Lib.hid (HO4.out.belowAll hb5)
                  have HB5 := Lib.hid (HB4.out.trans (hb5.mono HB4.out.size))
                  clear hb5
                  go_wp2
                  go_roundw
                  case rel => exact ⟨t + 1, by omega, by rw [HN.out]; rfl, by have := HI.out; go_num, HO5, HB5⟩
                  case measure => have := HI.out; simp [intOf]; omega
              · have HN : Hid (cutS L O least (t + 1) = B0) := Lib.hid (by
                  rw [cutS_no (fun h => by
                    rcases h.2.1 with h4 | h4
                    · rw [HB0.out] at h4; exact h2 h4
                    · rw [HI.out, HA.out, HB0.out, HA2.out] at h4; exact h3 h4), HB0.out])
                go_wp2_with fail
                refine (sCornerArea_is A2 c2 L B0 a2 _ HSL3.out hLl2 HA2.out).mono ?_
                rintro e w4 ⟨rfl, hb4⟩
                have HO4 := Lib.hid (HO3.out.belowAll hb4)
                have HB4 := Lib.hid (HB3.out.trans (hb4.mono HB3.out.size))
                clear hb4
                go_wp2
                go_roundw
                case rel => exact ⟨t + 1, by omega, by rw [HN.out], by have := HI.out; go_num, HO4, HB4⟩
                case measure => have := HI.out; simp [intOf]; omega
          · have HN : Hid (cutS L O least (t + 1) = B0) := Lib.hid (by
              rw [cutS_no (fun h => by have := h.1; rw [HI.out, HA.out] at this; exact h1 this), HB0.out])
            go_wp2
            go_roundw
            case rel => exact ⟨t + 1, by omega, by rw [HN.out], by have := HI.out; go_num, HO3, HB3⟩
            case measure => have := HI.out; simp [intOf]; omega
        · have hlt' : ¬ ((t + 1 : Nat) : Int) + 1 < (L.length : Int) := by omega
          have hcut : cutV L O least = B0 := by
            unfold cutV
            rw [← HB0.out]
            congr 1
            omega
          have HC := Lib.hid hcut
          clear hcut
          obtain ⟨i, hi⟩ : ∃ i : Int, ((t + 1 : Nat) : Int) = i := ⟨_, rfl⟩
          have hi0 : 0 ≤ i ∧ i ≤ 1099511627776 := by omega
          rw [hi] at hlt' ⊢
          clear hi
          have hw1 : IntKind.i64.wrap (i + 1) = i + 1 := by rw [IntKind.wrap_i64]; omega
          by_cases h2 : B0 < 0
          · have HW : Hid (L = safeV l O least) := Lib.hid (by rw [← HV.out, safe_stop (by rw [HC.out]; exact h2)])
            go_wp2
            go_ret
            exact ⟨A2, c2, L, HW, rfl, HOx.out, HBx.out⟩
          · obtain ⟨b, hb⟩ : ∃ b : Nat, B0 = (b : Int) := ⟨B0.toNat, by omega⟩
            obtain ⟨b', e1, -, -, hcan⟩ := cutV_at (l := L) (O := O) (least := least) (by rw [HC.out]; exact h2)
            have hdo : dropOk L B0 = true := by
              have : canV L B0 O = true := by rw [← HC.out, e1]; exact hcan
              unfold canV at this
              simp only [Bool.and_eq_true] at this
              exact this.1
            have hone := drop_one hdo
            have HNext : Hid (safeS O least (dropV L B0).length (dropV L B0) = safeS O least L.length L) := Lib.hid (by
              rw [← hone, safe_step (b := b) (by rw [HC.out, hb]), ← hb])
            have HLen := Lib.hid hone
            clear hb e1 hcan hdo hone b
            go_wp2_with fail
            refine (sDropPoint_any A2 c2 L B0 _ HSL.out (by omega) hLc hc2).mono ?_
            rintro e w4 ⟨A5, c5, L5, k5, hL5, hk5, rfl, ho5, hb5⟩
            have HO5 := Lib.hid (ho5.mono HBx.out.size)
            have HB5 := Lib.hid (HBx.out.trans (hb5.mono HBx.out.size))
            have hlen5 : L5.length + 1 = L.length := by rw [hL5.out]; exact HLen.out
            clear ho5 hb5
            go_wp2
            go_roundw
            case rel => exact ⟨A5, c5, L5, rfl, Lib.hid (by rw [hL5.out, HNext.out, HR.out]), Lib.hid (fun h => by cases h), by omega, HO5, HB5⟩
            case measure => simp [lenOfU]; omega
end Go.Proofs.Ytbnjaaegbmhopab
