/- Rings in the model: RingSegments and TwiceArea. -/
import Derived.Test.YtbnjaaegbmhopaaDoorRingS2
namespace Go.Proofs.YtbnjaaegbmhopaaDoor
open Go.ChangeShapes Go.WideShapes Go.ChangeAt Go.RowKit
set_option linter.unusedVariables false

set_option maxRecDepth 100000 in
set_option maxHeartbeats 1000000 in
theorem sRingSegments_any (A : Option Addr) (c : Nat) (l : List (Int × Int)) (w : World) (hs : SeesE 2 encPoint w w.heap.size A l) (hl : l.length ≤ 274877906944) :
    Calls Tryd.prog 18 #[.slice A l.length c] w (GivesE 4 encSegment 53 (rsV l) w) := by
  have HS := Lib.hid hs
  clear hs
  go_enter Tryd.func18, Tryd.ntmps18
  cases hz : isRg l
  · have HV : Hid (rsV l = []) := Lib.hid (by unfold rsV; rw [hz]; rfl)
    go_wp2_with (go_at_call 9; refine (sIsRing_is A c l _ HS.out hl _ hz).mono ?_; rintro e w1 ⟨rfl, hb1⟩)
    go_ret
    exact ⟨_, _, [], Lib.hid HV.out.symm, rfl, (OwnE.lit w1 w1.heap.size 53 (Nat.le_refl _)).mono hb1.size, hb1.alloc hb1.size _⟩
  · have HV : Hid (rsV l = rgS l) := Lib.hid (by unfold rsV; rw [hz]; rfl)
    go_wp2_with (first
      | (go_at_call 9; refine (sIsRing_is A c l _ HS.out hl _ hz).mono ?_; rintro e w1 ⟨rfl, hb1⟩; have HS1 := Lib.hid (HS.out.belowAll hb1); have HB1 := Lib.hid hb1)
      | (go_at_call 30; refine (l7Segments_any A c l _ HS1.out hl).mono ?_; rintro e w2 ⟨A1, c1, L, hL, rfl, ho2, hb2⟩))
    go_ret
    exact ⟨A1, c1, L, Lib.hid (by rw [hL.out, HV.out]), rfl, ho2.mono HB1.out.size, HB1.out.trans (hb2.mono HB1.out.size)⟩
set_option maxRecDepth 100000 in
set_option maxHeartbeats 1000000 in
theorem sTwiceArea_is (A : Option Addr) (c : Nat) (l : List (Int × Int)) (w : World) (hs : SeesE 2 encPoint w w.heap.size A l) (hl : l.length ≤ 274877906944) (z : Int) (hz : twA l = z) :
    Calls Tryd.prog 13 #[.slice A l.length c] w fun e w' => e = .returned (.int .i64 z) ∧ Below w.heap.size w w' := by
  have HS := Lib.hid hs
  have HV := Lib.hid hz
  clear hs hz
  go_enter Tryd.func13, Tryd.ntmps13
  go_wp2_with (go_at_call 30; refine (l7Segments_any A c l _ HS.out hl).mono ?_; rintro e w1 ⟨A1, c1, L, hL, rfl, ho1, hb1⟩)
  have HO1 := Lib.hid ho1; have HB1 := Lib.hid hb1; have HL := hL
  have hLl : L.length ≤ 274877906944 := by rw [hL.out, rgS_len]; exact hl
  clear ho1 hb1 hL
  cases hz : isRg l
  · obtain rfl : z = 0 := by rw [← HV.out, twA_no hz]
    go_loopw [3, 5] (fun n i wr => n = .int .i64 0 ∧ i = .int .i64 0 ∧ Hid (Below w.heap.size w wr)) (fun _ _ _ => 0)
    case atStart => exact ⟨rfl, rfl, HB1⟩
    case round =>
      obtain ⟨rfl, rfl, HB⟩ := hrel
      clear HB1 HO1
      by_cases h0 : (0 : Int) < (L.length : Int)
      · go_wp2_with (go_at_call 9; refine (sIsRing_is A c l _ ((HS.out.below HB.out).mono HB.out.size) hl _ hz).mono ?_; rintro e w2 ⟨rfl, hb2⟩)
        go_ret
        exact ⟨rfl, HB.out.trans (hb2.mono HB.out.size)⟩
      · go_wp2
        go_ret
        exact ⟨rfl, HB.out⟩
  · have HOK : Hid ((∀ x ∈ rgS l, sOk x = true) ∧ (rgS l).length ≤ 10) := Lib.hid ⟨((isRg_iff l).1 hz).2.1, by rw [rgS_len]; exact ((isRg_iff l).1 hz).1.2⟩
    have HW : Hid (arV (rgS l) = z) := Lib.hid (by rw [← twA_yes hz]; exact HV.out)
    have h10 : L.length ≤ 10 := by rw [HL.out]; exact HOK.out.2
    go_loopw [3, 5] (fun n i wr => ∃ j : Nat, j ≤ L.length ∧ n = .int .i64 (arV (L.take j)) ∧ i = .int .i64 j ∧ Hid (OwnE 4 encSegment wr w.heap.size 53 (.slice A1 L.length c1) L) ∧ Hid (Below w.heap.size w wr)) (fun _ i _ => L.length - (intOf i).toNat)
    case atStart => exact ⟨0, Nat.zero_le _, rfl, rfl, HO1, HB1⟩
    case round =>
      obtain ⟨j, hj, rfl, rfl, HO, HB⟩ := hrel
      clear HO1 HB1
      by_cases hlt : j < L.length
      · have hlt' : (j : Int) < (L.length : Int) := by omega
        obtain ⟨b, off, x, rfl, hbl, hx, -⟩ := (HO.out.sees elSegment).lt hlt
        have HX := Lib.hid hx
        have hx' : sOk x = true := HOK.out.1 x (by rw [← HL.out]; exact List.mem_of_getElem? hx)
        obtain ⟨⟨p0, p1⟩, q0, q1⟩ := arS_bd hx'
        obtain ⟨N, hN⟩ : ∃ N, arV (L.take j) = N := ⟨_, rfl⟩
        have hNb : -400000 ≤ N ∧ N ≤ 400000 := by rw [← hN]; exact arV_bd_take (by rw [HL.out]; exact HOK.out.1) h10 j
        have HT : Hid (N + (x.1 * x.2.2.2 - x.2.1 * x.2.2.1) = arV (L.take (j + 1))) := Lib.hid (by rw [← hN]; exact arV_take hx)
        obtain ⟨P, hP⟩ : ∃ P, x.1 * x.2.2.2 = P := ⟨_, rfl⟩
        obtain ⟨Q, hQ⟩ : ∃ Q, x.2.1 * x.2.2.1 = Q := ⟨_, rfl⟩
        rw [hP] at p0 p1 HT
        rw [hQ] at q0 q1 HT
        have HT2 : Hid (IntKind.i64.wrap (IntKind.i64.wrap (N + IntKind.i64.wrap P) - IntKind.i64.wrap Q) = arV (L.take (j + 1))) := Lib.hid (by
          have vP : IntKind.i64.wrap P = P := IntWalk.i64_in _ (by omega)
          have vQ : IntKind.i64.wrap Q = Q := IntWalk.i64_in _ (by omega)
          have vS : IntKind.i64.wrap (N + P) = N + P := IntWalk.i64_in _ (by omega)
          have vD : IntKind.i64.wrap (N + P - Q) = N + P - Q := IntWalk.i64_in _ (by omega)
          rw [vP, vQ, vS, vD, ← HT.out]; omega)
        rw [hN]
        clear hN hx hx'
        go_wp2_with (go_at_call 9; refine (sIsRing_is A c l _ ((HS.out.below HB.out).mono HB.out.size) hl _ hz).mono ?_; rintro e w2 ⟨rfl, hb2⟩; have HB2 := Lib.hid (HB.out.trans (hb2.mono HB.out.size)); have HO2 := Lib.hid (HO.out.belowAll hb2); obtain ⟨k0, k1, k2, k3⟩ := cells4 (HO2.out.sees elSegment) HX.out)
        go_region_held3 (fun w' => w'.cell? ⟨b, off + j * 4, none⟩ = some (.int .i64 x.1) ∧ w'.cell? ⟨b, off + j * 4 + 1, none⟩ = some (.int .i64 x.2.1) ∧ w'.cell? ⟨b, off + j * 4 + 2, none⟩ = some (.int .i64 x.2.2.1) ∧ w'.cell? ⟨b, off + j * 4 + 3, none⟩ = some (.int .i64 x.2.2.2)) (first | exact ⟨k0, k1, k2, k3⟩) (fail)
        all_goals
          go_wp2
          go_roundw
          case rel => exact ⟨j + 1, by omega, by rw [HT2.out], by go_num, Lib.hid HO2.out.drew, Lib.hid HB2.out.drew⟩
          case measure => simp [intOf]; omega
      · obtain rfl : j = L.length := by omega
        rw [List.take_length]
        go_wp2
        go_ret
        exact ⟨by rw [← HW.out, HL.out]; rfl, HB.out⟩
end Go.Proofs.YtbnjaaegbmhopaaDoor
