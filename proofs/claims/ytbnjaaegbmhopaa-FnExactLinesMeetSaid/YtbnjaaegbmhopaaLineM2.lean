/- Lines: IsSimple of package impl, over meetInTurn. -/
import Derived.Test.YtbnjaaegbmhopaaLineS3
import Derived.Test.YtbnjaaegbmhopaaLineL
import Derived.Test.YtbnjaaegbmhopaaTurn
namespace Go.Proofs.Ytbnjaaegbmhopaa
open Go.ChangeShapes Go.WideShapes Go.ChangeAt Go.RowKit
set_option linter.unusedVariables false

theorem smp_turn (l : List (Int × Int)) : smpV l = (turnV false (sgV l) && isLn l) := by
  unfold smpV turnV
  congr 1
  refine decide_eq_decide.2 ⟨fun h k hk i hi => ?_, fun h k hk i hi => ?_⟩
  · have := h k hk i hi
    obtain ⟨u, hu⟩ : ∃ u, (sgV l)[i]? = some u := ⟨_, List.getElem?_eq_getElem (by omega)⟩
    obtain ⟨v, hv⟩ : ∃ v, (sgV l)[k]? = some v := ⟨_, List.getElem?_eq_getElem hk⟩
    rw [mtOk_at hu hv] at this
    rw [prOk_at hu hv, show wantC false (sgV l).length i k = if i + 1 = k then 1 else 0 by unfold wantC; simp]
    exact this
  · have := h k hk i hi
    obtain ⟨u, hu⟩ : ∃ u, (sgV l)[i]? = some u := ⟨_, List.getElem?_eq_getElem (by omega)⟩
    obtain ⟨v, hv⟩ : ∃ v, (sgV l)[k]? = some v := ⟨_, List.getElem?_eq_getElem hk⟩
    rw [prOk_at hu hv, show wantC false (sgV l).length i k = if i + 1 = k then 1 else 0 by unfold wantC; simp] at this
    rw [mtOk_at hu hv]
    exact this
set_option maxRecDepth 100000 in
set_option maxHeartbeats 4000000 in
theorem isSimple_is (A : Option Addr) (c : Nat) (l : List (Int × Int)) (w : World) (hs : SeesE 2 encPoint w w.heap.size A l) (hl : l.length ≤ 1099511627776) (z : Bool) (hz : smpV l = z) :
    Calls Try.prog 34 #[.slice A l.length c] w fun e w' => e = .returned (.bool z) ∧ Below w.heap.size w w' := by
  have HS := Lib.hid hs; clear hs
  have HZ : Hid ((turnV false (sgV l) && isLn l) = z) := Lib.hid (by rw [← smp_turn]; exact hz)
  clear hz
  go_enter Try.func34, Try.ntmps34
  cases hi : isLn l
  · obtain rfl : z = false := by rw [← HZ.out, hi, Bool.and_false]
    have h0 : Hid (sgV l = []) := Lib.hid (sgV_no hi)
    go_wp2_with fail
    refine (segmentsOf_any A c l _ HS.out hl).mono ?_
    rintro e w1 ⟨A1, c1, L, hL, rfl, ho1, hb1⟩
    have hn : L.length = 0 := by rw [hL.out, h0.out]; rfl
    have hn2 : ((L.length : Nat) : Int) = 0 := by omega
    have HB1 := Lib.hid hb1
    rw [hn]
    clear ho1 hb1 hn hn2
    go_wp2
    go_ret
    exact ⟨rfl, HB1.out⟩
  · have hz' : turnV false (sgV l) = z := by rw [← HZ.out, hi, Bool.and_true]
    have HT := Lib.hid hz'
    clear hz'
    go_wp2_with fail
    refine (segmentsOf_any A c l _ HS.out hl).mono ?_
    rintro e w1 ⟨A1, c1, L, hL, rfl, ho1, hb1⟩
    have hn : (0 : Int) < (L.length : Int) := by have := sgV_pos hi; rw [← hL.out] at this; omega
    have h9 : L.length ≤ 1000 := by rw [hL.out]; have := sgV_len l; omega
    have HB1 := Lib.hid hb1; have HO1 := Lib.hid ho1
    have HT2 : Hid (turnV false L = z) := Lib.hid (by rw [hL.out]; exact HT.out)
    clear ho1 hb1
    go_wp2_with (go_at_call 90; refine (meetInTurn_is A1 c1 false L _ (HO1.out.sees elSegment) h9 _ HT2.out).mono ?_; rintro e w2 ⟨rfl, hb2⟩)
    go_ret
    exact ⟨by cases z <;> rfl, HB1.out.trans (hb2.mono HB1.out.size)⟩
end Go.Proofs.Ytbnjaaegbmhopaa
