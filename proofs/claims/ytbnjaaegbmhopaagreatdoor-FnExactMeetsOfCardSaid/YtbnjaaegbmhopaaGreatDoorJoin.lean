/- joinRing of package impl: the segments of a ring, or the sentinel. -/
import Derived.Test.YtbnjaaegbmhopaaGreatDoorRingT
import Derived.Test.YtbnjaaegbmhopaaGreatDoorLineL
import Derived.Test.YtbnjaaegbmhopaaGreatDoorStepE
import Derived.Test.YtbnjaaegbmhopaaGreatDoorErrIs
namespace Go.Proofs.YtbnjaaegbmhopaaGreatDoor
open Go.ChangeShapes Go.WideShapes Go.ChangeAt Go.RowKit
set_option linter.unusedVariables false

/-- The variable errNoRing holds a pointer to an error of errors.New's make. -/
def ErrAt (a0 : Addr) (w : World) : Prop := w.cell? ⟨0, 0, none⟩ = some (.iface 221 (.pointer (some a0)))
section
variable {a0 : Addr} {w w' : World}
theorem ErrAt.lt (h : ErrAt a0 w) : 0 < w.heap.size := World.block_lt_of_cell? _ _ h
theorem ErrAt.below {B : Nat} (h : ErrAt a0 w) (hb : Below B w w') (hB : 0 < B) : ErrAt a0 w' := (hb.cell (p := ⟨0, 0, none⟩) hB).trans h
theorem ErrAt.all (h : ErrAt a0 w) (hb : Below w.heap.size w w') : ErrAt a0 w' := h.below hb h.lt
theorem ErrAt.drew (h : ErrAt a0 w) : ErrAt a0 w.drew := h
theorem ErrAt.alloc (h : ErrAt a0 w) (o : Obj) : ErrAt a0 (w.alloc o) := h.all ((Below.refl _ w).alloc (Nat.le_refl _) o)
end
set_option maxRecDepth 100000 in
set_option maxHeartbeats 1000000 in
theorem collect_any (Bx c1 : Nat) (A1 : Option Addr) (l : List (Int × Int)) (w : World) (M : Nat) (bA : Boxed w Bx 24 (.slice A1 l.length c1)) (hs : SeesE 2 encPoint w M A1 l) (hM : M ≤ w.heap.size) (hl : l.length ≤ 1000) :
    Calls Tryz.prog 76 #[.func (.func 115) #[] #[.pointer (some ⟨Bx, 0, none⟩)]] w fun e w' => ∃ v, e = .returned v ∧ OwnE 4 encSegment w' w.heap.size 78 v (jts l) ∧ Below w.heap.size w w' := by
  have HS := Lib.hid hs; have HA := Lib.hid bA
  clear hs bA
  go_enter Tryz.func76, Tryz.ntmps76
  go_wp2_with (go_at_call 109; refine (appendSeq_any Bx M w.heap.size c1 A1 l _ _ HA.out HS.out hM (Nat.le_refl _) hl (OwnE.nil _ _ _)).mono ?_; rintro e w2 ⟨v, rfl, ho2, hB2⟩)
  go_ret
  exact ⟨v, rfl, ho2, hB2⟩
/-- What joinRing gives. -/
def JoinOf (a0 : Addr) (l : List (Int × Int)) (w : World) (e : Ending) (w' : World) : Prop :=
  (isRg l = true ∧ ∃ A c L, Hid (L = rgS l) ∧ e = .returned (.tuple #[.slice A L.length c, .nilIface]) ∧ OwnE 4 encSegment w' w.heap.size 78 (.slice A L.length c) L ∧ Below w.heap.size w w') ∨
  (isRg l = false ∧ e = .returned (.tuple #[.slice none 0 0, .iface 221 (.pointer (some a0))]) ∧ Below w.heap.size w w')
set_option maxRecDepth 100000 in
set_option maxHeartbeats 1000000 in
theorem joinRing_any (a0 : Addr) (A : Option Addr) (c : Nat) (l : List (Int × Int)) (w : World) (hE : ErrAt a0 w) (hs : SeesE 2 encPoint w w.heap.size A l) (hl : l.length ≤ 274877906944) (hlc : l.length ≤ c) (hc : (c : Int) ≤ 9223372036854775807) :
    Calls Tryz.prog 45 #[.slice A l.length c] w (JoinOf a0 l w) := by
  have HS := Lib.hid hs; clear hs
  have HE := Lib.hid hE
  go_enter Tryz.func45, Tryz.ntmps45
  cases hin : inB l.length 3 10
  · have HN : Hid (isRg l = false) := Lib.hid (by rw [isRg_turn, hin]; rfl)
    have hE1 : w.drew.cell? ⟨0, 0, none⟩ = some (.iface 221 (.pointer (some a0))) := hE.drew
    unfold ErrAt at hE
    go_wp2_with (go_at_call 48; refine (in_is _ _ _ _ _ hin).mono ?_; rintro e w1 ⟨rfl, rfl⟩)
    go_region_with (fail)
    all_goals
      go_wp2
      go_ret2
      exact .inr ⟨HN.out, rfl, (Below.refl _ w).drew⟩
  · have h310 : 3 ≤ l.length ∧ l.length ≤ 10 := by simp only [inB, decide_eq_true_eq] at hin; omega
    obtain ⟨⟨x, y⟩, hx⟩ : ∃ p, l[0]? = some p := ⟨_, List.getElem?_eq_getElem (by omega)⟩
    obtain ⟨b, off, rfl, hb, -⟩ := HS.out 0 _ hx
    obtain ⟨k0', k1'⟩ := cellsPoint HS.out hx
    have k0 : w.cell? ⟨b, off, none⟩ = some (.int .i64 x) := by simpa using k0'
    have k1 : w.cell? ⟨b, off + 1, none⟩ = some (.int .i64 y) := by simpa using k1'
    clear k0' k1'
    have d0 : (w.alloc (.cells #[.int .i64 x, .int .i64 y] 33)).drew.cell? ⟨b, off, none⟩ = some (.int .i64 x) := (((Below.refl w.heap.size w).alloc (Nat.le_refl _) _).cell (p := ⟨b, off, none⟩) hb).trans k0
    have d1 : (w.alloc (.cells #[.int .i64 x, .int .i64 y] 33)).drew.cell? ⟨b, off + 1, none⟩ = some (.int .i64 y) := (((Below.refl w.heap.size w).alloc (Nat.le_refl _) _).cell (p := ⟨b, off + 1, none⟩) hb).trans k1
    have e0 : w.drew.cell? ⟨b, off, none⟩ = some (.int .i64 x) := k0
    have e1 : w.drew.cell? ⟨b, off + 1, none⟩ = some (.int .i64 y) := k1
    have D0 := Lib.hid d0; have D1 := Lib.hid d1; have E0 := Lib.hid e0; have E1 := Lib.hid e1
    have HB1 : Hid (Below w.heap.size w (w.alloc (.cells #[.int .i64 x, .int .i64 y] 33)).drew) := Lib.hid (((Below.refl _ w).alloc (Nat.le_refl _) _).drew)
    have HS1 : Hid (SeesE 2 encPoint w.drew w.drew.heap.size (some ⟨b, off, none⟩) l) := Lib.hid HS.out.drew
    have HS2 : Hid (SeesE 2 encPoint (w.alloc (.cells #[.int .i64 x, .int .i64 y] 33)).drew (w.alloc (.cells #[.int .i64 x, .int .i64 y] 33)).drew.heap.size (some ⟨b, off, none⟩) l) := Lib.hid ((HS.out.below HB1.out).mono HB1.out.size)
    have HX2 : Hid (SeesE 2 encPoint (w.alloc (.cells #[.int .i64 x, .int .i64 y] 33)).drew (w.alloc (.cells #[.int .i64 x, .int .i64 y] 33)).drew.heap.size (some ⟨w.heap.size, 0, none⟩) [(x, y)]) := Lib.hid ((seesE_new elPoint w (x, y) #[.int .i64 x, .int .i64 y] 33 _ (by show _ < (w.alloc _).heap.size; simp) rfl).drew)
    have HT : Hid (rgS l = jts (rotV l 0 ++ [(x, y)])) := Lib.hid (by
      rw [rotV_zero, rgS]
      cases l with
      | nil => simp at hx
      | cons p t => simp at hx; rw [hx]; rfl)
    have HR : Hid ((rotV l 0).length = l.length) := Lib.hid (by rw [rotV_zero])
    have h9 : l.length ≤ 10 := h310.2
    have HZ : Hid (isRg l = turnV true (rgS l)) := Lib.hid (by rw [isRg_turn, hin, Bool.true_and])
    have i0 : (0 : Int) < (l.length : Int) := by omega
    have i1 : 0 < l.length := by omega
    clear d0 d1 e0 e1 hx h310
    go_wp2_with (go_at_call 48; refine (in_is _ _ _ _ _ hin).mono ?_; rintro e w1 ⟨rfl, rfl⟩)
    go_region_held3 (fun w' => w'.cell? ⟨b, off, none⟩ = some (.int .i64 x) ∧ w'.cell? ⟨b, off + 1, none⟩ = some (.int .i64 y)) (first | with_reducible exact ⟨k0, k1⟩ | with_reducible exact ⟨E0.out, E1.out⟩ | with_reducible exact ⟨D0.out, D1.out⟩ | with_reducible exact hQ.out | with_reducible exact hQ2.out | with_reducible exact hQ3.out) (first
      | (go_at_call 13; refine (rotateRing_any _ c l 0 _ HS1.out hl hlc hc rfl).mono ?_; rintro e w1 ⟨A1, c1, L, hL, rfl, ho1, hb1⟩; have HL := hL; have HO1 := Lib.hid (ho1.alloc (.cells #[.int .i64 x, .int .i64 y] 33)); have hw1 : w.heap.size ≤ w1.heap.size := hb1.size; have HW1 : w.heap.size ≤ (w1.alloc (.cells #[.int .i64 x, .int .i64 y] 33)).heap.size := Nat.le_trans hw1 (by simp); have HX1 := Lib.hid (seesE_new elPoint w1 (x, y) #[.int .i64 x, .int .i64 y] 33 (w1.heap.size + 1) (Nat.lt_succ_self _) rfl); have HL63 : L.length + [(x, y)].length ≤ 1099511627776 := (by rw [HL.out, HR.out]; show l.length + 1 ≤ _; omega); have HBX := Lib.hid (((Below.refl _ w).drew.trans hb1).alloc hw1 (.cells #[.int .i64 x, .int .i64 y] 33)); have hQ := Lib.hid (And.intro ((hb1.cell (World.block_lt_of_cell? _ _ E0.out)).trans E0.out) ((hb1.cell (World.block_lt_of_cell? _ _ E1.out)).trans E1.out)); have hQ2 := Lib.hid (And.intro ((((Below.refl w1.heap.size w1).alloc (Nat.le_refl _) (.cells #[.int .i64 x, .int .i64 y] 33)).cell (World.block_lt_of_cell? _ _ hQ.out.1)).trans hQ.out.1) ((((Below.refl w1.heap.size w1).alloc (Nat.le_refl _) (.cells #[.int .i64 x, .int .i64 y] 33)).cell (World.block_lt_of_cell? _ _ hQ.out.2)).trans hQ.out.2)))
      | (go_at_call 13; refine (rotateRing_any _ c l 0 _ HS2.out hl hlc hc rfl).mono ?_; rintro e w1 ⟨A1, c1, L, hL, rfl, ho1, hb1⟩; have HL := hL; have HO2 := Lib.hid (ho1.mono HB1.out.size); have HW2 : w.heap.size ≤ w1.heap.size := Nat.le_trans HB1.out.size hb1.size; have HX3 := Lib.hid (HX2.out.below hb1); have HL63 : L.length + [(x, y)].length ≤ 1099511627776 := (by rw [HL.out, HR.out]; show l.length + 1 ≤ _; omega); have HBY := Lib.hid (HB1.out.trans (hb1.mono HB1.out.size)); have hQ := Lib.hid (And.intro ((hb1.cell (World.block_lt_of_cell? _ _ D0.out)).trans D0.out) ((hb1.cell (World.block_lt_of_cell? _ _ D1.out)).trans D1.out)))
      | (refine stepPt (w1.alloc (.cells #[.int .i64 x, .int .i64 y] 33)) _ _ (by rfl) w.heap.size _ L (by rfl) HO1.out (w1.heap.size + 1) (some ⟨w1.heap.size, 0, none⟩) 1 1 [(x, y)] (by rfl) (by rfl) HX1.out HL63 HW1 ?_; intro A3 c3 L3 w3 hL3 h2 h3 ho3 hb3; have HL3 : Hid (jts L3 = rgS l) := Lib.hid (by rw [hL3.out, HL.out]; exact HT.out.symm); have HO3 := Lib.hid ho3; have h11 : L3.length ≤ 1000 := (by rw [HL.out, HR.out] at h2; simp only [List.length_singleton] at h2; omega); have HBB := Lib.hid (HBX.out.trans hb3); have hQ3 := Lib.hid (And.intro ((hb3.cell hb).trans hQ2.out.1) ((hb3.cell hb).trans hQ2.out.2)))
      | (refine stepPt w1 _ _ (by rfl) w.heap.size _ L (by rfl) HO2.out (w.alloc (.cells #[.int .i64 x, .int .i64 y] 33)).drew.heap.size (some ⟨w.heap.size, 0, none⟩) 1 1 [(x, y)] (by rfl) (by rfl) HX3.out HL63 HW2 ?_; intro A3 c3 L3 w3 hL3 h2 h3 ho3 hb3; have HL3 : Hid (jts L3 = rgS l) := Lib.hid (by rw [hL3.out, HL.out]; exact HT.out.symm); have HO3 := Lib.hid ho3; have h11 : L3.length ≤ 1000 := (by rw [HL.out, HR.out] at h2; simp only [List.length_singleton] at h2; omega); have HBB := Lib.hid (HBY.out.trans hb3); have hQ3 := Lib.hid (And.intro ((hb3.cell hb).trans hQ.out.1) ((hb3.cell hb).trans hQ.out.2))) | fail)
    all_goals
      go_wp2_with (first
        | (go_at_call 77; refine (jointsOf_any A3 L3.length c3 _).mono ?_; rintro e w4 ⟨rfl, rfl⟩)
        | (go_at_call 76; refine (collect_any w3.heap.size c3 A3 L3 _ w3.heap.size (Boxed.new w3 _ _) ((HO3.out.sees elPoint).alloc (Nat.le_refl _) _) (by simp) h11).mono ?_; rintro e w5 ⟨v, rfl, ho5, hb5⟩; obtain ⟨L5, hL5⟩ : ∃ L5, jts L3 = L5 := ⟨_, rfl⟩; rw [hL5] at ho5; obtain ⟨A5, c5, rfl, -, -⟩ := ho5.form; have HL5 : Hid (L5 = rgS l) := Lib.hid (by rw [← hL5]; exact HL3.out); have HO5 := Lib.hid (ho5.mono (C := w.heap.size) (by simp; exact Nat.le_trans HBB.out.size (by omega))); have HB5 := Lib.hid ((HBB.out.alloc HBB.out.size (.cells #[.slice A3 L3.length c3] 24)).trans (hb5.mono (by simp; exact Nat.le_trans HBB.out.size (by omega))))))
      have h9 : L5.length ≤ 1000 := by rw [HL5.out, rgS_len]; omega
      have HE5 : Hid (ErrAt a0 w5) := Lib.hid (HE.out.all HB5.out)
      cases hz : turnV true L5
      · have HN : Hid (isRg l = false) := Lib.hid (by rw [HZ.out, ← HL5.out]; exact hz)
        refine (meetInTurn_is A5 c5 true L5 _ (HO5.out.sees elSegment) h9 _ hz).mono ?_
        rintro e w6 ⟨rfl, hb6⟩
        have HE6 : ErrAt a0 w6 := HE5.out.all hb6
        have HB6 := Lib.hid (HB5.out.trans (hb6.mono HB5.out.size))
        unfold ErrAt at HE6
        clear hb6
        go_wp2
        go_region_with (fail)
        all_goals
          go_wp2
          go_ret2
          exact .inr ⟨HN.out, rfl, HB6.out.drew⟩
      · have HN : Hid (isRg l = true) := Lib.hid (by rw [HZ.out, ← HL5.out]; exact hz)
        refine (meetInTurn_is A5 c5 true L5 _ (HO5.out.sees elSegment) h9 _ hz).mono ?_
        rintro e w6 ⟨rfl, hb6⟩
        have HB6 := Lib.hid (HB5.out.trans (hb6.mono HB5.out.size))
        have HO6 := Lib.hid (HO5.out.belowAll hb6)
        clear hb6
        go_wp2
        go_ret2
        exact .inl ⟨HN.out, A5, c5, L5, HL5, rfl, HO6.out, HB6.out⟩
end Go.Proofs.YtbnjaaegbmhopaaGreatDoor
