/- Texts of this seat, one behind the other. -/
import Derived.Test.YtkeljibnjpinlaaDoorB11
import Derived.Test.YtkeljibnjpinlaaDoorB5
import Derived.Test.YtkeljibnjpinlaaDoorB4
/- joinRing of package impl: the segments of a ring, or the sentinel. -/
namespace Go.Proofs.YtkeljibnjpinlaaDoor
open Go.ChangeShapes Go.WideShapes Go.ChangeAt Go.RowKit
set_option linter.unusedVariables false

/-- The variable errNoRing holds a pointer to an error of errors.New's make. -/
def ErrAt (a0 : Addr) (w : World) : Prop := w.cell? ⟨0, 0, none⟩ = some (.iface 153 (.pointer (some a0)))
section
variable {a0 : Addr} {w w' : World}
theorem ErrAt.lt (h : ErrAt a0 w) : 0 < w.heap.size := World.block_lt_of_cell? _ _ h
theorem ErrAt.below {B : Nat} (h : ErrAt a0 w) (hb : Below B w w') (hB : 0 < B) : ErrAt a0 w' := (hb.cell (p := ⟨0, 0, none⟩) hB).trans h
theorem ErrAt.all (h : ErrAt a0 w) (hb : Below w.heap.size w w') : ErrAt a0 w' := h.below hb h.lt
theorem ErrAt.drew (h : ErrAt a0 w) : ErrAt a0 w.drew := h
theorem ErrAt.alloc (h : ErrAt a0 w) (o : Obj) : ErrAt a0 (w.alloc o) := h.all ((Below.refl _ w).alloc (Nat.le_refl _) o)
end
set_option maxRecDepth 100000 in
set_option maxHeartbeats 1000000 in
theorem collect_any (Bx c1 : Nat) (A1 : Option Addr) (l : List (Int × Int)) (w : World) (M : Nat) (bA : Boxed w Bx 24 (.slice A1 l.length c1)) (hs : SeesE 2 encPoint w M A1 l) (hM : M ≤ w.heap.size) (hl : l.length ≤ 1000) :
    Calls Tryd.prog 55 #[.func (.func 77) #[] #[.pointer (some ⟨Bx, 0, none⟩)]] w fun e w' => ∃ v, e = .returned v ∧ OwnE 4 encSegment w' w.heap.size 60 v (jts l) ∧ Below w.heap.size w w' := by
  have HS := Lib.hid hs; have HA := Lib.hid bA
  clear hs bA
  go_enter Tryd.func55, Tryd.ntmps55
  go_wp2_with (go_at_call 76; refine (appendSeq_any Bx M w.heap.size c1 A1 l _ _ HA.out HS.out hM (Nat.le_refl _) hl (OwnE.nil _ _ _)).mono ?_; rintro e w2 ⟨v, rfl, ho2, hB2⟩)
  go_ret
  exact ⟨v, rfl, ho2, hB2⟩
/-- What joinRing gives. -/
def JoinOf (a0 : Addr) (l : List (Int × Int)) (w : World) (e : Ending) (w' : World) : Prop :=
  (isRg l = true ∧ ∃ A c L, Hid (L = rgS l) ∧ e = .returned (.tuple #[.slice A L.length c, .nilIface]) ∧ OwnE 4 encSegment w' w.heap.size 60 (.slice A L.length c) L ∧ Below w.heap.size w w') ∨
  (isRg l = false ∧ e = .returned (.tuple #[.slice none 0 0, .iface 153 (.pointer (some a0))]) ∧ Below w.heap.size w w')
set_option maxRecDepth 100000 in
set_option maxHeartbeats 1000000 in
theorem joinRing_any (a0 : Addr) (A : Option Addr) (c : Nat) (l : List (Int × Int)) (w : World) (hE : ErrAt a0 w) (hs : SeesE 2 encPoint w w.heap.size A l) (hl : l.length ≤ 274877906944) (hlc : l.length ≤ c) (hc : (c : Int) ≤ 9223372036854775807) :
    Calls Tryd.prog 34 #[.slice A l.length c] w (JoinOf a0 l w) := by
  have HS := Lib.hid hs; clear hs
  have HE := Lib.hid hE
  go_enter Tryd.func34, Tryd.ntmps34
  cases hin : inB l.length 3 10
  · have HN : Hid (isRg l = false) := Lib.hid (by rw [isRg_turn, hin]; rfl)
    have hE1 : w.drew.cell? ⟨0, 0, none⟩ = some (.iface 153 (.pointer (some a0))) := hE.drew
    unfold ErrAt at hE
    go_wp2_with (go_at_call 37; refine (in_is _ _ _ _ _ hin).mono ?_; rintro e w1 ⟨rfl, rfl⟩)
    go_region_with (fail)
    all_goals
      go_wp2
      go_ret2
      exact .inr ⟨HN.out, rfl, (Below.refl _ w).drew⟩
  · have h310 : 3 ≤ l.length ∧ l.length ≤ 10 := by simp only [inB, decide_eq_true_eq] at hin; omega
    obtain ⟨⟨x, y⟩, hx⟩ : ∃ p, l[0]? = some p := ⟨_, List.getElem?_eq_getElem (by omega)⟩
    obtain ⟨b, off, rfl, hb, -⟩ := HS.out 0 _ hx
    obtain ⟨k0', k1'⟩ := cellsPoint HS.out hx
    have k0 : w.cell? ⟨b, off, none⟩ = some (.int .i64 x) := by simpa using k0'
    have k1 : w.cell? ⟨b, off + 1, none⟩ = some (.int .i64 y) := by simpa using k1'
    clear k0' k1'
    have d0 : (w.alloc (.cells #[.int .i64 x, .int .i64 y] 33)).drew.cell? ⟨b, off, none⟩ = some (.int .i64 x) := (((Below.refl w.heap.size w).alloc (Nat.le_refl _) _).cell (p := ⟨b, off, none⟩) hb).trans k0
    have d1 : (w.alloc (.cells #[.int .i64 x, .int .i64 y] 33)).drew.cell? ⟨b, off + 1, none⟩ = some (.int .i64 y) := (((Below.refl w.heap.size w).alloc (Nat.le_refl _) _).cell (p := ⟨b, off + 1, none⟩) hb).trans k1
    have e0 : w.drew.cell? ⟨b, off, none⟩ = some (.int .i64 x) := k0
    have e1 : w.drew.cell? ⟨b, off + 1, none⟩ = some (.int .i64 y) := k1
    have D0 := Lib.hid d0; have D1 := Lib.hid d1; have E0 := Lib.hid e0; have E1 := Lib.hid e1
    have HB1 : Hid (Below w.heap.size w (w.alloc (.cells #[.int .i64 x, .int .i64 y] 33)).drew) := Lib.hid (((Below.refl _ w).alloc (Nat.le_refl _) _).drew)
    have HS1 : Hid (SeesE 2 encPoint w.drew w.drew.heap.size (some ⟨b, off, none⟩) l) := Lib.hid HS.out.drew
    have HS2 : Hid (SeesE 2 encPoint (w.alloc (.cells #[.int .i64 x, .int .i64 y] 33)).drew (w.alloc (.cells #[.int .i64 x, .int .i64 y] 33)).drew.heap.size (some ⟨b, off, none⟩) l) := Lib.hid ((HS.out.below HB1.out).mono HB1.out.size)
    have HX2 : Hid (SeesE 2 encPoint (w.alloc (.cells #[.int .i64 x, .int .i64 y] 33)).drew (w.alloc (.cells #[.int .i64 x, .int .i64 y] 33)).drew.heap.size (some ⟨w.heap.size, 0, none⟩) [(x, y)]) := Lib.hid ((seesE_new elPoint w (x, y) #[.int .i64 x, .int .i64 y] 33 _ (by show _ < (w.alloc _).heap.size; simp) rfl).drew)
    have HT : Hid (rgS l = jts (rotV l 0 ++ [(x, y)])) := Lib.hid (by
      rw [rotV_zero, rgS]
      cases l with
      | nil => simp at hx
      | cons p t => simp at hx; rw [hx]; rfl)
    have HR : Hid ((rotV l 0).length = l.length) := Lib.hid (by rw [rotV_zero])
    have h9 : l.length ≤ 10 := h310.2
    have HZ : Hid (isRg l = turnV true (rgS l)) := Lib.hid (by rw [isRg_turn, hin, Bool.true_and])
    have i0 : (0 : Int) < (l.length : Int) := by omega
    have i1 : 0 < l.length := by omega
    clear d0 d1 e0 e1 hx h310
    go_wp2_with (go_at_call 37; refine (in_is _ _ _ _ _ hin).mono ?_; rintro e w1 ⟨rfl, rfl⟩)
    go_region_held3 (fun w' => w'.cell? ⟨b, off, none⟩ = some (.int .i64 x) ∧ w'.cell? ⟨b, off + 1, none⟩ = some (.int .i64 y)) (first | with_reducible exact ⟨k0, k1⟩ | with_reducible exact ⟨E0.out, E1.out⟩ | with_reducible exact ⟨D0.out, D1.out⟩ | with_reducible exact hQ.out | with_reducible exact hQ2.out | with_reducible exact hQ3.out) (first
      | (go_at_call 14; refine (rotateRing_any _ c l 0 _ HS1.out hl hlc hc rfl).mono ?_; rintro e w1 ⟨A1, c1, L, hL, rfl, ho1, hb1⟩; have HL := hL; have HO1 := Lib.hid (ho1.alloc (.cells #[.int .i64 x, .int .i64 y] 33)); have hw1 : w.heap.size ≤ w1.heap.size := hb1.size; have HW1 : w.heap.size ≤ (w1.alloc (.cells #[.int .i64 x, .int .i64 y] 33)).heap.size := Nat.le_trans hw1 (by simp); have HX1 := Lib.hid (seesE_new elPoint w1 (x, y) #[.int .i64 x, .int .i64 y] 33 (w1.heap.size + 1) (Nat.lt_succ_self _) rfl); have HL63 : L.length + [(x, y)].length ≤ 1099511627776 := (by rw [HL.out, HR.out]; show l.length + 1 ≤ _; omega); have HBX := Lib.hid (((Below.refl _ w).drew.trans hb1).alloc hw1 (.cells #[.int .i64 x, .int .i64 y] 33)); have hQ := Lib.hid (And.intro ((hb1.cell (World.block_lt_of_cell? _ _ E0.out)).trans E0.out) ((hb1.cell (World.block_lt_of_cell? _ _ E1.out)).trans E1.out)); have hQ2 := Lib.hid (And.intro ((((Below.refl w1.heap.size w1).alloc (Nat.le_refl _) (.cells #[.int .i64 x, .int .i64 y] 33)).cell (World.block_lt_of_cell? _ _ hQ.out.1)).trans hQ.out.1) ((((Below.refl w1.heap.size w1).alloc (Nat.le_refl _) (.cells #[.int .i64 x, .int .i64 y] 33)).cell (World.block_lt_of_cell? _ _ hQ.out.2)).trans hQ.out.2)))
      | (go_at_call 14; refine (rotateRing_any _ c l 0 _ HS2.out hl hlc hc rfl).mono ?_; rintro e w1 ⟨A1, c1, L, hL, rfl, ho1, hb1⟩; have HL := hL; have HO2 := Lib.hid (ho1.mono HB1.out.size); have HW2 : w.heap.size ≤ w1.heap.size := Nat.le_trans HB1.out.size hb1.size; have HX3 := Lib.hid (HX2.out.below hb1); have HL63 : L.length + [(x, y)].length ≤ 1099511627776 := (by rw [HL.out, HR.out]; show l.length + 1 ≤ _; omega); have HBY := Lib.hid (HB1.out.trans (hb1.mono HB1.out.size)); have hQ := Lib.hid (And.intro ((hb1.cell (World.block_lt_of_cell? _ _ D0.out)).trans D0.out) ((hb1.cell (World.block_lt_of_cell? _ _ D1.out)).trans D1.out)))
      | (refine stepPt (w1.alloc (.cells #[.int .i64 x, .int .i64 y] 33)) _ _ (by rfl) w.heap.size _ L (by rfl) HO1.out (w1.heap.size + 1) (some ⟨w1.heap.size, 0, none⟩) 1 1 [(x, y)] (by rfl) (by rfl) HX1.out HL63 HW1 ?_; intro A3 c3 L3 w3 hL3 h2 h3 ho3 hb3; have HL3 : Hid (jts L3 = rgS l) := Lib.hid (by rw [hL3.out, HL.out]; exact HT.out.symm); have HO3 := Lib.hid ho3; have h11 : L3.length ≤ 1000 := (by rw [HL.out, HR.out] at h2; simp only [List.length_singleton] at h2; omega); have HBB := Lib.hid (HBX.out.trans hb3); have hQ3 := Lib.hid (And.intro ((hb3.cell hb).trans hQ2.out.1) ((hb3.cell hb).trans hQ2.out.2)))
      | (refine stepPt w1 _ _ (by rfl) w.heap.size _ L (by rfl) HO2.out (w.alloc (.cells #[.int .i64 x, .int .i64 y] 33)).drew.heap.size (some ⟨w.heap.size, 0, none⟩) 1 1 [(x, y)] (by rfl) (by rfl) HX3.out HL63 HW2 ?_; intro A3 c3 L3 w3 hL3 h2 h3 ho3 hb3; have HL3 : Hid (jts L3 = rgS l) := Lib.hid (by rw [hL3.out, HL.out]; exact HT.out.symm); have HO3 := Lib.hid ho3; have h11 : L3.length ≤ 1000 := (by rw [HL.out, HR.out] at h2; simp only [List.length_singleton] at h2; omega); have HBB := Lib.hid (HBY.out.trans hb3); have hQ3 := Lib.hid (And.intro ((hb3.cell hb).trans hQ.out.1) ((hb3.cell hb).trans hQ.out.2))) | fail)
    all_goals
      go_wp2_with (first
        | (go_at_call 56; refine (jointsOf_any A3 L3.length c3 _).mono ?_; rintro e w4 ⟨rfl, rfl⟩)
        | (go_at_call 55; refine (collect_any w3.heap.size c3 A3 L3 _ w3.heap.size (Boxed.new w3 _ _) ((HO3.out.sees elPoint).alloc (Nat.le_refl _) _) (by simp) h11).mono ?_; rintro e w5 ⟨v, rfl, ho5, hb5⟩; obtain ⟨L5, hL5⟩ : ∃ L5, jts L3 = L5 := ⟨_, rfl⟩; rw [hL5] at ho5; obtain ⟨A5, c5, rfl, -, -⟩ := ho5.form; have HL5 : Hid (L5 = rgS l) := Lib.hid (by rw [← hL5]; exact HL3.out); have HO5 := Lib.hid (ho5.mono (C := w.heap.size) (by simp; exact Nat.le_trans HBB.out.size (by omega))); have HB5 := Lib.hid ((HBB.out.alloc HBB.out.size (.cells #[.slice A3 L3.length c3] 24)).trans (hb5.mono (by simp; exact Nat.le_trans HBB.out.size (by omega))))))
      have h9 : L5.length ≤ 1000 := by rw [HL5.out, rgS_len]; omega
      have HE5 : Hid (ErrAt a0 w5) := Lib.hid (HE.out.all HB5.out)
      cases hz : turnV true L5
      · have HN : Hid (isRg l = false) := Lib.hid (by rw [HZ.out, ← HL5.out]; exact hz)
        refine (meetInTurn_is A5 c5 true L5 _ (HO5.out.sees elSegment) h9 _ hz).mono ?_
        rintro e w6 ⟨rfl, hb6⟩
        have HE6 : ErrAt a0 w6 := HE5.out.all hb6
        have HB6 := Lib.hid (HB5.out.trans (hb6.mono HB5.out.size))
        unfold ErrAt at HE6
        clear hb6
        go_wp2
        go_region_with (fail)
        all_goals
          go_wp2
          go_ret2
          exact .inr ⟨HN.out, rfl, HB6.out.drew⟩
      · have HN : Hid (isRg l = true) := Lib.hid (by rw [HZ.out, ← HL5.out]; exact hz)
        refine (meetInTurn_is A5 c5 true L5 _ (HO5.out.sees elSegment) h9 _ hz).mono ?_
        rintro e w6 ⟨rfl, hb6⟩
        have HB6 := Lib.hid (HB5.out.trans (hb6.mono HB5.out.size))
        have HO6 := Lib.hid (HO5.out.belowAll hb6)
        clear hb6
        go_wp2
        go_ret2
        exact .inl ⟨HN.out, A5, c5, L5, HL5, rfl, HO6.out, HB6.out⟩
end Go.Proofs.YtkeljibnjpinlaaDoor

/- IsRing, TwiceArea and RingSegments of package impl. -/
namespace Go.Proofs.YtkeljibnjpinlaaDoor
open Go.ChangeShapes Go.WideShapes Go.ChangeAt Go.RowKit
set_option linter.unusedVariables false

theorem joinRing_yes (a0 : Addr) (A : Option Addr) (c : Nat) (l : List (Int × Int)) (w : World) (hE : ErrAt a0 w) (hs : SeesE 2 encPoint w w.heap.size A l) (hl : l.length ≤ 274877906944) (hlc : l.length ≤ c) (hc : (c : Int) ≤ 9223372036854775807) (hz : isRg l = true) :
    Calls Tryd.prog 34 #[.slice A l.length c] w fun e w' => ∃ A c L, Hid (L = rgS l) ∧ e = .returned (.tuple #[.slice A L.length c, .nilIface]) ∧ OwnE 4 encSegment w' w.heap.size 60 (.slice A L.length c) L ∧ Below w.heap.size w w' :=
  (joinRing_any a0 A c l w hE hs hl hlc hc).mono fun e w' h => h.elim (fun h => h.2) (fun h => absurd (hz.symm.trans h.1) (by decide))
theorem joinRing_no (a0 : Addr) (A : Option Addr) (c : Nat) (l : List (Int × Int)) (w : World) (hE : ErrAt a0 w) (hs : SeesE 2 encPoint w w.heap.size A l) (hl : l.length ≤ 274877906944) (hlc : l.length ≤ c) (hc : (c : Int) ≤ 9223372036854775807) (hz : isRg l = false) :
    Calls Tryd.prog 34 #[.slice A l.length c] w fun e w' => e = .returned (.tuple #[.slice none 0 0, .iface 153 (.pointer (some a0))]) ∧ Below w.heap.size w w' :=
  (joinRing_any a0 A c l w hE hs hl hlc hc).mono fun e w' h => h.elim (fun h => absurd (hz.symm.trans h.1) (by decide)) (fun h => h.2)
set_option maxRecDepth 100000 in
set_option maxHeartbeats 1000000 in
theorem isRing_is (a0 : Addr) (A : Option Addr) (c : Nat) (l : List (Int × Int)) (w : World) (hE : ErrAt a0 w) (hs : SeesE 2 encPoint w w.heap.size A l) (hl : l.length ≤ 274877906944) (hlc : l.length ≤ c) (hc : (c : Int) ≤ 9223372036854775807) (z : Bool) (hz : isRg l = z) :
    Calls Tryd.prog 11 #[.slice A l.length c] w fun e w' => e = .returned (.bool z) ∧ Below w.heap.size w w' := by
  have HE := Lib.hid hE
  have HS := Lib.hid hs
  clear hE hs
  go_enter Tryd.func11, Tryd.ntmps11
  cases z
  · go_wp2_with fail
    refine (joinRing_no a0 A c l _ HE.out HS.out hl hlc hc hz).mono ?_
    rintro e w1 ⟨rfl, hb1⟩
    have hE1 : ErrAt a0 w1 := HE.out.all hb1
    unfold ErrAt at hE1
    have HB1 := Lib.hid hb1
    clear hb1
    go_wp2_with (go_at_call 35; refine (is_same a0 _).mono ?_; rintro e w2 ⟨rfl, rfl⟩)
    go_ret
    exact ⟨rfl, HB1.out⟩
  · go_wp2_with fail
    refine (joinRing_yes a0 A c l _ HE.out HS.out hl hlc hc hz).mono ?_
    rintro e w1 ⟨A1, c1, L, hL, rfl, ho1, hb1⟩
    have hE1 : ErrAt a0 w1 := HE.out.all hb1
    unfold ErrAt at hE1
    have HB1 := Lib.hid hb1; have HO1 := Lib.hid ho1; have HL := hL
    clear hb1 ho1 hL
    go_wp2_with (go_at_call 35; refine (is_nil a0 _).mono ?_; rintro e w2 ⟨rfl, rfl⟩)
    go_ret
    exact ⟨rfl, HB1.out⟩
/-- The ring's segments, or none. -/
def rsV (l : List (Int × Int)) : List (Int × Int × Int × Int) := if isRg l = true then rgS l else []
theorem rsV_len (l : List (Int × Int)) : (rsV l).length ≤ l.length := by
  unfold rsV; split
  · rw [rgS_len]; exact Nat.le_refl _
  · simp
set_option maxRecDepth 100000 in
set_option maxHeartbeats 1000000 in
theorem ringSegments_any (a0 : Addr) (A : Option Addr) (c : Nat) (l : List (Int × Int)) (w : World) (hE : ErrAt a0 w) (hs : SeesE 2 encPoint w w.heap.size A l) (hl : l.length ≤ 274877906944) (hlc : l.length ≤ c) (hc : (c : Int) ≤ 9223372036854775807) :
    Calls Tryd.prog 18 #[.slice A l.length c] w (GivesE 4 encSegment 60 (rsV l) w) := by
  have HE := Lib.hid hE
  have HS := Lib.hid hs
  clear hE hs
  cases hz : isRg l
  · have HV : Hid (rsV l = []) := Lib.hid (by unfold rsV; rw [hz]; rfl)
    go_enter Tryd.func18, Tryd.ntmps18
    go_wp2_with fail
    refine (joinRing_no a0 A c l _ HE.out HS.out hl hlc hc hz).mono ?_
    rintro e w1 ⟨rfl, hb1⟩
    have hE1 : ErrAt a0 w1 := HE.out.all hb1
    unfold ErrAt at hE1
    have HB1 := Lib.hid hb1
    clear hb1
    go_wp2_with (go_at_call 35; refine (is_same a0 _).mono ?_; rintro e w2 ⟨rfl, rfl⟩)
    go_ret
    exact ⟨_, _, [], Lib.hid HV.out.symm, rfl, (OwnE.lit w2 w2.heap.size 60 (Nat.le_refl _)).mono HB1.out.size, HB1.out.alloc HB1.out.size _⟩
  · have HV : Hid (rsV l = rgS l) := Lib.hid (by unfold rsV; rw [hz]; rfl)
    go_enter Tryd.func18, Tryd.ntmps18
    go_wp2_with fail
    refine (joinRing_yes a0 A c l _ HE.out HS.out hl hlc hc hz).mono ?_
    rintro e w1 ⟨A1, c1, L, hL, rfl, ho1, hb1⟩
    have hE1 : ErrAt a0 w1 := HE.out.all hb1
    unfold ErrAt at hE1
    have HB1 := Lib.hid hb1; have HO1 := Lib.hid ho1; have HL := hL
    clear hb1 ho1 hL
    go_wp2_with (go_at_call 35; refine (is_nil a0 _).mono ?_; rintro e w2 ⟨rfl, rfl⟩)
    go_ret
    exact ⟨A1, c1, L, Lib.hid (by rw [HL.out, HV.out]), rfl, HO1.out, HB1.out⟩
/-- The area's sum. -/
def arV (S : List (Int × Int × Int × Int)) : Int := (S.map arS).sum
theorem arV_take {S : List (Int × Int × Int × Int)} {j : Nat} {x : Int × Int × Int × Int} (h : S[j]? = some x) : arV (S.take j) + arS x = arV (S.take (j + 1)) := by
  unfold arV
  rw [List.take_add_one, h, List.map_append, List.sum_append]
  simp
theorem arS_bd {x : Int × Int × Int × Int} (h : sOk x = true) : (0 ≤ x.1 * x.2.2.2 ∧ x.1 * x.2.2.2 ≤ 40000) ∧ (0 ≤ x.2.1 * x.2.2.1 ∧ x.2.1 * x.2.2.1 ≤ 40000) := by
  obtain ⟨h1, h2, -⟩ := isS_at h
  exact ⟨⟨Int.mul_nonneg h1.1 h2.2.2.1, Int.le_trans (Int.mul_le_mul h1.2.1 h2.2.2.2 h2.2.2.1 (by omega)) (by omega)⟩, ⟨Int.mul_nonneg h1.2.2.1 h2.1, Int.le_trans (Int.mul_le_mul h1.2.2.2 h2.2.1 h2.1 (by omega)) (by omega)⟩⟩
theorem arV_bd {S : List (Int × Int × Int × Int)} (h : ∀ x ∈ S, sOk x = true) : -(40000 * (S.length : Int)) ≤ arV S ∧ arV S ≤ 40000 * (S.length : Int) := by
  induction S with
  | nil => simp [arV]
  | cons x t ih =>
    have h1 := ih fun y hy => h y (List.mem_cons_of_mem _ hy)
    have h2 := arS_bd (h x List.mem_cons_self)
    have h3 : arV (x :: t) = arS x + arV t := by simp [arV]
    have h4 : arS x = x.1 * x.2.2.2 - x.2.1 * x.2.2.1 := rfl
    rw [List.length_cons, h3, h4]
    omega
theorem arV_bd_take {S : List (Int × Int × Int × Int)} (h : ∀ x ∈ S, sOk x = true) (hn : S.length ≤ 10) (j : Nat) : -400000 ≤ arV (S.take j) ∧ arV (S.take j) ≤ 400000 := by
  have := arV_bd (S := S.take j) (fun x hx => h x (List.mem_of_mem_take hx))
  have hl : (S.take j).length ≤ 10 := by rw [List.length_take]; omega
  omega
theorem twA_yes {l : List (Int × Int)} (h : isRg l = true) : twA l = arV (rgS l) := by unfold twA; rw [if_pos h]; rfl
theorem twA_no {l : List (Int × Int)} (h : isRg l = false) : twA l = 0 := by unfold twA; rw [h]; rfl
set_option maxRecDepth 100000 in
set_option maxHeartbeats 1000000 in
theorem twiceArea_is (a0 : Addr) (A : Option Addr) (c : Nat) (l : List (Int × Int)) (w : World) (hE : ErrAt a0 w) (hs : SeesE 2 encPoint w w.heap.size A l) (hl : l.length ≤ 274877906944) (hlc : l.length ≤ c) (hc : (c : Int) ≤ 9223372036854775807) (z : Int) (hz : twA l = z) :
    Calls Tryd.prog 12 #[.slice A l.length c] w fun e w' => e = .returned (.int .i64 z) ∧ Below w.heap.size w w' := by
  have HE := Lib.hid hE
  have HS := Lib.hid hs
  have HV := Lib.hid hz
  clear hE hs hz
  cases hz : isRg l
  · obtain rfl : z = 0 := by rw [← HV.out, twA_no hz]
    go_enter Tryd.func12, Tryd.ntmps12
    go_wp2_with fail
    refine (joinRing_no a0 A c l _ HE.out HS.out hl hlc hc hz).mono ?_
    rintro e w1 ⟨rfl, hb1⟩
    have hE1 : ErrAt a0 w1 := HE.out.all hb1
    unfold ErrAt at hE1
    have HB1 := Lib.hid hb1
    clear hb1
    go_wp2_with (go_at_call 35; refine (is_same a0 _).mono ?_; rintro e w2 ⟨rfl, rfl⟩)
    go_ret
    exact ⟨rfl, HB1.out⟩
  · have HOK : Hid ((∀ x ∈ rgS l, sOk x = true) ∧ (rgS l).length ≤ 10) := Lib.hid ⟨((isRg_iff l).1 hz).2.1, by rw [rgS_len]; exact ((isRg_iff l).1 hz).1.2⟩
    have HW : Hid (arV (rgS l) = z) := Lib.hid (by rw [← twA_yes hz]; exact HV.out)
    go_enter Tryd.func12, Tryd.ntmps12
    go_wp2_with fail
    refine (joinRing_yes a0 A c l _ HE.out HS.out hl hlc hc hz).mono ?_
    rintro e w1 ⟨A1, c1, L, hL, rfl, ho1, hb1⟩
    have hE1 : ErrAt a0 w1 := HE.out.all hb1
    unfold ErrAt at hE1
    have HB1 := Lib.hid hb1; have HO1 := Lib.hid ho1; have HL := hL
    clear hb1 ho1 hL
    go_wp2_with (go_at_call 35; refine (is_nil a0 _).mono ?_; rintro e w2 ⟨rfl, rfl⟩)
    have h10 : L.length ≤ 10 := by rw [HL.out]; exact HOK.out.2
    go_loopw [5, 18] (fun n i wr => ∃ j : Nat, j ≤ L.length ∧ n = .int .i64 (arV (L.take j)) ∧ i = .int .i64 j ∧ Hid (OwnE 4 encSegment wr w.heap.size 60 (.slice A1 L.length c1) L) ∧ Hid (Below w.heap.size w wr)) (fun _ i _ => L.length - (intOf i).toNat)
    case atStart => exact ⟨0, Nat.zero_le _, rfl, rfl, HO1, HB1⟩
    case round =>
      obtain ⟨j, hj, rfl, rfl, HO, HB⟩ := hrel
      clear HO1 HB1
      by_cases hlt : j < L.length
      · have hlt' : (j : Int) < (L.length : Int) := by omega
        obtain ⟨b, off, x, rfl, hbl, hx, -⟩ := (HO.out.sees elSegment).lt hlt
        obtain ⟨k0, k1, k2, k3⟩ := cells4 (HO.out.sees elSegment) hx
        have hx' : sOk x = true := HOK.out.1 x (by rw [← HL.out]; exact List.mem_of_getElem? hx)
        obtain ⟨⟨p0, p1⟩, q0, q1⟩ := arS_bd hx'
        obtain ⟨N, hN⟩ : ∃ N, arV (L.take j) = N := ⟨_, rfl⟩
        have hNb : -400000 ≤ N ∧ N ≤ 400000 := by rw [← hN]; exact arV_bd_take (by rw [HL.out]; exact HOK.out.1) h10 j
        have HT : Hid (N + (x.1 * x.2.2.2 - x.2.1 * x.2.2.1) = arV (L.take (j + 1))) := Lib.hid (by rw [← hN]; exact arV_take hx)
        rw [hN]
        clear hN hx hx'
        go_wp2
        go_roundw
        case rel => exact ⟨j + 1, by omega, by rw [← HT.out], by go_num, Lib.hid (HO.out.alloc _), Lib.hid (HB.out.alloc HB.out.size _)⟩
        case measure => simp [intOf]; omega
      · obtain rfl : j = L.length := by omega
        rw [List.take_length]
        go_wp2
        go_ret
        exact ⟨by rw [← HW.out, HL.out]; rfl, HB.out⟩
end Go.Proofs.YtkeljibnjpinlaaDoor

/- Lines: EqualLines and TurnLine, of package impl and of the model. -/
namespace Go.Proofs.YtkeljibnjpinlaaDoor
open Go.ChangeShapes Go.WideShapes Go.ChangeAt Go.RowKit
set_option linter.unusedVariables false

/-- Equal so far. -/
theorem eqPre_step {α : Type} {l m : List α} {j : Nat} (h : l.take j = m.take j) (hx : l[j]? = m[j]?) : l.take (j + 1) = m.take (j + 1) := by
  rw [List.take_add_one, List.take_add_one, h, hx]
theorem ne_of_get {α : Type} {l m : List α} {j : Nat} (h : l[j]? ≠ m[j]?) : l ≠ m := fun e => h (by rw [e])
theorem PtV_ne {a b c d : Int} (h : ¬ (a = c ∧ b = d)) : ((a, b) : Int × Int) ≠ (c, d) := fun e => h ⟨congrArg Prod.fst e, congrArg Prod.snd e⟩
def StRel (l : List (Int × Int)) (w : World) (v i : Value) (wr : World) : Prop :=
  ∃ (A : Option Addr) (c : Nat) (L : List (Int × Int)) (r : Nat), r ≤ l.length ∧ v = .slice A L.length c ∧ i = .int .i64 ((r : Int) - 1) ∧ Hid (L = l.reverse.take (l.length - r)) ∧ L.length = l.length - r ∧ OwnE 2 encPoint wr w.heap.size 33 (.slice A L.length c) L ∧ Below w.heap.size w wr
theorem st_step {l L L2 : List (Int × Int)} {m : Nat} {x : Int × Int} (hm : m + 1 ≤ l.length) (hL : L = l.reverse.take (l.length - (m + 1))) (h : L2 = L ++ [x]) (hx : l[m]? = some x) : L2 = l.reverse.take (l.length - m) := by
  have e : l.length - m = (l.length - (m + 1)) + 1 := by omega
  rw [h, hL, e, List.take_add_one, List.getElem?_reverse (by omega)]
  have e2 : l.length - 1 - (l.length - (m + 1)) = m := by omega
  rw [e2, hx]; rfl
end Go.Proofs.YtkeljibnjpinlaaDoor

/- Lines: slices.Reverse at a row of points of the call's own, and TurnLine of package impl. -/
namespace Go.Proofs.YtkeljibnjpinlaaDoor
open Go.ChangeShapes Go.WideShapes Go.ChangeAt Go.RowKit
set_option linter.unusedVariables false

/-- The first and the last k are turned round. -/
def RevAt {α : Type} (L : List α) (k : Nat) (L1 : List α) : Prop := L1.length = L.length ∧ ∀ m, m < L.length → L1[m]? = if m < k ∨ L.length ≤ m + k then L.reverse[m]? else L[m]?
theorem RevAt.zero {α : Type} (L : List α) : RevAt L 0 L := ⟨rfl, fun m hm => by rw [if_neg (by omega)]⟩
theorem RevAt.mid {α : Type} {L L1 : List α} {k : Nat} (h : RevAt L k L1) (hk : 2 * k < L.length) : L1[k]? = L[k]? ∧ L1[L.length - 1 - k]? = L[L.length - 1 - k]? :=
  ⟨by rw [h.2 k (by omega), if_neg (by omega)], by rw [h.2 _ (by omega), if_neg (by omega)]⟩
theorem RevAt.step {α : Type} {L L1 : List α} {k jn : Nat} {x y : α} (h : RevAt L k L1) (hk : k < jn) (hj : jn + k + 1 = L.length) (hx : L1[k]? = some x) (hy : L1[jn]? = some y) : RevAt L (k + 1) ((L1.set k y).set jn x) := by
  have ej : L.length - 1 - k = jn := by omega
  have h1 := h.mid (by omega)
  rw [ej] at h1
  refine ⟨by simp [h.1], fun m hm => ?_⟩
  rw [List.getElem?_set, List.getElem?_set]
  simp only [List.length_set]
  by_cases e1 : jn = m
  · subst e1
    rw [if_pos rfl, if_pos (by rw [h.1]; omega), if_pos (by omega), List.getElem?_reverse (by omega)]
    have : L.length - 1 - jn = k := by omega
    rw [this, ← h1.1, hx]
  · rw [if_neg e1]
    by_cases e2 : k = m
    · subst e2
      rw [if_pos rfl, if_pos (by rw [h.1]; omega), if_pos (by omega), List.getElem?_reverse (by omega), ej, ← h1.2, hy]
    · rw [if_neg e2, h.2 m hm]
      by_cases e3 : m < k ∨ L.length ≤ m + k
      · rw [if_pos e3, if_pos (by omega)]
      · rw [if_neg e3, if_neg (by omega)]
theorem RevAt.done {α : Type} {L L1 : List α} {k : Nat} (h : RevAt L k L1) (hk : L.length ≤ 2 * k + 1) : L1 = L.reverse := by
  apply List.ext_getElem?
  intro m
  by_cases hm : m < L.length
  · rw [h.2 m hm]
    by_cases e : m < k ∨ L.length ≤ m + k
    · rw [if_pos e]
    · rw [if_neg e, List.getElem?_reverse hm]
      have : L.length - 1 - m = m := by omega
      rw [this]
  · rw [List.getElem?_eq_none (by rw [h.1]; omega), List.getElem?_eq_none (by rw [List.length_reverse]; omega)]

def RvRel (g c : Nat) (L : List (Int × Int)) (w : World) (i j : Value) (wr : World) : Prop :=
  ∃ (k : Nat) (L1 : List (Int × Int)), 2 * k ≤ L.length ∧ i = .int .i64 (k : Int) ∧ j = .int .i64 ((L.length : Int) - 1 - k) ∧ Hid (RevAt L k L1) ∧ L1.length = L.length ∧ RowE 2 encPoint wr g 33 c L1 ∧ Below g w wr
set_option maxRecDepth 100000 in
theorem reverse_any (g c : Nat) (L : List (Int × Int)) (w : World) (h : RowE 2 encPoint w g 33 c L) (hl : L.length ≤ 1099511627776) :
    Calls Tryd.prog 54 #[.slice (some ⟨g, 0, none⟩) L.length c] w fun e w' => e = .returned (.tuple #[]) ∧ ∃ L1, Hid (L1 = L.reverse) ∧ L1.length = L.length ∧ RowE 2 encPoint w' g 33 c L1 ∧ Below g w w' := by
  have HR := Lib.hid h; clear h
  go_enter Tryd.func54, Tryd.ntmps54
  go_wp2
  go_loopw [2, 3] (fun i j wr => RvRel g c L w i j wr) (fun i _ _ => L.length - (intOf i).toNat)
  case atStart => exact ⟨0, L, by omega, rfl, by go_num, Lib.hid (RevAt.zero L), rfl, HR.out, Below.refl _ _⟩
  case round =>
    obtain ⟨k, L1, hk, rfl, rfl, hv, hn, hr, hb⟩ := hrel
    have HB := Lib.hid hb; clear hb
    by_cases hlt : 2 * k + 1 < L.length
    · obtain ⟨jn, hj⟩ : ∃ jn, jn + k + 1 = L.length := ⟨L.length - 1 - k, by omega⟩
      have e1 : (L.length : Int) - 1 - k = (jn : Int) := by omega
      rw [e1]
      have hkj : (k : Int) < (jn : Int) := by omega
      have hjl : (jn : Int) < (L.length : Int) := by omega
      have hkl : (k : Int) < (L.length : Int) := by omega
      obtain ⟨⟨x0, x1⟩, hx⟩ : ∃ x, L1[k]? = some x := ⟨_, List.getElem?_eq_getElem (by omega)⟩
      obtain ⟨⟨y0, y1⟩, hy⟩ : ∃ x, L1[jn]? = some x := ⟨_, List.getElem?_eq_getElem (by omega)⟩
      obtain ⟨k0, k1⟩ := rowCellsPoint hr hx
      obtain ⟨k2, k3⟩ := rowCellsPoint hr hy
      obtain ⟨f0, f1⟩ := rowFrozenPoint hr k
      obtain ⟨f2, f3⟩ := rowFrozenPoint hr jn
      have hrd : RowE 2 encPoint wr.drew g 33 c L1 := hr
      have hr1 := rowPoint_set hrd (j := k) (by omega) y0 y1
      have hy1 : (L1.set k (y0, y1))[jn]? = some (y0, y1) := by rw [List.getElem?_set, if_neg (by omega)]; exact hy
      obtain ⟨q2, q3⟩ := rowCellsPoint hr1 hy1
      have HV := Lib.hid hv; have HX := Lib.hid hx; have HY := Lib.hid hy
      have HR1 := Lib.hid hr1
      have HN := Lib.hid hn
      clear hv hx hy hr1 hrd hr hy1 hn
      go_wp2_with fail
      go_region_with (fail)
      all_goals
        go_wp2
        go_roundw
        case rel => exact ⟨k + 1, (L1.set k (y0, y1)).set jn (x0, x1), by omega, by go_num, by go_num, Lib.hid (HV.out.out.step (by omega) hj HX.out HY.out), by rw [List.length_set, List.length_set]; exact HN.out, rowPoint_set HR1.out (by have := HN.out; rw [List.length_set]; omega) x0 x1, ((((HB.out.setCell (p := ⟨g, k * 2, none⟩) (Nat.le_refl _) _).setCell (p := ⟨g, k * 2 + 1, none⟩) (Nat.le_refl _) _).setCell (p := ⟨g, jn * 2, none⟩) (Nat.le_refl _) _).setCell (p := ⟨g, jn * 2 + 1, none⟩) (Nat.le_refl _) _).drew⟩
        case measure => simp [intOf]; omega
    · have e1 : ¬ (k : Int) < (L.length : Int) - 1 - k := by omega
      go_wp2
      go_end0
      exact ⟨rfl, L1, Lib.hid (hv.out.done (by omega)), hn, hr, HB.out⟩
theorem reverse0_any (A : Option Addr) (c : Nat) (w : World) :
    Calls Tryd.prog 54 #[.slice A 0 c] w fun e w' => e = .returned (.tuple #[]) ∧ w = w' := by
  go_enter Tryd.func54, Tryd.ntmps54
  go_wp2
  go_loopw [2, 3] (fun i j wr => i = .int .i64 0 ∧ j = .int .i64 (-1) ∧ w = wr) (fun _ _ _ => 0)
  case atStart => exact ⟨rfl, rfl, rfl⟩
  case round =>
    obtain ⟨rfl, rfl, rfl⟩ := hrel
    go_wp2
    go_end0
    exact ⟨rfl, rfl⟩
set_option maxRecDepth 100000 in
theorem turnLine_any (A : Option Addr) (c : Nat) (l : List (Int × Int)) (w : World) (hs : SeesE 2 encPoint w w.heap.size A l) (hl : l.length ≤ 1099511627776) :
    Calls Tryd.prog 33 #[.slice A l.length c] w (GivesE 2 encPoint 33 l.reverse w) := by
  have HS := Lib.hid hs; clear hs
  go_enter Tryd.func33, Tryd.ntmps33
  go_wp2_with (at_builtin; refine appPoint _ rfl _ _ rfl w.heap.size _ [] rfl (OwnE.lit w w.heap.size 33 (Nat.le_refl _)) w.heap.size A l.length c l rfl rfl (HS.out.alloc (Nat.le_refl _) _) (by simp; omega) (by simp) ?_; intro A1 c1 L w1 hL h1 h2 ho hb)
  have hn : L.length = l.length := by simp at h1 h2; omega
  have HL : Hid (L = l) := Lib.hid (by rw [hL.out]; rfl)
  have HO := Lib.hid ho
  have HB := Lib.hid (((Below.refl w.heap.size w).alloc (Nat.le_refl _) (.cells #[] 33)).trans hb)
  clear h1 h2 ho hb hL
  by_cases h0 : L.length = 0
  · rw [h0]
    refine (reverse0_any A1 c1 w1).mono ?_
    rintro e w2 ⟨rfl, rfl⟩
    go_wp2
    go_ret
    have e0 : L = [] := List.length_eq_zero_iff.1 h0
    have ho := HO.out
    rw [e0] at ho
    exact ⟨A1, c1, [], Lib.hid (by rw [← HL.out, e0]; rfl), rfl, ho, HB.out⟩
  · obtain ⟨g, rfl, hBg, -, hr⟩ := HO.out.row (by omega)
    refine (reverse_any g c1 L w1 hr (by omega)).mono ?_
    rintro e w2 ⟨rfl, L1, hL1, hn1, hr1, hb1⟩
    have HR := Lib.hid hr1; have HB1 := Lib.hid hb1
    clear hr hr1 hb1
    go_wp2
    go_ret
    exact ⟨_, c1, L1, Lib.hid (by rw [hL1.out, HL.out]), by rw [hn1, hn]; rfl, HR.out.own elPoint hBg, HB.out.trans (HB1.out.mono hBg)⟩
end Go.Proofs.YtkeljibnjpinlaaDoor

/- TurnRing of package impl. -/
namespace Go.Proofs.YtkeljibnjpinlaaDoor
open Go.ChangeShapes Go.WideShapes Go.ChangeAt Go.RowKit
set_option linter.unusedVariables false

theorem len_one_more {α : Type} {L t : List α} {x : α} {n : Nat} (h : L = t.reverse) (h1 : t.length = n) (h2 : n ≤ 1099511627775) : [x].length + L.length ≤ 1099511627776 := by
  subst h; rw [List.length_reverse, h1]; simp; omega
set_option maxRecDepth 100000 in
set_option maxHeartbeats 1000000 in
theorem turnLine_at (n : Nat) (A : Option Addr) (c : Nat) (l : List (Int × Int)) (w : World) (e : l.length = n) (hs : SeesE 2 encPoint w w.heap.size A l) (hl : n ≤ 1099511627776) :
    Calls Tryd.prog 33 #[.slice A n c] w (GivesE 2 encPoint 33 l.reverse w) := by
  subst e; exact turnLine_any A c l w hs hl
set_option maxRecDepth 100000 in
set_option maxHeartbeats 1000000 in
theorem turnRing_any (A : Option Addr) (c : Nat) (l : List (Int × Int)) (w : World) (hs : SeesE 2 encPoint w w.heap.size A l) (hl : l.length ≤ 274877906944) (hlc : l.length ≤ c) (hc : (c : Int) ≤ 9223372036854775807) :
    Calls Tryd.prog 10 #[.slice A l.length c] w (GivesE 2 encPoint 33 (trn l) w) := by
  have HS := Lib.hid hs; clear hs
  go_enter Tryd.func10, Tryd.ntmps10
  match l with
  | [] =>
    go_wp2
    go_ret
    exact ⟨_, _, [], Lib.hid rfl, rfl, OwnE.lit _ _ _ (Nat.le_refl _), (Below.refl _ w).alloc (Nat.le_refl _) _⟩
  | (x, y) :: t =>
    have hx : ((x, y) :: t)[0]? = some (x, y) := rfl
    obtain ⟨b, off, rfl, hb, -⟩ := HS.out 0 _ hx
    obtain ⟨k0', k1'⟩ := cellsPoint HS.out hx
    have k0 : w.cell? ⟨b, off, none⟩ = some (.int .i64 x) := by simpa using k0'
    have k1 : w.cell? ⟨b, off + 1, none⟩ = some (.int .i64 y) := by simpa using k1'
    clear k0' k1'
    have HE : Hid (((x, y) :: t).length = t.length + 1) := Lib.hid rfl
    obtain ⟨n, hn⟩ : ∃ n, ((x, y) :: t).length = n := ⟨_, rfl⟩
    have hn1 : 0 < n := by rw [← hn]; simp
    have HN := Lib.hid hn
    rw [hn] at hl hlc ⊢
    clear hn
    have b0 : ¬ ((n : Int) = 0) := by omega
    have b1 : ¬ ((n : Int) < 1) := by omega
    have b2 : (1 : Int) ≤ (n : Int) := by omega
    have HO0 : Hid (OwnE 2 encPoint (w.alloc (.cells #[.int .i64 x, .int .i64 y] 33)).drew w.heap.size 33 (.slice (some ⟨w.heap.size, 0, none⟩) 1 1) [(x, y)]) := Lib.hid (World.ownsRow_lit (base := w.heap.size) (e := 33) (size := 2) w #[.int .i64 x, .int .i64 y] 1 (Nat.le_refl _) (by decide) rfl)
    have HR : Hid ([(x, y)] ++ t.reverse = trn ((x, y) :: t)) := Lib.hid rfl
    have HN1 : Hid (t.length = n - 1) := Lib.hid (by have := HN.out; rw [HE.out] at this; omega)
    have d0 : (w.alloc (.cells #[.int .i64 x, .int .i64 y] 33)).drew.cell? ⟨b, off, none⟩ = some (.int .i64 x) := (((Below.refl w.heap.size w).alloc (Nat.le_refl _) _).cell (p := ⟨b, off, none⟩) hb).trans k0
    have d1 : (w.alloc (.cells #[.int .i64 x, .int .i64 y] 33)).drew.cell? ⟨b, off + 1, none⟩ = some (.int .i64 y) := (((Below.refl w.heap.size w).alloc (Nat.le_refl _) _).cell (p := ⟨b, off + 1, none⟩) hb).trans k1
    have e0 : w.drew.cell? ⟨b, off, none⟩ = some (.int .i64 x) := k0
    have e1 : w.drew.cell? ⟨b, off + 1, none⟩ = some (.int .i64 y) := k1
    have hn9 : n - 1 ≤ 1099511627775 := by omega
    have D0 := Lib.hid d0; have D1 := Lib.hid d1; have E0 := Lib.hid e0; have E1 := Lib.hid e1
    clear d0 d1 e0 e1
    by_cases hc1 : c = 1
    · subst hc1
      obtain rfl : n = 1 := by omega
      have HZ1 : Hid (t.length = 0) := Lib.hid (by have := HN1.out; omega)
      clear hn9
      have hn9 : 0 ≤ 1099511627775 := by omega
      have HT0 : Hid (SeesE 2 encPoint w w.heap.size (some ⟨b, off, none⟩) t) := Lib.hid (show SeesE 2 encPoint w w.heap.size (some ⟨b, off, none⟩) t from by rw [show t = [] from List.length_eq_zero_iff.1 HZ1.out]; exact SeesE.nil)
      have HT1 : Hid (SeesE 2 encPoint w.drew w.drew.heap.size (some ⟨b, off, none⟩) t) := Lib.hid HT0.out.drew
      have HT2 : Hid (SeesE 2 encPoint (w.alloc (.cells #[.int .i64 x, .int .i64 y] 33)).drew (w.alloc (.cells #[.int .i64 x, .int .i64 y] 33)).drew.heap.size (some ⟨b, off, none⟩) t) := Lib.hid ((HT0.out.alloc (Nat.le_refl _) _).drew.mono (by show _ ≤ (w.alloc _).heap.size; simp))
      go_wp2
      go_region_held3 (fun w' => w'.cell? ⟨b, off, none⟩ = some (.int .i64 x) ∧ w'.cell? ⟨b, off + 1, none⟩ = some (.int .i64 y)) (first | with_reducible exact ⟨k0, k1⟩ | with_reducible exact ⟨E0.out, E1.out⟩ | with_reducible exact ⟨D0.out, D1.out⟩ | with_reducible exact hQ.out | with_reducible exact hQ2.out | with_reducible exact hQ3.out) (first
        | (go_at_call 33; refine (turnLine_at 0 _ _ t _ HZ1.out HT2.out (Nat.le_succ_of_le hn9)).mono ?_; rintro e w1 ⟨A1, c1, L, hL, rfl, ho1, hb1⟩; have HL := hL; have HO1 := Lib.hid ho1; have HB1 := Lib.hid hb1; have HO2 := Lib.hid (HO0.out.belowAll hb1); have HL63 : [(x, y)].length + L.length ≤ 1099511627776 := (len_one_more HL.out HZ1.out hn9); have HW1 : w.heap.size ≤ w1.heap.size := Nat.le_trans (by show _ ≤ (w.alloc _).heap.size; simp) hb1.size; have hQ := Lib.hid (And.intro ((hb1.cell (World.block_lt_of_cell? _ _ D0.out)).trans D0.out) ((hb1.cell (World.block_lt_of_cell? _ _ D1.out)).trans D1.out)))
        | (go_at_call 33; refine (turnLine_at 0 _ _ t _ HZ1.out HT1.out (Nat.le_succ_of_le hn9)).mono ?_; rintro e w1 ⟨A1, c1, L, hL, rfl, ho1, hb1⟩; have HL := hL; have HO1 := Lib.hid ho1; have HB3 := Lib.hid hb1; have HO4 : Hid (OwnE 2 encPoint (w1.alloc (.cells #[.int .i64 x, .int .i64 y] 33)) w.heap.size 33 (.slice (some ⟨w1.heap.size, 0, none⟩) 1 1) [(x, y)]) := Lib.hid (World.ownsRow_lit (base := w.heap.size) (e := 33) (size := 2) w1 #[.int .i64 x, .int .i64 y] 1 hb1.size (by decide) rfl); have HL63 : [(x, y)].length + L.length ≤ 1099511627776 := (len_one_more HL.out HZ1.out hn9); have HS1 := Lib.hid (((ho1.sees elPoint).alloc (Nat.le_refl _) (.cells #[.int .i64 x, .int .i64 y] 33))); have HW3 : w.heap.size ≤ (w1.alloc (.cells #[.int .i64 x, .int .i64 y] 33)).heap.size := Nat.le_trans hb1.size (by simp); have hQ := Lib.hid (And.intro ((hb1.cell (World.block_lt_of_cell? _ _ E0.out)).trans E0.out) ((hb1.cell (World.block_lt_of_cell? _ _ E1.out)).trans E1.out)); have hQ2 := Lib.hid (And.intro ((((Below.refl w1.heap.size w1).alloc (Nat.le_refl _) (.cells #[.int .i64 x, .int .i64 y] 33)).cell (World.block_lt_of_cell? _ _ hQ.out.1)).trans hQ.out.1) ((((Below.refl w1.heap.size w1).alloc (Nat.le_refl _) (.cells #[.int .i64 x, .int .i64 y] 33)).cell (World.block_lt_of_cell? _ _ hQ.out.2)).trans hQ.out.2)))
        | (refine stepPt w1 _ _ (by rfl) w.heap.size (.slice (some ⟨w.heap.size, 0, none⟩) 1 1) [(x, y)] (by rfl) HO2.out w1.heap.size A1 L.length c1 L (by rfl) (by rfl) (HO1.out.sees elPoint) HL63 HW1 ?_; intro A3 c3 L3 w3 hL3 h2 h3 ho3 hb3; have HL3 := hL3; have HO3 := Lib.hid ho3; have HBB := Lib.hid ((((Below.refl _ w).alloc (Nat.le_refl _) (.cells #[.int .i64 x, .int .i64 y] 33)).drew.trans (HB1.out.mono (by show _ ≤ (w.alloc _).heap.size; simp))).trans hb3); have hQ3 := Lib.hid (And.intro ((hb3.cell hb).trans hQ.out.1) ((hb3.cell hb).trans hQ.out.2)))
        | (refine stepPt (w1.alloc (.cells #[.int .i64 x, .int .i64 y] 33)) _ _ (by rfl) w.heap.size (.slice (some ⟨w1.heap.size, 0, none⟩) 1 1) [(x, y)] (by rfl) HO4.out w1.heap.size A1 L.length c1 L (by rfl) (by rfl) HS1.out HL63 HW3 ?_; intro A3 c3 L3 w3 hL3 h2 h3 ho3 hb3; have HL3 := hL3; have HO3 := Lib.hid ho3; have HBB := Lib.hid ((((Below.refl _ w).drew.trans HB3.out).alloc HB3.out.size (.cells #[.int .i64 x, .int .i64 y] 33)).trans hb3); have hQ3 := Lib.hid (And.intro ((hb3.cell hb).trans hQ2.out.1) ((hb3.cell hb).trans hQ2.out.2))) | fail)
      all_goals
        go_wp2
        go_ret
        exact ⟨A3, c3, L3, Lib.hid (by rw [HL3.out, HL.out]; exact HR.out), rfl, HO3.out, HBB.out⟩
    · have hc1' : (c = 1) = False := by simp [hc1]
      have HT0 : Hid (SeesE 2 encPoint w w.heap.size (some ⟨b, off + 2, none⟩) t) := Lib.hid (HS.out.suf 1 (some ⟨b, off + 2, none⟩) (fun h1 => by simp [add_none]))
      have HT1 : Hid (SeesE 2 encPoint w.drew w.drew.heap.size (some ⟨b, off + 2, none⟩) t) := Lib.hid HT0.out.drew
      have HT2 : Hid (SeesE 2 encPoint (w.alloc (.cells #[.int .i64 x, .int .i64 y] 33)).drew (w.alloc (.cells #[.int .i64 x, .int .i64 y] 33)).drew.heap.size (some ⟨b, off + 2, none⟩) t) := Lib.hid ((HT0.out.alloc (Nat.le_refl _) _).drew.mono (by show _ ≤ (w.alloc _).heap.size; simp))
      go_wp2
      go_region_held3 (fun w' => w'.cell? ⟨b, off, none⟩ = some (.int .i64 x) ∧ w'.cell? ⟨b, off + 1, none⟩ = some (.int .i64 y)) (first | with_reducible exact ⟨k0, k1⟩ | with_reducible exact ⟨E0.out, E1.out⟩ | with_reducible exact ⟨D0.out, D1.out⟩ | with_reducible exact hQ.out | with_reducible exact hQ2.out | with_reducible exact hQ3.out) (first
        | (go_at_call 33; refine (turnLine_at (n - 1) _ _ t _ HN1.out HT2.out (Nat.le_succ_of_le hn9)).mono ?_; rintro e w1 ⟨A1, c1, L, hL, rfl, ho1, hb1⟩; have HL := hL; have HO1 := Lib.hid ho1; have HB1 := Lib.hid hb1; have HO2 := Lib.hid (HO0.out.belowAll hb1); have HL63 : [(x, y)].length + L.length ≤ 1099511627776 := (len_one_more HL.out HN1.out hn9); have HW1 : w.heap.size ≤ w1.heap.size := Nat.le_trans (by show _ ≤ (w.alloc _).heap.size; simp) hb1.size; have hQ := Lib.hid (And.intro ((hb1.cell (World.block_lt_of_cell? _ _ D0.out)).trans D0.out) ((hb1.cell (World.block_lt_of_cell? _ _ D1.out)).trans D1.out)))
        | (go_at_call 33; refine (turnLine_at (n - 1) _ _ t _ HN1.out HT1.out (Nat.le_succ_of_le hn9)).mono ?_; rintro e w1 ⟨A1, c1, L, hL, rfl, ho1, hb1⟩; have HL := hL; have HO1 := Lib.hid ho1; have HB3 := Lib.hid hb1; have HO4 : Hid (OwnE 2 encPoint (w1.alloc (.cells #[.int .i64 x, .int .i64 y] 33)) w.heap.size 33 (.slice (some ⟨w1.heap.size, 0, none⟩) 1 1) [(x, y)]) := Lib.hid (World.ownsRow_lit (base := w.heap.size) (e := 33) (size := 2) w1 #[.int .i64 x, .int .i64 y] 1 hb1.size (by decide) rfl); have HL63 : [(x, y)].length + L.length ≤ 1099511627776 := (len_one_more HL.out HN1.out hn9); have HS1 := Lib.hid (((ho1.sees elPoint).alloc (Nat.le_refl _) (.cells #[.int .i64 x, .int .i64 y] 33))); have HW3 : w.heap.size ≤ (w1.alloc (.cells #[.int .i64 x, .int .i64 y] 33)).heap.size := Nat.le_trans hb1.size (by simp); have hQ := Lib.hid (And.intro ((hb1.cell (World.block_lt_of_cell? _ _ E0.out)).trans E0.out) ((hb1.cell (World.block_lt_of_cell? _ _ E1.out)).trans E1.out)); have hQ2 := Lib.hid (And.intro ((((Below.refl w1.heap.size w1).alloc (Nat.le_refl _) (.cells #[.int .i64 x, .int .i64 y] 33)).cell (World.block_lt_of_cell? _ _ hQ.out.1)).trans hQ.out.1) ((((Below.refl w1.heap.size w1).alloc (Nat.le_refl _) (.cells #[.int .i64 x, .int .i64 y] 33)).cell (World.block_lt_of_cell? _ _ hQ.out.2)).trans hQ.out.2)))
        | (refine stepPt w1 _ _ (by rfl) w.heap.size (.slice (some ⟨w.heap.size, 0, none⟩) 1 1) [(x, y)] (by rfl) HO2.out w1.heap.size A1 L.length c1 L (by rfl) (by rfl) (HO1.out.sees elPoint) HL63 HW1 ?_; intro A3 c3 L3 w3 hL3 h2 h3 ho3 hb3; have HL3 := hL3; have HO3 := Lib.hid ho3; have HBB := Lib.hid ((((Below.refl _ w).alloc (Nat.le_refl _) (.cells #[.int .i64 x, .int .i64 y] 33)).drew.trans (HB1.out.mono (by show _ ≤ (w.alloc _).heap.size; simp))).trans hb3); have hQ3 := Lib.hid (And.intro ((hb3.cell hb).trans hQ.out.1) ((hb3.cell hb).trans hQ.out.2)))
        | (refine stepPt (w1.alloc (.cells #[.int .i64 x, .int .i64 y] 33)) _ _ (by rfl) w.heap.size (.slice (some ⟨w1.heap.size, 0, none⟩) 1 1) [(x, y)] (by rfl) HO4.out w1.heap.size A1 L.length c1 L (by rfl) (by rfl) HS1.out HL63 HW3 ?_; intro A3 c3 L3 w3 hL3 h2 h3 ho3 hb3; have HL3 := hL3; have HO3 := Lib.hid ho3; have HBB := Lib.hid ((((Below.refl _ w).drew.trans HB3.out).alloc HB3.out.size (.cells #[.int .i64 x, .int .i64 y] 33)).trans hb3); have hQ3 := Lib.hid (And.intro ((hb3.cell hb).trans hQ2.out.1) ((hb3.cell hb).trans hQ2.out.2))) | fail)
      all_goals
        go_wp2
        go_ret
        exact ⟨A3, c3, L3, Lib.hid (by rw [HL3.out, HL.out]; exact HR.out), rfl, HO3.out, HBB.out⟩
end Go.Proofs.YtkeljibnjpinlaaDoor

/- sortByHeight of package impl: the segments, none of which goes down, by their lower ends. -/
namespace Go.Proofs.YtkeljibnjpinlaaDoor
open Go.Shelf Go.ChangeShapes Go.WideShapes Go.ChangeAt Go.RowKit
set_option linter.unusedVariables false

/-- Not going down. -/
def rsS (s : Int × Int × Int × Int) : Int × Int × Int × Int := if s.2.2.2 < s.2.1 then trS s else s
set_option maxRecDepth 100000 in
set_option maxHeartbeats 1000000 in
theorem rise_is (s : Int × Int × Int × Int) (w : World) : Calls Tryd.prog 64 #[sV s] w fun e w' => e = .returned (sV (rsS s)) ∧ Below w.heap.size w w' := by
  obtain ⟨a, b, c, d⟩ := s
  go_enter Tryd.func64, Tryd.ntmps64
  by_cases h : d < b
  · have hr : rsS (a, b, c, d) = (c, d, a, b) := if_pos h
    rw [hr]
    go_wp2_with fail
    refine (turn_any a b c d _).mono ?_
    rintro e w9 ⟨rfl, hb9⟩
    have HB := Lib.hid ((Vars.of2 w (SegC a b c d) (SegC 0 0 0 0) 60 60).next hb9)
    obtain ⟨j0, j1, j2, j3⟩ := HB.out.c41
    obtain ⟨f0, f1, f2, f3⟩ : _ ∧ _ ∧ _ ∧ _ := ⟨HB.out.frozen (w.heap.size + 1) 1 0 rfl rfl, HB.out.frozen (w.heap.size + 1) 1 1 rfl rfl, HB.out.frozen (w.heap.size + 1) 1 2 rfl rfl, HB.out.frozen (w.heap.size + 1) 1 3 rfl rfl⟩
    clear hb9
    go_wp2
    refine bodyPost_ret (v := SegV c d a b) (by simp [results, Tryd.results64, go_sem, j0, j1, j2, j3]) rfl ⟨rfl, ?_⟩
    exact HB.out.set40 (b := w.heap.size + 1) (by omega) _ _ _ _
  · have hr : rsS (a, b, c, d) = (a, b, c, d) := if_neg h
    rw [hr]
    go_wp2
    refine bodyPost_ret (v := SegV a b c d) (by simp [results, Tryd.results64, go_sem]) rfl ⟨rfl, ?_⟩
    exact (Vars.of2 w (SegC a b c d) (SegC a b c d) 60 60).1
/-! ### The sort -/
def cfH (x y : Int × Int × Int × Int) : Int := cmpV x.2.1 y.2.1
theorem ltH (x y : Int × Int × Int × Int) : ltOf cfH x y = decide (x.2.1 < y.2.1) := by
  unfold ltOf cfH
  rcases cmp_bd x.2.1 y.2.1 with ⟨h, h1⟩ | ⟨h, h1⟩ | ⟨h, h1⟩ <;> rw [h] <;> simp <;> omega
theorem swoH : Sort.SWO (ltOf cfH) where
  irrefl x := by rw [ltH]; simp
  trans x y z h1 h2 := by rw [ltH] at *; simp at *; omega
  ntrans x y z h1 h2 := by rw [ltH] at *; simp at *; omega
set_option maxRecDepth 100000 in
theorem closureH (x y : Int × Int × Int × Int) (W : World) : Calls Tryd.prog 66 #[.agg (encSegment x).toArray, .agg (encSegment y).toArray] W fun e w' => e = .returned (.int .i64 (cfH x y)) ∧ ∃ q os', w' = Sort.grow (W.drewN q) os' := by
  obtain ⟨a, b, c, d⟩ := x
  obtain ⟨a', b', c', d'⟩ := y
  obtain ⟨r, hr⟩ : ∃ r, cmpV b b' = r := ⟨_, rfl⟩
  have hc : cfH (a, b, c, d) (a', b', c', d') = r := hr
  have HC := fun W' => compare_any b b' W'
  rw [hr] at HC
  rw [hc]
  clear hr hc
  show Calls Tryd.prog 66 #[SegV a b c d, SegV a' b' c' d'] W _
  go_enter Tryd.func66, Tryd.ntmps66
  go_wp2_with (go_at_call 67; refine (HC _).mono ?_; rintro e w' ⟨rfl, rfl⟩)
  go_ret
  exact ⟨rfl, 0, _, by rw [Sort.alloc_eq_grow, Sort.alloc_eq_grow, Sort.grow_grow]; rfl⟩
theorem cmpLaysH (blk off size : Nat) (w : World) : CmpLays Tryd.prog 66 #[] encSegment 4 cfH blk off size w := fun _ _ _ _ x y => closureH x y _
theorem holdsK_row {w : World} {g c : Nat} {e : TypeId} {L : List (Int × Int × Int × Int)} (h : RowE 4 encSegment w g e c L) : Sort.HoldsK encSegment 4 w g 0 L.toArray := fun j hj => by
  rw [Sort.size_flatK] at hj
  have hj' : j < L.length * 4 := by simpa using hj
  have hq : j / 4 < L.length := by omega
  refine ⟨?_, by rw [Nat.zero_add]; exact h.frozen j⟩
  rw [Sort.get_flatK _ _ _ _ hj]
  have hx : L[j / 4]? = some L.toArray[j / 4]! := by
    rw [getElem!_pos _ _ (by simpa using hq)]; simp [hq]
  obtain ⟨v, hv⟩ : ∃ v, (encSegment L.toArray[j / 4]!)[j % 4]? = some v := ⟨_, List.getElem?_eq_getElem (by show j % 4 < 4; omega)⟩
  have := h.cell elSegment hx hv
  rw [show j / 4 * 4 + j % 4 = 0 + j by omega] at this
  rw [this, List.getElem!_eq_getElem?_getD, hv]; rfl
theorem sees_holdsK {w : World} {g : Nat} {d : Array (Int × Int × Int × Int)} (h : Sort.HoldsK encSegment 4 w g 0 d) (hg : g < w.heap.size) : SeesE 4 encSegment w w.heap.size (some ⟨g, 0, none⟩) d.toList := fun j x hx => by
  have hj : j < d.size := by have := (List.getElem?_eq_some_iff.1 hx).1; simpa using this
  refine ⟨g, 0, rfl, hg, fun k v hv => ?_⟩
  have hk : k < 4 := by have := (List.getElem?_eq_some_iff.1 hv).1; exact this
  have := (h.cell hj hk).1
  rw [this]
  have hx' : d[j]! = x := by rw [getElem!_pos d j hj]; simpa [hj] using hx
  rw [hx', List.getElem!_eq_getElem?_getD, hv]; rfl
theorem grownBy_sortedK {w : World} {g n : Nat} {os : Array Obj} (d : Array (Int × Int × Int × Int)) : w.grownBy (sortWorldK encSegment 4 w g 0 n d os) (some g) := by
  refine ⟨rfl, rfl, rfl, by simp [sortWorldK, Sort.putRowK, Sort.grow, Sort.putRow, Sort.mapBlock, Sort.ahead], fun k hk hne => ?_⟩
  have : g ≠ k := fun e => hne (by rw [e])
  unfold sortWorldK
  rw [Sort.heap_grow_old _ _ (by simpa [Sort.putRowK, Sort.putRow, Sort.mapBlock, Sort.ahead] using hk)]
  simp [Sort.putRowK, Sort.putRow, Sort.mapBlock, Sort.ahead, Array.getElem?_modify, this]
/-- By their lower ends. -/
def LowFirst (L : List (Int × Int × Int × Int)) : Prop := ∀ (i j : Nat) (x y : Int × Int × Int × Int), i < j → L[i]? = some x → L[j]? = some y → x.2.1 ≤ y.2.1
theorem low_sorted {d : Array (Int × Int × Int × Int)} (h : Sort.SortedIn (ltOf cfH) 0 d.size d) : LowFirst d.toList := fun i j x y hij hx hy => by
  have hj : j < d.size := by have := (List.getElem?_eq_some_iff.1 hy).1; simpa using this
  have hi : i < d.size := by omega
  have := h i j (Nat.zero_le _) hij hj
  rw [ltH, getElem!_pos d j hj, getElem!_pos d i hi] at this
  have e1 : d[i] = x := by simpa [hi] using hx
  have e2 : d[j] = y := by simpa [hj] using hy
  rw [e1, e2] at this
  simpa using this
set_option maxRecDepth 100000 in
theorem sortFunc_any (g c : Nat) (L : List (Int × Int × Int × Int)) (w : World) (h : RowE 4 encSegment w g 60 c L) (hl : L.length ≤ 1099511627776) :
    Calls Tryd.prog 65 #[.slice (some ⟨g, 0, none⟩) L.length c, .func (.func 66) #[] #[]] w fun e w' => e = .returned (.tuple #[]) ∧ ∃ L', Hid (L'.Perm L) ∧ LowFirst L' ∧ L'.length = L.length ∧ SeesE 4 encSegment w' w'.heap.size (some ⟨g, 0, none⟩) L' ∧ Below g w w' := by
  have eg : ∀ args w, (callFunc 66 args).run Tryd.prog w = .ok (.enter 66 args) w := enters_of Tryd.func66 (by kernel_rfl) rfl
  have hcon := AnyQ.slices_SortFunc Tryd.sortSeg 4 Tryd.isAgg60 Tryd.sizeOf60 encSegment (fun _ => rfl) (fun x v hv => (elSegment.2 x).2 v hv) cfH swoH 66 #[] g 0 c L.toArray w eg (cmpLaysH g 0 _ w) (holdsK_row h) h.lt (by simp; omega)
  rw [show L.toArray.size = L.length from by simp] at hcon
  refine Calls.mono hcon ?_
  rintro e w' ⟨he, d', n, os, hp, hs, rfl⟩
  have hd : d'.size = L.length := by rw [hp.1]; simp
  have hH := holdsK_sortWorldK encSegment 4 w g 0 n L.toArray d' os h.lt (holdsK_row h) hp.1
  refine ⟨he, d'.toList, Lib.hid ?_, low_sorted (by rw [hd]; exact hs), by simpa using hd, sees_holdsK hH (lt_sortWorldK _ _ _ _ _ _ _ _ h.lt), (Below.refl g w).grown (grownBy_sortedK d') (Nat.le_of_lt h.lt) (fun k hk => by cases hk; exact Nat.le_refl _)⟩
  have h2 := hp.2.2
  rw [show d'.extract 0 L.length = d' by rw [← hd]; simp] at h2
  simpa using h2
end Go.Proofs.YtkeljibnjpinlaaDoor
namespace Go.Proofs.YtkeljibnjpinlaaDoor
open Go.Shelf Go.ChangeShapes Go.WideShapes Go.ChangeAt Go.RowKit
set_option linter.unusedVariables false

theorem take_map_succ {L E E' : List (Int × Int × Int × Int)} {j : Nat} {x : Int × Int × Int × Int} (hx : L[j]? = some x) (h : E = (L.take j).map rsS) (h' : E' = E ++ [rsS x]) : E' = (L.take (j + 1)).map rsS := by
  rw [h', h, List.take_add_one, hx, List.map_append]; rfl
set_option maxRecDepth 100000 in
set_option maxHeartbeats 1000000 in
theorem sortByHeight_any (A : Option Addr) (c : Nat) (L : List (Int × Int × Int × Int)) (w : World) (hs : SeesE 4 encSegment w w.heap.size A L) (h0 : 0 < L.length) (hl : L.length ≤ 1000) :
    Calls Tryd.prog 40 #[.slice A L.length c] w fun e w' => ∃ A' c' L', Hid (L'.Perm (L.map rsS)) ∧ LowFirst L' ∧ e = .returned (.slice A' L'.length c') ∧ SeesE 4 encSegment w' w'.heap.size A' L' ∧ Below w.heap.size w w' := by
  have HS := Lib.hid hs; clear hs
  go_enter Tryd.func40, Tryd.ntmps40
  go_wp2
  go_loopw [3, 9] (fun v i wr => ∃ (j : Nat) (A2 : Option Addr) (c2 : Nat) (E : List (Int × Int × Int × Int)), j ≤ L.length ∧ i = .int .i64 j ∧ Hid (E = (L.take j).map rsS) ∧ v = .slice A2 E.length c2 ∧ Hid (OwnE 4 encSegment wr w.heap.size 60 v E) ∧ Hid (Below w.heap.size w wr)) (fun _ i _ => L.length - (intOf i).toNat)
  case atStart => exact ⟨0, _, _, [], Nat.zero_le _, rfl, Lib.hid rfl, rfl, Lib.hid (OwnE.lit _ _ _ (Nat.le_refl _)), Lib.hid ((Below.refl _ w).alloc (Nat.le_refl _) _)⟩
  case round =>
    obtain ⟨j, A2, c2, E, hj, rfl, hE, rfl, HO, HB⟩ := hrel
    by_cases hlt : j < L.length
    · have hlt' : (j : Int) < (L.length : Int) := by omega
      obtain ⟨b, off, x, rfl, hbl, hx, -⟩ := (HS.out.below HB.out).lt hlt
      obtain ⟨k0, k1, k2, k3⟩ := cells4 (HS.out.below HB.out) hx
      have HX := Lib.hid hx
      clear hx
      have hEl : E.length = j := by rw [hE.out]; simp; omega
      have HE := hE
      obtain ⟨y, hy⟩ : ∃ y, rsS x = y := ⟨_, rfl⟩
      have HR : ∀ W, Calls Tryd.prog 64 #[sV x] W fun e w' => e = .returned (sV y) ∧ Below W.heap.size W w' := fun W => by rw [← hy]; exact rise_is x W
      have HY := Lib.hid hy
      have hE1 : E.length + [y].length ≤ 1099511627776 := by simp; omega
      clear hE hy hEl
      go_wp2_with (first
        | (go_at_call 64; refine (HR _).mono ?_; rintro e w9 ⟨rfl, hb9⟩; have HB9 := Lib.hid ((HB.out.alloc HB.out.size (.cells (sC x) 60)).trans (hb9.mono (by simp; exact Nat.le_trans HB.out.size (by omega)))); have HO9 := Lib.hid ((HO.out.alloc (.cells (sC x) 60)).belowAll hb9))
        | (at_builtin; refine appSegment _ rfl _ _ rfl w.heap.size _ E rfl (HO9.out.alloc _) (w9.heap.size + 1) (some ⟨w9.heap.size, 0, none⟩) 1 1 [y] rfl rfl (seesE_new elSegment w9 y (sC y) 60 _ (Nat.lt_succ_self _) rfl) hE1 (Nat.le_trans HB9.out.size (by simp)) ?_; intro A3 c3 L3 w3 hL3 h2 h3 ho3 hb3))
      go_roundw
      case rel => exact ⟨j + 1, A3, c3, L3, by omega, by go_num, Lib.hid (take_map_succ HX.out HE.out (by rw [hL3.out, HY.out])), rfl, Lib.hid ho3, Lib.hid ((HB9.out.alloc HB9.out.size _).trans hb3)⟩
      case measure => simp [intOf]; omega
    · obtain rfl : j = L.length := by omega
      have HE : Hid (E = L.map rsS) := Lib.hid (by rw [hE.out, List.take_length])
      have hEl : 0 < E.length := by rw [HE.out, List.length_map]; exact h0
      have hEl2 : E.length ≤ 1000 := by rw [HE.out, List.length_map]; exact hl
      obtain ⟨g, rfl, hBg, -, hr⟩ := HO.out.row hEl
      have HR := Lib.hid hr; clear hr
      go_wp2_with (go_at_call 65; refine (sortFunc_any g c2 E _ HR.out (by omega)).mono ?_; rintro e w2 ⟨rfl, L', hp, hlow, hn, hs2, hb2⟩)
      go_ret
      exact ⟨_, c2, L', Lib.hid (by rw [← HE.out]; exact hp.out), hlow, by rw [hn]; rfl, hs2, HB.out.trans (hb2.mono hBg)⟩
/-- Does the edge cross the level ray from p to the right? -/
def crR (p : Int × Int) (s : Int × Int × Int × Int) : Bool := inB p.2 s.2.1 (s.2.2.2 - 1) && decide (0 < sideV s.1 s.2.1 s.2.2.1 s.2.2.2 p.1 p.2)
set_option maxRecDepth 100000 in
set_option maxHeartbeats 1000000 in
theorem crosses_is (a b c d x y : Int) (w : World) (h : isS a b c d = true) (z : Bool) (hz : crR (x, y) (a, b, c, d) = z) :
    Calls Tryd.prog 42 #[SegV a b c d, PtV x y] w fun e w' => e = .returned (.bool z) ∧ Below w.heap.size w w' := by
  obtain ⟨h1, h2, -⟩ := isS_at h
  have hd : 0 ≤ d ∧ d ≤ 200 := by omega
  have HB := Lib.hid (Vars.of2 w (SegC a b c d) #[.int .i64 x, .int .i64 y] 60 33)
  have hw1 : wrap64 (d - 1) = d - 1 := by unfold wrap64; omega
  have hw2 : IntKind.i64.wrap (d - 1) = d - 1 := IntWalk.i64_in _ (by omega)
  have K := HB.out.c42p
  clear h1 h2 h
  go_enter Tryd.func42, Tryd.ntmps42
  cases hin : inB y b (d - 1)
  · obtain rfl : z = false := by rw [← hz]; show (inB y b (d - 1) && _) = false; rw [hin]; rfl
    go_wp2_with (go_at_call 37; refine (in_is _ _ _ _ _ hin).mono ?_; rintro e w1 ⟨rfl, rfl⟩)
    go_ret
    exact ⟨rfl, HB.out.1⟩
  · obtain ⟨v, hv⟩ : ∃ v, sideV a b c d x y = v := ⟨_, rfl⟩
    have hz' : decide (0 < v) = z := by rw [← hz, ← hv]; show _ = (inB y b (d - 1) && _); rw [hin, Bool.true_and]
    have HC : ∀ W, Calls Tryd.prog 70 #[PtV a b, PtV c d, PtV x y] W fun e w' => e = .returned (.int .i64 v) ∧ Below W.heap.size W w' := fun W => by rw [← hv]; exact sideOf_any a b c d x y W
    clear hz hv
    by_cases h0 : 0 < v
    · obtain rfl : z = true := by rw [← hz']; simp [h0]
      clear hz'
      go_wp2_with (first
        | (go_at_call 37; refine (in_is _ _ _ _ _ hin).mono ?_; rintro e w1 ⟨rfl, rfl⟩)
        | (go_at_call 70; refine (HC _).mono ?_; rintro e w1 ⟨rfl, hb1⟩))
      go_ret
      exact ⟨by first | rfl | simp; try omega, (HB.out.next hb1).1⟩
    · obtain rfl : z = false := by rw [← hz']; simp [h0]
      clear hz'
      go_wp2_with (first
        | (go_at_call 37; refine (in_is _ _ _ _ _ hin).mono ?_; rintro e w1 ⟨rfl, rfl⟩)
        | (go_at_call 70; refine (HC _).mono ?_; rintro e w1 ⟨rfl, hb1⟩))
      go_ret
      exact ⟨by first | rfl | simp; try omega, (HB.out.next hb1).1⟩
end Go.Proofs.YtkeljibnjpinlaaDoor
