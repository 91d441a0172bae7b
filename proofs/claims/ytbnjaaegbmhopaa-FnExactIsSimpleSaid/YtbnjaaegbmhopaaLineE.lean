/- Lines: EqualLines and TurnLine, of package impl and of the model. -/
import Derived.Test.YtbnjaaegbmhopaaLine
import Derived.Test.YtbnjaaegbmhopaaHelpE
namespace Go.Proofs.Ytbnjaaegbmhopaa
open Go.ChangeShapes Go.WideShapes Go.ChangeAt Go.RowKit
set_option linter.unusedVariables false

/-- Equal so far. -/
theorem eqPre_step {α : Type} {l m : List α} {j : Nat} (h : l.take j = m.take j) (hx : l[j]? = m[j]?) : l.take (j + 1) = m.take (j + 1) := by
  rw [List.take_add_one, List.take_add_one, h, hx]
theorem ne_of_get {α : Type} {l m : List α} {j : Nat} (h : l[j]? ≠ m[j]?) : l ≠ m := fun e => h (by rw [e])
theorem PtV_ne {a b c d : Int} (h : ¬ (a = c ∧ b = d)) : ((a, b) : Int × Int) ≠ (c, d) := fun e => h ⟨congrArg Prod.fst e, congrArg Prod.snd e⟩
def StRel (l : List (Int × Int)) (w : World) (v i : Value) (wr : World) : Prop :=
  ∃ (A : Option Addr) (c : Nat) (L : List (Int × Int)) (r : Nat), r ≤ l.length ∧ v = .slice A L.length c ∧ i = .int .i64 ((r : Int) - 1) ∧ Hid (L = l.reverse.take (l.length - r)) ∧ L.length = l.length - r ∧ OwnE 2 encPoint wr w.heap.size 25 (.slice A L.length c) L ∧ Below w.heap.size w wr
theorem st_step {l L L2 : List (Int × Int)} {m : Nat} {x : Int × Int} (hm : m + 1 ≤ l.length) (hL : L = l.reverse.take (l.length - (m + 1))) (h : L2 = L ++ [x]) (hx : l[m]? = some x) : L2 = l.reverse.take (l.length - m) := by
  have e : l.length - m = (l.length - (m + 1)) + 1 := by omega
  rw [h, hL, e, List.take_add_one, List.getElem?_reverse (by omega)]
  have e2 : l.length - 1 - (l.length - (m + 1)) = m := by omega
  rw [e2, hx]; rfl
set_option maxRecDepth 100000 in
theorem slicesEqual_is (A A' : Option Addr) (c c' : Nat) (l l' : List (Int × Int)) (w : World) (hs : SeesE 2 encPoint w w.heap.size A l) (hs' : SeesE 2 encPoint w w.heap.size A' l') (hl : l.length ≤ 1099511627776) (z : Bool) (hz : decide (l = l') = z) :
    Calls Try.prog 92 #[.slice A l.length c, .slice A' l'.length c'] w fun e w' => e = .returned (.bool z) ∧ Below w.heap.size w w' := by
  have HS := Lib.hid hs; clear hs
  have HS' := Lib.hid hs'; clear hs'
  go_enter Try.func92, Try.ntmps92
  by_cases hn : l.length = l'.length
  · have hq : ((l.length : Int) = (l'.length : Int)) := by omega
    go_wp2
    go_loopw [13] (fun i wr => ∃ j : Nat, j ≤ l.length ∧ i = .int .i64 j ∧ Hid (l.take j = l'.take j) ∧ Below w.heap.size w wr) (fun i _ => l.length - (intOf i).toNat)
    case atStart => exact ⟨0, Nat.zero_le _, rfl, Lib.hid rfl, Below.refl _ _⟩
    case round =>
      obtain ⟨j, hj, rfl, hp, hb⟩ := hrel
      by_cases hlt : j < l.length
      · obtain ⟨b, off, ⟨t0, t1⟩, rfl, hbl, hx, -⟩ := (HS.out.below hb).lt hlt
        obtain ⟨b', off', ⟨u0, u1⟩, rfl, hbl', hx', -⟩ := (HS'.out.below hb).lt (show j < l'.length by omega)
        obtain ⟨k0, k1⟩ := cellsPoint (HS.out.below hb) hx
        obtain ⟨k2, k3⟩ := cellsPoint (HS'.out.below hb) hx'
        have HX := Lib.hid hx; have HX' := Lib.hid hx'
        have HB := Lib.hid hb
        clear hx hx' hb
        go_wp2
        by_cases h0 : t0 = u0
        · by_cases h1 : t1 = u1
          · subst h0 h1
            go_region_held3 (fun w' => w'.cell? ⟨b, off + j * 2, none⟩ = some (.int .i64 t0) ∧ w'.cell? ⟨b, off + j * 2 + 1, none⟩ = some (.int .i64 t1) ∧ w'.cell? ⟨b', off' + j * 2, none⟩ = some (.int .i64 t0) ∧ w'.cell? ⟨b', off' + j * 2 + 1, none⟩ = some (.int .i64 t1)) (first | exact ⟨k0, k1, k2, k3⟩) (fail)
            all_goals
              go_wp2
              go_roundw
              case rel => exact ⟨j + 1, by omega, by go_num, Lib.hid (eqPre_step hp.out (HX.out.trans HX'.out.symm)), HB.out.drew⟩
              case measure => simp [intOf]; omega
          · have hz' : z = false := by rw [← hz, decide_eq_false_iff_not]; exact ne_of_get (j := j) (fun e => PtV_ne (fun g => h1 g.2) (Option.some.inj ((HX.out.symm.trans e).trans HX'.out)))
            subst hz' h0
            go_region_held3 (fun w' => w'.cell? ⟨b, off + j * 2, none⟩ = some (.int .i64 t0) ∧ w'.cell? ⟨b, off + j * 2 + 1, none⟩ = some (.int .i64 t1) ∧ w'.cell? ⟨b', off' + j * 2, none⟩ = some (.int .i64 t0) ∧ w'.cell? ⟨b', off' + j * 2 + 1, none⟩ = some (.int .i64 u1)) (first | exact ⟨k0, k1, k2, k3⟩) (fail)
            all_goals
              go_wp2
              go_ret
              exact ⟨rfl, HB.out.drew⟩
        · have hz' : z = false := by rw [← hz, decide_eq_false_iff_not]; exact ne_of_get (j := j) (fun e => PtV_ne (fun g => h0 g.1) (Option.some.inj ((HX.out.symm.trans e).trans HX'.out)))
          subst hz'
          go_region_held3 (fun w' => w'.cell? ⟨b, off + j * 2, none⟩ = some (.int .i64 t0) ∧ w'.cell? ⟨b, off + j * 2 + 1, none⟩ = some (.int .i64 t1) ∧ w'.cell? ⟨b', off' + j * 2, none⟩ = some (.int .i64 u0) ∧ w'.cell? ⟨b', off' + j * 2 + 1, none⟩ = some (.int .i64 u1)) (first | exact ⟨k0, k1, k2, k3⟩) (fail)
          all_goals
            go_wp2
            go_ret
            exact ⟨rfl, HB.out.drew⟩
      · obtain rfl : j = l.length := by omega
        have hz' : z = true := by rw [← hz, decide_eq_true_eq]; have := hp.out; rwa [List.take_length, hn, List.take_length] at this
        subst hz'
        go_wp2
        go_ret
        exact ⟨rfl, hb⟩
  · have hq : ¬ ((l.length : Int) = (l'.length : Int)) := by omega
    have hz' : z = false := by rw [← hz, decide_eq_false_iff_not]; intro e; exact hn (by rw [e])
    subst hz'
    go_wp2
    go_ret
    exact ⟨rfl, Below.refl _ _⟩
theorem equalLines_is (A A' : Option Addr) (c c' : Nat) (l l' : List (Int × Int)) (w : World) (hs : SeesE 2 encPoint w w.heap.size A l) (hs' : SeesE 2 encPoint w w.heap.size A' l') (hl : l.length ≤ 1099511627776) (z : Bool) (hz : decide (l = l') = z) :
    Calls Try.prog 36 #[.slice A l.length c, .slice A' l'.length c'] w fun e w' => e = .returned (.bool z) ∧ Below w.heap.size w w' := by
  go_enter Try.func36, Try.ntmps36
  go_wp2_with fail
  refine (slicesEqual_is A A' c c' l l' w hs hs' hl z hz).mono ?_
  rintro e w' ⟨rfl, hb⟩
  go_wp2
  go_ret
  exact ⟨rfl, hb⟩
end Go.Proofs.Ytbnjaaegbmhopaa
