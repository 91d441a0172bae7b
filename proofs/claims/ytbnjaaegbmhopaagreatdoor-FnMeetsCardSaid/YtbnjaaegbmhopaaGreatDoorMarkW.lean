/- markFeatureS and heldFeatureS of the laws. -/
import Derived.Test.YtbnjaaegbmhopaaGreatDoorMarkF
namespace Go.Proofs.YtbnjaaegbmhopaaGreatDoor
open Go.ChangeShapes Go.WideShapes Go.ChangeAt Go.RowKit
set_option linter.unusedVariables false

theorem markPoint_z (A : Option Addr) (m c k0 B : Nat) (z : Int) (hz : ((k0 : Nat) : Int) = z) (l : List (Int × Int)) (w : World) (hm : l.length = m) (ho : OwnE 2 encPoint w B 33 (.slice A m c) l) (hl : m ≤ 1099511627776) (hk : k0 ≤ 1099511627776) :
    Calls Tryz.prog 69 #[.slice A m c, .int .i64 z] w fun e w' => ∃ q : Nat, Hid (q = k0 + m * 2) ∧ e = .returned (.int .i64 q) ∧ OwnE 2 encPoint w' B 33 (.slice A m c) (mkPoint k0 m) ∧ w.grownBy w' (Value.ownBlock (.slice A m c)) := by
  subst hz
  exact (markPoint_any A m c k0 B l w hm ho hl hk).mono fun e w' ⟨a, b, d⟩ => ⟨_, Lib.hid rfl, a, b, d⟩
section
variable {w : World} {g cc : Nat} {e : TypeId} {L : List FCel} {j : Nat}
theorem rowF_set3 (h : RowE 5 encF w g e cc L) {y : FCel} (hx : L[j]? = some y) (a k r : Int) :
    RowE 5 encF (((w.setCell ⟨g, j * 5, none⟩ (.int .i64 a)).setCell ⟨g, j * 5 + 1, none⟩ (.int .i64 k)).setCell ⟨g, j * 5 + 2, none⟩ (.int .i64 r)) g e cc (L.set j (a, k, r, y.2.2.2)) := by
  obtain ⟨y0, y1, y2, y3, y4, y5, y6⟩ := y
  have hj := (List.getElem?_eq_some_iff.1 hx).1
  have h1 := h.put elF (k := 0) (x' := (a, y1, y2, y3, y4, y5, y6)) (v := .int .i64 a) hx (by decide) rfl
  have h2 := h1.put elF (k := 1) (x' := (a, k, y2, y3, y4, y5, y6)) (v := .int .i64 k) (List.getElem?_set_self (by simpa using hj)) (by decide) rfl
  have h3 := h2.put elF (k := 2) (x' := (a, k, r, y3, y4, y5, y6)) (v := .int .i64 r) (List.getElem?_set_self (by simpa using hj)) (by decide) rfl
  simp only [List.set_set, Nat.add_zero] at h3
  exact h3
theorem rowF_set4 (h : RowE 5 encF w g e cc L) {y : FCel} (hx : L[j]? = some y) (s : ByteArray) :
    RowE 5 encF (w.setCell ⟨g, j * 5 + 3, none⟩ (.string s)) g e cc (L.set j (y.1, y.2.1, y.2.2.1, s, y.2.2.2.2)) := by
  obtain ⟨y0, y1, y2, y3, y4, y5, y6⟩ := y
  exact h.put elF (k := 3) (x' := (y0, y1, y2, s, y4, y5, y6)) (v := .string s) hx (by decide) rfl
end
/-- The marks of features are laid. -/
def MarkFHeld (lo hi : Nat) (A : Option Addr) (m c k0 : Nat) (l : List Feat) (w : World) (e : Ending) (w' : World) : Prop :=
  ∃ q : Nat, Hid (q = mkFq k0 l) ∧ e = .returned (.int .i64 q) ∧ HeldF w' lo hi (.slice A m c) (mkFs k0 l) ∧ Within lo hi w w'
set_option maxRecDepth 100000 in
set_option maxHeartbeats 1000000 in
theorem markFeatureS_held (A : Option Addr) (m c k0 lo hi : Nat) (l : List Feat) (w : World) (ho : HeldF w lo hi (.slice A m c) l) (hm : l.length = m) (hl : m ≤ 1099511627776) (hk : mkFq k0 l ≤ 1099511627776) :
    Calls Tryz.prog 39 #[.slice A m c, .int .i64 k0] w (MarkFHeld lo hi A m c k0 l w) := by
  have HO := Lib.hid ho; clear ho
  have HN := Lib.hid hm; clear hm
  have HK0 := Lib.hid hk; clear hk
  go_enter Tryz.func39, Tryz.ntmps39
  go_wp2
  go_loopw [1, 5] (fun kk i wr => ∃ j : Nat, j ≤ m ∧ i = .int .i64 j ∧ kk = .int .i64 (mkFq k0 (l.take j) : Nat) ∧ Hid (HeldF wr lo hi (.slice A m c) (mkMid k0 j l)) ∧ Hid (Within lo hi w wr)) (fun _ i _ => m - (intOf i).toNat)
  case atStart => exact ⟨0, Nat.zero_le _, rfl, rfl, HO, Lib.hid (Within.refl _ _ _)⟩
  case round =>
    obtain ⟨j, hj, rfl, rfl, HH, HW⟩ := hrel
    clear HO
    by_cases hlt : j < m
    · obtain ⟨f, hf⟩ : ∃ f, l[j]? = some f := ⟨_, List.getElem?_eq_getElem (by rw [HN.out]; exact hlt)⟩
      obtain ⟨xs, h1, h2, h3, h4, h5⟩ := HH.out
      have hmid := mkMid_at (k := k0) hf
      have hxl : j < xs.length := by rw [h2.1]; exact (List.getElem?_eq_some_iff.1 hmid).1
      obtain ⟨g, rfl, hB, hml, hr⟩ := h1.row (by omega)
      obtain ⟨y, hy⟩ : ∃ y, xs[j]? = some y := ⟨_, List.getElem?_eq_getElem hxl⟩
      obtain ⟨hS, hoP, hne⟩ := h2.2.2 j y f hy hmid
      have hgh := h3 g rfl
      have hph := fun b hb => h4 j y b hy hb
      obtain ⟨y0, y1, y2, y3, y4, y5, y6⟩ := y
      have hcap := own_caps hoP
      obtain ⟨c0, c1, c2, c3, c4⟩ := rowF_cells hr hy
      obtain ⟨f0, f1, f2, f3, f4⟩ := rowF_frz hr j
      have HR3 := fun a k r => rowF_set3 hr hy a k r
      have HX := Lib.hid (And.intro h1 (And.intro h2 (And.intro hS (And.intro hoP (And.intro h3 (And.intro h4 h5))))))
      have HY := Lib.hid hy
      have HF := Lib.hid hf
      have HM := Lib.hid hmid
      have HCap := Lib.hid hcap
      have HNe := Lib.hid hne
      have HPh := Lib.hid hph
      have hR3 := Lib.hid HR3
      have HML := Lib.hid hml
      have HXL := Lib.hid hxl
      have hkq : mkFn (mkFq k0 (l.take j)) f ≤ 1099511627776 := by rw [← mkFq_succ k0 hf]; exact Nat.le_trans (mkFq_take l k0 (j + 1)) HK0.out
      have HKQ := Lib.hid hkq
      obtain ⟨Kn, hKn⟩ : ∃ Kn : Nat, mkFq k0 (l.take j) = Kn := ⟨_, rfl⟩
      have HKn := Lib.hid hKn
      rw [hKn] at hkq ⊢
      obtain ⟨K, hK⟩ : ∃ K : Int, ((Kn : Nat) : Int) = K := ⟨_, rfl⟩
      obtain ⟨P, hP⟩ : ∃ P : Int, ((Kn + 4 : Nat) : Int) = P := ⟨_, rfl⟩
      have hK0 : 0 ≤ K ∧ K ≤ 1099511627776 ∧ Kn + 4 ≤ 1099511627776 ∧ K + 1 + 1 + 1 + 1 = P := by unfold mkFn at hkq; omega
      have hw1 : IntKind.i64.wrap (K + 1) = K + 1 := IntWalk.i64_in _ (by omega)
      have hw2 : IntKind.i64.wrap (K + 1 + 1) = K + 1 + 1 := IntWalk.i64_in _ (by omega)
      have hw3 : IntKind.i64.wrap (K + 1 + 1 + 1) = K + 1 + 1 + 1 := IntWalk.i64_in _ (by omega)
      have hw4 : IntKind.i64.wrap (K + 1 + 1 + 1 + 1) = P := (IntWalk.i64_in _ (by omega)).trans hK0.2.2.2
      have hk3 : K + 1 + 1 + 1 ≤ 9223372036854775807 := by omega
      have HP := Lib.hid hP
      have HK := Lib.hid hK
      have HK4 := Lib.hid hK0
      rw [hK]
      clear hK hP hK0 hKn hkq h1 h2 h3 h4 h5 hmid hS hoP hne hph hcap hy hf hml hxl hr HR3
      go_wp2_with fail
      refine (markText_is (K + 1 + 1 + 1) hk3 _).mono ?_
      rintro e w1 ⟨rfl, hb⟩
      obtain ⟨h1, h2, hS, hoP, h3, h4, h5⟩ := HX.out
      have hr3 := hR3.out K (K + 1) (K + 1 + 1)
      have hlt3 := hr3.lt
      have hr4 := hr3.below hb hlt3
      have hy4 : (xs.set j (K, K + 1, K + 1 + 1, y3, y4, y5, y6))[j]? = some (K, K + 1, K + 1 + 1, y3, y4, y5, y6) := List.getElem?_set_self HXL.out
      have hr5 := rowF_set4 hr4 hy4 (mkV (K + 1 + 1 + 1))
      rw [List.set_set] at hr5
      have d3 : w1.cell? ⟨g, j * 5 + 3, none⟩ = some (.string y3) := (rowF_cells hr4 hy4).2.2.2.1
      have d4 : w1.cell? ⟨g, j * 5 + 4, none⟩ = some (.slice y4 y5 y6) := (rowF_cells hr4 hy4).2.2.2.2
      obtain ⟨e0, e1, e2, e3, e4⟩ := rowF_frz hr4 j
      have hv : (Value.slice (some ⟨g, 0, none⟩) m c).ownBlock = some g := rfl
      have hng : (slF (y0, y1, y2, y3, y4, y5, y6)).ownBlock ≠ some g := fun e => HNe.out g e hv
      have hP5 := (((((hoP.putN hng (j * 5) (.int .i64 K)).putN hng (j * 5 + 1) (.int .i64 (K + 1))).putN hng (j * 5 + 2) (.int .i64 (K + 1 + 1))).belowAll hb).putN hng (j * 5 + 3) (.string (mkV (K + 1 + 1 + 1))))
      have hQ5 := (((((h2.putN hv (j * 5) (.int .i64 K)).putN hv (j * 5 + 1) (.int .i64 (K + 1))).putN hv (j * 5 + 2) (.int .i64 (K + 1 + 1))).belowAll hb).putN hv (j * 5 + 3) (.string (mkV (K + 1 + 1 + 1))))
      have hW5 := ((((HW.out.trans (Within.cell hB hgh (j * 5) (.int .i64 K))).trans (Within.cell hB hgh (j * 5 + 1) (.int .i64 (K + 1)))).trans (Within.cell hB hgh (j * 5 + 2) (.int .i64 (K + 1 + 1)))).trans (Within.of lo hi hb)).trans (Within.cell hB hgh (j * 5 + 3) (.string (mkV (K + 1 + 1 + 1))))
      have hsz5 : hi ≤ (w1.setCell ⟨g, j * 5 + 3, none⟩ (.string (mkV (K + 1 + 1 + 1)))).heap.size := by
        have := hb.size
        simp [World.setCell] at this ⊢
        omega
      have HR5 := Lib.hid hr5
      have HP5 := Lib.hid hP5
      have HQ5 := Lib.hid hQ5
      have HW5 := Lib.hid hW5
      have HZ5 := Lib.hid hsz5
      clear h1 h2 hS hoP h3 h4 h5 hr3 hlt3 hr4 hy4 hr5 hP5 hQ5 hW5 hsz5 hv hng c0 c1 c2 c3 c4 f0 f1 f2 f3 f4 hb hw1 hw2 hw3 hk3
      go_wp2_with fail
      refine (markPoint_z y4 y5 y6 (Kn + 4) lo P HP.out f.2.2.2.2 _ HCap.out.1.symm HP5.out (by have := HKQ.out; have := HKn.out; have := HCap.out.1; unfold mkFn at *; omega) HK4.out.2.2.1).mono ?_
      rintro e w3 ⟨q, hq, rfl, ho3, hg3⟩
      have HQ := hq
      have HO3 := Lib.hid ho3
      have HG3 := Lib.hid hg3
      clear hq ho3 hg3
      go_wp2
      obtain ⟨h1, h2, hS, hoP, h3, h4, h5⟩ := HX.out
      have hlen : (xs.set j (K, K + 1, K + 1 + 1, mkV (K + 1 + 1 + 1), y4, y5, y6)).length = m := by rw [List.length_set]; exact HML.out.symm
      have ho := HO3.out
      rw [show mkPoint (Kn + 4) y5 = mkPoint (Kn + 4) f.2.2.2.2.length by rw [HCap.out.1]] at ho
      have hrow := (HR5.out.own elF hB).kept HG3.out (.inr fun e => HNe.out g e.symm rfl)
      rw [hlen] at hrow
      have hmk := HQ5.out.mark HY.out HM.out HG3.out (x' := (K, K + 1, K + 1 + 1, mkV (K + 1 + 1 + 1), y4, y5, y6)) (f' := mkF1 Kn f) rfl
        ⟨HK.out.symm, by rw [← HK.out]; rfl, by show K + 1 + 1 = (Kn : Int) + 2; rw [HK.out]; omega, by show mkV (K + 1 + 1 + 1) = mkV ((Kn : Int) + 3); rw [HK.out]; congr 1; omega⟩ ho
      have hmid2 := mkMid_succ (k := k0) HF.out
      rw [HKn.out] at hmid2
      refine ⟨⟨j + 1, by omega, by go_num, ?_, Lib.hid ⟨_, hrow, by rw [hmid2]; exact hmk, h3, fun i x b hx hb => ?_, Nat.le_trans HZ5.out HG3.out.size⟩, Lib.hid (HW5.out.trans (Within.grown HG3.out fun b hb => ⟨(hoP.lt b hb).1, HPh.out b hb⟩))⟩, by simp only [intOf]; omega⟩
      · rw [mkFq_succ k0 HF.out, HKn.out, HQ.out, HCap.out.1]; rfl
      · by_cases hij : i = j
        · subst hij
          rw [List.getElem?_set_self HXL.out] at hx
          simp only [Option.some.injEq] at hx
          subst hx
          exact HPh.out b hb
        · rw [List.getElem?_set_ne (fun e => hij e.symm)] at hx
          exact h4 i x b hx hb
    · obtain rfl : j = m := by omega
      go_wp2
      go_ret
      have e1 : l.take j = l := by rw [← HN.out]; exact List.take_length
      have e2 := HH.out
      rw [e1]
      rw [show mkMid k0 j l = mkFs k0 l by rw [← HN.out]; exact mkMid_all _ _] at e2
      exact ⟨_, Lib.hid rfl, rfl, e2, HW.out⟩
end Go.Proofs.YtbnjaaegbmhopaaGreatDoor
