/- Points: moves: package impl and the model. -/
import Derived.Test.YtbnjaaegbmhopaaPoint3
namespace Go.Proofs.Ytbnjaaegbmhopaa
open Go.ChangeShapes Go.WideShapes Go.ChangeAt Go.RowKit
set_option linter.unusedVariables false

/-- May the point be moved so? -/
def movB (a b p q : Int) : Bool := isP a b && (inB p (-1000) 1000 && (inB q (-1000) 1000 && isP (a + p) (b + q)))
def movX (a b p q : Int) : Int := if movB a b p q = true then a + p else a
def movY (a b p q : Int) : Int := if movB a b p q = true then b + q else b
theorem mov_no {a b p q : Int} (h : movB a b p q = false) : movB a b p q = false ∧ movX a b p q = a ∧ movY a b p q = b := by
  simp [movX, movY, h]
theorem mov_yes {a b p q : Int} (h : movB a b p q = true) : movB a b p q = true ∧ movX a b p q = a + p ∧ movY a b p q = b + q := by
  simp [movX, movY, h]
theorem mov_at {a b p q a' b' : Int} {r : Bool} (h : movB a b p q = r ∧ movX a b p q = a' ∧ movY a b p q = b') : Ending.returned (.tuple #[PtV a' b', .bool r]) = .returned (.tuple #[PtV (movX a b p q) (movY a b p q), .bool (movB a b p q)]) := by
  obtain ⟨rfl, rfl, rfl⟩ := h; rfl
theorem inB_bd {n l h : Int} (e : inB n l h = true) : l ≤ n ∧ n ≤ h := by simpa [inB] using e
theorem movePoint_any (a b p q : Int) (w : World) :
    Calls Try.prog 21 #[PtV a b, .int .i64 p, .int .i64 q] w fun e w' => e = .returned (.tuple #[PtV (movX a b p q) (movY a b p q), .bool (movB a b p q)]) ∧ Below w.heap.size w w' := by
  go_enter Try.func21, Try.ntmps21
  go_wp2_with fail
  cases h1 : isP a b
  · have HM := Lib.hid (mov_no (p := p) (q := q) (a := a) (b := b) (by simp [movB, h1]))
    refine (isPoint_is a b _ _ h1).mono ?_
    rintro e w1 ⟨rfl, hb1⟩
    have HB := Lib.hid ((Boxes.of2 (c := 0) (d := 0) w 25).next hb1)
    obtain ⟨k0, k1, k2, k3⟩ := HB.out.c2
    obtain ⟨f2, f3⟩ := HB.out.frozen (j := 1) rfl
    clear hb1
    go_wp2
    refine bodyPost_ret (v := .tuple #[PtV a b, .bool false]) (by simp [results, Try.results21, go_sem, k2, k3]) rfl ⟨mov_at HM.out, ?_⟩
    exact (HB.out.1.setCell (by simp) _).setCell (by simp) _
  · refine (isPoint_is a b _ _ h1).mono ?_
    rintro e w1 ⟨rfl, hb1⟩
    have HB := Lib.hid ((Boxes.of2 (c := 0) (d := 0) w 25).next hb1)
    obtain ⟨k0, k1, k2, k3⟩ := HB.out.c2
    obtain ⟨f2, f3⟩ := HB.out.frozen (j := 1) rfl
    clear hb1
    go_wp2_with fail
    cases h2 : inB p (-1000) 1000
    · have HM := Lib.hid (mov_no (p := p) (q := q) (a := a) (b := b) (by simp [movB, h2]))
      refine (in_is _ _ _ _ _ h2).mono ?_
      rintro e w' ⟨rfl, rfl⟩
      go_wp2
      refine bodyPost_ret (v := .tuple #[PtV a b, .bool false]) (by simp [results, Try.results21, go_sem, k2, k3]) rfl ⟨mov_at HM.out, ?_⟩
      exact (HB.out.1.setCell (by simp) _).setCell (by simp) _
    · refine (in_is _ _ _ _ _ h2).mono ?_
      rintro e w' ⟨rfl, rfl⟩
      go_wp2_with fail
      cases h3 : inB q (-1000) 1000
      · have HM := Lib.hid (mov_no (p := p) (q := q) (a := a) (b := b) (by simp [movB, h3]))
        refine (in_is _ _ _ _ _ h3).mono ?_
        rintro e w' ⟨rfl, rfl⟩
        go_wp2
        refine bodyPost_ret (v := .tuple #[PtV a b, .bool false]) (by simp [results, Try.results21, go_sem, k2, k3]) rfl ⟨mov_at HM.out, ?_⟩
        exact (HB.out.1.setCell (by simp) _).setCell (by simp) _
      · refine (in_is _ _ _ _ _ h3).mono ?_
        rintro e w' ⟨rfl, rfl⟩
        obtain ⟨hp0, hp1⟩ := inB_bd h2
        obtain ⟨hq0, hq1⟩ := inB_bd h3
        obtain ⟨ha0, ha1, hb0, hb1⟩ := isP_bd h1
        go_wp2_with fail
        cases h4 : isP (a + p) (b + q)
        · have HM := Lib.hid (mov_no (p := p) (q := q) (a := a) (b := b) (by simp [movB, h4]))
          refine (isPoint_is (a + p) (b + q) _ _ h4).mono ?_
          rintro e w2 ⟨rfl, hb2⟩
          have HB2 := Lib.hid ((HB.out.al _).next hb2)
          clear hb2 HB k0 k1 k2 k3 f2 f3
          obtain ⟨k0, k1, k2, k3⟩ := HB2.out.c2
          obtain ⟨f2, f3⟩ := HB2.out.frozen (j := 1) rfl
          go_wp2
          refine bodyPost_ret (v := .tuple #[PtV a b, .bool false]) (by simp [results, Try.results21, go_sem, k2, k3]) rfl ⟨mov_at HM.out, ?_⟩
          exact (HB2.out.1.setCell (by simp) _).setCell (by simp) _
        · have HM := Lib.hid (mov_yes (p := p) (q := q) (a := a) (b := b) (by simp [movB, h1, h2, h3, h4]))
          refine (isPoint_is (a + p) (b + q) _ _ h4).mono ?_
          rintro e w2 ⟨rfl, hb2⟩
          have HB2 := Lib.hid ((HB.out.al _).next hb2)
          obtain ⟨q0, q1⟩ := ((Boxes.of1 w1 25).next hb2).c1
          clear hb2 HB k0 k1 k2 k3 f2 f3
          obtain ⟨k0, k1, k2, k3⟩ := HB2.out.c2
          obtain ⟨f2, f3⟩ := HB2.out.frozen (j := 1) rfl
          go_wp2
          refine bodyPost_ret (v := .tuple #[PtV (a + p) (b + q), .bool true]) (by simp [results, Try.results21, go_sem, k2, k3]) rfl ⟨mov_at HM.out, ?_⟩
          exact (HB2.out.1.setCell (by simp) _).setCell (by simp) _
end Go.Proofs.Ytbnjaaegbmhopaa
