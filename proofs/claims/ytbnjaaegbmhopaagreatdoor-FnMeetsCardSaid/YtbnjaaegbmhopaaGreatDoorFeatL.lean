/- Features: what the laws do with them: toFeature, eqFeature, and slices of them. -/
import Derived.Test.YtbnjaaegbmhopaaGreatDoorFeatC
namespace Go.Proofs.YtbnjaaegbmhopaaGreatDoor
open Go.ChangeShapes Go.WideShapes Go.ChangeAt Go.RowKit
set_option linter.unusedVariables false

theorem Vars.c52 {w0 w : World} {l : List (Array Value)} {cs cs' : Array Value} {v0 v1 v2 v3 v4 : Value} (h : Vars w0 w (cs :: cs' :: #[v0, v1, v2, v3, v4] :: l)) : w.cell? ⟨w0.heap.size + 1 + 1, 0, none⟩ = some v0 ∧ w.cell? ⟨w0.heap.size + 1 + 1, 1, none⟩ = some v1 ∧ w.cell? ⟨w0.heap.size + 1 + 1, 2, none⟩ = some v2 ∧ w.cell? ⟨w0.heap.size + 1 + 1, 3, none⟩ = some v3 ∧ w.cell? ⟨w0.heap.size + 1 + 1, 4, none⟩ = some v4 := h.c5 _ 2 rfl rfl
set_option maxRecDepth 100000 in
set_option maxHeartbeats 1000000 in
theorem toFeature_any (a k r : Int) (s : ByteArray) (A : Option Addr) (c : Nat) (ps : List (Int × Int)) (w : World) (hs : SeesE 2 encPoint w w.heap.size A ps) (hl : ps.length ≤ 1099511627776) :
    Calls Tryz.prog 27 #[FtV a k r s A ps.length c] w (GivesFt a k r s ps w) := by
  have HS := Lib.hid hs; clear hs
  have HV0 := Lib.hid (Vars.of3 w (FtC a k r s A ps.length c) (FtC 0 0 0 ⟨#[]⟩ none 0 0) (FtC a k r s none 0 0) 54 41 41)
  go_enter Tryz.func27, Tryz.ntmps27
  go_upto_region 6 with fail
  generalize hwz : (((w.alloc (.cells (FtC a k r s A ps.length c) 54)).alloc (.cells (FtC 0 0 0 ⟨#[]⟩ none 0 0) 41)).alloc (.cells (FtC a k r s none 0 0) 41)) = wz at HV0 ⊢
  clear hwz
  have hB0 : w.heap.size + 3 ≤ wz.heap.size := HV0.out.more3
  obtain ⟨k0, k1, k2, k3, k4⟩ := HV0.out.c50
  have HS1 := Lib.hid ((HS.out.below HV0.out.1).mono HV0.out.1.size)
  go_wp2_with fail
  refine (toPointS_any A c ps _ HS1.out hl).mono ?_
  rintro e w1 ⟨A1, c1, L, hL, rfl, ho, hb⟩
  have HL := hL
  have HO := Lib.hid ho
  have HV1 := Lib.hid (HV0.out.next hb)
  clear hL ho hb k0 k1 k2 k3 k4
  obtain ⟨j0, j1, j2, j3, j4⟩ := HV1.out.c51
  obtain ⟨q0, q1, q2, q3, q4⟩ := HV1.out.c52
  obtain ⟨f0, f1, f2, f3, f4⟩ := HV1.out.f51
  have f5 := HV1.out.frozen (w.heap.size + 1 + 1) 2 4 rfl rfl
  go_wp2
  refine bodyPost_ret (v := FtV a k r s A1 L.length c1) (by simp [results, Tryz.results27, go_sem, j0, j1, j2, j3, j4]) rfl ?_
  refine ⟨A1, L, c1, HL, rfl, ((((((HO.out.putO (by omega) _ _).putO (by omega) _ _).putO (by omega) _ _).putO (by omega) _ _).putO (by omega) _ _).putO (by omega) _ _).mono (by omega), ?_⟩
  exact (((((HV1.out.1.setCell (by simp; omega) _).setCell (by simp) _).setCell (by simp) _).setCell (by simp) _).setCell (by simp) _).setCell (by simp) _
set_option maxRecDepth 100000 in
set_option maxHeartbeats 1000000 in
theorem eqFeature_yes (a k r : Int) (s : ByteArray) (A A' : Option Addr) (c c' : Nat) (ps ps' : List (Int × Int)) (w : World) (hs : SeesE 2 encPoint w w.heap.size A ps) (hs' : SeesE 2 encPoint w w.heap.size A' ps') (he : ps = ps') (hl : ps.length ≤ 1099511627776) :
    Calls Tryz.prog 30 #[FtV a k r s A ps.length c, FtV a k r s A' ps'.length c'] w fun e w' => e = .returned (.bool true) ∧ Below w.heap.size w w' := by
  have HV := Lib.hid (Vars.of2 w (FtC a k r s A ps.length c) (FtC a k r s A' ps'.length c') 41 41)
  have HS := Lib.hid ((hs.below HV.out.1).mono HV.out.1.size)
  have HS' := Lib.hid ((hs'.below HV.out.1).mono HV.out.1.size)
  have HE := Lib.hid he
  clear hs hs' he
  go_enter Tryz.func30, Tryz.ntmps30
  go_wp2_with fail
  refine (eqPointS_yes A A' c c' ps ps' _ HS.out HS'.out HE.out hl).mono ?_
  rintro e w1 ⟨rfl, hb1⟩
  have HV1 := Lib.hid (HV.out.next hb1)
  clear hb1
  go_wp2
  go_ret
  exact ⟨rfl, HV1.out.1⟩
section
variable {w : World} {g B cc : Nat} {e : TypeId} {L : List FCel} {j : Nat} {v : Value} {l : List Feat}
/-- One feature's cells are written. -/
theorem rowF_set (h : RowE 5 encF w g e cc L) (hj : j < L.length) (a k r : Int) (s : ByteArray) (A : Option Addr) (n m : Nat) :
    RowE 5 encF (((((w.setCell ⟨g, j * 5, none⟩ (.int .i64 a)).setCell ⟨g, j * 5 + 1, none⟩ (.int .i64 k)).setCell ⟨g, j * 5 + 2, none⟩ (.int .i64 r)).setCell ⟨g, j * 5 + 3, none⟩ (.string s)).setCell ⟨g, j * 5 + 4, none⟩ (.slice A n m)) g e cc (L.set j (a, k, r, s, A, n, m)) := by
  obtain ⟨⟨y0, y1, y2, y3, y4, y5, y6⟩, hx⟩ : ∃ x, L[j]? = some x := ⟨_, List.getElem?_eq_getElem hj⟩
  have h1 := h.put elF (k := 0) (x' := (a, y1, y2, y3, y4, y5, y6)) (v := .int .i64 a) hx (by decide) rfl
  have h2 := h1.put elF (k := 1) (x' := (a, k, y2, y3, y4, y5, y6)) (v := .int .i64 k) (List.getElem?_set_self (by simpa using hj)) (by decide) rfl
  have h3 := h2.put elF (k := 2) (x' := (a, k, r, y3, y4, y5, y6)) (v := .int .i64 r) (List.getElem?_set_self (by simpa using hj)) (by decide) rfl
  have h4 := h3.put elF (k := 3) (x' := (a, k, r, s, y4, y5, y6)) (v := .string s) (List.getElem?_set_self (by simpa using hj)) (by decide) rfl
  have h5 := h4.put elF (k := 4) (x' := (a, k, r, s, A, n, m)) (v := .slice A n m) (List.getElem?_set_self (by simpa using hj)) (by decide) rfl
  simp only [List.set_set, Nat.add_zero] at h5
  exact h5
theorem rowF_cells (h : RowE 5 encF w g e cc L) {y : FCel} (hx : L[j]? = some y) : w.cell? ⟨g, j * 5, none⟩ = some (.int .i64 y.1) ∧ w.cell? ⟨g, j * 5 + 1, none⟩ = some (.int .i64 y.2.1) ∧ w.cell? ⟨g, j * 5 + 2, none⟩ = some (.int .i64 y.2.2.1) ∧ w.cell? ⟨g, j * 5 + 3, none⟩ = some (.string y.2.2.2.1) ∧ w.cell? ⟨g, j * 5 + 4, none⟩ = some (slF y) :=
  ⟨h.cell elF hx (k := 0) rfl, h.cell elF hx (k := 1) rfl, h.cell elF hx (k := 2) rfl, h.cell elF hx (k := 3) rfl, h.cell elF hx (k := 4) rfl⟩
theorem rowF_frz (h : RowE 5 encF w g e cc L) (j : Nat) : w.frozen? ⟨g, j * 5, none⟩ = false ∧ w.frozen? ⟨g, j * 5 + 1, none⟩ = false ∧ w.frozen? ⟨g, j * 5 + 2, none⟩ = false ∧ w.frozen? ⟨g, j * 5 + 3, none⟩ = false ∧ w.frozen? ⟨g, j * 5 + 4, none⟩ = false :=
  ⟨h.frozen _, h.frozen _, h.frozen _, h.frozen _, h.frozen _⟩
theorem OwnE.putN {α : Type} {n : Nat} {enc : α → List Value} {LL : List α} (h : OwnE n enc w B e v LL) {b : Nat} (hb : v.ownBlock ≠ some b) (i : Nat) (u : Value) : OwnE n enc (w.setCell ⟨b, i, none⟩ u) B e v LL := by
  refine ⟨h.1, ?_⟩
  rcases h.2 with hn | ⟨g, cap, cur, rfl, hB, hg, rest⟩
  · exact .inl hn
  · exact .inr ⟨g, cap, cur, rfl, hB, (Below.heap_setCell _ _ _ _ (by intro e; apply hb; simp [Value.ownBlock]; first | exact e | exact e.symm)).trans hg, rest⟩
theorem RowsF.putN (h : RowsF w B v L l) {b : Nat} (hv : v.ownBlock = some b) (i : Nat) (u : Value) : RowsF (w.setCell ⟨b, i, none⟩ u) B v L l :=
  ⟨h.1, h.2.1, fun j x f hx hf => by
    obtain ⟨h1, h2, h3⟩ := h.2.2 j x f hx hf
    exact ⟨h1, h2.putN (fun e => h3 b e hv) i u, h3⟩⟩
end
theorem take_setF {α : Type} (xs : List α) (j : Nat) (x : α) (h : j < xs.length) : (xs.set j x).take (j + 1) = xs.take j ++ [x] := by
  have e : (xs.set j x).take j = xs.take j := by
    apply List.ext_getElem?
    intro i
    rw [List.getElem?_take, List.getElem?_take]
    split
    · rw [List.getElem?_set_ne (by omega)]
    · rfl
  rw [List.take_add_one, List.getElem?_set_self h, e]
  rfl
set_option maxRecDepth 100000 in
set_option maxHeartbeats 1000000 in
theorem toFeatureS_any (A : Option Addr) (c : Nat) (l : List Feat) (w : World) (hs : SeesF w w.heap.size A l) (hl : l.length ≤ 1099511627776) (hp : FewP l) :
    Calls Tryz.prog 36 #[.slice A l.length c] w (GivesF l w) := by
  have HS := Lib.hid hs
  have HP := Lib.hid hp
  obtain ⟨n, hn⟩ : ∃ n, l.length = n := ⟨_, rfl⟩
  have HN := Lib.hid hn
  rw [hn] at hl ⊢
  clear hs hp hn
  obtain ⟨i, hi, hz, hi1, hi2⟩ := info_parts infoFeature
  have HI := Lib.hid (And.intro hi (And.intro hz (And.intro hi1 hi2)))
  clear hi hz hi1 hi2
  go_enter Tryz.func36, Tryz.ntmps36
  go_wp2_with (at_make; refine wpList_make_rowE w elF rfl _ _ _ rfl _ i _ (0, 0, 0, ⟨#[]⟩, none, 0, 0) 64 Tryz.underlying45 HI.out.1 HI.out.2.1 HI.out.2.2.1 HI.out.2.2.2 (by decide) rfl .i64 .i64 n rfl rfl hl ?_; intro w1 hrow hb1)
  have HR := Lib.hid hrow
  have HB := Lib.hid hb1
  clear hrow hb1 HI
  go_loopw [4] (fun iv wr => ∃ (j : Nat) (xs : List FCel), j ≤ n ∧ iv = .int .i64 j ∧ Hid (xs.length = n) ∧ Hid (RowE 5 encF wr w.heap.size 41 n xs) ∧ Hid (RowsF wr w.heap.size (.slice (some ⟨w.heap.size, 0, none⟩) n n) (xs.take j) (l.take j)) ∧ Hid (Below w.heap.size w wr)) (fun iv _ => n - (intOf iv).toNat)
  case atStart => exact ⟨0, _, Nat.zero_le _, rfl, Lib.hid (by simp), HR, Lib.hid ⟨rfl, fun i j x y b _ hx => by simp at hx, fun j x f hx => by simp at hx⟩, HB⟩
  case round =>
    obtain ⟨j, xs, hj, rfl, HX, HRr, HRs, HBr⟩ := hrel
    clear HR HB
    by_cases hlt : j < n
    · have hji : (j : Int) < (n : Int) := by omega
      obtain ⟨⟨a, k, r, s, ps⟩, hf⟩ : ∃ f, l[j]? = some f := ⟨_, List.getElem?_eq_getElem (by rw [HN.out]; exact hlt)⟩
      obtain ⟨b, off, A', c', rfl, hb, hss, -, q0, q1, q2, q3, q4⟩ := (HS.out.below HBr.out).at_ hf
      have HSS := Lib.hid (hss.mono HBr.out.size)
      have hpl : ps.length ≤ 1099511627776 := Nat.le_trans (HP.out j _ hf) (by decide)
      have HF := Lib.hid hf
      clear hf hss
      go_wp2_with fail
      refine (toFeature_any a k r s A' c' ps _ HSS.out hpl).mono ?_
      rintro e w2 ⟨A1, P, c1, hP, rfl, ho, hb2⟩
      obtain rfl : ps = P := hP.out.symm
      have HO := Lib.hid ho
      have hsz := HBr.out.size
      have HB2 := Lib.hid (HBr.out.trans (hb2.mono hsz))
      have HR2 := Lib.hid (HRr.out.below hb2 HRr.out.lt)
      have HRs2 := Lib.hid (HRs.out.belowAll hb2)
      have hge : wr.heap.size ≤ w2.heap.size := hb2.size
      have hglt : w.heap.size < wr.heap.size := HRr.out.lt
      clear hP ho hb2 q0 q1 q2 q3 q4
      obtain ⟨y, hy⟩ : ∃ y, xs[j]? = some y := ⟨_, List.getElem?_eq_getElem (by rw [HX.out]; exact hlt)⟩
      obtain ⟨k0, k1, k2, k3, k4⟩ := rowF_cells HR2.out hy
      obtain ⟨f0, f1, f2, f3, f4⟩ := rowF_frz HR2.out j
      clear hy
      have HRW : Hid (RowsF w2 w.heap.size (.slice (some ⟨w.heap.size, 0, none⟩) n n) ((xs.set j (a, k, r, s, A1, ps.length, c1)).take (j + 1)) (l.take (j + 1))) := Lib.hid (by
        rw [take_setF xs j _ (by rw [HX.out]; exact hlt), List.take_add_one, HF.out]
        refine HRs2.out.app (l2 := [(a, k, r, s, ps)]) (rows_one (C := wr.heap.size) (HO.out.mono hsz) (fun b hb => (HO.out.lt b hb).1) (fun g hg => ?_) ⟨rfl, rfl, rfl, rfl⟩) (rows_sep HRs.out (Nat.le_refl _) (fun q y b hy hb => ?_))
        · simp only [Value.ownBlock, Option.some.injEq] at hg
          omega
        · match q, hy with
          | 0, hy => simp at hy; subst hy; exact (HO.out.lt b hb).1)
      go_wp2
      go_roundw
      case rel => exact ⟨j + 1, xs.set j (a, k, r, s, A1, ps.length, c1), by omega, by go_num, Lib.hid (by rw [List.length_set]; exact HX.out), Lib.hid (rowF_set HR2.out (by rw [HX.out]; exact hlt) a k r s A1 ps.length c1), Lib.hid (((((HRW.out.putN rfl _ _).putN rfl _ _).putN rfl _ _).putN rfl _ _).putN rfl _ _), Lib.hid (((((HB2.out.setCell (Nat.le_refl _) _).setCell (Nat.le_refl _) _).setCell (Nat.le_refl _) _).setCell (Nat.le_refl _) _).setCell (Nat.le_refl _) _)⟩
      case measure => simp [intOf]; omega
    · obtain rfl : j = n := by omega
      have hji : ¬ (j : Int) < (j : Int) := by omega
      have HOwn : Hid (OwnF wr w.heap.size (.slice (some ⟨w.heap.size, 0, none⟩) j j) l) := Lib.hid (by
        refine ⟨xs, ?_, ?_⟩
        · have := HRr.out.own elF (Nat.le_refl _)
          rwa [HX.out] at this
        · have := HRs.out
          rwa [List.take_of_length_le (by rw [HX.out]; exact Nat.le_refl _), List.take_of_length_le (by rw [HN.out]; exact Nat.le_refl _)] at this)
      go_wp2
      go_ret
      exact ⟨some ⟨w.heap.size, 0, none⟩, l, j, Lib.hid rfl, by rw [HN.out]; rfl, by rw [HN.out]; exact HOwn.out, HBr.out⟩
end Go.Proofs.YtbnjaaegbmhopaaGreatDoor
