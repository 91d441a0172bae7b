/- Features: what the laws do with them: toFeature, eqFeature, and slices of them. -/
import Derived.Test.YtbnjaaegbmhopaaDoorFeatC
namespace Go.Proofs.YtbnjaaegbmhopaaDoor
open Go.ChangeShapes Go.WideShapes Go.ChangeAt Go.RowKit
set_option linter.unusedVariables false

theorem Vars.c52 {w0 w : World} {l : List (Array Value)} {cs cs' : Array Value} {v0 v1 v2 v3 v4 : Value} (h : Vars w0 w (cs :: cs' :: #[v0, v1, v2, v3, v4] :: l)) : w.cell? ⟨w0.heap.size + 1 + 1, 0, none⟩ = some v0 ∧ w.cell? ⟨w0.heap.size + 1 + 1, 1, none⟩ = some v1 ∧ w.cell? ⟨w0.heap.size + 1 + 1, 2, none⟩ = some v2 ∧ w.cell? ⟨w0.heap.size + 1 + 1, 3, none⟩ = some v3 ∧ w.cell? ⟨w0.heap.size + 1 + 1, 4, none⟩ = some v4 := h.c5 _ 2 rfl rfl
set_option maxRecDepth 100000 in
set_option maxHeartbeats 1000000 in
theorem toFeature_any (a k r : Int) (s : ByteArray) (A : Option Addr) (c : Nat) (ps : List (Int × Int)) (w : World) (hs : SeesE 2 encPoint w w.heap.size A ps) (hl : ps.length ≤ 1099511627776) :
    Calls Tryd.prog 26 #[FtV a k r s A ps.length c] w (GivesFt a k r s ps w) := by
  have HS := Lib.hid hs; clear hs
  have HV0 := Lib.hid (Vars.of3 w (FtC a k r s A ps.length c) (FtC 0 0 0 ⟨#[]⟩ none 0 0) (FtC a k r s none 0 0) 42 46 46)
  go_enter Tryd.func26, Tryd.ntmps26
  go_upto_region 6 with fail
  generalize hwz : (((w.alloc (.cells (FtC a k r s A ps.length c) 42)).alloc (.cells (FtC 0 0 0 ⟨#[]⟩ none 0 0) 46)).alloc (.cells (FtC a k r s none 0 0) 46)) = wz at HV0 ⊢
  clear hwz
  have hB0 : w.heap.size + 3 ≤ wz.heap.size := HV0.out.more3
  obtain ⟨k0, k1, k2, k3, k4⟩ := HV0.out.c50
  have HS1 := Lib.hid ((HS.out.below HV0.out.1).mono HV0.out.1.size)
  go_wp2_with fail
  refine (toPointS_any A c ps _ HS1.out hl).mono ?_
  rintro e w1 ⟨A1, c1, L, hL, rfl, ho, hb⟩
  have HL := hL
  have HO := Lib.hid ho
  have HV1 := Lib.hid (HV0.out.next hb)
  clear hL ho hb k0 k1 k2 k3 k4
  obtain ⟨j0, j1, j2, j3, j4⟩ := HV1.out.c51
  obtain ⟨q0, q1, q2, q3, q4⟩ := HV1.out.c52
  obtain ⟨f0, f1, f2, f3, f4⟩ := HV1.out.f51
  have f5 := HV1.out.frozen (w.heap.size + 1 + 1) 2 4 rfl rfl
  go_wp2
  refine bodyPost_ret (v := FtV a k r s A1 L.length c1) (by simp [results, Tryd.results26, go_sem, j0, j1, j2, j3, j4]) rfl ?_
  refine ⟨A1, L, c1, HL, rfl, ((((((HO.out.putO (by omega) _ _).putO (by omega) _ _).putO (by omega) _ _).putO (by omega) _ _).putO (by omega) _ _).putO (by omega) _ _).mono (by omega), ?_⟩
  exact (((((HV1.out.1.setCell (by simp; omega) _).setCell (by simp) _).setCell (by simp) _).setCell (by simp) _).setCell (by simp) _).setCell (by simp) _
set_option maxRecDepth 100000 in
set_option maxHeartbeats 1000000 in
theorem eqFeature_yes (a k r : Int) (s : ByteArray) (A A' : Option Addr) (c c' : Nat) (ps ps' : List (Int × Int)) (w : World) (hs : SeesE 2 encPoint w w.heap.size A ps) (hs' : SeesE 2 encPoint w w.heap.size A' ps') (he : ps = ps') (hl : ps.length ≤ 1099511627776) :
    Calls Tryd.prog 28 #[FtV a k r s A ps.length c, FtV a k r s A' ps'.length c'] w fun e w' => e = .returned (.bool true) ∧ Below w.heap.size w w' := by
  have HV := Lib.hid (Vars.of2 w (FtC a k r s A ps.length c) (FtC a k r s A' ps'.length c') 46 46)
  have HS := Lib.hid ((hs.below HV.out.1).mono HV.out.1.size)
  have HS' := Lib.hid ((hs'.below HV.out.1).mono HV.out.1.size)
  have HE := Lib.hid he
  clear hs hs' he
  go_enter Tryd.func28, Tryd.ntmps28
  go_wp2_with fail
  refine (eqPointS_yes A A' c c' ps ps' _ HS.out HS'.out HE.out hl).mono ?_
  rintro e w1 ⟨rfl, hb1⟩
  have HV1 := Lib.hid (HV.out.next hb1)
  clear hb1
  go_wp2
  go_ret
  exact ⟨rfl, HV1.out.1⟩
section
variable {w : World} {g B cc : Nat} {e : TypeId} {L : List FCel} {j : Nat} {v : Value} {l : List Feat}
/-- One feature's cells are written. -/
theorem rowF_set (h : RowE 5 encF w g e cc L) (hj : j < L.length) (a k r : Int) (s : ByteArray) (A : Option Addr) (n m : Nat) :
    RowE 5 encF (((((w.setCell ⟨g, j * 5, none⟩ (.int .i64 a)).setCell ⟨g, j * 5 + 1, none⟩ (.int .i64 k)).setCell ⟨g, j * 5 + 2, none⟩ (.int .i64 r)).setCell ⟨g, j * 5 + 3, none⟩ (.string s)).setCell ⟨g, j * 5 + 4, none⟩ (.slice A n m)) g e cc (L.set j (a, k, r, s, A, n, m)) := by
  obtain ⟨⟨y0, y1, y2, y3, y4, y5, y6⟩, hx⟩ : ∃ x, L[j]? = some x := ⟨_, List.getElem?_eq_getElem hj⟩
  have h1 := h.put elF (k := 0) (x' := (a, y1, y2, y3, y4, y5, y6)) (v := .int .i64 a) hx (by decide) rfl
  have h2 := h1.put elF (k := 1) (x' := (a, k, y2, y3, y4, y5, y6)) (v := .int .i64 k) (List.getElem?_set_self (by simpa using hj)) (by decide) rfl
  have h3 := h2.put elF (k := 2) (x' := (a, k, r, y3, y4, y5, y6)) (v := .int .i64 r) (List.getElem?_set_self (by simpa using hj)) (by decide) rfl
  have h4 := h3.put elF (k := 3) (x' := (a, k, r, s, y4, y5, y6)) (v := .string s) (List.getElem?_set_self (by simpa using hj)) (by decide) rfl
  have h5 := h4.put elF (k := 4) (x' := (a, k, r, s, A, n, m)) (v := .slice A n m) (List.getElem?_set_self (by simpa using hj)) (by decide) rfl
  simp only [List.set_set, Nat.add_zero] at h5
  exact h5
theorem rowF_cells (h : RowE 5 encF w g e cc L) {y : FCel} (hx : L[j]? = some y) : w.cell? ⟨g, j * 5, none⟩ = some (.int .i64 y.1) ∧ w.cell? ⟨g, j * 5 + 1, none⟩ = some (.int .i64 y.2.1) ∧ w.cell? ⟨g, j * 5 + 2, none⟩ = some (.int .i64 y.2.2.1) ∧ w.cell? ⟨g, j * 5 + 3, none⟩ = some (.string y.2.2.2.1) ∧ w.cell? ⟨g, j * 5 + 4, none⟩ = some (slF y) :=
  ⟨h.cell elF hx (k := 0) rfl, h.cell elF hx (k := 1) rfl, h.cell elF hx (k := 2) rfl, h.cell elF hx (k := 3) rfl, h.cell elF hx (k := 4) rfl⟩
theorem rowF_frz (h : RowE 5 encF w g e cc L) (j : Nat) : w.frozen? ⟨g, j * 5, none⟩ = false ∧ w.frozen? ⟨g, j * 5 + 1, none⟩ = false ∧ w.frozen? ⟨g, j * 5 + 2, none⟩ = false ∧ w.frozen? ⟨g, j * 5 + 3, none⟩ = false ∧ w.frozen? ⟨g, j * 5 + 4, none⟩ = false :=
  ⟨h.frozen _, h.frozen _, h.frozen _, h.frozen _, h.frozen _⟩
theorem OwnE.putN {α : Type} {n : Nat} {enc : α → List Value} {LL : List α} (h : OwnE n enc w B e v LL) {b : Nat} (hb : v.ownBlock ≠ some b) (i : Nat) (u : Value) : OwnE n enc (w.setCell ⟨b, i, none⟩ u) B e v LL := by
  refine ⟨h.1, ?_⟩
  rcases h.2 with hn | ⟨g, cap, cur, rfl, hB, hg, rest⟩
  · exact .inl hn
  · exact .inr ⟨g, cap, cur, rfl, hB, (Below.heap_setCell _ _ _ _ (by intro e; apply hb; simp [Value.ownBlock]; first | exact e | exact e.symm)).trans hg, rest⟩
theorem RowsF.putN (h : RowsF w B v L l) {b : Nat} (hv : v.ownBlock = some b) (i : Nat) (u : Value) : RowsF (w.setCell ⟨b, i, none⟩ u) B v L l :=
  ⟨h.1, h.2.1, fun j x f hx hf => by
    obtain ⟨h1, h2, h3⟩ := h.2.2 j x f hx hf
    exact ⟨h1, h2.putN (fun e => h3 b e hv) i u, h3⟩⟩
end
theorem take_setF {α : Type} (xs : List α) (j : Nat) (x : α) (h : j < xs.length) : (xs.set j x).take (j + 1) = xs.take j ++ [x] := by
  have e : (xs.set j x).take j = xs.take j := by
    apply List.ext_getElem?
    intro i
    rw [List.getElem?_take, List.getElem?_take]
    split
    · rw [List.getElem?_set_ne (by omega)]
    · rfl
  rw [List.take_add_one, List.getElem?_set_self h, e]
  rfl
end Go.Proofs.YtbnjaaegbmhopaaDoor
