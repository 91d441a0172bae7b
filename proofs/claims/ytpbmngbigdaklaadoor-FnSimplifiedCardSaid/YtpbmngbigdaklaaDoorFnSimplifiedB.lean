/- For every code the law FnSimplified returns true and writes into no argument; the package variable errNotSimpler holds what its own initialiser lays. -/
import Derived.Test.YtpbmngbigdaklaaDoorFeatM
import Derived.Test.YtpbmngbigdaklaaDoorVars
import Derived.LoopTactic
import Derived.Test.YtpbmngbigdaklaaDoorFeatO
import Derived.Test.YtpbmngbigdaklaaDoorVars2
import Derived.Deep.RegionHeld3
import Derived.Deep.DeepCutAuto
import Derived.Test.YtpbmngbigdaklaaDoorHelpE
import Derived.Test.YtpbmngbigdaklaaDoorInt
import Derived.Lib.Hide
import Derived.Laws.IdiomStrings
import Derived.Laws.Concat
import Derived.WalkLawsBesides
import Derived.WalkSpells
import Derived.Test.YtpbmngbigdaklaaDoorLine
import Derived.Test.YtpbmngbigdaklaaDoorTabs
import Derived.Deep.LoopGhost
import Derived.Test.YtpbmngbigdaklaaDoorSimpC
import Derived.Test.YtpbmngbigdaklaaDoorLineJ
import Derived.Test.YtpbmngbigdaklaaDoorSimpI
import Derived.Test.YtpbmngbigdaklaaDoorOneVar
import Derived.Defers
import Derived.Recover
import Derived.Laws.Cover3
import Derived.Test.YtpbmngbigdaklaaDoorSegOn
import Derived.Test.YtpbmngbigdaklaaDoorSimpF
import Derived.Laws.StructEq
import Derived.Shelf.Abstract
import Derived.Test.YtpbmngbigdaklaaDoorRows
import Derived.Stop.LaidErr
import Derived.LaidMore
import Derived.Test.YtpbmngbigdaklaaDoorDrawSimp
import Derived.Test.YtpbmngbigdaklaaDoorTie
import Derived.Test.YtpbmngbigdaklaaDoorCards
import Derived.WalkKit
import Derived.ProofKit
import Derived.OpenShut
import Derived.ShutString
import Derived.SizedLaws
import Derived.Stop.Joined
import Derived.SevenTiedAt
import Derived.Below
section
/- Features: IsName, IsFeature, IsSource and FindFeature of the model. -/
namespace Go.Proofs.YtpbmngbigdaklaaDoor
open Go.ChangeShapes Go.WideShapes Go.ChangeAt Go.RowKit
set_option linter.unusedVariables false

theorem name_take (s : ByteArray) (k : Nat) (h : k < s.size) : s.data.toList.take (k + 1) = s.data.toList.take k ++ [s[k]] := by
  rw [List.take_succ_eq_append_getElem (by simpa using h)]; rfl
theorem name_mem (s : ByteArray) (k : Nat) (h : k < s.size) : s[k] ∈ s.data.toList := by
  have : s[k] = s.data.toList[k]'(by simpa using h) := rfl
  rw [this]; exact List.getElem_mem _
theorem name_no {s : ByteArray} {k : Nat} (h : k < s.size) (hc : s[k].toNat < 97 ∨ 122 < s[k].toNat) : nameV s = false := by
  have : s.data.toList.all lowB = false := by
    rw [List.all_eq_false]
    refine ⟨s[k], name_mem s k h, ?_⟩
    simp only [lowB, Bool.and_eq_true, decide_eq_true_eq]
    omega
  simp [nameV, this]
theorem name_end {s : ByteArray} (h : ∀ c ∈ s.data.toList.take s.size, lowB c = true) : nameV s = inB (s.size : Int) 1 8 := by
  have hl : s.data.toList.length = s.size := Array.length_toList
  rw [← hl, List.take_length] at h
  have : s.data.toList.all lowB = true := List.all_eq_true.2 h
  simp [nameV, this]
theorem name_step {s : ByteArray} {k : Nat} (h : k < s.size) (ht : ∀ c ∈ s.data.toList.take k, lowB c = true) (h1 : 97 ≤ s[k].toNat) (h2 : s[k].toNat ≤ 122) : ∀ c ∈ s.data.toList.take (k + 1), lowB c = true := by
  rw [name_take s k h]
  intro c hc
  rw [List.mem_append, List.mem_singleton] at hc
  rcases hc with hc | rfl
  · exact ht c hc
  · simp only [lowB, Bool.and_eq_true, decide_eq_true_eq]; exact ⟨h1, h2⟩
theorem Vars.c5 {w0 w : World} {l : List (Array Value)} {v0 v1 v2 v3 v4 : Value} (h : Vars w0 w l) (b j : Nat) (hb : b = w0.heap.size + j) (hj : l[j]? = some #[v0, v1, v2, v3, v4]) : w.cell? ⟨b, 0, none⟩ = some v0 ∧ w.cell? ⟨b, 1, none⟩ = some v1 ∧ w.cell? ⟨b, 2, none⟩ = some v2 ∧ w.cell? ⟨b, 3, none⟩ = some v3 ∧ w.cell? ⟨b, 4, none⟩ = some v4 :=
  ⟨h.cell b j 0 hb hj rfl, h.cell b j 1 hb hj rfl, h.cell b j 2 hb hj rfl, h.cell b j 3 hb hj rfl, h.cell b j 4 hb hj rfl⟩
theorem Vars.c50 {w0 w : World} {l : List (Array Value)} {v0 v1 v2 v3 v4 : Value} (h : Vars w0 w (#[v0, v1, v2, v3, v4] :: l)) : w.cell? ⟨w0.heap.size, 0, none⟩ = some v0 ∧ w.cell? ⟨w0.heap.size, 1, none⟩ = some v1 ∧ w.cell? ⟨w0.heap.size, 2, none⟩ = some v2 ∧ w.cell? ⟨w0.heap.size, 3, none⟩ = some v3 ∧ w.cell? ⟨w0.heap.size, 4, none⟩ = some v4 := h.c5 _ 0 rfl rfl
end Go.Proofs.YtpbmngbigdaklaaDoor
end
section
/- Features: l9Feature and l9Copy of the model. -/
namespace Go.Proofs.YtpbmngbigdaklaaDoor
open Go.ChangeShapes Go.WideShapes Go.ChangeAt Go.RowKit
set_option linter.unusedVariables false

theorem Vars.keepB {w0 w w' : World} {l : List (Array Value)} {B : Nat} (h : Vars w0 w l) (hb : Below B w w') (hB : w0.heap.size + l.length ≤ B) : Vars w0 w' l := by
  refine ⟨h.1.trans (hb.mono (by omega)), Nat.le_trans h.2.1 hb.size, fun j x hj => ?_⟩
  have hl : j < l.length := (List.getElem?_eq_some_iff.1 hj).1
  obtain ⟨T, h3⟩ := h.2.2 j x hj
  exact ⟨T, (hb.block _ (by omega)).trans h3⟩
theorem Vars.f50 {w0 w : World} {l : List (Array Value)} {cs : Array Value} (h : Vars w0 w (cs :: l)) (i : Nat) : w.frozen? ⟨w0.heap.size, i, none⟩ = false := h.frozen w0.heap.size 0 i rfl rfl
theorem Vars.f51 {w0 w : World} {l : List (Array Value)} {cs cs' : Array Value} (h : Vars w0 w (cs :: cs' :: l)) : w.frozen? ⟨w0.heap.size + 1, 0, none⟩ = false ∧ w.frozen? ⟨w0.heap.size + 1, 1, none⟩ = false ∧ w.frozen? ⟨w0.heap.size + 1, 2, none⟩ = false ∧ w.frozen? ⟨w0.heap.size + 1, 3, none⟩ = false ∧ w.frozen? ⟨w0.heap.size + 1, 4, none⟩ = false :=
  ⟨h.frozen _ 1 0 rfl rfl, h.frozen _ 1 1 rfl rfl, h.frozen _ 1 2 rfl rfl, h.frozen _ 1 3 rfl rfl, h.frozen _ 1 4 rfl rfl⟩
theorem Vars.c51 {w0 w : World} {l : List (Array Value)} {cs : Array Value} {v0 v1 v2 v3 v4 : Value} (h : Vars w0 w (cs :: #[v0, v1, v2, v3, v4] :: l)) : w.cell? ⟨w0.heap.size + 1, 0, none⟩ = some v0 ∧ w.cell? ⟨w0.heap.size + 1, 1, none⟩ = some v1 ∧ w.cell? ⟨w0.heap.size + 1, 2, none⟩ = some v2 ∧ w.cell? ⟨w0.heap.size + 1, 3, none⟩ = some v3 ∧ w.cell? ⟨w0.heap.size + 1, 4, none⟩ = some v4 := h.c5 _ 1 rfl rfl
/-- A store ahead of what the call owns. -/
theorem OwnE.putO {α : Type} {n : Nat} {enc : α → List Value} {w : World} {B : Nat} {e : TypeId} {v : Value} {L : List α} (h : OwnE n enc w B e v L) {b : Nat} (hb : b < B) (i : Nat) (u : Value) : OwnE n enc (w.setCell ⟨b, i, none⟩ u) B e v L := by
  refine ⟨h.1, ?_⟩
  rcases h.2 with hn | ⟨g, cap, cur, rfl, hB, hg, rest⟩
  · exact .inl hn
  · exact .inr ⟨g, cap, cur, rfl, hB, (Below.heap_setCell _ _ _ _ (by simp; omega)).trans hg, rest⟩
/-- A call gives a feature whose points lie in new memory. -/
def GivesFt (a k r : Int) (s : ByteArray) (ps : List (Int × Int)) (w : World) (e : Ending) (w' : World) : Prop :=
  ∃ A L c, Hid (L = ps) ∧ e = .returned (FtV a k r s A L.length c) ∧ OwnE 2 encPoint w' w.heap.size 33 (.slice A L.length c) L ∧ Below w.heap.size w w'
/-- All features' points are few. -/
def FewP (l : List Feat) : Prop := ∀ (j : Nat) (f : Feat), l[j]? = some f → f.2.2.2.2.length ≤ 274877906944
/-- Small enough for a walk: names and points. -/
def SmallF (l : List Feat) : Prop := ∀ (j : Nat) (f : Feat), l[j]? = some f → f.2.2.2.2.length ≤ 274877906944 ∧ f.2.2.2.1.size ≤ maxLen
section
variable {l : List Feat}
theorem SmallF.few (h : SmallF l) : FewP l := fun j f hf => (h j f hf).1
theorem SmallF.take (h : SmallF l) (j : Nat) : SmallF (l.take j) := fun i f hf => by
  rw [List.getElem?_take] at hf
  split at hf
  · exact h i f hf
  · cases hf
theorem SmallF.drop (h : SmallF l) (j : Nat) : SmallF (l.drop j) := fun i f hf => by
  rw [List.getElem?_drop] at hf
  exact h _ f hf
end
end Go.Proofs.YtpbmngbigdaklaaDoor
end
section
/- Features: what the laws do with them: toFeature, eqFeature, and slices of them. -/
namespace Go.Proofs.YtpbmngbigdaklaaDoor
open Go.ChangeShapes Go.WideShapes Go.ChangeAt Go.RowKit
set_option linter.unusedVariables false

theorem Vars.c52 {w0 w : World} {l : List (Array Value)} {cs cs' : Array Value} {v0 v1 v2 v3 v4 : Value} (h : Vars w0 w (cs :: cs' :: #[v0, v1, v2, v3, v4] :: l)) : w.cell? ⟨w0.heap.size + 1 + 1, 0, none⟩ = some v0 ∧ w.cell? ⟨w0.heap.size + 1 + 1, 1, none⟩ = some v1 ∧ w.cell? ⟨w0.heap.size + 1 + 1, 2, none⟩ = some v2 ∧ w.cell? ⟨w0.heap.size + 1 + 1, 3, none⟩ = some v3 ∧ w.cell? ⟨w0.heap.size + 1 + 1, 4, none⟩ = some v4 := h.c5 _ 2 rfl rfl
section
variable {w : World} {g B cc : Nat} {e : TypeId} {L : List FCel} {j : Nat} {v : Value} {l : List Feat}
/-- One feature's cells are written. -/
theorem rowF_set (h : RowE 5 encF w g e cc L) (hj : j < L.length) (a k r : Int) (s : ByteArray) (A : Option Addr) (n m : Nat) :
    RowE 5 encF (((((w.setCell ⟨g, j * 5, none⟩ (.int .i64 a)).setCell ⟨g, j * 5 + 1, none⟩ (.int .i64 k)).setCell ⟨g, j * 5 + 2, none⟩ (.int .i64 r)).setCell ⟨g, j * 5 + 3, none⟩ (.string s)).setCell ⟨g, j * 5 + 4, none⟩ (.slice A n m)) g e cc (L.set j (a, k, r, s, A, n, m)) := by
  obtain ⟨⟨y0, y1, y2, y3, y4, y5, y6⟩, hx⟩ : ∃ x, L[j]? = some x := ⟨_, List.getElem?_eq_getElem hj⟩
  have h1 := h.put elF (k := 0) (x' := (a, y1, y2, y3, y4, y5, y6)) (v := .int .i64 a) hx (by decide) rfl
  have h2 := h1.put elF (k := 1) (x' := (a, k, y2, y3, y4, y5, y6)) (v := .int .i64 k) (List.getElem?_set_self (by simpa using hj)) (by decide) rfl
  have h3 := h2.put elF (k := 2) (x' := (a, k, r, y3, y4, y5, y6)) (v := .int .i64 r) (List.getElem?_set_self (by simpa using hj)) (by decide) rfl
  have h4 := h3.put elF (k := 3) (x' := (a, k, r, s, y4, y5, y6)) (v := .string s) (List.getElem?_set_self (by simpa using hj)) (by decide) rfl
  have h5 := h4.put elF (k := 4) (x' := (a, k, r, s, A, n, m)) (v := .slice A n m) (List.getElem?_set_self (by simpa using hj)) (by decide) rfl
  simp only [List.set_set, Nat.add_zero] at h5
  exact h5
theorem rowF_cells (h : RowE 5 encF w g e cc L) {y : FCel} (hx : L[j]? = some y) : w.cell? ⟨g, j * 5, none⟩ = some (.int .i64 y.1) ∧ w.cell? ⟨g, j * 5 + 1, none⟩ = some (.int .i64 y.2.1) ∧ w.cell? ⟨g, j * 5 + 2, none⟩ = some (.int .i64 y.2.2.1) ∧ w.cell? ⟨g, j * 5 + 3, none⟩ = some (.string y.2.2.2.1) ∧ w.cell? ⟨g, j * 5 + 4, none⟩ = some (slF y) :=
  ⟨h.cell elF hx (k := 0) rfl, h.cell elF hx (k := 1) rfl, h.cell elF hx (k := 2) rfl, h.cell elF hx (k := 3) rfl, h.cell elF hx (k := 4) rfl⟩
theorem rowF_frz (h : RowE 5 encF w g e cc L) (j : Nat) : w.frozen? ⟨g, j * 5, none⟩ = false ∧ w.frozen? ⟨g, j * 5 + 1, none⟩ = false ∧ w.frozen? ⟨g, j * 5 + 2, none⟩ = false ∧ w.frozen? ⟨g, j * 5 + 3, none⟩ = false ∧ w.frozen? ⟨g, j * 5 + 4, none⟩ = false :=
  ⟨h.frozen _, h.frozen _, h.frozen _, h.frozen _, h.frozen _⟩
theorem OwnE.putN {α : Type} {n : Nat} {enc : α → List Value} {LL : List α} (h : OwnE n enc w B e v LL) {b : Nat} (hb : v.ownBlock ≠ some b) (i : Nat) (u : Value) : OwnE n enc (w.setCell ⟨b, i, none⟩ u) B e v LL := by
  refine ⟨h.1, ?_⟩
  rcases h.2 with hn | ⟨g, cap, cur, rfl, hB, hg, rest⟩
  · exact .inl hn
  · exact .inr ⟨g, cap, cur, rfl, hB, (Below.heap_setCell _ _ _ _ (by intro e; apply hb; simp [Value.ownBlock]; first | exact e | exact e.symm)).trans hg, rest⟩
theorem RowsF.putN (h : RowsF w B v L l) {b : Nat} (hv : v.ownBlock = some b) (i : Nat) (u : Value) : RowsF (w.setCell ⟨b, i, none⟩ u) B v L l :=
  ⟨h.1, h.2.1, fun j x f hx hf => by
    obtain ⟨h1, h2, h3⟩ := h.2.2 j x f hx hf
    exact ⟨h1, h2.putN (fun e => h3 b e hv) i u, h3⟩⟩
end
theorem take_setF {α : Type} (xs : List α) (j : Nat) (x : α) (h : j < xs.length) : (xs.set j x).take (j + 1) = xs.take j ++ [x] := by
  have e : (xs.set j x).take j = xs.take j := by
    apply List.ext_getElem?
    intro i
    rw [List.getElem?_take, List.getElem?_take]
    split
    · rw [List.getElem?_set_ne (by omega)]
    · rfl
  rw [List.take_add_one, List.getElem?_set_self h, e]
  rfl
end Go.Proofs.YtpbmngbigdaklaaDoor
end
section
/- The laws' marks over slices of structs, and the look at them. -/
namespace Go.Proofs.YtpbmngbigdaklaaDoor
open Go.ChangeShapes Go.WideShapes Go.ChangeAt Go.RowKit
set_option linter.unusedVariables false

theorem growE_setCell {w w0 : World} {p : Nat} (hg : w0.grownBy w (some p)) (j : Nat) (v : Value) : w0.grownBy (w.setCell ⟨p, j, none⟩ v) (some p) :=
  ⟨hg.os, hg.tape, hg.output, Nat.le_trans hg.size (by simp [World.setCell]), fun k hk hne => (Below.heap_setCell _ _ _ _ (fun e => hne (by rw [e]))).trans (hg.block k hk hne)⟩
/-- What a mark lays at place j. -/
def mkAtPoint (k0 j : Nat) : Int × Int := (((k0 + j * 2 : Nat) : Int), ((k0 + j * 2 : Nat) : Int) + 1)
def mkPoint (k0 m : Nat) : List (Int × Int) := (List.range m).map (mkAtPoint k0)
theorem mkPoint_len (k0 m : Nat) : (mkPoint k0 m).length = m := by simp [mkPoint]
theorem mkPoint_get (k0 m i : Nat) (h : i < m) : (mkPoint k0 m)[i]? = some (mkAtPoint k0 i) := by simp [mkPoint, h]
def MarkPointRel (B : Nat) (A : Option Addr) (m c k0 : Nat) (w : World) (kk i : Value) (wr : World) : Prop :=
  ∃ (j : Nat) (L : List (Int × Int)), j ≤ m ∧ i = .int .i64 j ∧ kk = .int .i64 (k0 + j * 2 : Nat) ∧ L.length = m ∧ FillE (fun i => some (mkAtPoint k0 i)) j L ∧ OwnE 2 encPoint wr B 33 (.slice A m c) L ∧ w.grownBy wr (Value.ownBlock (.slice A m c))
set_option maxRecDepth 100000 in
theorem markPoint_any (A : Option Addr) (m c k0 B : Nat) (l : List (Int × Int)) (w : World) (hm : l.length = m) (ho : OwnE 2 encPoint w B 33 (.slice A m c) l) (hl : m ≤ 1099511627776) (hk : k0 ≤ 1099511627776) :
    Calls Tryd.prog 19 #[.slice A m c, .int .i64 k0] w fun e w' => e = .returned (.int .i64 (k0 + m * 2 : Nat)) ∧ OwnE 2 encPoint w' B 33 (.slice A m c) (mkPoint k0 m) ∧ w.grownBy w' (Value.ownBlock (.slice A m c)) := by
  have HO := Lib.hid ho; clear ho
  have HN := Lib.hid hm; clear hm
  go_enter Tryd.func19, Tryd.ntmps19
  go_wp2
  go_loopw [1, 5] (fun kk i wr => MarkPointRel B A m c k0 w kk i wr) (fun _ i _ => m - (intOf i).toNat)
  case atStart => exact ⟨0, l, Nat.zero_le _, rfl, by go_num, HN.out, FillE.zero _ _, HO.out, World.grownBy.refl _ _⟩
  case round =>
    obtain ⟨j, L, hj, rfl, rfl, hL, hf, ho, hg⟩ := hrel
    clear HO HN
    by_cases hlt : j < m
    · obtain ⟨g, rfl, hB, -, hr⟩ := ho.row (by omega)
      obtain ⟨⟨y0, y1⟩, hy⟩ : ∃ y, L[j]? = some y := ⟨_, List.getElem?_eq_getElem (by omega)⟩
      obtain ⟨c0, c1⟩ := rowCellsPoint hr hy
      obtain ⟨f0, f1⟩ := rowFrozenPoint hr j
      have HF := Lib.hid hf; clear hf
      have HR := Lib.hid hr; clear hr
      have HL := Lib.hid hL; clear hL
      have HG := Lib.hid hg; clear hg
      clear hy ho
      obtain ⟨K, hK⟩ : ∃ K : Int, ((k0 + j * 2 : Nat) : Int) = K := ⟨_, rfl⟩
      have hK0 : 0 ≤ K ∧ K ≤ 6597069766656 := by omega
      have hw1 : IntKind.i64.wrap (K + 1) = K + 1 := IntWalk.i64_in _ (by omega)
      have hw2 : IntKind.i64.wrap (K + 1 + 1) = K + 1 + 1 := IntWalk.i64_in _ (by omega)
      have HA : Hid (mkAtPoint k0 j = (K, K + 1)) := Lib.hid (by rw [← hK]; rfl)
      have HK : Hid (K + 2 = ((k0 + (j + 1) * 2 : Nat) : Int)) := Lib.hid (by omega)
      rw [hK]
      clear hK hK0
      go_wp2
      go_roundw
      case rel =>
        have h2 := (rowPoint_set HR.out (by rw [HL.out]; exact hlt) (K) (K + 1)).own elPoint hB
        rw [List.length_set, HL.out] at h2
        exact ⟨j + 1, _, by omega, by go_num, by rw [← HK.out]; go_num, by rw [List.length_set]; exact HL.out, HF.out.set (by rw [HL.out]; exact hlt) (congrArg some HA.out), h2, (growE_setCell (growE_setCell HG.out (j * 2) _) (j * 2 + 1) _)⟩
      case measure => simp [intOf]; omega
    · obtain rfl : j = m := by omega
      have HF := Lib.hid hf; clear hf
      have HO := Lib.hid ho; clear ho
      have HG := Lib.hid hg; clear hg
      have HL := Lib.hid hL; clear hL
      go_wp2
      go_ret
      have e : L = mkPoint k0 j := FillE.done (f := fun i => some (mkAtPoint k0 i)) (by rw [HL.out]; exact HF.out) (by rw [mkPoint_len]; exact HL.out.symm) (fun i hi => mkPoint_get _ _ _ (by rw [mkPoint_len] at hi; exact hi))
      have ho := HO.out
      rw [e] at ho
      exact ⟨rfl, ho, HG.out⟩
/-- The mark of a held row. -/
def MarkPointHeld (lo hi : Nat) (A : Option Addr) (m c k0 : Nat) (w : World) (e : Ending) (w' : World) : Prop :=
  ∃ q : Nat, Hid (q = k0 + m * 2) ∧ e = .returned (.int .i64 q) ∧ HeldE 2 encPoint w' lo hi 33 (.slice A m c) (mkPoint k0 m) ∧ w.grownBy w' (Value.ownBlock (.slice A m c))
theorem markPoint_held (A : Option Addr) (m c k0 lo hi : Nat) (l : List (Int × Int)) (w : World) (ho : HeldE 2 encPoint w lo hi 33 (.slice A m c) l) (hm : l.length = m) (hl : m ≤ 1099511627776) (hk : k0 ≤ 1099511627776) :
    Calls Tryd.prog 19 #[.slice A m c, .int .i64 k0] w (MarkPointHeld lo hi A m c k0 w) :=
  (markPoint_any A m c k0 lo l w hm ho.1 hl hk).mono fun e w' ⟨h1, h2, h3⟩ => ⟨_, Lib.hid rfl, h1, ⟨h2, ho.2.1, Nat.le_trans ho.2.2 h3.size⟩, h3⟩
set_option maxRecDepth 100000 in
theorem heldPoint_any (A : Option Addr) (m c k0 B : Nat) (w : World) (hs : SeesE 2 encPoint w B A (mkPoint k0 m)) (hl : m ≤ 1099511627776) (hk : k0 ≤ 1099511627776) :
    Calls Tryd.prog 20 #[.slice A m c, .int .i64 k0] w fun e w' => e = .returned (.int .i64 (k0 + m * 2 : Nat)) ∧ w = w' := by
  have HS := Lib.hid hs; clear hs
  go_enter Tryd.func20, Tryd.ntmps20
  go_wp2
  go_loop [1, 5] (fun kk i => ∃ j : Nat, j ≤ m ∧ i = .int .i64 j ∧ kk = .int .i64 (k0 + j * 2 : Nat)) (fun _ i => m - (intOf i).toNat)
  case atStart => exact ⟨0, Nat.zero_le _, rfl, by go_num⟩
  case round =>
    obtain ⟨j, hj, rfl, rfl⟩ := hrel
    by_cases hlt : j < m
    · obtain ⟨b, off, rfl, hbl, -⟩ := HS.out j _ (mkPoint_get k0 m j hlt)
      obtain ⟨K, hK⟩ : ∃ K : Int, ((k0 + j * 2 : Nat) : Int) = K := ⟨_, rfl⟩
      have hx : (mkPoint k0 m)[j]? = some (K, K + 1) := by rw [mkPoint_get k0 m j hlt, ← hK]; rfl
      obtain ⟨c0, c1⟩ := cellsPoint HS.out hx
      have hK0 : 0 ≤ K ∧ K ≤ 6597069766656 := by omega
      have hw1 : IntKind.i64.wrap (K + 1) = K + 1 := IntWalk.i64_in _ (by omega)
      have hw2 : IntKind.i64.wrap (K + 1 + 1) = K + 1 + 1 := IntWalk.i64_in _ (by omega)
      have HK : Hid (K + 2 = ((k0 + (j + 1) * 2 : Nat) : Int)) := Lib.hid (by omega)
      rw [hK]
      clear hK hK0 hx
      go_wp2
      go_round
      case rel => exact ⟨j + 1, by omega, by go_num, by rw [← HK.out]; go_num⟩
      case measure => simp [intOf]; omega
    · obtain rfl : j = m := by omega
      go_wp2
      go_ret
      exact ⟨rfl, rfl⟩
/-- The marks are found again: the next number. -/
theorem heldPoint_q (A : Option Addr) (m c k0 B : Nat) (w : World) (hs : SeesE 2 encPoint w B A (mkPoint k0 m)) (hl : m ≤ 1099511627776) (hk : k0 ≤ 1099511627776) :
    Calls Tryd.prog 20 #[.slice A m c, .int .i64 k0] w fun e w' => ∃ q : Nat, Hid (q = k0 + m * 2) ∧ e = .returned (.int .i64 q) ∧ w = w' :=
  (heldPoint_any A m c k0 B w hs hl hk).mono fun e w' ⟨h1, h2⟩ => ⟨_, Lib.hid rfl, h1, h2⟩
end Go.Proofs.YtpbmngbigdaklaaDoor
end
section
/- markText of the laws: a text for each int, the same each time. -/
namespace Go.Proofs.YtpbmngbigdaklaaDoor
open Go.ChangeShapes Go.WideShapes Go.ChangeAt Go.RowKit
set_option linter.unusedVariables false

def mkD (d : Nat) : UInt8 := UInt8.ofNat (48 + d)
theorem mkD_int (d : Nat) (h : d < 10) : (Value.int .u8 ((mkD d).toNat : Int)) = .int .u8 (48 + (d : Int)) := by
  unfold mkD
  congr 1
  have : (UInt8.ofNat (48 + d)).toNat = 48 + d := by simp [UInt8.toNat_ofNat]; omega
  omega
def mkG (x : Nat) (l : List UInt8) : List UInt8 := if h : x = 0 then l else mkG (x / 10) (mkD (x % 10) :: l)
termination_by x
decreasing_by omega
theorem mkG_zero (l : List UInt8) : mkG 0 l = l := by unfold mkG; simp
theorem mkG_step (x : Nat) (l : List UInt8) (h : x ≠ 0) : mkG x l = mkG (x / 10) (mkD (x % 10) :: l) := by rw [mkG]; simp [h]
theorem mkG_len (x : Nat) : ∀ l, l.length ≤ (mkG x l).length ∧ (mkG x l).length ≤ x / 10 + 1 + l.length ∧ (x ≠ 0 → l.length + 1 ≤ (mkG x l).length) := by
  induction x using Nat.strongRecOn with
  | _ x ih =>
    intro l
    by_cases h : x = 0
    · subst h; rw [mkG_zero]; exact ⟨Nat.le_refl _, by omega, by omega⟩
    · rw [mkG_step x l h]
      by_cases h1 : x / 10 = 0
      · rw [h1, mkG_zero]; simp only [List.length_cons]; exact ⟨by omega, by omega, by omega⟩
      · obtain ⟨a, b, c⟩ := ih (x / 10) (by omega) (mkD (x % 10) :: l)
        simp only [List.length_cons] at a b c
        exact ⟨by omega, by omega, fun _ => by omega⟩
theorem mkG_dig (m : Nat) : ∀ x l, x < 10 ^ m → (mkG x l).length ≤ m + l.length := by
  induction m with
  | zero => intro x l h; have : x = 0 := by simp at h; exact h
            subst this; rw [mkG_zero]; omega
  | succ m ih =>
    intro x l h
    by_cases hx : x = 0
    · subst hx; rw [mkG_zero]; omega
    · rw [mkG_step x l hx]
      have := ih (x / 10) (mkD (x % 10) :: l) (by rw [Nat.pow_succ] at h; omega)
      simp only [List.length_cons] at this
      omega
/-- The text that marks k. -/
def mkV (k : Int) : ByteArray := if k ≤ 0 then ⟨([109, 48] : List UInt8).toArray⟩ else ⟨(109 :: mkG k.toNat []).toArray⟩
theorem mk_conv (w : World) (b : Nat) (d : Nat) (z : Int) (hd : d < 10) (hz : z = 48 + (d : Int)) (hb : b = w.heap.size) :
    (convert 22 9 (.slice (some ⟨b, 0, none⟩) 1 1)).run Tryd.prog (w.alloc (.cells #[.int .u8 z] 5)) = .ok (.string ⟨[mkD d].toArray⟩) (w.alloc (.cells #[.int .u8 z] 5)) := by
  refine run_convert_bytes_back (P := Tryd.prog) _ 22 9 5 ⟨b, 0, none⟩ 1 [mkD d] Tryd.underlying22 Tryd.underlying5 Tryd.underlying9 ?_
  intro j hj
  have hj0 : j = 0 := by simp at hj; omega
  subst hj0; subst hb; subst hz
  simp only [List.getElem_cons_zero]
  rw [mkD_int d hd]
  simp [Addr.add, go_sem]
theorem mk_ret {a b : List UInt8} (h : a = b) : Ending.returned (.string ⟨a.toArray⟩) = .returned (.string ⟨b.toArray⟩) := by rw [h]

/-- The head of a round: digits l have been taken off, x is what is left. -/
def MkRel (n : Int) (B : Nat) (w : World) (v3 v4 : Value) (wr : World) : Prop :=
  ∃ x : Int, ∃ l : List UInt8, v4 = .int .i64 x ∧ v3 = .string ⟨l.toArray⟩ ∧ mkG x.toNat l = mkG n.toNat [] ∧
    0 ≤ x ∧ x ≤ 9223372036854775807 ∧ Below B w wr

end Go.Proofs.YtpbmngbigdaklaaDoor
end
section
/- Marks over features: what they lay, and what they leave. -/
namespace Go.Proofs.YtpbmngbigdaklaaDoor
open Go.ChangeShapes Go.WideShapes Go.ChangeAt Go.RowKit
set_option linter.unusedVariables false

/-- What a mark lays over one feature, over a list, and the next number. -/
def mkF1 (k : Nat) (f : Feat) : Feat := ((k : Int), (k : Int) + 1, (k : Int) + 2, mkV ((k : Int) + 3), mkPoint (k + 4) f.2.2.2.2.length)
def mkFn (k : Nat) (f : Feat) : Nat := k + 4 + f.2.2.2.2.length * 2
def mkFs : Nat → List Feat → List Feat
  | _, [] => []
  | k, f :: t => mkF1 k f :: mkFs (mkFn k f) t
def mkFq : Nat → List Feat → Nat
  | k, [] => k
  | k, f :: t => mkFq (mkFn k f) t
theorem mkFs_len (l : List Feat) : ∀ k, (mkFs k l).length = l.length := by
  induction l with
  | nil => intro k; rfl
  | cons f t ih => intro k; simp [mkFs, ih]
theorem mkFq_app (l l2 : List Feat) : ∀ k, mkFq k (l ++ l2) = mkFq (mkFq k l) l2 := by
  induction l with
  | nil => intro k; rfl
  | cons f t ih => intro k; simp [mkFq, ih]
theorem mkFs_app (l l2 : List Feat) : ∀ k, mkFs k (l ++ l2) = mkFs k l ++ mkFs (mkFq k l) l2 := by
  induction l with
  | nil => intro k; rfl
  | cons f t ih => intro k; simp [mkFs, mkFq, ih]
theorem mkFq_le (l : List Feat) : ∀ k, k ≤ mkFq k l := by
  induction l with
  | nil => intro k; exact Nat.le_refl _
  | cons f t ih => intro k; have := ih (mkFn k f); simp only [mkFq]; unfold mkFn at this ⊢; omega
theorem take_succF {l : List Feat} {j : Nat} {f : Feat} (h : l[j]? = some f) : l.take (j + 1) = l.take j ++ [f] := by
  rw [List.take_add_one, h]; rfl
theorem mkFq_succ {l : List Feat} {j : Nat} {f : Feat} (k : Nat) (h : l[j]? = some f) : mkFq k (l.take (j + 1)) = mkFn (mkFq k (l.take j)) f := by
  rw [take_succF h, mkFq_app]; rfl
theorem mkFq_take (l : List Feat) (k j : Nat) : mkFq k (l.take j) ≤ mkFq k l := by
  have := mkFq_app (l.take j) (l.drop j) k
  rw [List.take_append_drop] at this
  rw [this]
  exact mkFq_le _ _
/-- The list in the middle of a walk. -/
def mkMid (k j : Nat) (l : List Feat) : List Feat := mkFs k (l.take j) ++ l.drop j
theorem mkMid_zero (k : Nat) (l : List Feat) : mkMid k 0 l = l := rfl
theorem mkMid_all (k : Nat) (l : List Feat) : mkMid k l.length l = mkFs k l := by simp [mkMid]
theorem mkMid_at {k j : Nat} {l : List Feat} {f : Feat} (h : l[j]? = some f) : (mkMid k j l)[j]? = some f := by
  have hj := (List.getElem?_eq_some_iff.1 h).1
  unfold mkMid
  rw [List.getElem?_append_right (by rw [mkFs_len, List.length_take]; omega), mkFs_len, List.length_take, List.getElem?_drop]
  rw [show j + (j - min j l.length) = j by omega]; exact h
theorem mkMid_succ {k j : Nat} {l : List Feat} {f : Feat} (h : l[j]? = some f) : mkMid k (j + 1) l = (mkMid k j l).set j (mkF1 (mkFq k (l.take j)) f) := by
  have hj := (List.getElem?_eq_some_iff.1 h).1
  have hd : l.drop j = f :: l.drop (j + 1) := by
    rw [List.drop_eq_getElem_cons hj]
    congr 1
    exact (List.getElem?_eq_some_iff.1 h).2
  unfold mkMid
  rw [take_succF h, mkFs_app, hd, List.set_append_right _ _ (by rw [mkFs_len, List.length_take]; omega), mkFs_len, List.length_take, show j - min j l.length = 0 by omega]
  simp [mkFs]
theorem mkFs_get {l : List Feat} {j : Nat} {f : Feat} (k : Nat) (h : l[j]? = some f) : (mkFs k l)[j]? = some (mkF1 (mkFq k (l.take j)) f) := by
  have hj := (List.getElem?_eq_some_iff.1 h).1
  have e : l = l.take j ++ f :: l.drop (j + 1) := by
    have hd : l.drop j = f :: l.drop (j + 1) := by
      rw [List.drop_eq_getElem_cons hj]; congr 1; exact (List.getElem?_eq_some_iff.1 h).2
    rw [← hd, List.take_append_drop]
  have e2 := congrArg (mkFs k) e
  rw [mkFs_app] at e2
  rw [e2, List.getElem?_append_right (by rw [mkFs_len, List.length_take]; omega), mkFs_len, List.length_take, show j - min j l.length = 0 by omega]
  rfl

/-- Nothing outside the blocks from lo to hi has changed. -/
structure Within (lo hi : Nat) (w w' : World) : Prop where
  os : w'.os = w.os
  tape : w'.tape = w.tape
  output : w'.output = w.output
  size : w.heap.size ≤ w'.heap.size
  block : ∀ k, k < w.heap.size → (k < lo ∨ hi ≤ k) → w'.heap[k]? = w.heap[k]?
section
variable {w w' w'' w0 : World} {lo hi lo' hi' : Nat} {v : Value} {l : List Feat} {r : Option Nat}
theorem Within.refl (lo hi : Nat) (w : World) : Within lo hi w w := ⟨rfl, rfl, rfl, Nat.le_refl _, fun _ _ _ => rfl⟩
theorem Within.trans (h : Within lo hi w w') (k : Within lo hi w' w'') : Within lo hi w w'' :=
  ⟨k.os.trans h.os, k.tape.trans h.tape, k.output.trans h.output, Nat.le_trans h.size k.size, fun i hi' ho => (k.block i (Nat.lt_of_lt_of_le hi' h.size) ho).trans (h.block i hi' ho)⟩
theorem Within.of (lo hi : Nat) (h : Below w.heap.size w w') : Within lo hi w w' := ⟨h.os, h.tape, h.output, h.size, fun k hk _ => h.block k hk⟩
theorem Within.grown (h : w.grownBy w' r) (hr : ∀ g, r = some g → lo ≤ g ∧ g < hi) : Within lo hi w w' :=
  ⟨h.os, h.tape, h.output, h.size, fun k hk ho => h.block k hk fun e => by have := hr k e.symm; omega⟩
theorem Within.cell {g : Nat} (h1 : lo ≤ g) (h2 : g < hi) (i : Nat) (u : Value) : Within lo hi w (w.setCell ⟨g, i, none⟩ u) :=
  Within.grown (growE_setCell (World.grownBy.refl w (some g)) i u) fun g' e => by simp only [Option.some.injEq] at e; subst e; exact ⟨h1, h2⟩
theorem Within.below {B : Nat} (h : Within lo hi w w') (hB : B ≤ lo) (hw : B ≤ w.heap.size) : Below B w w' := ⟨h.os, h.tape, h.output, h.size, fun k hk => h.block k (Nat.lt_of_lt_of_le hk hw) (.inl (Nat.lt_of_lt_of_le hk hB))⟩
theorem OwnE.within {α : Type} {n : Nat} {enc : α → List Value} {B : Nat} {e : TypeId} {L : List α} (h : OwnE n enc w B e v L) (hw : Within lo hi w w') (hv : ∀ g, v.ownBlock = some g → g < lo ∨ hi ≤ g) : OwnE n enc w' B e v L := by
  have hlt := h.lt
  refine ⟨h.1, ?_⟩
  rcases h.2 with hn | ⟨g, cap, cur, rfl, hB, hg, rest⟩
  · exact .inl hn
  · exact .inr ⟨g, cap, cur, rfl, hB, (hw.block g (hlt g rfl).2 (hv g rfl)).trans hg, rest⟩
theorem HeldE.within {α : Type} {n : Nat} {enc : α → List Value} {e : TypeId} {L : List α} (h : HeldE n enc w lo' hi' e v L) (hd : hi' ≤ lo ∨ hi ≤ lo') (hw : Within lo hi w w') : HeldE n enc w' lo' hi' e v L :=
  ⟨h.1.within hw fun g hg => by have := (h.1.lt g hg).1; have := h.2.1 g hg; omega, h.2.1, Nat.le_trans h.2.2 hw.size⟩

/-- One feature of the rows is marked. -/
theorem RowsF.mark {xs : List FCel} {j : Nat} {x x' : FCel} {f f' : Feat} (h : RowsF w lo v xs l) (hx : xs[j]? = some x) (hf : l[j]? = some f) (hg : w.grownBy w' (slF x).ownBlock)
    (hs : slF x' = slF x) (hS : Shal x' f') (ho : OwnE 2 encPoint w' lo 33 (slF x) f'.2.2.2.2) : RowsF w' lo v (xs.set j x') (l.set j f') := by
  have hjx := (List.getElem?_eq_some_iff.1 hx).1
  have hjl := (List.getElem?_eq_some_iff.1 hf).1
  have key : ∀ (i : Nat) y, (xs.set j x')[i]? = some y → ∃ y0, xs[i]? = some y0 ∧ slF y = slF y0 := fun i y hy => by
    by_cases hij : i = j
    · subst hij
      rw [List.getElem?_set_self hjx] at hy
      obtain rfl : x' = y := by simpa using hy
      exact ⟨x, hx, hs⟩
    · rw [List.getElem?_set_ne (fun e => hij e.symm)] at hy
      exact ⟨y, hy, rfl⟩
  refine ⟨by simp [h.1], fun i k y z b hik hy hz hb => ?_, fun i y g hy hgg => ?_⟩
  · obtain ⟨y0, hy0, e1⟩ := key i y hy
    obtain ⟨z0, hz0, e2⟩ := key k z hz
    rw [e1] at hb
    rw [e2]
    exact h.2.1 i k y0 z0 b hik hy0 hz0 hb
  · by_cases hij : i = j
    · subst hij
      rw [List.getElem?_set_self hjx] at hy
      rw [List.getElem?_set_self hjl] at hgg
      obtain rfl : x' = y := by simpa using hy
      obtain rfl : f' = g := by simpa using hgg
      refine ⟨hS, hs ▸ ho, fun b hb => ?_⟩
      rw [hs] at hb
      exact (h.2.2 i x f hx hf).2.2 b hb
    · rw [List.getElem?_set_ne (fun e => hij e.symm)] at hy hgg
      obtain ⟨a, b, c⟩ := h.2.2 i y g hy hgg
      refine ⟨a, b.kept hg ?_, c⟩
      match hv : (slF y).ownBlock with
      | none => exact .inl rfl
      | some p => exact .inr fun e => h.2.1 i j y x p hij hy hx hv (e ▸ rfl)
end
end Go.Proofs.YtpbmngbigdaklaaDoor
end
section
/- Lines: IsLine of the model. -/
namespace Go.Proofs.YtpbmngbigdaklaaDoor
open Go.ChangeShapes Go.WideShapes Go.ChangeAt Go.RowKit
set_option linter.unusedVariables false

theorem cellsPoint0 {w : World} {B : Nat} {b off : Nat} {l : List (Int × Int)} {t0 t1 : Int} (h : SeesE 2 encPoint w B (some ⟨b, off, none⟩) l) (hj : l[0]? = some (t0, t1)) : w.cell? ⟨b, off, none⟩ = some (.int .i64 t0) ∧ w.cell? ⟨b, off + 1, none⟩ = some (.int .i64 t1) := by
  have := cellsPoint h hj
  rwa [Nat.zero_mul, Nat.add_zero] at this
theorem upTo_step {p : Nat → Prop} {j : Nat} (h : ∀ i, i < j → p i) (hj : p j) : ∀ i, i < j + 1 → p i := fun i hi => by
  by_cases e : i = j
  · rw [e]; exact hj
  · exact h i (by omega)
theorem isLn_bad {l : List (Int × Int)} {j : Nat} (hj : j < l.length) (h : ptOk l j = false) : isLn l = false := by
  rw [isLn_pts]
  have : decide (∀ i, i < l.length → ptOk l i = true) = false := decide_eq_false fun g => by rw [g j hj] at h; cases h
  rw [this]; rfl
theorem isLn_good {l : List (Int × Int)} (h : ∀ i, i < l.length → ptOk l i = true) : inB l.length 2 10 = isLn l := by
  rw [isLn_pts, decide_eq_true h, Bool.true_and]
section
variable {l : List (Int × Int)} {j k : Nat} {x y x' y' : Int}
theorem ptOk_p (hx : l[j]? = some (x, y)) (hq : isP x y = false) : ptOk l j = false := by simp only [ptOk, hx, hq, Bool.false_and]
theorem ptOk_0 (hx : l[0]? = some (x, y)) (hq : isP x y = true) : ptOk l 0 = true := by simp only [ptOk, hx, hq]; rfl
theorem ptOk_s (hx : l[k + 1]? = some (x, y)) (hx' : l[k]? = some (x', y')) (hq : isP x y = true) : ptOk l (k + 1) = !decide (x' = x ∧ y' = y) := by
  simp only [ptOk, hx, hq, Nat.add_sub_cancel, hx', Bool.true_and]
  have : (k + 1 == 0) = false := rfl
  rw [this, Bool.false_or]
  congr 1
  rw [Bool.eq_iff_iff, beq_iff_eq, decide_eq_true_eq, Option.some.injEq, Prod.mk.injEq]
end
def isLnT : List (Nat × Nat × Nat) := [(0, 11, 1), (0, 12, 8), (3, 13, 3072), (4, 14, 4096), (8, 15, 8192), (16, 16, 16384), (48, 17, 32768), (64, 18, 65544), (192, 19, 196608), (320, 20, 327680), (512, 21, 524289), (512, 22, 524296), (2560, 23, 2621440), (5632, 24, 5767168), (8704, 25, 8912896), (512, 26, 524289), (512, 27, 524296), (98816, 28, 101187584), (131584, 29, 134742016), (279040, 30, 285736960), (524864, 31, 537460736), (1048640, 32, 1073807360)]
def isLnS : List (Nat × Bool) := [(0, true), (1, true), (2, true), (3, true), (4, false), (5, true), (6, true), (7, true), (8, true), (9, true), (10, true), (11, true), (12, true), (13, true), (14, true), (15, true), (16, true), (17, true), (18, true), (19, true), (20, true), (21, true)]
set_option maxRecDepth 100000 in
set_option maxHeartbeats 40000000 in
theorem sIsLine_is (A : Option Addr) (c : Nat) (l : List (Int × Int)) (w : World) (hs : SeesE 2 encPoint w w.heap.size A l) (hl : l.length ≤ 1099511627776) (z : Bool) (hz : isLn l = z) :
    Calls Tryd.prog 39 #[.slice A l.length c] w fun e w' => e = .returned (.bool z) ∧ Below w.heap.size w w' := by
  have HS := Lib.hid hs; clear hs
  have HZ := Lib.hid hz; clear hz
  go_enter Tryd.func39, Tryd.ntmps39
  go_wp2
  go_loopw [3] (fun i wr => ∃ j : Nat, j ≤ l.length ∧ i = .int .i64 j ∧ Hid (∀ i, i < j → ptOk l i = true) ∧ Hid (Below w.heap.size w wr)) (fun i _ => l.length - (intOf i).toNat)
  case atStart => exact ⟨0, Nat.zero_le _, rfl, Lib.hid (fun i h => by omega), Lib.hid (Below.refl _ _)⟩
  case round =>
    obtain ⟨j, hj, rfl, hp, hb⟩ := hrel
    by_cases hlt : j < l.length
    · obtain ⟨b, off, ⟨x, y⟩, rfl, hbl, hx, -⟩ := (HS.out.below hb.out).lt hlt
      have hji : (j : Int) < (l.length : Int) := by omega
      have HB := Lib.hid hb.out.drew
      cases hq : isP x y
      · obtain rfl : z = false := HZ.out.symm.trans (isLn_bad hlt (ptOk_p hx hq))
        have HX := Lib.hid hx; clear hx
        go_upto_region 4 with fail
        refine wp_region_held_drew (S := (fun w' => w'.cell? ⟨b, off + j * 2, none⟩ = some (.int .i64 x) ∧ w'.cell? ⟨b, off + j * 2 + 1, none⟩ = some (.int .i64 y))) (by kernel_rfl) ⟨(cellsPoint (HS.out.below HB.out) HX.out).1, (cellsPoint (HS.out.below HB.out) HX.out).2⟩ (fun hHeld => ?_)
        refine to_lin (T := isLnT) (n := 22) isLnS ⟨by kernel_rfl, by kernel_rfl, by kernel_rfl⟩ (by kernel_rfl) (fun hTag => ?_)
        iterate 4 (refine lin_on (v := ?_) rfl (fun _ _ _ h => h) (by rfl) ?_ (by assumption) ?_; rotate_left; (· (intro wq hSw; go_simp; try with_reducible rfl)); try simp only [Act.put, List.setIfInBounds_toArray, List.set_cons_zero, List.set_cons_succ])
        refine lin_call rfl (by rfl) (fun K hK => ?_)
        go_simp
        go_at_call 62
        refine (sIsPoint_is _ _ _ _ hq).mono ?_
        rintro e w9 ⟨rfl, hb9⟩
        have HB := Lib.hid (HB.out.trans (hb9.mono HB.out.size))
        clear hb9
        go_wp2_with fail
        refine hK.out _ _ ?_ (fun hHeld => ?_)
        · exact ⟨(cellsPoint (HS.out.below HB.out) HX.out).1, (cellsPoint (HS.out.below HB.out) HX.out).2⟩
        clear hK K
        try simp only [Act.put, List.setIfInBounds_toArray, List.set_cons_zero, List.set_cons_succ]
        iterate 2 (refine lin_on (v := ?_) rfl (fun _ _ _ h => h) (by rfl) ?_ (by assumption) ?_; rotate_left; (· (intro wq hSw; go_simp; try with_reducible rfl)); try simp only [Act.put, List.setIfInBounds_toArray, List.set_cons_zero, List.set_cons_succ])
        iterate 14 (refine lin_off rfl (fun _ _ _ h => h) (by rfl) (by assumption) ?_; try simp only [Act.put, List.setIfInBounds_toArray, List.set_cons_zero, List.set_cons_succ])
        (refine lin_on (v := ?_) rfl (fun _ _ _ h => h) (by rfl) ?_ (by assumption) ?_; rotate_left; (· (intro wq hSw; go_simp; try with_reducible rfl)); try simp only [Act.put, List.setIfInBounds_toArray, List.set_cons_zero, List.set_cons_succ])
        refine lin_done ?_
        go_wp2
        go_ret
        exact ⟨rfl, HB.out⟩
      · cases j with
        | zero =>
          have HX := Lib.hid hx; clear hx
          go_upto_region 4 with fail
          refine wp_region_held_drew (S := (fun w' => w'.cell? ⟨b, off, none⟩ = some (.int .i64 x) ∧ w'.cell? ⟨b, off + 1, none⟩ = some (.int .i64 y))) (by kernel_rfl) (cellsPoint0 (HS.out.below HB.out) HX.out) (fun hHeld => ?_)
          refine to_lin (T := isLnT) (n := 22) isLnS ⟨by kernel_rfl, by kernel_rfl, by kernel_rfl⟩ (by kernel_rfl) (fun hTag => ?_)
          iterate 4 (refine lin_on (v := ?_) rfl (fun _ _ _ h => h) (by rfl) ?_ (by assumption) ?_; rotate_left; (· (intro wq hSw; go_simp; try with_reducible rfl)); try simp only [Act.put, List.setIfInBounds_toArray, List.set_cons_zero, List.set_cons_succ])
          refine lin_call rfl (by rfl) (fun K hK => ?_)
          go_simp
          go_at_call 62
          refine (sIsPoint_is _ _ _ _ hq).mono ?_
          rintro e w9 ⟨rfl, hb9⟩
          have HB := Lib.hid (HB.out.trans (hb9.mono HB.out.size))
          clear hb9
          go_wp2_with fail
          refine hK.out _ _ ?_ (fun hHeld => ?_)
          · exact (cellsPoint0 (HS.out.below HB.out) HX.out)
          clear hK K
          try simp only [Act.put, List.setIfInBounds_toArray, List.set_cons_zero, List.set_cons_succ]
          iterate 5 (refine lin_on (v := ?_) rfl (fun _ _ _ h => h) (by rfl) ?_ (by assumption) ?_; rotate_left; (· (intro wq hSw; go_simp; try with_reducible rfl)); try simp only [Act.put, List.setIfInBounds_toArray, List.set_cons_zero, List.set_cons_succ])
          iterate 10 (refine lin_off rfl (fun _ _ _ h => h) (by rfl) (by assumption) ?_; try simp only [Act.put, List.setIfInBounds_toArray, List.set_cons_zero, List.set_cons_succ])
          iterate 2 (refine lin_on (v := ?_) rfl (fun _ _ _ h => h) (by rfl) ?_ (by assumption) ?_; rotate_left; (· (intro wq hSw; go_simp; try with_reducible rfl)); try simp only [Act.put, List.setIfInBounds_toArray, List.set_cons_zero, List.set_cons_succ])
          refine lin_done ?_
          go_wp2
          go_roundw
          case rel => exact ⟨0 + 1, by omega, by go_num, Lib.hid (upTo_step hp.out (ptOk_0 HX.out hq)), HB⟩
          case measure => simp [intOf]; omega
        | succ k =>
          obtain ⟨⟨x', y'⟩, hx'⟩ : ∃ p, l[k]? = some p := ⟨_, List.getElem?_eq_getElem (by omega)⟩
          have HK := Lib.hid (ptOk_s hx hx' hq)
          have HX := Lib.hid hx; clear hx
          have HX' := Lib.hid hx'; clear hx'
          have e1 : ((k + 1 : Nat) : Int) = (k : Int) + 1 := by omega
          rw [e1] at hji ⊢
          have hw : IntKind.i64.wrap (k : Int) = k := IntWalk.i64_in _ (by omega)
          have hpos : (0 : Int) < (k : Int) + 1 := by omega
          have hnn : (0 : Int) ≤ (k : Int) + 1 := by omega
          have hkl : (k : Int) < (l.length : Int) := by omega
          by_cases h0 : x' = x
          · by_cases h1 : y' = y
            · obtain rfl : z = false := HZ.out.symm.trans (isLn_bad hlt (by rw [HK.out, decide_eq_true ⟨h0, h1⟩]; rfl))
              subst h0 h1
              go_upto_region 4 with fail
              refine wp_region_held_drew (S := (fun w' => w'.cell? ⟨b, off + (k + 1) * 2, none⟩ = some (.int .i64 x') ∧ w'.cell? ⟨b, off + (k + 1) * 2 + 1, none⟩ = some (.int .i64 y') ∧ w'.cell? ⟨b, off + k * 2, none⟩ = some (.int .i64 x') ∧ w'.cell? ⟨b, off + k * 2 + 1, none⟩ = some (.int .i64 y'))) (by kernel_rfl) ⟨(cellsPoint (HS.out.below HB.out) HX.out).1, (cellsPoint (HS.out.below HB.out) HX.out).2, (cellsPoint (HS.out.below HB.out) HX'.out).1, (cellsPoint (HS.out.below HB.out) HX'.out).2⟩ (fun hHeld => ?_)
              refine to_lin (T := isLnT) (n := 22) isLnS ⟨by kernel_rfl, by kernel_rfl, by kernel_rfl⟩ (by kernel_rfl) (fun hTag => ?_)
              iterate 4 (refine lin_on (v := ?_) rfl (fun _ _ _ h => h) (by rfl) ?_ (by assumption) ?_; rotate_left; (· (intro wq hSw; go_simp; try with_reducible rfl)); try simp only [Act.put, List.setIfInBounds_toArray, List.set_cons_zero, List.set_cons_succ])
              refine lin_call rfl (by rfl) (fun K hK => ?_)
              go_simp
              go_at_call 62
              refine (sIsPoint_is _ _ _ _ hq).mono ?_
              rintro e w9 ⟨rfl, hb9⟩
              have HB := Lib.hid (HB.out.trans (hb9.mono HB.out.size))
              clear hb9
              go_wp2_with fail
              refine hK.out _ _ ?_ (fun hHeld => ?_)
              · exact ⟨(cellsPoint (HS.out.below HB.out) HX.out).1, (cellsPoint (HS.out.below HB.out) HX.out).2, (cellsPoint (HS.out.below HB.out) HX'.out).1, (cellsPoint (HS.out.below HB.out) HX'.out).2⟩
              clear hK K
              try simp only [Act.put, List.setIfInBounds_toArray, List.set_cons_zero, List.set_cons_succ]
              iterate 17 (refine lin_on (v := ?_) rfl (fun _ _ _ h => h) (by rfl) ?_ (by assumption) ?_; rotate_left; (· (intro wq hSw; go_simp; try with_reducible rfl)); try simp only [Act.put, List.setIfInBounds_toArray, List.set_cons_zero, List.set_cons_succ])
              refine lin_done ?_
              go_wp2
              go_ret
              exact ⟨rfl, HB.out⟩
            · subst h0
              go_upto_region 4 with fail
              refine wp_region_held_drew (S := (fun w' => w'.cell? ⟨b, off + (k + 1) * 2, none⟩ = some (.int .i64 x') ∧ w'.cell? ⟨b, off + (k + 1) * 2 + 1, none⟩ = some (.int .i64 y) ∧ w'.cell? ⟨b, off + k * 2, none⟩ = some (.int .i64 x') ∧ w'.cell? ⟨b, off + k * 2 + 1, none⟩ = some (.int .i64 y'))) (by kernel_rfl) ⟨(cellsPoint (HS.out.below HB.out) HX.out).1, (cellsPoint (HS.out.below HB.out) HX.out).2, (cellsPoint (HS.out.below HB.out) HX'.out).1, (cellsPoint (HS.out.below HB.out) HX'.out).2⟩ (fun hHeld => ?_)
              refine to_lin (T := isLnT) (n := 22) isLnS ⟨by kernel_rfl, by kernel_rfl, by kernel_rfl⟩ (by kernel_rfl) (fun hTag => ?_)
              iterate 4 (refine lin_on (v := ?_) rfl (fun _ _ _ h => h) (by rfl) ?_ (by assumption) ?_; rotate_left; (· (intro wq hSw; go_simp; try with_reducible rfl)); try simp only [Act.put, List.setIfInBounds_toArray, List.set_cons_zero, List.set_cons_succ])
              refine lin_call rfl (by rfl) (fun K hK => ?_)
              go_simp
              go_at_call 62
              refine (sIsPoint_is _ _ _ _ hq).mono ?_
              rintro e w9 ⟨rfl, hb9⟩
              have HB := Lib.hid (HB.out.trans (hb9.mono HB.out.size))
              clear hb9
              go_wp2_with fail
              refine hK.out _ _ ?_ (fun hHeld => ?_)
              · exact ⟨(cellsPoint (HS.out.below HB.out) HX.out).1, (cellsPoint (HS.out.below HB.out) HX.out).2, (cellsPoint (HS.out.below HB.out) HX'.out).1, (cellsPoint (HS.out.below HB.out) HX'.out).2⟩
              clear hK K
              try simp only [Act.put, List.setIfInBounds_toArray, List.set_cons_zero, List.set_cons_succ]
              iterate 17 (refine lin_on (v := ?_) rfl (fun _ _ _ h => h) (by rfl) ?_ (by assumption) ?_; rotate_left; (· (intro wq hSw; go_simp; try with_reducible rfl)); try simp only [Act.put, List.setIfInBounds_toArray, List.set_cons_zero, List.set_cons_succ])
              refine lin_done ?_
              go_wp2
              go_roundw
              case rel => exact ⟨(k + 1) + 1, by omega, by go_num, Lib.hid (upTo_step hp.out (by rw [HK.out, decide_eq_false (fun g => h1 g.2)]; rfl)), HB⟩
              case measure => simp [intOf]; omega
          · go_upto_region 4 with fail
            refine wp_region_held_drew (S := (fun w' => w'.cell? ⟨b, off + (k + 1) * 2, none⟩ = some (.int .i64 x) ∧ w'.cell? ⟨b, off + (k + 1) * 2 + 1, none⟩ = some (.int .i64 y) ∧ w'.cell? ⟨b, off + k * 2, none⟩ = some (.int .i64 x') ∧ w'.cell? ⟨b, off + k * 2 + 1, none⟩ = some (.int .i64 y'))) (by kernel_rfl) ⟨(cellsPoint (HS.out.below HB.out) HX.out).1, (cellsPoint (HS.out.below HB.out) HX.out).2, (cellsPoint (HS.out.below HB.out) HX'.out).1, (cellsPoint (HS.out.below HB.out) HX'.out).2⟩ (fun hHeld => ?_)
            refine to_lin (T := isLnT) (n := 22) isLnS ⟨by kernel_rfl, by kernel_rfl, by kernel_rfl⟩ (by kernel_rfl) (fun hTag => ?_)
            iterate 4 (refine lin_on (v := ?_) rfl (fun _ _ _ h => h) (by rfl) ?_ (by assumption) ?_; rotate_left; (· (intro wq hSw; go_simp; try with_reducible rfl)); try simp only [Act.put, List.setIfInBounds_toArray, List.set_cons_zero, List.set_cons_succ])
            refine lin_call rfl (by rfl) (fun K hK => ?_)
            go_simp
            go_at_call 62
            refine (sIsPoint_is _ _ _ _ hq).mono ?_
            rintro e w9 ⟨rfl, hb9⟩
            have HB := Lib.hid (HB.out.trans (hb9.mono HB.out.size))
            clear hb9
            go_wp2_with fail
            refine hK.out _ _ ?_ (fun hHeld => ?_)
            · exact ⟨(cellsPoint (HS.out.below HB.out) HX.out).1, (cellsPoint (HS.out.below HB.out) HX.out).2, (cellsPoint (HS.out.below HB.out) HX'.out).1, (cellsPoint (HS.out.below HB.out) HX'.out).2⟩
            clear hK K
            try simp only [Act.put, List.setIfInBounds_toArray, List.set_cons_zero, List.set_cons_succ]
            iterate 17 (refine lin_on (v := ?_) rfl (fun _ _ _ h => h) (by rfl) ?_ (by assumption) ?_; rotate_left; (· (intro wq hSw; go_simp; try with_reducible rfl)); try simp only [Act.put, List.setIfInBounds_toArray, List.set_cons_zero, List.set_cons_succ])
            refine lin_done ?_
            go_wp2
            go_roundw
            case rel => exact ⟨(k + 1) + 1, by omega, by go_num, Lib.hid (upTo_step hp.out (by rw [HK.out, decide_eq_false (fun g => h0 g.1)]; rfl)), HB⟩
            case measure => simp [intOf]; omega
    · obtain rfl : j = l.length := by omega
      go_wp2_with fail
      refine (l1in_is _ _ _ _ _ ((isLn_good hp.out).trans HZ.out)).mono ?_
      rintro e w9 ⟨rfl, rfl⟩
      go_wp2
      go_ret
      exact ⟨rfl, hb.out⟩
end Go.Proofs.YtpbmngbigdaklaaDoor
end
section
/- Simpler lines: the model's recursion. -/
namespace Go.Proofs.YtpbmngbigdaklaaDoor
open Go.ChangeShapes Go.WideShapes Go.ChangeAt Go.RowKit
set_option linter.unusedVariables false

def encB (x : Bool) : List Value := [.bool x]
theorem elB : IsEl 1 encB := ⟨by decide, fun x => ⟨rfl, fun u hu => by simp only [encB, List.mem_cons, List.not_mem_nil, or_false] at hu; subst hu; rfl⟩⟩
open Classical in
noncomputable def kB (l : List (Int × Int)) (n : Int) (i k j : Nat) : Bool := decide (Kept l n i k j)
open Classical in
theorem kB_iff {l : List (Int × Int)} {n : Int} {i k j : Nat} : kB l n i k j = true ↔ Kept l n i k j := by unfold kB; exact decide_eq_true_iff
theorem kB_none {l : List (Int × Int)} {n : Int} {i k : Nat} (h : bestV l n i k < 0) (j : Nat) : kB l n i k j = false := by
  cases hk : kB l n i k j
  · rfl
  · exact absurd (kB_iff.1 hk) (kept_none h)
theorem kB_step {l : List (Int × Int)} {n : Int} {i k b : Nat} (h : bestV l n i k = (b : Int)) (j : Nat) : kB l n i k j = (decide (j = b) || kB l n i b j || kB l n b k j) := by
  rw [Bool.eq_iff_iff, kB_iff, kept_iff h]
  simp only [Bool.or_eq_true, decide_eq_true_eq, kB_iff, or_assoc]
/-- What a call makes of the flags. -/
def Flags (f : Nat → Bool) (K K' : List Bool) : Prop := K'.length = K.length ∧ ∀ (j : Nat) b, K[j]? = some b → K'[j]? = some (b || f j)
theorem Flags.none {K : List Bool} {f : Nat → Bool} (h : ∀ j, f j = false) : Flags f K K := ⟨rfl, fun j b hb => by rw [h, Bool.or_false]; exact hb⟩
theorem Flags.set {K : List Bool} (b : Nat) : Flags (fun j => decide (j = b)) K (K.set b true) := ⟨List.length_set, fun j x hx => by
  rw [List.getElem?_set]
  have hl := (List.getElem?_eq_some_iff.1 hx).1
  split
  · next e => subst e; simp [hl]
  · next e => rw [hx]; simp [Ne.symm e]⟩
theorem Flags.trans {K K' K'' : List Bool} {f g : Nat → Bool} (h : Flags f K K') (h' : Flags g K' K'') : Flags (fun j => f j || g j) K K'' := ⟨h'.1.trans h.1, fun j b hb => by
  have := h'.2 j _ (h.2 j b hb)
  rw [Bool.or_assoc] at this
  exact this⟩
theorem Flags.congr {K K' : List Bool} {f g : Nat → Bool} (h : Flags f K K') (e : ∀ j, f j = g j) : Flags g K K' := ⟨h.1, fun j b hb => by rw [← e]; exact h.2 j b hb⟩
set_option maxRecDepth 100000 in
set_option maxHeartbeats 8000000 in
theorem sBetween_any (l : List (Int × Int)) (n : Int) (A : Option Addr) (c g ck : Nat) (hp : AllPt l) (hl : l.length ≤ 10) (hn : 0 ≤ n ∧ n ≤ 200) : ∀ (m i k : Nat) (K : List Bool) (w : World), k - i ≤ m → i < k → k < l.length → K.length = l.length →
    SeesE 2 encPoint w g A l → RowE 1 encB w g 4 ck K →
    Calls Tryd.prog 41 #[.slice A l.length c, .int .i64 (i : Int), .int .i64 (k : Int), .int .i64 n, .slice (some ⟨g, 0, none⟩) l.length ck] w fun e w' =>
      ∃ K', e = .returned (.slice (some ⟨g, 0, none⟩) l.length ck) ∧ Flags (kB l n i k) K K' ∧ RowE 1 encB w' g 4 ck K' ∧ Within g (g + 1) w w' := by
  intro m
  induction m with
  | zero => intro i k K w hm hik; omega
  | succ m ih =>
  intro i k K w hm hik hkl hK hs hr
  have HS := Lib.hid hs; have HR := Lib.hid hr; have HIH := Lib.hid ih
  have hgw : g < w.heap.size := hr.lt
  clear hs hr ih
  go_enter Tryd.func41, Tryd.ntmps41
  go_wp2
  go_loopw [11, 12, 13, 14, 15, 16] (fun s11 s12 s13 s14 _ _ wr => ∃ t : Nat, i + 1 + t ≤ k ∧ s14 = .int .i64 ((i + 1 + t : Nat) : Int) ∧ s11 = .int .i64 (bestS l n i k t).1 ∧ s12 = .int .i64 (bestS l n i k t).2.1 ∧ s13 = .int .i64 (bestS l n i k t).2.2 ∧ Hid (Below w.heap.size w wr)) (fun _ _ _ s14 _ _ _ => k - (intOf s14).toNat)
  case atStart => exact ⟨0, by omega, by go_num, rfl, rfl, rfl, Lib.hid (Below.refl _ _)⟩
  case round =>
    obtain ⟨t, ht, rfl, rfl, rfl, rfl, HB⟩ := hrel
    obtain ⟨j, hj⟩ : ∃ j, i + 1 + t = j := ⟨_, rfl⟩
    have HJ := Lib.hid hj
    have hjk : j ≤ k := by omega
    have hij : i < j := by omega
    have hbd := bestS_bd hp (n := n) (i := i) (k := k) (by omega) hkl t (by omega)
    have hrg := bestS_range l n i k t
    rw [hj]
    obtain ⟨⟨B0, B1, B2⟩, hB⟩ : ∃ s, bestS l n i k t = s := ⟨_, rfl⟩
    have HBs := Lib.hid hB
    rw [hB] at hbd hrg ⊢
    dsimp only at hbd hrg ⊢
    clear hB
    by_cases hlt : j < k
    · have hlt' : (j : Int) < (k : Int) := by omega
      have hil : (i : Int) < (l.length : Int) := by omega
      have hkl' : (k : Int) < (l.length : Int) := by omega
      have hjl : (j : Int) < (l.length : Int) := by omega
      obtain ⟨⟨a, b⟩, hpi⟩ : ∃ p, l[i]? = some p := ⟨_, List.getElem?_eq_getElem (by omega)⟩
      obtain ⟨⟨c1, d1⟩, hpk⟩ : ∃ p, l[k]? = some p := ⟨_, List.getElem?_eq_getElem hkl⟩
      obtain ⟨⟨x, y⟩, hpj⟩ : ∃ p, l[j]? = some p := ⟨_, List.getElem?_eq_getElem (by omega)⟩
      have hSr := HS.out.below (HB.out.mono (Nat.le_of_lt hgw))
      obtain ⟨bb, off, rfl, hbl, -⟩ := hSr i _ hpi
      obtain ⟨p0, p1⟩ := cellsPoint hSr hpi
      obtain ⟨p2, p3⟩ := cellsPoint hSr hpk
      obtain ⟨p4, p5⟩ := cellsPoint hSr hpj
      have v1 := hp i (by omega); have v2 := hp k hkl; have v3 := hp j (by omega)
      obtain ⟨⟨u, v⟩, hf⟩ : ∃ f, farD a b c1 d1 x y = f := ⟨_, rfl⟩
      have hfj : farJ l i k j = (u, v) := by unfold farJ; rw [ptA_get hpi, ptA_get hpk, ptA_get hpj]; exact hf
      rw [ptA_get hpi] at v1; rw [ptA_get hpk] at v2; rw [ptA_get hpj] at v3
      have hfb := far_bd (isP_bd v1) (isP_bd v2) (isP_bd v3)
      rw [hf] at hfb
      dsimp only at hfb v1 v2 v3
      have HF := Lib.hid hf
      have HQ : Hid (∀ W, Below wr.heap.size wr W → W.cell? ⟨bb, off + i * 2, none⟩ = some (.int .i64 a) ∧ W.cell? ⟨bb, off + i * 2 + 1, none⟩ = some (.int .i64 b) ∧ W.cell? ⟨bb, off + k * 2, none⟩ = some (.int .i64 c1) ∧ W.cell? ⟨bb, off + k * 2 + 1, none⟩ = some (.int .i64 d1) ∧ W.cell? ⟨bb, off + j * 2, none⟩ = some (.int .i64 x) ∧ W.cell? ⟨bb, off + j * 2 + 1, none⟩ = some (.int .i64 y)) := Lib.hid fun W hW => by
        have q := fun o => hW.cell (p := ⟨bb, o, none⟩) (Nat.lt_of_lt_of_le hbl (Nat.le_trans (Nat.le_of_lt hgw) HB.out.size))
        exact ⟨(q _).trans p0, (q _).trans p1, (q _).trans p2, (q _).trans p3, (q _).trans p4, (q _).trans p5⟩
      have HQ0 := Lib.hid (HQ.out _ (Below.refl _ _)); have HQd := Lib.hid (HQ.out _ (Below.refl _ _).drew)
      have HBd := Lib.hid HB.out.drew
      have g1 := mul_le2 ⟨hfb.1.1, hfb.1.2⟩ (v := B2) (b := 80000) ⟨by omega, hbd.2.2⟩
      have g2 := mul_le2 ⟨hbd.1.1, hbd.1.2⟩ (v := v) (b := 80000) ⟨by omega, hfb.2.2⟩
      have g3 := mul_le2 hn hn
      have g4 := mul_le2 g3 (v := v) (b := 80000) ⟨by omega, hfb.2.2⟩
      have HN : Hid (bestS l n i k (t + 1) = if ¬ (u ≤ n * n * v) ∧ (B0 < 0 ∨ B1 * v < u * B2) then ((j : Int), u, v) else (B0, B1, B2)) := Lib.hid (by
        rw [bestS, HBs.out, HJ.out, hfj]
        simp only [nearD, decide_eq_false_iff_not])
      clear hf hfj p0 p1 p2 p3 p4 p5 hpi hpk hpj hSr
      go_upto_region 7 with fail
      go_cut [15, 16] (fun s15 s16 wx => s15 = .int .i64 u ∧ s16 = .int .i64 v ∧ Hid (Below w.heap.size w wx))
      case first =>
        go_region_held3 (fun w' => w'.cell? ⟨bb, off + i * 2, none⟩ = some (.int .i64 a) ∧ w'.cell? ⟨bb, off + i * 2 + 1, none⟩ = some (.int .i64 b) ∧ w'.cell? ⟨bb, off + k * 2, none⟩ = some (.int .i64 c1) ∧ w'.cell? ⟨bb, off + k * 2 + 1, none⟩ = some (.int .i64 d1) ∧ w'.cell? ⟨bb, off + j * 2, none⟩ = some (.int .i64 x) ∧ w'.cell? ⟨bb, off + j * 2 + 1, none⟩ = some (.int .i64 y))
          (first | with_reducible exact HQ0.out | with_reducible exact HQd.out | with_reducible exact hQ1.out) (first
          | (go_at_call 63; (with_reducible refine (sFar_is a b c1 d1 x y u v _ v1 v2 v3 HF.out).mono ?_); rintro e w9 ⟨rfl, hb9⟩; have hQ1 := Lib.hid (HQ.out _ ((Below.refl _ _).drew.trans hb9)); have HB9 := Lib.hid (HBd.out.trans (hb9.mono HBd.out.size))) | fail)
        all_goals
          go_wp2_with fail
          go_meet
          exact ⟨rfl, rfl, HB9⟩
      case rest =>
      obtain ⟨rfl, rfl, HB9⟩ := hcut
      clear HQ HQ0 HQd HBd HB HF
      by_cases hq : u ≤ n * n * v
      · have HN2 : Hid (bestS l n i k (t + 1) = (B0, B1, B2)) := Lib.hid (by rw [HN.out, if_neg (fun h => h.1 hq)])
        go_wp2
        go_roundw
        case rel => exact ⟨t + 1, by omega, by have := HJ.out; go_num, by rw [HN2.out], by rw [HN2.out], by rw [HN2.out], HB9⟩
        case measure => simp [intOf]; omega
      · by_cases hb0 : B0 < 0
        · have HN2 : Hid (bestS l n i k (t + 1) = ((j : Int), u, v)) := Lib.hid (by rw [HN.out, if_pos ⟨hq, .inl hb0⟩])
          have hq' : n * n * v < u := by omega
          go_wp2
          go_roundw
          case rel => exact ⟨t + 1, by omega, by have := HJ.out; go_num, by rw [HN2.out], by rw [HN2.out], by rw [HN2.out], HB9⟩
          case measure => simp [intOf]; omega
        · have hq' : n * n * v < u := by omega
          by_cases hgt : B1 * v < u * B2
          · have HN2 : Hid (bestS l n i k (t + 1) = ((j : Int), u, v)) := Lib.hid (by rw [HN.out, if_pos ⟨hq, .inr hgt⟩])
            go_wp2
            go_roundw
            case rel => exact ⟨t + 1, by omega, by have := HJ.out; go_num, by rw [HN2.out], by rw [HN2.out], by rw [HN2.out], HB9⟩
            case measure => simp [intOf]; omega
          · have HN2 : Hid (bestS l n i k (t + 1) = (B0, B1, B2)) := Lib.hid (by rw [HN.out, if_neg (fun h => h.2.elim hb0 hgt)])
            go_wp2
            go_roundw
            case rel => exact ⟨t + 1, by omega, by have := HJ.out; go_num, by rw [HN2.out], by rw [HN2.out], by rw [HN2.out], HB9⟩
            case measure => simp [intOf]; omega
    · obtain rfl : j = k := by omega
      have hlt' : ¬ (j : Int) < (j : Int) := by omega
      have hV : bestV l n i j = B0 := by unfold bestV; rw [show j - (i + 1) = t by omega, HBs.out]
      have HRr := Lib.hid (HR.out.below HB.out hgw)
      have HSr := Lib.hid (HS.out.below (HB.out.mono (Nat.le_of_lt hgw)))
      clear hj
      by_cases hb0 : B0 < 0
      · have HFl := Lib.hid (Flags.none (K := K) (fun q => kB_none (l := l) (n := n) (i := i) (k := j) (by rw [hV]; exact hb0) q))
        clear hV
        go_wp2
        go_ret
        exact ⟨rfl, K, HFl.out, HRr.out, Within.of _ _ HB.out⟩
      · obtain ⟨b, rfl⟩ : ∃ b : Nat, B0 = b := ⟨B0.toNat, by omega⟩
        have hbr := bestV_range (l := l) (n := n) (i := i) (k := j) (by rw [hV]; omega)
        rw [hV] at hbr
        have hib : i < b := by omega
        have hbj : b < j := by omega
        have hbl : (b : Int) < (l.length : Int) := by omega
        have hb0' : ¬ (b : Int) < 0 := by omega
        obtain ⟨q, hq⟩ : ∃ q, K[b]? = some q := ⟨_, List.getElem?_eq_getElem (by omega)⟩
        have kc := HRr.out.cell elB hq (k := 0) rfl
        have kf := HRr.out.frozen (b * 1 + 0)
        have HR2 := Lib.hid (HRr.out.put elB hq (k := 0) (x' := true) (v := .bool true) (by decide) rfl)
        have HS2 := Lib.hid (HSr.out.below ((Below.refl g wr).setCell (Nat.le_refl g) (p := ⟨g, b * 1 + 0, none⟩) (.bool true)))
        have HW2 := Lib.hid ((Within.of g (g + 1) HB.out).trans (Within.cell (w := wr) (Nat.le_refl g) (Nat.lt_succ_self g) (b * 1 + 0) (.bool true)))
        have HFl := Lib.hid (Flags.set (K := K) b)
        have HV := Lib.hid hV
        have hKl : (K.set b true).length = l.length := by rw [List.length_set]; exact hK
        simp only [Nat.mul_one, Nat.add_zero] at kc kf HR2 HS2 HW2
        clear hq hV HRr HSr
        go_wp2_with fail
        have hbj' : b < l.length := by omega
        refine (HIH.out i b _ _ (by omega) hib hbj' hKl HS2.out HR2.out).mono ?_
        rintro e w1 ⟨K1, rfl, hf1, hr1, hw1⟩
        have HF1 := Lib.hid hf1; have HR1 := Lib.hid hr1
        have HS1 := Lib.hid (HS2.out.below (hw1.below (Nat.le_refl g) (Nat.le_of_lt HR2.out.lt)))
        have HW1 := Lib.hid (HW2.out.trans hw1)
        have hK1 : K1.length = l.length := by rw [hf1.1]; exact hKl
        clear hf1 hr1 hw1
        go_wp2_with fail
        refine (HIH.out b j _ _ (by omega) hbj hkl hK1 HS1.out HR1.out).mono ?_
        rintro e w2 ⟨K2, rfl, hf2, hr2, hw2⟩
        have HF2 := Lib.hid hf2; have HR2' := Lib.hid hr2
        have HW2' := Lib.hid (HW1.out.trans hw2)
        clear hf2 hr2 hw2
        go_wp2
        go_ret
        exact ⟨K2, rfl, ((HFl.out.trans HF1.out).trans HF2.out).congr fun q => (kB_step HV.out q).symm, HR2'.out, HW2'.out⟩
end Go.Proofs.YtpbmngbigdaklaaDoor
end
section
/- Lines: EqualLines and TurnLine, of package impl and of the model. -/
namespace Go.Proofs.YtpbmngbigdaklaaDoor
open Go.ChangeShapes Go.WideShapes Go.ChangeAt Go.RowKit
set_option linter.unusedVariables false

/-- Equal so far. -/
theorem eqPre_step {α : Type} {l m : List α} {j : Nat} (h : l.take j = m.take j) (hx : l[j]? = m[j]?) : l.take (j + 1) = m.take (j + 1) := by
  rw [List.take_add_one, List.take_add_one, h, hx]
theorem ne_of_get {α : Type} {l m : List α} {j : Nat} (h : l[j]? ≠ m[j]?) : l ≠ m := fun e => h (by rw [e])
theorem PtV_ne {a b c d : Int} (h : ¬ (a = c ∧ b = d)) : ((a, b) : Int × Int) ≠ (c, d) := fun e => h ⟨congrArg Prod.fst e, congrArg Prod.snd e⟩
def StRel (l : List (Int × Int)) (w : World) (v i : Value) (wr : World) : Prop :=
  ∃ (A : Option Addr) (c : Nat) (L : List (Int × Int)) (r : Nat), r ≤ l.length ∧ v = .slice A L.length c ∧ i = .int .i64 ((r : Int) - 1) ∧ Hid (L = l.reverse.take (l.length - r)) ∧ L.length = l.length - r ∧ OwnE 2 encPoint wr w.heap.size 33 (.slice A L.length c) L ∧ Below w.heap.size w wr
theorem st_step {l L L2 : List (Int × Int)} {m : Nat} {x : Int × Int} (hm : m + 1 ≤ l.length) (hL : L = l.reverse.take (l.length - (m + 1))) (h : L2 = L ++ [x]) (hx : l[m]? = some x) : L2 = l.reverse.take (l.length - m) := by
  have e : l.length - m = (l.length - (m + 1)) + 1 := by omega
  rw [h, hL, e, List.take_add_one, List.getElem?_reverse (by omega)]
  have e2 : l.length - 1 - (l.length - (m + 1)) = m := by omega
  rw [e2, hx]; rfl
end Go.Proofs.YtpbmngbigdaklaaDoor
end
section
/- Lines: SegmentsOf and LineSteps of the model. -/
namespace Go.Proofs.YtpbmngbigdaklaaDoor
open Go.ChangeShapes Go.WideShapes Go.ChangeAt Go.RowKit
set_option linter.unusedVariables false

theorem keepA {w : World} {p : Addr} {v : Value} (h : w.cell? p = some v) (o : Obj) : (w.alloc o).cell? p = some v :=
  (World.cell?_of_block (Below.heap_alloc _ _ _ (World.block_lt_of_cell? w p h))).trans h
theorem sizeA (w : World) (o : Obj) : w.heap.size ≤ (w.alloc o).heap.size := by simp
/-- append of one segment, as one step of a region that draws its order. -/
theorem stepSegment (w : World) {ops : Array Oper} {o : Oper} {a : Act} {K : Act → World → Prop} {Q : Exit → Act → World → Prop} {E : Prop} (hgd : o.guard = none) (s x : Operand)
    (ho : o.op = .call { callee := .builtin .append, args := #[s, x], argTypes := #[53, 53] })
    (base : Nat) (v : Value) (l : List (Int × Int × Int × Int)) (hv : a.eval s = v) (hown : OwnE 4 encSegment w base 35 v l)
    (B : Nat) (A : Option Addr) (m c : Nat) (l2 : List (Int × Int × Int × Int)) (hx : a.eval x = .slice A m c) (hm : m = l2.length) (hs : SeesE 4 encSegment w B A l2) (h63 : l.length + l2.length ≤ 1099511627776) (hbase : base ≤ w.heap.size)
    (h : ∀ A' c' L w', Hid (L = l ++ l2) → L.length ≤ l.length + l2.length → l.length + l2.length ≤ L.length → OwnE 4 encSegment w' base 35 (.slice A' L.length c') L → Below base w w' → K (a.put o.dst (.slice A' L.length c')) w') :
    if Region.wanted o (yielded ops a.tmps) = true then Oper.wp Tryd.prog o a w K Q else E := by
  have hw : Region.wanted o (yielded ops a.tmps) = true := by simp [Region.wanted, hgd]
  rw [if_pos hw]
  obtain ⟨i, hi, hz, h1, h2⟩ := info_parts infoSegment
  exact wp_appE w elSegment s x _ ho _ i _ 32 Tryd.underlying53 hi hz h1 h2 rfl base v l hv hown B A m c l2 hx hm hs h63 (by decide) hbase h
def SoRel (l : List (Int × Int)) (w : World) (v i : Value) (wr : World) : Prop :=
  ∃ (A : Option Addr) (c : Nat) (L : List (Int × Int × Int × Int)) (j : Nat), v = .slice A L.length c ∧ i = .int .i64 ((j : Int) + 1) ∧ (isLn l = false → j = 0) ∧ (j = 0 ∨ j ≤ (jts l).length) ∧ Hid (L = (sgV l).take j) ∧ L.length = j ∧ OwnE 4 encSegment wr w.heap.size 35 (.slice A L.length c) L ∧ Below w.heap.size w wr
theorem so_step {S L L2 : List (Int × Int × Int × Int)} {j : Nat} {x : Int × Int × Int × Int} (hL : L = S.take j) (h : L2 = L ++ [x]) (hx : S[j]? = some x) : L2 = S.take (j + 1) := by
  rw [h, hL, List.take_add_one, hx]; rfl
theorem stpV_step {L : List (Int × Int × Int × Int)} {j : Nat} {x : Int × Int × Int × Int} (hx : L[j]? = some x) : stpV (L.take j) + stS x = stpV (L.take (j + 1)) := by
  rw [List.take_add_one, hx]; exact (stpV_snoc _ _).symm
end Go.Proofs.YtpbmngbigdaklaaDoor
end
section
/- Simpler lines: SimplifyLine of the model. -/
namespace Go.Proofs.YtpbmngbigdaklaaDoor
open Go.ChangeShapes Go.WideShapes Go.ChangeAt Go.RowKit
set_option linter.unusedVariables false

theorem allPt_ln {l : List (Int × Int)} (h : isLn l = true) : AllPt l := fun j hj => by
  rw [isLn_pts] at h
  simp only [Bool.and_eq_true, decide_eq_true_eq] at h
  have h1 := h.1 j hj
  unfold ptOk at h1
  rw [List.getElem?_eq_getElem hj] at h1
  rw [ptA_get (List.getElem?_eq_getElem hj)]
  simp only [Bool.and_eq_true] at h1
  exact h1.1
/-- The flags of the ends. -/
def endB (n j : Nat) : Bool := decide (j = 0) || decide (j + 1 = n)
def endsTo (n m : Nat) : List Bool := (List.range m).map (endB n)
theorem ends_succ (n m : Nat) : endsTo n (m + 1) = endsTo n m ++ [endB n m] := by
  unfold endsTo; rw [List.range_succ, List.map_append]; rfl
theorem ends_get {n j : Nat} (h : j < n) : (endsTo n n)[j]? = some (endB n j) := by
  unfold endsTo; rw [List.getElem?_map, List.getElem?_range h]; rfl
theorem keep_flag (l : List (Int × Int)) (n : Int) (j : Nat) : (endB l.length j || kB l n 0 (l.length - 1) j) = keepB l n j := by
  rw [Bool.eq_iff_iff, keepB_iff]
  simp only [endB, Bool.or_eq_true, decide_eq_true_eq, kB_iff, or_assoc]
theorem simp_step {l L L' : List (Int × Int)} {f : Nat → Bool} {j : Nat} {p : Int × Int} (hL : L = (idxTo f j).map (ptA l)) (hp : l[j]? = some p) (hf : f j = true) (h : L' = L ++ [p]) : L' = (idxTo f (j + 1)).map (ptA l) := by
  rw [h, hL, idx_succ, if_pos hf, List.map_append, List.map_cons, List.map_nil, ptA_get hp]
theorem simp_skip {l L : List (Int × Int)} {f : Nat → Bool} {j : Nat} (hL : L = (idxTo f j).map (ptA l)) (hf : f j = false) : L = (idxTo f (j + 1)).map (ptA l) := by
  rw [hL, idx_succ, if_neg (by rw [hf]; decide), List.append_nil]
theorem infoBool : (Tryd.prog.info? 4).map (fun i => (i.zero, i.size, i.bytes)) = some (some (.bool false), 1, 1) := by kernel_rfl
theorem appBool (w : World) {ops : Array Oper} {rest : List Oper} {o : Oper} {a : Act} {Q : Exit → Act → World → Prop} (hgd : o.guard = none) (s x : Operand)
    (ho : o.op = .call { callee := .builtin .append, args := #[s, x], argTypes := #[61, 61] })
    (base : Nat) (v : Value) (l : List Bool) (hv : a.eval s = v) (hown : OwnE 1 encB w base 4 v l)
    (B : Nat) (A : Option Addr) (m c : Nat) (l2 : List Bool) (hx : a.eval x = .slice A m c) (hm : m = l2.length) (hs : SeesE 1 encB w B A l2) (h63 : l.length + l2.length ≤ 1099511627776) (hbase : base ≤ w.heap.size)
    (h : ∀ A' c' L w', Hid (L = l ++ l2) → L.length ≤ l.length + l2.length → l.length + l2.length ≤ L.length → OwnE 1 encB w' base 4 (.slice A' L.length c') L → Below base w w' → wpList Tryd.prog ops Q rest (a.put o.dst (.slice A' L.length c')) w') :
    wpList Tryd.prog ops Q (o :: rest) a w := by
  obtain ⟨i, hi, hz, h1, h2⟩ := info_parts infoBool
  exact wpList_appE w elB hgd s x _ ho _ i _ 1 Tryd.underlying61 hi hz h1 h2 rfl base v l hv hown B A m c l2 hx hm hs h63 (by decide) hbase h
def KpRel (n : Nat) (w : World) (v i : Value) (wr : World) : Prop :=
  ∃ (A : Option Addr) (c : Nat) (K : List Bool) (j : Nat), v = .slice A K.length c ∧ i = .int .i64 (j : Int) ∧ j ≤ n ∧ Hid (K.length = j) ∧ Hid (K = endsTo n j) ∧ Hid (OwnE 1 encB wr w.heap.size 4 (.slice A K.length c) K) ∧ Hid (Below w.heap.size w wr)
def OuRel (l : List (Int × Int)) (n : Int) (w : World) (g ck : Nat) (K : List Bool) (v i : Value) (wr : World) : Prop :=
  ∃ (A : Option Addr) (c : Nat) (L : List (Int × Int)) (j : Nat), v = .slice A L.length c ∧ i = .int .i64 (j : Int) ∧ j ≤ l.length ∧ L.length ≤ j ∧ Hid (L = (idxTo (keepB l n) j).map (ptA l)) ∧ Hid (OwnE 2 encPoint wr w.heap.size 33 (.slice A L.length c) L) ∧ Hid (Below w.heap.size w wr)
set_option maxRecDepth 100000 in
set_option maxHeartbeats 8000000 in
theorem sSimplifyLine_any (A : Option Addr) (c : Nat) (l : List (Int × Int)) (n : Int) (w : World) (hs : SeesE 2 encPoint w w.heap.size A l) (hl : l.length ≤ 1099511627776) :
    Calls Tryd.prog 16 #[.slice A l.length c, .int .i64 n] w (GivesE 2 encPoint 33 (simpV l n) w) := by
  have HS := Lib.hid hs; clear hs
  go_enter Tryd.func16, Tryd.ntmps16
  cases hi : isLn l
  · have HV : Hid (simpV l n = l) := Lib.hid (by unfold simpV; rw [if_neg (by rw [hi]; simp)])
    go_wp2_with (first
      | (go_at_call 39; refine (sIsLine_is A c l _ HS.out hl _ hi).mono ?_; rintro e w1 ⟨rfl, hb1⟩; have HS1 := Lib.hid (HS.out.belowAll hb1))
      | (at_builtin; refine appPoint _ rfl _ _ rfl w.heap.size _ [] rfl (OwnE.lit _ w.heap.size 33 hb1.size) _ A _ c l rfl rfl (HS1.out.alloc (Nat.le_refl _) _) (by simpa using hl) (Nat.le_trans hb1.size (sizeA _ _)) ?_; intro A4 c4 L4 w4 hL4 h1 h2 ho4 hb4))
    go_ret
    exact ⟨_, _, L4, Lib.hid (by rw [hL4.out, HV.out]; rfl), rfl, ho4, (hb1.trans ((Below.refl _ _).alloc hb1.size _)).trans hb4⟩
  cases hn : inB n 0 200
  · have HV : Hid (simpV l n = l) := Lib.hid (by unfold simpV; rw [if_neg (by rw [hn]; simp)])
    go_wp2_with (first
      | (go_at_call 39; refine (sIsLine_is A c l _ HS.out hl _ hi).mono ?_; rintro e w1 ⟨rfl, hb1⟩; have HS1 := Lib.hid (HS.out.belowAll hb1))
      | (go_at_call 40; refine (l1in_is _ _ _ _ _ hn).mono ?_; rintro e w2 ⟨rfl, rfl⟩)
      | (at_builtin; refine appPoint _ rfl _ _ rfl w.heap.size _ [] rfl (OwnE.lit _ w.heap.size 33 hb1.size) _ A _ c l rfl rfl (HS1.out.alloc (Nat.le_refl _) _) (by simpa using hl) (Nat.le_trans hb1.size (sizeA _ _)) ?_; intro A4 c4 L4 w4 hL4 h1 h2 ho4 hb4))
    go_ret
    exact ⟨_, _, L4, Lib.hid (by rw [hL4.out, HV.out]; rfl), rfl, ho4, (hb1.trans ((Below.refl _ _).alloc hb1.size _)).trans hb4⟩
  have HV : Hid (simpV l n = simpL l n) := Lib.hid (by unfold simpV; rw [if_pos ⟨hi, hn⟩])
  have hln := isLn_yes hi
  have hp := allPt_ln hi
  have hnb : 0 ≤ n ∧ n ≤ 200 := by simp only [inB, decide_eq_true_eq] at hn; exact hn
  have h2l := hln.1; have h10 := hln.2.1
  have HP := Lib.hid hp
  clear hln hp
  go_wp2_with (first
      | (go_at_call 39; refine (sIsLine_is A c l _ HS.out hl _ hi).mono ?_; rintro e w1 ⟨rfl, hb1⟩; have HS1 := Lib.hid (HS.out.belowAll hb1); have HB1 := Lib.hid hb1)
      | (go_at_call 40; refine (l1in_is _ _ _ _ _ hn).mono ?_; rintro e w2 ⟨rfl, rfl⟩))
  clear hb1
  go_loopw [5, 6] (fun v i wr => KpRel l.length w1 v i wr) (fun _ i _ => l.length - (intOf i).toNat)
  case atStart => exact ⟨_, _, [], 0, rfl, rfl, Nat.zero_le _, Lib.hid rfl, Lib.hid rfl, Lib.hid (OwnE.lit _ _ _ (Nat.le_refl _)), Lib.hid ((Below.refl _ _).alloc (Nat.le_refl _) _)⟩
  case round =>
    obtain ⟨A2, c2, K, j, rfl, rfl, hj, hKj, HK, HO, HB⟩ := hrel
    by_cases hlt : j < l.length
    · have hlt' : (j : Int) < (l.length : Int) := by omega
      have hsz := HB.out.size
      by_cases h0 : j = 0
      · have h0' : (j : Int) = 0 := by omega
        have hE : Hid (endB l.length j = true) := Lib.hid (by simp [endB, h0])
        go_wp2_with (at_builtin; refine appBool _ rfl _ _ rfl w1.heap.size _ K rfl (HO.out.alloc _) (wr.heap.size + 1) _ 1 _ [true] rfl rfl (seesE_new elB wr (true) _ _ _ (Nat.lt_succ_self _) rfl) (by have := hKj.out; simp; omega) (by simp; omega) ?_; intro A4 c4 L4 w4 hL4 h1 h2 ho4 hb4)
        go_roundw
        case rel => exact ⟨A4, c4, L4, j + 1, rfl, by go_num, by omega, Lib.hid (by have := hKj.out; simp at h1 h2; omega), Lib.hid (by rw [hL4.out, HK.out, ends_succ, hE.out]), Lib.hid ho4, Lib.hid (HB.out.trans (((Below.refl _ _).alloc hsz _).trans hb4))⟩
        case measure => simp [intOf]; omega
      · have h0' : ¬ (j : Int) = 0 := by omega
        have hE : Hid (endB l.length j = ((j : Int) == 0 || (j : Int) + 1 == (l.length : Int))) := Lib.hid (by rw [Bool.eq_iff_iff]; simp [endB]; omega)
        go_wp2_with (at_builtin; refine appBool _ rfl _ _ rfl w1.heap.size _ K rfl (HO.out.alloc _) (wr.heap.size + 1) _ 1 _ [((j : Int) == 0 || (j : Int) + 1 == (l.length : Int))] rfl rfl (seesE_new elB wr (((j : Int) == 0 || (j : Int) + 1 == (l.length : Int))) _ _ _ (Nat.lt_succ_self _) rfl) (by have := hKj.out; simp; omega) (by simp; omega) ?_; intro A4 c4 L4 w4 hL4 h1 h2 ho4 hb4)
        go_roundw
        case rel => exact ⟨A4, c4, L4, j + 1, rfl, by go_num, by omega, Lib.hid (by have := hKj.out; simp at h1 h2; omega), Lib.hid (by rw [hL4.out, HK.out, ends_succ, hE.out]), Lib.hid ho4, Lib.hid (HB.out.trans (((Below.refl _ _).alloc hsz _).trans hb4))⟩
        case measure => simp [intOf]; omega
    · have hjl : K.length = l.length := by have := hKj.out; omega
      have hlt' : ¬ (j : Int) < (l.length : Int) := by omega
      obtain ⟨g, rfl, hg1, -, hrow⟩ := HO.out.row (by omega)
      have HR := Lib.hid hrow; clear hrow
      have HS2 := Lib.hid (HS1.out.below HB.out)
      have hg2 := HR.out.lt
      have e1 : (l.length : Int) - 1 = ((l.length - 1 : Nat) : Int) := by omega
      have hWo : w.heap.size ≤ g := Nat.le_trans HB1.out.size hg1
      go_wp2_with fail
      refine (sBetween_any l n A c g c2 HP.out h10 hnb (l.length - 1) 0 (l.length - 1) K _ (by omega) (by omega) (by omega) hjl (HS2.out.mono hg1) HR.out).mono ?_
      rintro e w2 ⟨K1, rfl, hf1, hr1, hw1⟩
      have HF1 := Lib.hid hf1; have HR1 := Lib.hid hr1
      have HS3 := Lib.hid (HS2.out.below (hw1.below hg1 HB.out.size))
      have HB2 := Lib.hid (HB1.out.trans ((HB.out.mono HB1.out.size).trans (hw1.below hWo (Nat.le_trans HB1.out.size HB.out.size))))
      have HK1 : Hid (∀ j, j < l.length → K1[j]? = some (keepB l n j)) := Lib.hid fun q hj => by rw [← keep_flag]; exact hf1.2 q _ (by rw [HK.out, show j = l.length by omega]; exact ends_get hj)
      have hgw2 : g < w2.heap.size := hr1.lt
      clear hf1 hr1 hw1
      go_wp2
      go_loopw [7, 8] (fun v i wr => OuRel l n w2 g c2 K1 v i wr) (fun _ i _ => l.length - (intOf i).toNat)
      case atStart => exact ⟨_, _, [], 0, rfl, rfl, Nat.zero_le _, Nat.zero_le _, Lib.hid rfl, Lib.hid (OwnE.lit _ _ _ (Nat.le_refl _)), Lib.hid ((Below.refl _ _).alloc (Nat.le_refl _) _)⟩
      case round =>
        obtain ⟨A3, c3, L, i, rfl, rfl, hi', hLi, HL, HO3, HB3⟩ := hrel
        by_cases hil : i < l.length
        · have hil' : (i : Int) < (l.length : Int) := by omega
          have HR3 := Lib.hid (HR1.out.below HB3.out hgw2)
          have kc := HR3.out.cell elB (HK1.out i hil) (k := 0) rfl
          simp only [Nat.mul_one, Nat.add_zero] at kc
          cases hk : keepB l n i
          · rw [hk] at kc
            go_wp2
            go_roundw
            case rel => exact ⟨A3, c3, L, i + 1, rfl, by go_num, by omega, by omega, Lib.hid (simp_skip HL.out hk), HO3, HB3⟩
            case measure => simp [intOf]; omega
          · rw [hk] at kc
            obtain ⟨bx, ox, ⟨t0, t1⟩, rfl, hbl, hx, -⟩ := (HS3.out.below (HB3.out.mono (by omega))).lt hil
            obtain ⟨k0, k1⟩ := cellsPoint (HS3.out.below (HB3.out.mono (by omega))) hx
            have HX := Lib.hid hx; clear hx
            have hz3 := HB3.out.size
            go_wp2_with (at_builtin; refine appPoint _ rfl _ _ rfl w2.heap.size _ L rfl (HO3.out.alloc _) (wr.heap.size + 1) _ 1 _ [(t0, t1)] rfl rfl (seesE_new elPoint wr (t0, t1) _ _ _ (by omega) rfl) (by simp; omega) (by simp; omega) ?_; intro A4 c4 L4 w4 hL4 h1 h2 ho4 hb4)
            go_roundw
            case rel => exact ⟨A4, c4, L4, i + 1, rfl, by go_num, by omega, by simp at h1 h2; omega, Lib.hid (simp_step HL.out HX.out hk hL4.out), Lib.hid ho4, Lib.hid (HB3.out.trans (((Below.refl _ _).alloc hz3 _).trans hb4))⟩
            case measure => simp [intOf]; omega
        · obtain rfl : i = l.length := by omega
          go_wp2
          go_ret
          exact ⟨_, _, L, Lib.hid (by rw [HL.out, HV.out]; rfl), rfl, HO3.out.mono HB2.out.size, HB2.out.trans (HB3.out.mono HB2.out.size)⟩
end Go.Proofs.YtpbmngbigdaklaaDoor
end
section
/- Simpler lines: the farthest point of package impl. -/
namespace Go.Proofs.YtpbmngbigdaklaaDoor
open Go.ChangeShapes Go.WideShapes Go.ChangeAt Go.RowKit
set_option linter.unusedVariables false

theorem gS_yes {l : List (Int × Int)} {n : Int} {i k t : Nat} (h : (gS l n i k t).2 < weighJ l i k (i + 1 + t)) : gS l n i k (t + 1) = (i + 1 + t, weighJ l i k (i + 1 + t)) := by rw [gS, if_pos h]
theorem gS_no {l : List (Int × Int)} {n : Int} {i k t : Nat} (h : ¬ (gS l n i k t).2 < weighJ l i k (i + 1 + t)) : gS l n i k (t + 1) = gS l n i k t := by rw [gS, if_neg h]
/-- What findTooFar gives. -/
def FarOf (l : List (Int × Int)) (n : Int) (i k : Nat) (w : World) (e : Ending) (w' : World) : Prop :=
  (bestV l n i k < 0 ∧ e = .returned (.tuple #[.int .i64 (i : Int), .bool false]) ∧ Below w.heap.size w w') ∨
  (∃ b : Nat, i < b ∧ bestV l n i k = (b : Int) ∧ e = .returned (.tuple #[.int .i64 (b : Int), .bool true]) ∧ Below w.heap.size w w')
set_option maxRecDepth 100000 in
set_option maxHeartbeats 4000000 in
theorem findTooFar_is (l : List (Int × Int)) (n : Int) (A : Option Addr) (c i k : Nat) (w : World) (hp : AllPt l) (hl : l.length ≤ 10) (hn : 0 ≤ n ∧ n ≤ 200) (hik : i < k) (hkl : k < l.length) (hs : SeesE 2 encPoint w w.heap.size A l) :
    Calls Tryd.prog 48 #[.slice A l.length c, .int .i64 (i : Int), .int .i64 (k : Int), .int .i64 n] w (FarOf l n i k w) := by
  have HS := Lib.hid hs; clear hs
  have HP := Lib.hid hp
  obtain ⟨⟨a, b⟩, hpi⟩ : ∃ p, l[i]? = some p := ⟨_, List.getElem?_eq_getElem (by omega)⟩
  obtain ⟨⟨c1, d1⟩, hpk⟩ : ∃ p, l[k]? = some p := ⟨_, List.getElem?_eq_getElem hkl⟩
  obtain ⟨bb, off, rfl, hbl, -⟩ := HS.out i _ hpi
  obtain ⟨p0, p1⟩ := cellsPoint HS.out hpi
  obtain ⟨p2, p3⟩ := cellsPoint HS.out hpk
  have v1 := hp i (by omega); have v2 := hp k hkl
  rw [ptA_get hpi] at v1; rw [ptA_get hpk] at v2
  dsimp only at v1 v2
  have HI := Lib.hid hpi; have HK := Lib.hid hpk
  have hil : (i : Int) < (l.length : Int) := by omega
  have hkl' : (k : Int) < (l.length : Int) := by omega
  obtain ⟨z0, hz0⟩ : ∃ z, limJ l n i k = z := ⟨_, rfl⟩
  have HL : Hid (n * n * wgtV a b c1 d1 = z0) := Lib.hid (by rw [← hz0]; unfold limJ; rw [ptA_get hpi, ptA_get hpk])
  have HG0 : Hid (gS l n i k 0 = (i, z0)) := Lib.hid (by rw [gS, hz0])
  have HQ : Hid (∀ W, Below w.heap.size w W → W.cell? ⟨bb, off + i * 2, none⟩ = some (.int .i64 a) ∧ W.cell? ⟨bb, off + i * 2 + 1, none⟩ = some (.int .i64 b) ∧ W.cell? ⟨bb, off + k * 2, none⟩ = some (.int .i64 c1) ∧ W.cell? ⟨bb, off + k * 2 + 1, none⟩ = some (.int .i64 d1)) := Lib.hid fun W hW => by
    have q := fun o => hW.cell (p := ⟨bb, o, none⟩) hbl
    exact ⟨(q _).trans p0, (q _).trans p1, (q _).trans p2, (q _).trans p3⟩
  have HBa : Hid (∀ o, Below w.heap.size w (w.alloc o).drew) := Lib.hid fun o => ((Below.refl _ w).alloc (Nat.le_refl _) o).drew
  clear hpi hpk hp hz0 p0 p1 p2 p3
  go_enter Tryd.func48, Tryd.ntmps48
  go_upto_region 1 with fail
  go_cut [10] (fun v10 wx => ∃ B, v10 = .pointer (some ⟨B, 0, none⟩) ∧ Hid (OneV w.heap.size wx B (SegC a b c1 d1)) ∧ Hid (Below w.heap.size w wx))
  case first =>
    go_region_held3 (fun w' => w'.cell? ⟨bb, off + i * 2, none⟩ = some (.int .i64 a) ∧ w'.cell? ⟨bb, off + i * 2 + 1, none⟩ = some (.int .i64 b) ∧ w'.cell? ⟨bb, off + k * 2, none⟩ = some (.int .i64 c1) ∧ w'.cell? ⟨bb, off + k * 2 + 1, none⟩ = some (.int .i64 d1))
      (first | exact HQ.out _ (Below.refl _ _) | exact HQ.out _ (Below.refl _ _).drew | exact HQ.out _ (HBa.out _)) (fail)
    all_goals
      go_wp2_with fail
      go_meet
      exact ⟨_, rfl, Lib.hid (OneV.new w (Nat.le_refl _) _ _).drew, Lib.hid (HBa.out _)⟩
  case rest =>
  obtain ⟨B, rfl, HV, HB⟩ := hcut
  obtain ⟨f0, f1, f2, f3⟩ := HV.out.c4
  clear HQ HBa
  go_wp2_with fail
  refine (weighLimit_is a b c1 d1 n z0 _ v1 v2 hn HL.out).mono ?_
  rintro e w2 ⟨rfl, hb2⟩
  have HV2 := Lib.hid (HV.out.next hb2)
  have HB2 := Lib.hid (HB.out.trans (hb2.mono HB.out.size))
  clear hb2 f0 f1 f2 f3
  go_wp2
  go_loopw [11, 12, 13, 14] (fun s11 s12 s13 _ wr => ∃ t : Nat, i + 1 + t ≤ k ∧ s13 = .int .i64 ((i + 1 + t : Nat) : Int) ∧ s11 = .int .i64 ((gS l n i k t).1 : Int) ∧ s12 = .int .i64 (gS l n i k t).2 ∧ Hid (OneV w.heap.size wr B (SegC a b c1 d1)) ∧ Hid (Below w.heap.size w wr)) (fun _ _ s13 _ _ => k - (intOf s13).toNat)
  case atStart => exact ⟨0, by omega, by go_num, by rw [HG0.out], by rw [HG0.out], HV2, HB2⟩
  case round =>
    obtain ⟨t, ht, rfl, rfl, rfl, HV, HB⟩ := hrel
    obtain ⟨j, hj⟩ : ∃ j, i + 1 + t = j := ⟨_, rfl⟩
    have HJ := Lib.hid hj
    have hjk : j ≤ k := by omega
    have hij : i < j := by omega
    rw [hj]
    obtain ⟨⟨g1, g2⟩, hG⟩ : ∃ s, gS l n i k t = s := ⟨_, rfl⟩
    have HG := Lib.hid hG
    rw [hG]
    dsimp only
    clear hG
    by_cases hlt : j < k
    · have hlt' : (j : Int) < (k : Int) := by omega
      have hjl : (j : Int) < (l.length : Int) := by omega
      obtain ⟨⟨x, y⟩, hpj⟩ : ∃ p, l[j]? = some p := ⟨_, List.getElem?_eq_getElem (by omega)⟩
      have hSr := HS.out.below HB.out
      obtain ⟨p4, p5⟩ := cellsPoint hSr hpj
      obtain ⟨f0, f1, f2, f3⟩ := HV.out.c4
      have v3 := HP.out j (by omega)
      rw [ptA_get hpj] at v3
      dsimp only at v3
      obtain ⟨z, hz⟩ : ∃ z, weighJ l i k j = z := ⟨_, rfl⟩
      have HZ : Hid (weighV a b c1 d1 x y = z) := Lib.hid (by rw [← hz]; unfold weighJ; rw [ptA_get HI.out, ptA_get HK.out, ptA_get hpj])
      have HW : Hid (weighJ l i k (i + 1 + t) = z) := Lib.hid (by rw [hj]; exact hz)
      have HQ : Hid (∀ W, Below wr.heap.size wr W → W.cell? ⟨bb, off + j * 2, none⟩ = some (.int .i64 x) ∧ W.cell? ⟨bb, off + j * 2 + 1, none⟩ = some (.int .i64 y) ∧ W.cell? ⟨B, 0, none⟩ = some (.int .i64 a) ∧ W.cell? ⟨B, 1, none⟩ = some (.int .i64 b) ∧ W.cell? ⟨B, 2, none⟩ = some (.int .i64 c1) ∧ W.cell? ⟨B, 3, none⟩ = some (.int .i64 d1)) := Lib.hid fun W hW => by
        have q := fun o => hW.cell (p := ⟨bb, o, none⟩) (Nat.lt_of_lt_of_le hbl HB.out.size)
        have q' := fun o => hW.cell (p := ⟨B, o, none⟩) HV.out.lt
        exact ⟨(q _).trans p4, (q _).trans p5, (q' _).trans f0, (q' _).trans f1, (q' _).trans f2, (q' _).trans f3⟩
      have HBd : Hid (Below wr.heap.size wr wr.drew) := Lib.hid (Below.refl _ _).drew
      clear hpj hz p4 p5 f0 f1 f2 f3 hSr hj
      go_upto_region 6 with fail
      go_cut [14] (fun s14 wx => s14 = .int .i64 z ∧ Hid (Below wr.heap.size wr wx))
      case first =>
        go_region_held3 (fun w' => w'.cell? ⟨bb, off + j * 2, none⟩ = some (.int .i64 x) ∧ w'.cell? ⟨bb, off + j * 2 + 1, none⟩ = some (.int .i64 y) ∧ w'.cell? ⟨B, 0, none⟩ = some (.int .i64 a) ∧ w'.cell? ⟨B, 1, none⟩ = some (.int .i64 b) ∧ w'.cell? ⟨B, 2, none⟩ = some (.int .i64 c1) ∧ w'.cell? ⟨B, 3, none⟩ = some (.int .i64 d1))
          (first | exact HQ.out _ (Below.refl _ _) | exact HQ.out _ HBd.out | exact HQ.out _ HB9.out) (first
          | (go_at_call 37; (with_reducible refine (weighFar_is a b c1 d1 x y z _ v1 v2 v3 HZ.out).mono ?_); rintro e w9 ⟨rfl, hb9⟩; have HB9 := Lib.hid (HBd.out.trans (hb9.mono HBd.out.size))) | fail)
        all_goals
          go_wp2_with fail
          go_meet
          exact ⟨rfl, HB9⟩
      case rest =>
      obtain ⟨rfl, HB9⟩ := hcut
      have HV9 := Lib.hid (HV.out.next HB9.out)
      have HB10 := Lib.hid (HB.out.trans (HB9.out.mono HB.out.size))
      clear HQ HBd HB HB9
      by_cases hgt : g2 < z
      · have HN : Hid (gS l n i k (t + 1) = (j, z)) := Lib.hid (by rw [gS_yes (by rw [HG.out, HW.out]; exact hgt), HJ.out, ← HW.out, HJ.out])
        go_wp2
        go_roundw
        case rel => exact ⟨t + 1, by have := HJ.out; omega, by have := HJ.out; go_num, by rw [HN.out], by rw [HN.out], HV9, HB10⟩
        case measure => simp [intOf]; omega
      · have HN : Hid (gS l n i k (t + 1) = (g1, g2)) := Lib.hid (by rw [gS_no (by rw [HG.out, HW.out]; exact hgt), HG.out])
        go_wp2
        go_roundw
        case rel => exact ⟨t + 1, by have := HJ.out; omega, by have := HJ.out; go_num, by rw [HN.out], by rw [HN.out], HV9, HB10⟩
        case measure => simp [intOf]; omega
    · obtain rfl : j = k := by omega
      have hlt' : ¬ (j : Int) < (j : Int) := by omega
      have hgV := gV_best l n i j
      rw [show j - (i + 1) = t by omega, HG.out] at hgV
      dsimp only at hgV
      rcases hgV with ⟨h1, rfl⟩ | ⟨b', h1, h2, rfl⟩
      · go_wp2
        go_ret2
        exact .inl ⟨h1, rfl, HB.out⟩
      · have hb : ((g1 : Int) != (i : Int)) = true := by simp only [bne_iff_ne, ne_eq]; omega
        go_wp2
        go_ret2
        exact .inr ⟨g1, h1, h2, by rw [← hb]; rfl, HB.out⟩
end Go.Proofs.YtpbmngbigdaklaaDoor
end
section
/- Lines: slices.AppendSeq over the iterator, and SegmentsOf of package impl. -/
namespace Go.Proofs.YtpbmngbigdaklaaDoor
open Go.ChangeShapes Go.WideShapes Go.ChangeAt Go.RowKit Go.Shelf
set_option linter.unusedVariables false
attribute [local go_sem] Oper.semAt_some

theorem newSeg_cells (W : World) (x : Int × Int × Int × Int) (T : TypeId) : ∀ j u, (encSegment x)[j]? = some u → (W.alloc (.cells (sC x) T)).cell? ((⟨W.heap.size, 0, none⟩ : Addr).add j) = some u := fun j u hu => by
  rw [add_none]
  have := (Laid.new W T (sC x)).cell (k := j) (v := u) (by rw [← hu]; exact List.getElem?_toArray)
  simpa using this
theorem cellsSeg_snoc (pre : List (Int × Int × Int × Int)) (x : Int × Int × Int × Int) : cellsE encSegment (pre ++ [x]) = cellsE encSegment pre ++ encSegment x := by rw [cellsE_app]; simp [cellsE]
set_option maxRecDepth 100000 in
set_option maxHeartbeats 4000000 in
theorem appendSeq_any (Bx M n0 c1 : Nat) (A1 : Option Addr) (l : List (Int × Int)) (v0 : Value) (w : World) (bA : Boxed w Bx 24 (.slice A1 l.length c1)) (hs : SeesE 2 encPoint w M A1 l) (hMn : M ≤ n0) (hn0 : n0 ≤ w.heap.size) (hl : l.length ≤ 1000)
    (ho : OwnE 4 encSegment w n0 35 v0 []) :
    Calls Tryd.prog 51 #[v0, .func (.func 49) #[] #[.pointer (some ⟨Bx, 0, none⟩)]] w fun e w' => ∃ v, e = .returned v ∧ OwnE 4 encSegment w' n0 35 v (jts l) ∧ Below n0 w w' := by
  have HO := Lib.hid ho
  refine (callsIn_wide (n := 8)).1 ?_
  refine callsIn_of_wp_marks Tryd.func51 rfl trivial ?_ rfl
  simp only [Tryd.ntmps51, List.size_toArray, List.length_cons, List.length_nil, Nat.reduceAdd, Nat.reduceSub, Array.replicate_succ, Array.replicate_zero, List.push_toArray, List.append_toArray, List.nil_append, List.cons_append]
  have hBl := bA.lt
  have hv1 : v0.oneCell' = true := by obtain ⟨A, c, rfl, -⟩ := OwnE.form ho; rfl
  gi_wp2
  have bS := Boxed.new w 53 v0
  have bA := bA.alloc (.cells #[v0] 53)
  have hB0 : Below n0 w (w.alloc (.cells #[v0] 53)) := (Below.refl _ w).alloc hn0 _
  have hs0 := hs.alloc (Nat.le_trans hMn hn0) (.cells #[v0] 53)
  have ho0 := HO.out.alloc (.cells #[v0] 53)
  have hsz : (w.alloc (.cells #[v0] 53)).heap.size = w.heap.size + 1 := by simp
  obtain ⟨W0, hW0⟩ : ∃ W0, w.alloc (.cells #[v0] 53) = W0 := ⟨_, rfl⟩
  rw [hW0] at bS bA hB0 hsz hs0 ho0 ⊢
  clear hW0
  obtain ⟨i0, hi, hz0, hz1, hz2⟩ := info_parts infoSegment
  refine wpIn_rangeFunc_ownH rfl (by omega) (gf := 49) (lb := #[.pointer (some ⟨Bx, 0, none⟩)]) rfl trivial (enters_of Tryd.func49 (by kernel_rfl) rfl)
    (joints_stops (8 - 1) (by omega) Bx M (fun k => k < M ∨ k = Bx) A1 c1 l (by omega) W0 bA.lt (by omega) (.inr rfl) (fun _ h => .inl h) bA.cell hs0) KpS.t (KpS.book (by intro k hk; have := bA.lt; omega)) (Below.refl _ _) (fun _ => rfl)
    (fun pre W => ((∃ v, Boxed W w.heap.size 53 v ∧ W.ownsRow n0 35 4 v pre.length (cellsE encSegment pre) ∧ True) ∧ Boxed W Bx 24 (.slice A1 l.length c1)) ∧ Below n0 w W)
    (fun _ _ _ => False)
    (OwnFrom.and (OwnFrom.and (Own.from (holdsRow_own n0 w.heap.size 53 35 4 (fun pre => pre.length) (fun pre => cellsE encSegment pre) (fun _ _ => True)) _) (Own.from (boxed_own _ _ _) _)) (ownFrom_below hn0 (by omega)))
    (fun cc _ _ _ _ hs _ _ => hs)
    ⟨⟨⟨v0, bS, ho0, trivial⟩, bA⟩, hB0⟩
    (fun x a' W => ∃ By, w.heap.size < By ∧ Laid W By 35 (sC x) ∧ a' = { tmps := #[v0, .func (.func 49) #[] #[.pointer (some ⟨Bx, 0, none⟩)], .pointer (some ⟨w.heap.size, 0, none⟩), undef, .slice none 0 0, .pointer (some ⟨By, 0, none⟩), .func (.func 49) #[] #[.pointer (some ⟨Bx, 0, none⟩)], sV x, undef, undef, undef, undef, undef], defers := [] })
    (fun x a' _ X Y row hs hg hr => by obtain ⟨Bx, h1, h2, h3⟩ := hs; exact ⟨Bx, h1, laid_own Bx 35 (fun (_ : Unit) => sC x) () X Y row h2 hg (fun r e => (hr r e).2), h3⟩)
    ?assign ?body ?done ?stop
  case assign =>
    rintro y pre x W K ⟨⟨⟨v, bS1, hr1, -⟩, bA1⟩, hB1⟩ hK
    gi_wp2
    exact hK _ _ ((KeepsOthers.alloc _ _).from _) (KpS.alloc _ _) ⟨⟨⟨v, bS1.alloc _, hr1.alloc _, trivial⟩, bA1.alloc _⟩, hB1.alloc (Nat.le_trans hn0 (by have := bS1.lt; omega)) _⟩ ⟨W.heap.size, bS1.lt, Laid.new W _ _, rfl⟩
  case body =>
    rintro y pre x a' W hy hr ⟨⟨⟨v, hv, hrow, -⟩, bA1⟩, hB1⟩ ⟨By, hBy, bX, rfl⟩ hlt
    obtain ⟨x0, x1, x2, x3⟩ := bX.c4
    have hc := hv.cell
    have hnW : n0 ≤ W.heap.size := Nat.le_trans hn0 (by have := hv.lt; omega)
    have hpl : pre.length ≤ 1000 := by rw [jts_len] at hlt; omega
    gi_wp2_with (gi_at_builtin; refine wpListIn_append_own _ rfl _ _ 53 rfl n0 35 i0 _ 4 32 Tryd.underlying53 hi hz0 hz1 hz2 rfl (by decide) _ _ _ rfl (hrow.alloc _) ⟨W.heap.size, 0, none⟩ 1 1 (encSegment x) rfl rfl (newSeg_cells _ _ _) (elSegment.2 x).2 (by simp only [maxLen]; omega) (by omega) (by simp; omega) ?_; intro v' w1 hown' hgrow _; obtain ⟨g', cap', rfl⟩ := ownsRow_succ hown'; obtain ⟨hv1, hv2, hr2, hk2, hb2⟩ := hv.appended (by decide) hrow hnW hn0 hown' hgrow; have hc1 := hv1.cell; have hf1 := hv1.frozen)
    refine ⟨hk2.from _, ((KpS.alloc W _).trans (KpS.grown hgrow fun k e hk => ?_)).trans (KpS.setCell _ _ _ fun hk => ?_), ⟨⟨_, hv2, ?_, trivial⟩, ((bA1.alloc _).kept hgrow (bA1.not_row (by decide) hrow)).other (by omega) _⟩, hB1.trans hb2⟩
    · have h1 := (World.ownsRow.lt hrow k e).1
      rcases hk with hk | hk
      · omega
      · subst hk; exact bA1.not_row (by decide) hrow e.symm
    · dsimp only at hk; omega
    · rw [cellsSeg_snoc, List.length_append]; exact hr2
  case done =>
    rintro D zs W hD rfl ⟨⟨⟨v, hv, hrow, -⟩, bA1⟩, hB1⟩ hK
    have hc := hv.cell
    gi_wp2
    refine ⟨by simp, .inl ⟨_, _, rfl, run_takeDeferred hK, ?_⟩⟩
    exact ⟨_, results_tmp rfl _ _ _, v, rfl, ownsRow_putObj hrow _ hK rfl, hB1.trans (belowK_b (w := w) hn0 W D _ _ (by omega) hK rfl rfl)⟩
  case stop =>
    rintro D cc pre W _ _ h _
    exact h.elim
set_option maxRecDepth 100000 in
theorem segmentsOf_any (A : Option Addr) (c : Nat) (l : List (Int × Int)) (w : World) (hs : SeesE 2 encPoint w w.heap.size A l) (hl : l.length ≤ 1099511627776) :
    Calls Tryd.prog 32 #[.slice A l.length c] w (GivesE 4 encSegment 35 (sgV l) w) := by
  have HS := Lib.hid hs; clear hs
  go_enter Tryd.func32, Tryd.ntmps32
  go_wp2_with (first
    | (go_at_call 52; refine (walkLine_any A c l _ w.heap.size (by simp) (HS.out.alloc (Nat.le_refl _) _) hl).mono ?_; rintro e w1 ⟨Bx, A1, c1, rfl, hBx, bA, hS1, hB1⟩)
    | (go_at_call 51; refine (appendSeq_any Bx w.heap.size w.heap.size c1 A1 (lnV l) _ w1 bA hS1 (Nat.le_refl _) (Nat.le_trans (by simp) hB1.size) (by have := lnV_len l; omega) ((OwnE.lit w w.heap.size 35 (Nat.le_refl _)).belowAll hB1)).mono ?_; rintro e w2 ⟨v, rfl, ho2, hB2⟩))
  go_ret
  obtain ⟨A2, c2, rfl, -, -⟩ := ho2.form
  exact ⟨A2, c2, _, Lib.hid rfl, rfl, ho2, (((Below.refl _ w).alloc (Nat.le_refl _) _).trans (hB1.mono (by simp))).trans hB2⟩
end Go.Proofs.YtpbmngbigdaklaaDoor
end
section
/- Simpler lines: keepPoints of package impl. -/
namespace Go.Proofs.YtpbmngbigdaklaaDoor
open Go.ChangeShapes Go.WideShapes Go.ChangeAt Go.RowKit
set_option linter.unusedVariables false

/-- The variable errNotSimpler holds a pointer to an error of errors.New's make. -/
def SimAt (a0 : Addr) (w : World) : Prop := w.cell? ⟨0, 0, none⟩ = some (.iface 109 (.pointer (some a0)))
section
variable {a0 : Addr} {w w' : World}
theorem SimAt.lt (h : SimAt a0 w) : 0 < w.heap.size := World.block_lt_of_cell? _ _ h
theorem SimAt.below {B : Nat} (h : SimAt a0 w) (hb : Below B w w') (hB : 0 < B) : SimAt a0 w' := (hb.cell (p := ⟨0, 0, none⟩) hB).trans h
theorem SimAt.all (h : SimAt a0 w) (hb : Below w.heap.size w w') : SimAt a0 w' := h.below hb h.lt
end
/-- Two rows in blocks of their own. -/
def ApartB (u v : Value) : Prop := ∀ g, u.ownBlock = some g → v.ownBlock ≠ some g
theorem ApartB.symm {u v : Value} (h : ApartB u v) : ApartB v u := fun g h1 h2 => h g h2 h1
theorem ApartB.kept {u v : Value} (h : ApartB u v) : u.ownBlock = none ∨ u.ownBlock ≠ v.ownBlock := by
  cases hu : u.ownBlock with
  | none => exact .inl rfl
  | some g => exact .inr fun e => h g hu e.symm
theorem ApartB.new {u v v' : Value} {n : Nat} (h : ApartB u v) (hv : v'.ownBlock = v.ownBlock ∨ v'.ownBlock = some n) (hu : ∀ g, u.ownBlock = some g → g < n) : ApartB u v' := fun g h1 h2 => by
  rcases hv with hv | hv
  · exact h g h1 (hv.symm.trans h2)
  · have := hu g h1
    rw [hv] at h2
    have := Option.some.inj h2
    omega
theorem Own.cutTo {w : World} {B : Nat} {e : TypeId} {k : IntKind} {A : Option Addr} {n c m : Nat} {l : List Int} (h : Own w B e k (.slice A n c) l) (hm : m ≤ l.length) : Own w B e k (.slice A m c) (l.take m) := by
  have hlen : (l.take m).length = m := by rw [List.length_take]; omega
  refine ⟨by simp [kv], ?_⟩
  rw [hlen]
  rcases h.2 with ⟨hv, h0⟩ | ⟨g, cap, cur, hv, hB, hg, h1, h2, h3, h4⟩
  · simp only [Value.slice.injEq] at hv
    obtain ⟨rfl, rfl, rfl⟩ := hv
    have : m = 0 := by omega
    subst this
    exact .inl ⟨rfl, rfl⟩
  · simp only [Value.slice.injEq] at hv
    obtain ⟨rfl, rfl, rfl⟩ := hv
    refine .inr ⟨g, c, cur, rfl, hB, hg, by omega, h2, h3, ?_⟩
    have : cur.toList.take (m * 1) = (cur.toList.take (l.length * 1)).take (m * 1) := by rw [List.take_take]; congr 1; omega
    rw [this, h4, Nat.mul_one]
    simp [kv, List.map_take]
/-- append of a number: which block it writes. -/
theorem app64G (w : World) {ops : Array Oper} {rest : List Oper} {o : Oper} {a : Act} {Q : Exit → Act → World → Prop} (hgd : o.guard = none) (s x : Operand)
    (ho : o.op = .call { callee := .builtin .append, args := #[s, x], argTypes := #[70, 70] })
    (base : Nat) (v : Value) (l : List Int) (hv : a.eval s = v) (hown : Own w base 3 .i64 v l)
    (B : Nat) (A : Option Addr) (m c : Nat) (l2 : List Int) (hx : a.eval x = .slice A m c) (hm : m = l2.length) (hs : Sees w B .i64 A l2) (h63 : l.length + l2.length ≤ 17592186044416) (hbase : base ≤ w.heap.size)
    (h : ∀ A' c' L w', Hid (L = l ++ l2) → L.length ≤ l.length + l2.length → l.length + l2.length ≤ L.length → Own w' base 3 .i64 (.slice A' L.length c') L → Below base w w' → Hid (w.grownBy w' v.ownBlock) → Hid ((Value.slice A' L.length c').ownBlock = v.ownBlock ∨ (Value.slice A' L.length c').ownBlock = some w.heap.size) → wpList Tryd.prog ops Q rest (a.put o.dst (.slice A' L.length c')) w') :
    wpList Tryd.prog ops Q (o :: rest) a w := by
  obtain ⟨i, hi, hz, h1, h2⟩ := info_parts info_int
  obtain ⟨v', w', hrun, q2, q3, q4⟩ := run_app (P := Tryd.prog) w 70 o.type 3 .i64 i _ 8 Tryd.underlying70 hi hz h1 h2 rfl base v l hown B A m c l2 hm hs h63 (by decide) hbase
  refine wpList_plain hgd fun _ hK => ?_
  unfold Oper.wp execOp
  simp only [ho, resolve, invoke, builtin, Sem.run_bind, Sem.run_pure, Result.andThen_ok, List.map_toArray, List.map_cons, List.map_nil, hv, hx, hrun]
  obtain ⟨A', c', rfl, _, _⟩ := q2.form
  exact hK _ _ (h A' c' _ w' (Lib.hid rfl) (by simp) (by simp) q2 ((Below.refl _ _).grown q3 hbase fun g hg => (World.ownsRow.lt hown g hg).1) (Lib.hid q3) (Lib.hid q4))
/-- append of a point: which block it writes. -/
theorem appPointG (w : World) {ops : Array Oper} {rest : List Oper} {o : Oper} {a : Act} {Q : Exit → Act → World → Prop} (hgd : o.guard = none) (s x : Operand)
    (ho : o.op = .call { callee := .builtin .append, args := #[s, x], argTypes := #[24, 24] })
    (base : Nat) (v : Value) (l : List (Int × Int)) (hv : a.eval s = v) (hown : OwnE 2 encPoint w base 33 v l)
    (B : Nat) (A : Option Addr) (m c : Nat) (l2 : List (Int × Int)) (hx : a.eval x = .slice A m c) (hm : m = l2.length) (hs : SeesE 2 encPoint w B A l2) (h63 : l.length + l2.length ≤ 1099511627776) (hbase : base ≤ w.heap.size)
    (h : ∀ A' c' L w', Hid (L = l ++ l2) → L.length ≤ l.length + l2.length → l.length + l2.length ≤ L.length → OwnE 2 encPoint w' base 33 (.slice A' L.length c') L → Below base w w' → Hid (w.grownBy w' v.ownBlock) → Hid ((Value.slice A' L.length c').ownBlock = v.ownBlock ∨ (Value.slice A' L.length c').ownBlock = some w.heap.size) → wpList Tryd.prog ops Q rest (a.put o.dst (.slice A' L.length c')) w') :
    wpList Tryd.prog ops Q (o :: rest) a w := by
  obtain ⟨i, hi, hz, h1, h2⟩ := info_parts infoPoint
  obtain ⟨v', w', hrun, q2, q3, q4⟩ := run_appE (P := Tryd.prog) w elPoint 24 o.type 33 i _ 16 Tryd.underlying24 hi hz h1 h2 rfl base v l hown B A m c l2 hm hs h63 (by decide) hbase
  refine wpList_plain hgd fun _ hK => ?_
  unfold Oper.wp execOp
  simp only [ho, resolve, invoke, builtin, Sem.run_bind, Sem.run_pure, Result.andThen_ok, List.map_toArray, List.map_cons, List.map_nil, hv, hx, hrun]
  obtain ⟨A', c', rfl, _, _⟩ := q2.form
  exact hK _ _ (h A' c' _ w' (Lib.hid rfl) (by simp) (by simp) q2 ((Below.refl _ _).grown q3 hbase fun g hg => (World.ownsRow.lt hown g hg).1) (Lib.hid q3) (Lib.hid q4))
theorem OwnE.onePt (w : World) (B : Nat) (x y : Int) (hB : B ≤ w.heap.size) : OwnE 2 encPoint (w.alloc (.cells #[.int .i64 x, .int .i64 y] 33)) B 33 (.slice (some ⟨w.heap.size, 0, none⟩) 1 1) [(x, y)] :=
  World.ownsRow_lit (base := B) (e := 33) (size := 2) w #[.int .i64 x, .int .i64 y] 1 hB (by decide) rfl
theorem Own.oneI (w : World) (B : Nat) (x : Int) (hB : B ≤ w.heap.size) : Own (w.alloc (.cells #[.int .i64 x] 3)) B 3 .i64 (.slice (some ⟨w.heap.size, 0, none⟩) 1 1) [x] :=
  World.ownsRow_lit (base := B) (e := 3) (size := 1) w #[.int .i64 x] 1 hB (by decide) rfl
theorem requireLine_yes (A : Option Addr) (c : Nat) (l : List (Int × Int)) (n : Int) (w : World) (hs : SeesE 2 encPoint w w.heap.size A l) (hl : l.length ≤ 1099511627776) (hi : isLn l = true) (hn : inB n 0 200 = true) :
    Calls Tryd.prog 47 #[.slice A l.length c, .int .i64 n] w fun e w' => e = .returned (.tuple #[]) ∧ Below w.heap.size w w' := by
  have HS := Lib.hid hs; clear hs
  go_enter Tryd.func47, Tryd.ntmps47
  go_wp2_with (first
    | (go_at_call 11; refine (isLine_is A c l _ HS.out hl _ hi).mono ?_; rintro e w1 ⟨rfl, hb1⟩)
    | (go_at_call 28; refine (in_is _ _ _ _ _ hn).mono ?_; rintro e w2 ⟨rfl, rfl⟩))
  first
    | exact ⟨_, rfl, rfl, hb1⟩
    | (refine bodyPost_ret (results_none rfl _ _ _) rfl ?_; exact ⟨rfl, hb1⟩)
    | (go_end0; exact ⟨rfl, hb1⟩)
    | trace_state
theorem requireLine_no (a0 : Addr) (A : Option Addr) (c : Nat) (l : List (Int × Int)) (n : Int) (w : World) (hE : SimAt a0 w) (hs : SeesE 2 encPoint w w.heap.size A l) (hl : l.length ≤ 1099511627776) (hi : isLn l = false ∨ inB n 0 200 = false) :
    Calls Tryd.prog 47 #[.slice A l.length c, .int .i64 n] w fun e w' => e = .panicked [{ v := .iface 109 (.pointer (some a0)), recovered := false }] ∧ Below w.heap.size w w' := by
  have HS := Lib.hid hs; clear hs
  have HE := Lib.hid hE; clear hE
  go_enter Tryd.func47, Tryd.ntmps47
  cases h1 : isLn l
  · go_wp2_with fail
    refine (isLine_is A c l _ HS.out hl _ h1).mono ?_
    rintro e w1 ⟨rfl, hb1⟩
    have hE1 := HE.out.all hb1
    unfold SimAt at hE1
    go_wp2
    exact ⟨rfl, rfl, hb1⟩
  · obtain hn : inB n 0 200 = false := by rcases hi with h | h; rw [h1] at h; cases h; exact h
    go_wp2_with fail
    refine (isLine_is A c l _ HS.out hl _ h1).mono ?_
    rintro e w1 ⟨rfl, hb1⟩
    have hE1 := HE.out.all hb1
    unfold SimAt at hE1
    go_wp2_with fail
    refine (in_is _ _ _ _ _ hn).mono ?_
    rintro e w2 ⟨rfl, rfl⟩
    go_wp2
    exact ⟨rfl, rfl, hb1⟩
theorem keepPoints_no (a0 : Addr) (A : Option Addr) (c : Nat) (l : List (Int × Int)) (n : Int) (w : World) (hE : SimAt a0 w) (hs : SeesE 2 encPoint w w.heap.size A l) (hl : l.length ≤ 1099511627776) (hi : isLn l = false ∨ inB n 0 200 = false) :
    Calls Tryd.prog 27 #[.slice A l.length c, .int .i64 n] w fun e w' => e = .panicked [{ v := .iface 109 (.pointer (some a0)), recovered := false }] ∧ Below w.heap.size w w' := by
  have HS := Lib.hid hs; clear hs
  go_enter Tryd.func27, Tryd.ntmps27
  go_wp2_with (go_at_call 47; refine (requireLine_no a0 A c l n _ hE HS.out hl hi).mono ?_; rintro e w1 ⟨rfl, hb1⟩)
  exact ⟨rfl, rfl, hb1⟩
def lenOfS : Value → Nat
  | .slice _ n _ => n
  | _ => 0
/-- The loop's variables: the place behind, what is kept, the stack. -/
def KeepRel (l : List (Int × Int)) (n : Int) (w : World) (s5 s6 s7 : Value) (wr : World) : Prop :=
  ∃ (u : Nat) (R : List Nat) (A2 : Option Addr) (c2 : Nat) (K : List (Int × Int)) (A3 : Option Addr) (c3 : Nat) (S : List Int),
    s5 = .int .i64 (u : Int) ∧ s6 = .slice A2 K.length c2 ∧ s7 = .slice A3 S.length c3 ∧ Hid (S = (R.map fun (x : Nat) => (x : Int)).reverse) ∧ Hid (S.length = R.length) ∧ Hid (ChainS l n u R) ∧ Hid (K = outTo l n u) ∧
    Hid (OwnE 2 encPoint wr w.heap.size 33 (.slice A2 K.length c2) K) ∧ Hid (Own wr w.heap.size 3 .i64 (.slice A3 S.length c3) S) ∧ Hid (ApartB (.slice A2 K.length c2) (.slice A3 S.length c3)) ∧ Hid (Below w.heap.size w wr)
def keepPopT : List (Nat × Nat × Nat) := [(0, 46, 256), (0, 47, 128), (0, 48, 128), (4, 49, 140737488355328), (8, 50, 281474976710656), (18, 51, 633318697598976), (1, 6, 35184372088832), (127, 8, 1125899906842624)]
def keepPopS : List (Nat × Bool) := [(0, true), (1, true), (2, true), (3, true), (4, true), (5, true), (6, true), (7, true)]
set_option maxRecDepth 100000 in
set_option maxHeartbeats 4000000 in
theorem keepPoints_yes (A : Option Addr) (c : Nat) (l : List (Int × Int)) (n : Int) (w : World) (hs : SeesE 2 encPoint w w.heap.size A l) (hl : l.length ≤ 1099511627776) (hi : isLn l = true) (hn : inB n 0 200 = true) :
    Calls Tryd.prog 27 #[.slice A l.length c, .int .i64 n] w (GivesE 2 encPoint 33 (simpL l n) w) := by
  have HS := Lib.hid hs; clear hs
  have hln := isLn_yes hi
  have hp := allPt_ln hi
  have hnb : 0 ≤ n ∧ n ≤ 200 := by simp only [inB, decide_eq_true_eq] at hn; exact hn
  have h2l := hln.1; have h10 := hln.2.1
  have HP := Lib.hid hp
  clear hln hp
  obtain ⟨⟨x0, y0⟩, hp0⟩ : ∃ p, l[0]? = some p := ⟨_, List.getElem?_eq_getElem (by omega)⟩
  have H0 := Lib.hid hp0; clear hp0
  go_enter Tryd.func27, Tryd.ntmps27
  go_wp2_with fail
  refine (requireLine_yes A c l n _ HS.out hl hi hn).mono ?_
  rintro e w1 ⟨rfl, hb1⟩
  have HB1 := Lib.hid hb1
  have HS1 := Lib.hid (HS.out.below hb1)
  clear hb1
  obtain ⟨bb, off, rfl, hbl, -⟩ := HS1.out 0 _ H0.out
  obtain ⟨k0', k1'⟩ := cellsPoint HS1.out H0.out
  have k0 : w1.cell? ⟨bb, off, none⟩ = some (.int .i64 x0) := by simpa using k0'
  have k1 : w1.cell? ⟨bb, off + 1, none⟩ = some (.int .i64 y0) := by simpa using k1'
  clear k0' k1'
  have hl0 : (0 : Int) < (l.length : Int) := by omega
  have e1 : (l.length : Int) - 1 = ((l.length - 1 : Nat) : Int) := by omega
  go_wp2_with fail
  go_loopw [5, 6, 7, 8, 9, 10] (fun s5 s6 s7 _ _ _ wr => KeepRel l n w s5 s6 s7 wr) (fun s5 _ s7 _ _ _ _ => 2 * (l.length - (intOf s5).toNat) - lenOfS s7)
  case atStart =>
    have hz := HB1.out.size
    refine ⟨0, [l.length - 1], _, 1, [(x0, y0)], _, 1, [((l.length - 1 : Nat) : Int)], rfl, rfl, rfl, Lib.hid (by simp), Lib.hid rfl, Lib.hid (ChainS.start h2l), Lib.hid (by rw [out_zero, ptA_get H0.out]),
      Lib.hid ((OwnE.onePt w1 w.heap.size x0 y0 hz).alloc _), Lib.hid (by have := Own.oneI (w1.alloc (.cells #[.int .i64 x0, .int .i64 y0] 33)) w.heap.size ((l.length - 1 : Nat) : Int) (by simp; omega); simpa using this), Lib.hid ?_, Lib.hid ((HB1.out.alloc hz _).alloc (by simp; omega) _)⟩
    intro g h1 h2
    have e1 := Option.some.inj h1
    have e2 := Option.some.inj h2
    dsimp only at e1 e2
    omega
  case round =>
    obtain ⟨u, R, A2, c2, K, A3, c3, S, rfl, rfl, rfl, HSe, HSl, HC, HK, HO, HI, HA, HB⟩ := hrel
    cases R with
    | nil =>
      have hS0 : S.length = 0 := HSl.out
      have hg : ¬ (0 : Int) < (S.length : Int) := by omega
      have HV : Hid (K = simpL l n) := Lib.hid (by rw [HK.out]; exact HC.out.done)
      go_wp2
      go_ret
      exact ⟨A2, c2, K, HV, rfl, HO.out, HB.out⟩
    | cons v R =>
      obtain ⟨q, hq⟩ : ∃ q, R.length = q := ⟨_, rfl⟩
      have hSl : S.length = q + 1 := by rw [HSl.out, List.length_cons, hq]
      have hg : (0 : Int) < (S.length : Int) := by omega
      have e2 : (S.length : Int) - 1 = (q : Int) := by omega
      have hqS : (q : Int) < (S.length : Int) := by omega
      have hqS' : q ≤ S.length := by omega
      have hlen := HC.out.2.2.2.len
      have huv := HC.out.1
      have hvl : v < l.length := by omega
      have hul : u < l.length := by omega
      have hvl' : (v : Int) < (l.length : Int) := by omega
      obtain ⟨g, rfl, hBg, -, hrow⟩ := HI.out.row (by omega)
      have HT : Hid (S[q]? = some (v : Int)) := Lib.hid (by
        rw [HSe.out, List.map_cons, List.reverse_cons, List.getElem?_append_right (by simp; omega)]
        simp [hq])
      have HTk : Hid (S.take q = (R.map fun (x : Nat) => (x : Int)).reverse) := Lib.hid (by
        rw [HSe.out, List.map_cons, List.reverse_cons, List.take_left' (by simp [hq])])
      obtain ⟨b', off', hA', hlt', kS'⟩ := HI.out.sees q _ HT.out
      have kS : wr.cell? ⟨g, q, none⟩ = some (.int .i64 (v : Int)) := by
        have h1 := Option.some.inj hA'
        simp only [Addr.mk.injEq] at h1
        obtain ⟨rfl, rfl, -⟩ := h1
        simpa using kS'
      have HSr := Lib.hid (HS.out.below HB.out)
      clear hrow hA' hlt' kS'
      go_wp2_with fail
      refine (findTooFar_is l n _ c u v _ HP.out h10 hnb huv hvl (HSr.out.mono HB.out.size)).mono ?_
      rintro e w2 (⟨hb, rfl, hb2⟩ | ⟨b, hub, hb, rfl, hb2⟩)
      · have HP2 := Lib.hid (HC.out.pop hb)
        have HO2 := Lib.hid (HO.out.belowAll hb2)
        have HI2 := Lib.hid ((HI.out.belowAll hb2).cutTo hqS')
        have HB2 := Lib.hid (HB.out.trans (hb2.mono HB.out.size))
        have hz2 := HB2.out.size
        obtain ⟨⟨x, y⟩, hpv⟩ : ∃ p, l[v]? = some p := ⟨_, List.getElem?_eq_getElem hvl⟩
        obtain ⟨p0, p1⟩ := cellsPoint (HSr.out.below (hb2.mono HB.out.size)) hpv
        have HX := Lib.hid hpv
        have hKl : K.length ≤ 10 := by have := out_len l n u; rw [← HK.out] at this; omega
        have hcap : q + 1 ≤ c3 := by have := HI.out.cap; omega
        have hqc : (q : Int) ≤ (c3 : Int) := by omega
        have b1 : (0 : Int) ≤ (q : Int) := by omega
        have b2 : ¬ ((q : Int) < 0) := by omega
        have b3 : ¬ ((c3 : Int) < (q : Int)) := by omega
        have hw0 : IntKind.i64.wrap (q : Int) = (q : Int) := by rw [IntKind.wrap_i64]; omega
        have hTl : (S.take q).length = q := by rw [List.length_take]; omega
        clear hb2 hpv kS
        go_upto_region 9 with fail
        go_cut [5, 7] (fun s5 s7 wx => s5 = .int .i64 (v : Int) ∧ s7 = .slice (some ⟨g, 0, none⟩) q c3 ∧ Hid (Below w2.heap.size w2 wx))
        case first =>
          refine wp_region_held_drew (S := (fun w' => True)) (by kernel_rfl) trivial (fun hHeld => ?_)
          refine to_lin (T := keepPopT) (n := 8) keepPopS ⟨by kernel_rfl, by kernel_rfl, by kernel_rfl⟩ (by kernel_rfl) (fun hTag => ?_)
          iterate 5 (refine lin_on (v := ?_) rfl (fun _ _ _ h => h) (by rfl) ?_ (by assumption) ?_; rotate_left; (· (intro wq hSw; go_simp; try with_reducible rfl)); try simp only [Act.put, List.setIfInBounds_toArray, List.set_cons_zero, List.set_cons_succ])
          refine lin_on (v := .slice (some ⟨g, 0, none⟩) q c3) rfl (fun _ _ _ h => h) (by rfl) ?_ (by assumption) ?_
          · intro wq hSw
            go_simp
            try (rw [hw0, if_pos ⟨b1, hqc⟩]; rfl)
          try simp only [Act.put, List.setIfInBounds_toArray, List.set_cons_zero, List.set_cons_succ]
          iterate 2 (refine lin_on (v := ?_) rfl (fun _ _ _ h => h) (by rfl) ?_ (by assumption) ?_; rotate_left; (· (intro wq hSw; go_simp; try with_reducible rfl)); try simp only [Act.put, List.setIfInBounds_toArray, List.set_cons_zero, List.set_cons_succ])
          refine lin_done ?_
          go_wp2_with fail
          go_meet
          exact ⟨rfl, rfl, Lib.hid (Below.refl _ _).drew⟩
        case rest =>
        obtain ⟨rfl, rfl, HBx⟩ := hcut
        have HO3 := Lib.hid (HO2.out.belowAll HBx.out)
        have HI3 := Lib.hid (HI2.out.belowAll HBx.out)
        have HB3 := Lib.hid (HB2.out.trans (HBx.out.mono hz2))
        have hz3 := HB3.out.size
        have p0 := (HBx.out.cell (Nat.lt_of_lt_of_le hbl hz2)).trans p0
        have p1 := (HBx.out.cell (Nat.lt_of_lt_of_le hbl hz2)).trans p1
        go_wp2_with (first
          | (at_builtin; refine appPointG _ rfl _ _ rfl w.heap.size _ K rfl (HO3.out.alloc _) (wc.heap.size + 1) _ 1 _ [(x, y)] rfl rfl (seesE_new elPoint wc (x, y) _ _ _ (Nat.lt_succ_self _) rfl) (by simp; omega) (by simp; omega) ?_; intro A4 c4 L4 w4 hL4 h1 h2 ho4 hb4 hg4 hv4))
        have HApt : Hid (ApartB (.slice A4 L4.length c4) (.slice (some ⟨g, 0, none⟩) (S.take q).length c3)) := Lib.hid (ApartB.symm (ApartB.new (u := .slice (some ⟨g, 0, none⟩) (S.take q).length c3) (v := .slice A2 K.length c2) (fun g h1 h2 => HA.out.symm g h1 h2) hv4.out (fun g' hg' => by have := (HI3.out.alloc (.cells #[.int .i64 x, .int .i64 y] 33)).at_ g' hg'; exact this.2)))
        have HI4 := Lib.hid ((HI3.out.alloc (.cells #[.int .i64 x, .int .i64 y] 33)).kept hg4.out (ApartB.kept (u := .slice (some ⟨g, 0, none⟩) q c3) (v := .slice A2 K.length c2) (fun g h1 h2 => HA.out.symm g h1 h2)))
        go_roundw
        case rel => exact ⟨v, R, A4, c4, L4, some ⟨g, 0, none⟩, c3, S.take q, rfl, rfl, by rw [hTl], HTk, Lib.hid (by rw [hTl, hq]), Lib.hid HP2.out.1, Lib.hid (by rw [hL4.out, HP2.out.2, HK.out, ptA_get HX.out]), Lib.hid ho4, Lib.hid (by rw [hTl]; exact HI4.out), HApt, Lib.hid ((HB3.out.alloc hz3 _).trans hb4)⟩
        case measure => simp [intOf, lenOfS, hSl]; omega
      · have HP2 := Lib.hid (HC.out.push hb)
        have HO2 := Lib.hid (HO.out.belowAll hb2)
        have HI2 := Lib.hid (HI.out.belowAll hb2)
        have HB2 := Lib.hid (HB.out.trans (hb2.mono HB.out.size))
        have hz2 := HB2.out.size
        have hlen2 := HP2.out.len
        simp only [List.length_cons] at hlen2
        clear hb2 kS
        go_wp2_with (first
          | (at_builtin; refine app64G _ rfl _ _ rfl w.heap.size _ S (by rw [← hSl]; rfl) (HI2.out.alloc _) (w2.heap.size + 1) _ 1 _ [(b : Int)] rfl rfl (sees_new w2 .i64 (b : Int) _ _ (Nat.lt_succ_self _)) (by simp; omega) (by simp; omega) ?_; intro A4 c4 L4 w4 hL4 h1 h2 ho4 hb4 hg4 hv4))
        have HApt : Hid (ApartB (.slice A2 K.length c2) (.slice A4 L4.length c4)) := Lib.hid (ApartB.new (v := .slice (some ⟨g, 0, none⟩) S.length c3) HA.out hv4.out (fun g' hg' => ((HO2.out.alloc (.cells #[.int .i64 (b : Int)] 3)).lt g' hg').2))
        have HO4 := Lib.hid ((HO2.out.alloc (.cells #[.int .i64 (b : Int)] 3)).kept hg4.out (ApartB.kept HA.out))
        go_roundw
        case rel => exact ⟨u, b :: v :: R, A2, c2, K, A4, c4, L4, rfl, rfl, rfl, Lib.hid (by rw [hL4.out, HSe.out]; simp), Lib.hid (by rw [hL4.out]; simp [hSl, hq]), HP2, HK, HO4, Lib.hid ho4, HApt, Lib.hid ((HB2.out.alloc hz2 _).trans hb4)⟩
        case measure => simp [intOf, lenOfS, hSl] at h1 h2 ⊢; omega
end Go.Proofs.YtpbmngbigdaklaaDoor
end
section
/- Simpler lines: SimplifyLine and CountLeftOut of package impl: a panic, a deferred closure, recover. -/
namespace Go.Proofs.YtpbmngbigdaklaaDoor
open Go.ChangeShapes Go.WideShapes Go.ChangeAt Go.RowKit
set_option linter.unusedVariables false

theorem OwnE.setUnder {α : Type} {n : Nat} {enc : α → List Value} {w : World} {lo b : Nat} {e : TypeId} {v : Value} {L : List α} (h : OwnE n enc w lo e v L) (hb : b < lo) (u : Value) : OwnE n enc (w.setCell ⟨b, 0, none⟩ u) lo e v L := by
  refine h.kept (grownBy_setCell' _ _ _) ?_
  cases hv : v.ownBlock with
  | none => exact .inl rfl
  | some g => right; intro e; have := (h.lt g hv).1; have := Option.some.inj e; omega
theorem sliceNil (A : Option Addr) (n c : Nat) (w : World) : (binOp .eql 24 (.slice A n c) (.slice none 0 0)).run Tryd.prog w = .ok (.bool A.isNone) w := by
  simp only [binOp]
  simp [run_equal_slice_nil w _ _ A n c Tryd.underlying24]
set_option maxRecDepth 100000 in
theorem clone_any (A : Option Addr) (c : Nat) (l : List (Int × Int)) (w : World) (hs : SeesE 2 encPoint w w.heap.size A l) (hl : l.length ≤ 549755813888) :
    Calls Tryd.prog 26 #[.slice A l.length c] w (GivesE 2 encPoint 33 l w) := by
  have HS := Lib.hid hs; clear hs
  go_enter Tryd.func26, Tryd.ntmps26
  cases A with
  | none =>
    obtain rfl : l = [] := by
      match l, HS with
      | [], _ => rfl
      | x :: r, hs => obtain ⟨b, off, hA, _⟩ := hs.out 0 x rfl; cases hA
    have hnil := sliceNil none 0 c
    rw [Option.isNone_none] at hnil
    go_wp2
    go_ret
    exact ⟨none, 0, [], Lib.hid rfl, rfl, OwnE.nil _ _ _, Below.refl _ _⟩
  | some ad =>
    have hnil := sliceNil (some ad) l.length c
    rw [Option.isNone_some] at hnil
    go_wp2_with (first
      | (at_builtin; refine appPoint _ rfl _ _ rfl w.heap.size _ [] rfl (OwnE.lit _ w.heap.size 33 (Nat.le_refl _)) _ (some ad) _ c l rfl rfl (HS.out.alloc (Nat.le_refl _) _) (by simp; omega) (by simp) ?_; intro A4 c4 L4 w4 hL4 h1 h2 ho4 hb4))
    go_ret
    exact ⟨A4, c4, L4, Lib.hid (by rw [hL4.out]; rfl), rfl, ho4, ((Below.refl _ _).alloc (Nat.le_refl _) _).trans hb4⟩
/-- What the deferred closure leaves behind a panic: the line's copy as the result. -/
def CaughtS (N : Nat) (l : List (Int × Int)) (w w' : World) : Prop :=
  ∃ (A1 : Option Addr) (c1 : Nat) (L : List (Int × Int)) (w1 : World), Hid (L = l) ∧ OwnE 2 encPoint w1 w.heap.size 33 (.slice A1 L.length c1) L ∧ Below w.heap.size w w1 ∧ w' = w1.setCell ⟨N + 1, 0, none⟩ (.slice A1 L.length c1)
theorem catchS_yes (N : Nat) (A : Option Addr) (c : Nat) (l : List (Int × Int)) (u : TypeId) (pv : Value) (w : World) (hk : w.cell? ⟨N, 0, none⟩ = some (.slice A l.length c)) (hN : N + 1 < w.heap.size) (hf : w.frozen? ⟨N + 1, 0, none⟩ = false) (hk1 : w.cell? ⟨N + 1, 0, none⟩ = some (.slice none 0 0)) (hs : SeesE 2 encPoint w w.heap.size A l) (hl : l.length ≤ 549755813888) :
    CallsD Tryd.prog 25 #[.pointer (some ⟨N, 0, none⟩), .pointer (some ⟨N + 1, 0, none⟩)] (.panicking [{ v := .iface u pv, recovered := false }]) w fun e u' w' =>
      e = .returned (.tuple #[]) ∧ u' = .panicking [{ v := .iface u pv, recovered := true }] ∧ CaughtS N l w w' := by
  refine callsD_of_wpS Tryd.func25 rfl fun c₀ cs hu => ?_
  apply wpS_seq
  apply wpS_region
  simp [wpOpsS, go_sem, recoverD, hu, Tryd.ntmps25, Exit.thenS]
  refine wpS_cond (t := true) (by simp [Act.eval, Array.replicate]) ?_
  simp only [if_true]
  refine wpS_of_wp ?_
  simp only [Array.replicate_succ, Array.replicate_zero, List.push_toArray, List.append_toArray, List.nil_append, List.cons_append, List.setIfInBounds_toArray, List.set_cons_zero, List.set_cons_succ]
  go_wp2_with fail
  refine (clone_any A c l _ hs hl).mono ?_
  rintro e w1 ⟨A1, c1, L, hL, rfl, ho1, hb1⟩
  have kk := (hb1.cell (p := ⟨N + 1, 0, none⟩) hN).trans hk1
  have ff := (hb1.frozen (p := ⟨N + 1, 0, none⟩) hN).trans hf
  go_wp2
  cases c₀
  simp_all [bodyPostS, results, Tryd.results25]
  exact ⟨A1, c1, L, w1, hL, ho1, hb1, rfl⟩
theorem catchS_idle (N : Nat) (w : World) :
    CallsD Tryd.prog 25 #[.pointer (some ⟨N, 0, none⟩), .pointer (some ⟨N + 1, 0, none⟩)] .returning w fun e u' w' => e = .returned (.tuple #[]) ∧ u' = .returning ∧ w' = w := by
  refine callsD_of_wpS Tryd.func25 rfl fun c₀ cs hu => ?_
  apply wpS_seq
  apply wpS_region
  simp [wpOpsS, go_sem, recoverD, hu, Tryd.ntmps25, Exit.thenS]
  refine wpS_cond (t := false) (by simp [Act.eval, Array.replicate]) ?_
  simp only [Bool.false_eq_true, if_false]
  refine wpS_of_wp (wp_skip ?_)
  cases c₀
  simp_all [bodyPostS, results, Tryd.results25]
set_option maxRecDepth 100000 in
set_option maxHeartbeats 1000000 in
theorem simplifyLine_any (a0 : Addr) (A : Option Addr) (c : Nat) (l : List (Int × Int)) (n : Int) (w : World) (hE : SimAt a0 w) (hs : SeesE 2 encPoint w w.heap.size A l) (hl : l.length ≤ 549755813888) :
    Calls Tryd.prog 8 #[.slice A l.length c, .int .i64 n] w (GivesE 2 encPoint 33 (simpV l n) w) := by
  have hmf : ∀ (fn : Fn) (first cap : Array Value) (w : World), (Instr.makeFunc fn first cap).run Tryd.prog w = .ok (.func fn first cap) w := fun _ _ _ _ => rfl
  have HV := Lib.hid (Vars.of2 w #[.slice A l.length c] #[.slice none 0 0] 24 24)
  have HS := Lib.hid (hs.belowAll HV.out.1)
  have HE := Lib.hid (hE.all HV.out.1)
  clear hs hE
  go_enter_defers Tryd.func8, Tryd.ntmps8
  by_cases hgood : isLn l = true ∧ inB n 0 200 = true
  · have HN : Hid (simpV l n = simpL l n) := Lib.hid (by unfold simpV; rw [if_pos hgood])
    go_wp2_with fail
    refine (keepPoints_yes A c l n _ HS.out (by omega) hgood.1 hgood.2).mono ?_
    rintro e w1 ⟨A1, c1, L, hL, rfl, ho1, hb1⟩
    have HV1 := Lib.hid (HV.out.next hb1)
    have k1 := HV1.out.c1 (w.heap.size + 1) 1 rfl rfl
    have f1 := HV1.out.frozen (w.heap.size + 1) 1 0 rfl rfl
    have HV2 := Lib.hid (HV1.out.setAt (w.heap.size + 1) 1 0 rfl rfl (.slice A1 L.length c1))
    have k2 := HV2.out.c1 (w.heap.size + 1) 1 rfl rfl
    have HO2 := Lib.hid (ho1.setUnder (b := w.heap.size + 1) (by simp) (.slice A1 L.length c1))
    go_wp2
    refine leaves_cons (f := 25) (args := #[.pointer (some ⟨w.heap.size, 0, none⟩), .pointer (some ⟨w.heap.size + 1, 0, none⟩)]) (by simp) (by simp [go_sem]) ?_
    refine (catchS_idle w.heap.size _).mono ?_
    rintro e u' w'' ⟨rfl, rfl, rfl⟩
    refine ⟨.slice A1 L.length c1, ?_, A1, c1, L, Lib.hid (by rw [hL.out, HN.out]), rfl, HO2.out.mono (by simp; omega), HV2.out.1⟩
    simp [results, Tryd.results8, go_sem, k2]
  · have HN : Hid (simpV l n = l) := Lib.hid (by unfold simpV; rw [if_neg hgood])
    have hbad : isLn l = false ∨ inB n 0 200 = false := by
      cases h1 : isLn l
      · exact .inl rfl
      · cases h2 : inB n 0 200
        · exact .inr rfl
        · exact absurd ⟨h1, h2⟩ hgood
    go_wp2_with fail
    refine (keepPoints_no a0 A c l n _ HE.out HS.out (by omega) hbad).mono ?_
    rintro e w1 ⟨rfl, hb1⟩
    have HV1 := Lib.hid (HV.out.next hb1)
    have HS1 := Lib.hid ((HS.out.below hb1).mono hb1.size)
    go_wp2
    refine leaves_cons (f := 25) (args := #[.pointer (some ⟨w.heap.size, 0, none⟩), .pointer (some ⟨w.heap.size + 1, 0, none⟩)]) (by simp) (by simp [go_sem]) ?_
    refine (catchS_yes w.heap.size A c l _ _ _ (HV1.out.c1 w.heap.size 0 rfl rfl) HV1.out.more2 (HV1.out.frozen (w.heap.size + 1) 1 0 rfl rfl) (HV1.out.c1 (w.heap.size + 1) 1 rfl rfl) HS1.out hl).mono ?_
    rintro e u' w'' ⟨rfl, rfl, A1, c1, L, w3, hL, ho3, hb3, rfl⟩
    have HV3 := Lib.hid ((HV1.out.next hb3).setAt (w.heap.size + 1) 1 0 rfl rfl (.slice A1 L.length c1))
    have k2 := HV3.out.c1 (w.heap.size + 1) 1 rfl rfl
    have HO3 := Lib.hid (ho3.setUnder (b := w.heap.size + 1) HV1.out.more2 (.slice A1 L.length c1))
    refine ⟨.slice A1 L.length c1, ?_, A1, c1, L, Lib.hid (by rw [hL.out, HN.out]), rfl, HO3.out.mono HV1.out.1.size, HV3.out.1⟩
    simp [results, Tryd.results8, go_sem, k2]
set_option maxRecDepth 100000 in
theorem countLeftOut_any (a0 : Addr) (A : Option Addr) (c : Nat) (l : List (Int × Int)) (n : Int) (w : World) (hE : SimAt a0 w) (hs : SeesE 2 encPoint w w.heap.size A l) (hl : l.length ≤ 549755813888) :
    Calls Tryd.prog 10 #[.slice A l.length c, .int .i64 n] w fun e w' => e = .returned (.int .i64 ((l.length : Int) - ((simpV l n).length : Int))) ∧ Below w.heap.size w w' := by
  have HS := Lib.hid hs; clear hs
  have h1 := simpV_len l n
  go_enter Tryd.func10, Tryd.ntmps10
  go_wp2_with (go_at_call 8; refine (simplifyLine_any a0 A c l n _ hE HS.out hl).mono ?_; rintro e w1 ⟨A1, c1, L, hL, rfl, ho1, hb1⟩; have hLl : L.length = (simpV l n).length := congrArg List.length hL.out)
  go_ret
  exact ⟨rfl, hb1⟩
end Go.Proofs.YtpbmngbigdaklaaDoor
end
section
/- Simpler lines: IsNear of package impl. -/
namespace Go.Proofs.YtpbmngbigdaklaaDoor
open Go.ChangeShapes Go.WideShapes Go.ChangeAt Go.RowKit
set_option linter.unusedVariables false
def isNearT : List (Nat × Nat × Nat) := [(0, 8, 8), (1, 9, 128), (2, 10, 256), (4, 11, 528), (12, 12, 1536), (20, 13, 2560), (48, 14, 4096), (64, 15, 8196), (192, 16, 24576), (320, 17, 40960), (768, 18, 65536), (1024, 19, 131080), (1024, 20, 131088), (7168, 21, 917504), (1024, 22, 131080), (1024, 23, 131076), (58368, 24, 6422528), (74752, 25, 9568256), (132096, 26, 16908288), (524287, 7, 33554432)]
def isNearS : List (Nat × Bool) := [(0, true), (1, false), (2, true), (3, true), (4, false), (5, true), (6, true), (7, true), (8, false), (9, true), (10, true), (11, true), (12, true), (14, true), (15, true), (13, false), (16, false), (17, true), (18, true), (19, true)]
set_option maxRecDepth 100000 in
set_option maxHeartbeats 4000000 in
theorem isNear_is (a b c d x y n : Int) (z : Bool) (w : World) (hz : nearV a b c d x y n = z) :
    Calls Tryd.prog 14 #[SegV a b c d, PtV x y, .int .i64 n] w fun e w' => e = .returned (.bool z) ∧ Below w.heap.size w w' := by
  have HV := Lib.hid (Vars.of2 w (SegC a b c d) #[.int .i64 x, .int .i64 y] 35 33)
  have HQ : Hid (∀ W', Vars w W' [SegC a b c d, #[.int .i64 x, .int .i64 y]] → (W'.cell? ⟨w.heap.size, 0, none⟩ = some (.int .i64 a) ∧ W'.cell? ⟨w.heap.size, 1, none⟩ = some (.int .i64 b) ∧ W'.cell? ⟨w.heap.size, 2, none⟩ = some (.int .i64 c) ∧ W'.cell? ⟨w.heap.size, 3, none⟩ = some (.int .i64 d)) ∧ W'.cell? ⟨w.heap.size + 1, 0, none⟩ = some (.int .i64 x) ∧ W'.cell? ⟨w.heap.size + 1, 1, none⟩ = some (.int .i64 y)) := Lib.hid fun W' h => ⟨h.c40, h.c2 (w.heap.size + 1) 1 rfl rfl⟩
  have HZ := Lib.hid (nearV_weigh.symm.trans hz)
  clear hz
  go_enter Tryd.func14, Tryd.ntmps14
  go_upto_region 1 with fail
  replace HV := Lib.hid HV.out.drew
  cases h1 : isS a b c d
  · have HC : Hid (false = z) := Lib.hid (by rw [← HZ.out, h1]; rfl)
    refine wp_region_held_drew (S := (fun w' => (w'.cell? ⟨w.heap.size, 0, none⟩ = some (.int .i64 a) ∧ w'.cell? ⟨w.heap.size, 1, none⟩ = some (.int .i64 b) ∧ w'.cell? ⟨w.heap.size, 2, none⟩ = some (.int .i64 c) ∧ w'.cell? ⟨w.heap.size, 3, none⟩ = some (.int .i64 d)) ∧ w'.cell? ⟨w.heap.size + 1, 0, none⟩ = some (.int .i64 x) ∧ w'.cell? ⟨w.heap.size + 1, 1, none⟩ = some (.int .i64 y))) (by kernel_rfl) (HQ.out _ HV.out) (fun hHeld => ?_)
    refine to_lin (T := isNearT) (n := 20) isNearS ⟨by kernel_rfl, by kernel_rfl, by kernel_rfl⟩ (by kernel_rfl) (fun hTag => ?_)
    (refine lin_on (v := ?_) rfl (fun _ _ _ h => h) (by rfl) ?_ (by assumption) ?_; rotate_left; (· (intro wq hSw; go_simp; try with_reducible rfl)); try simp only [Act.put, List.setIfInBounds_toArray, List.set_cons_zero, List.set_cons_succ])
    refine lin_call rfl (by rfl) (fun K hK => ?_)
    go_simp
    go_at_call 30
    refine (isSegment_is a b c d _ _ h1).mono ?_
    rintro e9 w9 ⟨rfl, hb9⟩
    have HV := Lib.hid (HV.out.next hb9)
    clear hb9
    go_wp2_with fail
    refine hK.out _ _ ?_ (fun hHeld => ?_)
    · exact HQ.out _ HV.out
    clear hK K
    try simp only [Act.put, List.setIfInBounds_toArray, List.set_cons_zero, List.set_cons_succ]
    (refine lin_on (v := ?_) rfl (fun _ _ _ h => h) (by rfl) ?_ (by assumption) ?_; rotate_left; (· (intro wq hSw; go_simp; try with_reducible rfl)); try simp only [Act.put, List.setIfInBounds_toArray, List.set_cons_zero, List.set_cons_succ])
    (refine lin_off rfl (fun _ _ _ h => h) (by rfl) (by assumption) ?_; try simp only [Act.put, List.setIfInBounds_toArray, List.set_cons_zero, List.set_cons_succ])
    (refine lin_skip rfl (by rfl) (by assumption) ?_; try simp only [Act.put, List.setIfInBounds_toArray, List.set_cons_zero, List.set_cons_succ])
    iterate 2 (refine lin_on (v := ?_) rfl (fun _ _ _ h => h) (by rfl) ?_ (by assumption) ?_; rotate_left; (· (intro wq hSw; go_simp; try with_reducible rfl)); try simp only [Act.put, List.setIfInBounds_toArray, List.set_cons_zero, List.set_cons_succ])
    (refine lin_off rfl (fun _ _ _ h => h) (by rfl) (by assumption) ?_; try simp only [Act.put, List.setIfInBounds_toArray, List.set_cons_zero, List.set_cons_succ])
    (refine lin_skip rfl (by rfl) (by assumption) ?_; try simp only [Act.put, List.setIfInBounds_toArray, List.set_cons_zero, List.set_cons_succ])
    iterate 2 (refine lin_on (v := ?_) rfl (fun _ _ _ h => h) (by rfl) ?_ (by assumption) ?_; rotate_left; (· (intro wq hSw; go_simp; try with_reducible rfl)); try simp only [Act.put, List.setIfInBounds_toArray, List.set_cons_zero, List.set_cons_succ])
    iterate 4 (refine lin_off rfl (fun _ _ _ h => h) (by rfl) (by assumption) ?_; try simp only [Act.put, List.setIfInBounds_toArray, List.set_cons_zero, List.set_cons_succ])
    (refine lin_skip rfl (by rfl) (by assumption) ?_; try simp only [Act.put, List.setIfInBounds_toArray, List.set_cons_zero, List.set_cons_succ])
    (refine lin_skip rfl (by rfl) (by assumption) ?_; try simp only [Act.put, List.setIfInBounds_toArray, List.set_cons_zero, List.set_cons_succ])
    (refine lin_off rfl (fun _ _ _ h => h) (by rfl) (by assumption) ?_; try simp only [Act.put, List.setIfInBounds_toArray, List.set_cons_zero, List.set_cons_succ])
    iterate 2 (refine lin_on (v := ?_) rfl (fun _ _ _ h => h) (by rfl) ?_ (by assumption) ?_; rotate_left; (· (intro wq hSw; go_simp; try with_reducible rfl)); try simp only [Act.put, List.setIfInBounds_toArray, List.set_cons_zero, List.set_cons_succ])
    refine lin_done ?_
    go_wp2
    go_ret
    exact ⟨ret_eq HC.out, HV.out.1⟩
  cases h2 : isP x y
  · have HC : Hid (false = z) := Lib.hid (by rw [← HZ.out, h1, h2]; rfl)
    refine wp_region_held_drew (S := (fun w' => (w'.cell? ⟨w.heap.size, 0, none⟩ = some (.int .i64 a) ∧ w'.cell? ⟨w.heap.size, 1, none⟩ = some (.int .i64 b) ∧ w'.cell? ⟨w.heap.size, 2, none⟩ = some (.int .i64 c) ∧ w'.cell? ⟨w.heap.size, 3, none⟩ = some (.int .i64 d)) ∧ w'.cell? ⟨w.heap.size + 1, 0, none⟩ = some (.int .i64 x) ∧ w'.cell? ⟨w.heap.size + 1, 1, none⟩ = some (.int .i64 y))) (by kernel_rfl) (HQ.out _ HV.out) (fun hHeld => ?_)
    refine to_lin (T := isNearT) (n := 20) isNearS ⟨by kernel_rfl, by kernel_rfl, by kernel_rfl⟩ (by kernel_rfl) (fun hTag => ?_)
    (refine lin_on (v := ?_) rfl (fun _ _ _ h => h) (by rfl) ?_ (by assumption) ?_; rotate_left; (· (intro wq hSw; go_simp; try with_reducible rfl)); try simp only [Act.put, List.setIfInBounds_toArray, List.set_cons_zero, List.set_cons_succ])
    refine lin_call rfl (by rfl) (fun K hK => ?_)
    go_simp
    go_at_call 30
    refine (isSegment_is a b c d _ _ h1).mono ?_
    rintro e9 w9 ⟨rfl, hb9⟩
    have HV := Lib.hid (HV.out.next hb9)
    clear hb9
    go_wp2_with fail
    refine hK.out _ _ ?_ (fun hHeld => ?_)
    · exact HQ.out _ HV.out
    clear hK K
    try simp only [Act.put, List.setIfInBounds_toArray, List.set_cons_zero, List.set_cons_succ]
    iterate 2 (refine lin_on (v := ?_) rfl (fun _ _ _ h => h) (by rfl) ?_ (by assumption) ?_; rotate_left; (· (intro wq hSw; go_simp; try with_reducible rfl)); try simp only [Act.put, List.setIfInBounds_toArray, List.set_cons_zero, List.set_cons_succ])
    refine lin_call rfl (by rfl) (fun K hK => ?_)
    go_simp
    go_at_call 36
    refine (isPoint_is x y _ _ h2).mono ?_
    rintro e9 w9 ⟨rfl, hb9⟩
    have HV := Lib.hid (HV.out.next hb9)
    clear hb9
    go_wp2_with fail
    refine hK.out _ _ ?_ (fun hHeld => ?_)
    · exact HQ.out _ HV.out
    clear hK K
    try simp only [Act.put, List.setIfInBounds_toArray, List.set_cons_zero, List.set_cons_succ]
    iterate 2 (refine lin_on (v := ?_) rfl (fun _ _ _ h => h) (by rfl) ?_ (by assumption) ?_; rotate_left; (· (intro wq hSw; go_simp; try with_reducible rfl)); try simp only [Act.put, List.setIfInBounds_toArray, List.set_cons_zero, List.set_cons_succ])
    (refine lin_off rfl (fun _ _ _ h => h) (by rfl) (by assumption) ?_; try simp only [Act.put, List.setIfInBounds_toArray, List.set_cons_zero, List.set_cons_succ])
    (refine lin_skip rfl (by rfl) (by assumption) ?_; try simp only [Act.put, List.setIfInBounds_toArray, List.set_cons_zero, List.set_cons_succ])
    iterate 2 (refine lin_on (v := ?_) rfl (fun _ _ _ h => h) (by rfl) ?_ (by assumption) ?_; rotate_left; (· (intro wq hSw; go_simp; try with_reducible rfl)); try simp only [Act.put, List.setIfInBounds_toArray, List.set_cons_zero, List.set_cons_succ])
    iterate 4 (refine lin_off rfl (fun _ _ _ h => h) (by rfl) (by assumption) ?_; try simp only [Act.put, List.setIfInBounds_toArray, List.set_cons_zero, List.set_cons_succ])
    (refine lin_skip rfl (by rfl) (by assumption) ?_; try simp only [Act.put, List.setIfInBounds_toArray, List.set_cons_zero, List.set_cons_succ])
    (refine lin_skip rfl (by rfl) (by assumption) ?_; try simp only [Act.put, List.setIfInBounds_toArray, List.set_cons_zero, List.set_cons_succ])
    (refine lin_off rfl (fun _ _ _ h => h) (by rfl) (by assumption) ?_; try simp only [Act.put, List.setIfInBounds_toArray, List.set_cons_zero, List.set_cons_succ])
    iterate 2 (refine lin_on (v := ?_) rfl (fun _ _ _ h => h) (by rfl) ?_ (by assumption) ?_; rotate_left; (· (intro wq hSw; go_simp; try with_reducible rfl)); try simp only [Act.put, List.setIfInBounds_toArray, List.set_cons_zero, List.set_cons_succ])
    refine lin_done ?_
    go_wp2
    go_ret
    exact ⟨ret_eq HC.out, HV.out.1⟩
  cases h3 : inB n 0 200
  · have HC : Hid (false = z) := Lib.hid (by rw [← HZ.out, h1, h2, h3]; rfl)
    refine wp_region_held_drew (S := (fun w' => (w'.cell? ⟨w.heap.size, 0, none⟩ = some (.int .i64 a) ∧ w'.cell? ⟨w.heap.size, 1, none⟩ = some (.int .i64 b) ∧ w'.cell? ⟨w.heap.size, 2, none⟩ = some (.int .i64 c) ∧ w'.cell? ⟨w.heap.size, 3, none⟩ = some (.int .i64 d)) ∧ w'.cell? ⟨w.heap.size + 1, 0, none⟩ = some (.int .i64 x) ∧ w'.cell? ⟨w.heap.size + 1, 1, none⟩ = some (.int .i64 y))) (by kernel_rfl) (HQ.out _ HV.out) (fun hHeld => ?_)
    refine to_lin (T := isNearT) (n := 20) isNearS ⟨by kernel_rfl, by kernel_rfl, by kernel_rfl⟩ (by kernel_rfl) (fun hTag => ?_)
    (refine lin_on (v := ?_) rfl (fun _ _ _ h => h) (by rfl) ?_ (by assumption) ?_; rotate_left; (· (intro wq hSw; go_simp; try with_reducible rfl)); try simp only [Act.put, List.setIfInBounds_toArray, List.set_cons_zero, List.set_cons_succ])
    refine lin_call rfl (by rfl) (fun K hK => ?_)
    go_simp
    go_at_call 30
    refine (isSegment_is a b c d _ _ h1).mono ?_
    rintro e9 w9 ⟨rfl, hb9⟩
    have HV := Lib.hid (HV.out.next hb9)
    clear hb9
    go_wp2_with fail
    refine hK.out _ _ ?_ (fun hHeld => ?_)
    · exact HQ.out _ HV.out
    clear hK K
    try simp only [Act.put, List.setIfInBounds_toArray, List.set_cons_zero, List.set_cons_succ]
    iterate 2 (refine lin_on (v := ?_) rfl (fun _ _ _ h => h) (by rfl) ?_ (by assumption) ?_; rotate_left; (· (intro wq hSw; go_simp; try with_reducible rfl)); try simp only [Act.put, List.setIfInBounds_toArray, List.set_cons_zero, List.set_cons_succ])
    refine lin_call rfl (by rfl) (fun K hK => ?_)
    go_simp
    go_at_call 36
    refine (isPoint_is x y _ _ h2).mono ?_
    rintro e9 w9 ⟨rfl, hb9⟩
    have HV := Lib.hid (HV.out.next hb9)
    clear hb9
    go_wp2_with fail
    refine hK.out _ _ ?_ (fun hHeld => ?_)
    · exact HQ.out _ HV.out
    clear hK K
    try simp only [Act.put, List.setIfInBounds_toArray, List.set_cons_zero, List.set_cons_succ]
    iterate 3 (refine lin_on (v := ?_) rfl (fun _ _ _ h => h) (by rfl) ?_ (by assumption) ?_; rotate_left; (· (intro wq hSw; go_simp; try with_reducible rfl)); try simp only [Act.put, List.setIfInBounds_toArray, List.set_cons_zero, List.set_cons_succ])
    refine lin_call rfl (by rfl) (fun K hK => ?_)
    go_simp
    go_at_call 28
    refine (in_is _ _ _ _ _ h3).mono ?_
    rintro e9 w9 ⟨rfl, rfl⟩
    go_wp2_with fail
    refine hK.out _ _ ?_ (fun hHeld => ?_)
    · exact HQ.out _ HV.out
    clear hK K
    try simp only [Act.put, List.setIfInBounds_toArray, List.set_cons_zero, List.set_cons_succ]
    iterate 2 (refine lin_on (v := ?_) rfl (fun _ _ _ h => h) (by rfl) ?_ (by assumption) ?_; rotate_left; (· (intro wq hSw; go_simp; try with_reducible rfl)); try simp only [Act.put, List.setIfInBounds_toArray, List.set_cons_zero, List.set_cons_succ])
    iterate 4 (refine lin_off rfl (fun _ _ _ h => h) (by rfl) (by assumption) ?_; try simp only [Act.put, List.setIfInBounds_toArray, List.set_cons_zero, List.set_cons_succ])
    (refine lin_skip rfl (by rfl) (by assumption) ?_; try simp only [Act.put, List.setIfInBounds_toArray, List.set_cons_zero, List.set_cons_succ])
    (refine lin_skip rfl (by rfl) (by assumption) ?_; try simp only [Act.put, List.setIfInBounds_toArray, List.set_cons_zero, List.set_cons_succ])
    (refine lin_off rfl (fun _ _ _ h => h) (by rfl) (by assumption) ?_; try simp only [Act.put, List.setIfInBounds_toArray, List.set_cons_zero, List.set_cons_succ])
    iterate 2 (refine lin_on (v := ?_) rfl (fun _ _ _ h => h) (by rfl) ?_ (by assumption) ?_; rotate_left; (· (intro wq hSw; go_simp; try with_reducible rfl)); try simp only [Act.put, List.setIfInBounds_toArray, List.set_cons_zero, List.set_cons_succ])
    refine lin_done ?_
    go_wp2
    go_ret
    exact ⟨ret_eq HC.out, HV.out.1⟩
  · obtain ⟨u, hu⟩ : ∃ u, weighV a b c d x y = u := ⟨_, rfl⟩
    obtain ⟨v, hv⟩ : ∃ v, n * n * wgtV a b c d = v := ⟨_, rfl⟩
    have HC : Hid (decide (u ≤ v) = z) := Lib.hid (by rw [← HZ.out, h1, h2, h3, hu, hv]; rfl)
    have HU := Lib.hid hu
    have HW := Lib.hid hv
    have hn : 0 ≤ n ∧ n ≤ 200 := by simp only [inB, decide_eq_true_eq] at h3; exact h3
    have hS := isS_at h1
    have hA := isP_of hS.1.1 hS.1.2.1 hS.1.2.2.1 hS.1.2.2.2
    have hC := isP_of hS.2.1.1 hS.2.1.2.1 hS.2.1.2.2.1 hS.2.1.2.2.2
    clear hu hv hS
    refine wp_region_held_drew (S := (fun w' => (w'.cell? ⟨w.heap.size, 0, none⟩ = some (.int .i64 a) ∧ w'.cell? ⟨w.heap.size, 1, none⟩ = some (.int .i64 b) ∧ w'.cell? ⟨w.heap.size, 2, none⟩ = some (.int .i64 c) ∧ w'.cell? ⟨w.heap.size, 3, none⟩ = some (.int .i64 d)) ∧ w'.cell? ⟨w.heap.size + 1, 0, none⟩ = some (.int .i64 x) ∧ w'.cell? ⟨w.heap.size + 1, 1, none⟩ = some (.int .i64 y))) (by kernel_rfl) (HQ.out _ HV.out) (fun hHeld => ?_)
    refine to_lin (T := isNearT) (n := 20) isNearS ⟨by kernel_rfl, by kernel_rfl, by kernel_rfl⟩ (by kernel_rfl) (fun hTag => ?_)
    (refine lin_on (v := ?_) rfl (fun _ _ _ h => h) (by rfl) ?_ (by assumption) ?_; rotate_left; (· (intro wq hSw; go_simp; try with_reducible rfl)); try simp only [Act.put, List.setIfInBounds_toArray, List.set_cons_zero, List.set_cons_succ])
    refine lin_call rfl (by rfl) (fun K hK => ?_)
    go_simp
    go_at_call 30
    refine (isSegment_is a b c d _ _ h1).mono ?_
    rintro e9 w9 ⟨rfl, hb9⟩
    have HV := Lib.hid (HV.out.next hb9)
    clear hb9
    go_wp2_with fail
    refine hK.out _ _ ?_ (fun hHeld => ?_)
    · exact HQ.out _ HV.out
    clear hK K
    try simp only [Act.put, List.setIfInBounds_toArray, List.set_cons_zero, List.set_cons_succ]
    iterate 2 (refine lin_on (v := ?_) rfl (fun _ _ _ h => h) (by rfl) ?_ (by assumption) ?_; rotate_left; (· (intro wq hSw; go_simp; try with_reducible rfl)); try simp only [Act.put, List.setIfInBounds_toArray, List.set_cons_zero, List.set_cons_succ])
    refine lin_call rfl (by rfl) (fun K hK => ?_)
    go_simp
    go_at_call 36
    refine (isPoint_is x y _ _ h2).mono ?_
    rintro e9 w9 ⟨rfl, hb9⟩
    have HV := Lib.hid (HV.out.next hb9)
    clear hb9
    go_wp2_with fail
    refine hK.out _ _ ?_ (fun hHeld => ?_)
    · exact HQ.out _ HV.out
    clear hK K
    try simp only [Act.put, List.setIfInBounds_toArray, List.set_cons_zero, List.set_cons_succ]
    iterate 3 (refine lin_on (v := ?_) rfl (fun _ _ _ h => h) (by rfl) ?_ (by assumption) ?_; rotate_left; (· (intro wq hSw; go_simp; try with_reducible rfl)); try simp only [Act.put, List.setIfInBounds_toArray, List.set_cons_zero, List.set_cons_succ])
    refine lin_call rfl (by rfl) (fun K hK => ?_)
    go_simp
    go_at_call 28
    refine (in_is _ _ _ _ _ h3).mono ?_
    rintro e9 w9 ⟨rfl, rfl⟩
    go_wp2_with fail
    refine hK.out _ _ ?_ (fun hHeld => ?_)
    · exact HQ.out _ HV.out
    clear hK K
    try simp only [Act.put, List.setIfInBounds_toArray, List.set_cons_zero, List.set_cons_succ]
    iterate 6 (refine lin_on (v := ?_) rfl (fun _ _ _ h => h) (by rfl) ?_ (by assumption) ?_; rotate_left; (· (intro wq hSw; go_simp; try with_reducible rfl)); try simp only [Act.put, List.setIfInBounds_toArray, List.set_cons_zero, List.set_cons_succ])
    refine lin_call rfl (by rfl) (fun K hK => ?_)
    go_simp
    go_at_call 37
    refine (weighFar_is a b c d x y u _ hA hC h2 HU.out).mono ?_
    rintro e9 w9 ⟨rfl, hb9⟩
    have HV := Lib.hid (HV.out.next hb9)
    clear hb9
    go_wp2_with fail
    refine hK.out _ _ ?_ (fun hHeld => ?_)
    · exact HQ.out _ HV.out
    clear hK K
    try simp only [Act.put, List.setIfInBounds_toArray, List.set_cons_zero, List.set_cons_succ]
    refine lin_call rfl (by rfl) (fun K hK => ?_)
    go_simp
    go_at_call 38
    refine (weighLimit_is a b c d n v _ hA hC hn HW.out).mono ?_
    rintro e9 w9 ⟨rfl, hb9⟩
    have HV := Lib.hid (HV.out.next hb9)
    clear hb9
    go_wp2_with fail
    refine hK.out _ _ ?_ (fun hHeld => ?_)
    · exact HQ.out _ HV.out
    clear hK K
    try simp only [Act.put, List.setIfInBounds_toArray, List.set_cons_zero, List.set_cons_succ]
    iterate 3 (refine lin_on (v := ?_) rfl (fun _ _ _ h => h) (by rfl) ?_ (by assumption) ?_; rotate_left; (· (intro wq hSw; go_simp; try with_reducible rfl)); try simp only [Act.put, List.setIfInBounds_toArray, List.set_cons_zero, List.set_cons_succ])
    refine lin_done ?_
    go_wp2
    go_ret
    exact ⟨ret_eq HC.out, HV.out.1⟩
end Go.Proofs.YtpbmngbigdaklaaDoor
end
section
/- Simpler lines: IsPartOf of the model. -/
namespace Go.Proofs.YtpbmngbigdaklaaDoor
open Go.ChangeShapes Go.WideShapes Go.ChangeAt Go.RowKit
set_option linter.unusedVariables false

theorem eat_yes {a b : List (Int × Int)} {k i : Nat} {q : Int × Int} (h : b[k]? = some q) (hi : i = eatN a 0 (b.take k)) (ha : a[i]? = some q) : i + 1 = eatN a 0 (b.take (k + 1)) := by
  subst hi; rw [eat_step h, if_pos ha]
theorem eat_no {a b : List (Int × Int)} {k i : Nat} {q : Int × Int} (h : b[k]? = some q) (hi : i = eatN a 0 (b.take k)) (ha : a[i]? ≠ some q) : i = eatN a 0 (b.take (k + 1)) := by
  subst hi; rw [eat_step h, if_neg ha]
def isPartRT : List (Nat × Nat × Nat) := [(0, 14, 32), (0, 15, 1), (2, 16, 16384), (5, 17, 40960), (8, 18, 65536), (16, 19, 131073), (16, 20, 131104), (112, 21, 917504), (144, 22, 1179648), (16, 23, 131074), (16, 24, 131136), (1552, 25, 12713984), (2064, 26, 16908288), (4368, 27, 35782656), (8208, 28, 67239936)]
def isPartRS : List (Nat × Bool) := [(0, true), (1, true), (2, true), (3, true), (4, true), (5, true), (6, true), (7, true), (8, true), (9, true), (10, true), (11, true), (12, true), (13, true), (14, true)]
end Go.Proofs.YtpbmngbigdaklaaDoor
end
section
/- Simpler lines: IsPartOf of package impl. -/
namespace Go.Proofs.YtpbmngbigdaklaaDoor
open Go.ChangeShapes Go.WideShapes Go.ChangeAt Go.RowKit
set_option linter.unusedVariables false
theorem ptEql (a b c d : Int) (w : World) : (binOp .eql 33 (PtV a b) (PtV c d)).run Tryd.prog w = .ok (.bool (decide (a = c) && decide (b = d))) w := by
  have hu := Tryd.underlying33
  have hi := Tryd.underlying3
  rw [run_eql_struct, run_equalIn_agg _ _ _ _ _ (by simp [Program.fieldsOf, hu]) (by kernel_rfl)]
  simp [Program.fieldsOf, hu, go_sem, hi]
  by_cases h : a = c <;> by_cases h' : b = d <;> simp [h, h']
theorem ptNeq (a b c d : Int) (w : World) : (binOp .neq 33 (PtV a b) (PtV c d)).run Tryd.prog w = .ok (.bool (!(decide (a = c) && decide (b = d)))) w := by
  have hu := Tryd.underlying33
  have hi := Tryd.underlying3
  rw [run_neq_struct, run_equalIn_agg _ _ _ _ _ (by simp [Program.fieldsOf, hu]) (by kernel_rfl)]
  simp [Program.fieldsOf, hu, go_sem, hi]
  by_cases h : a = c <;> by_cases h' : b = d <;> simp [h, h']
def partIT : List (Nat × Nat × Nat) := [(0, 15, 32), (0, 16, 1), (2, 17, 32768), (5, 18, 81920), (8, 19, 131072), (16, 20, 262145), (16, 21, 262176), (112, 22, 1835008), (144, 23, 2359296), (16, 24, 262272), (784, 25, 12845056), (1040, 26, 17039360)]
def partIS : List (Nat × Bool) := [(0, true), (1, true), (2, true), (3, true), (4, true), (5, true), (6, true), (7, true), (8, true), (9, true), (10, true), (11, true)]
set_option maxRecDepth 100000 in
set_option maxHeartbeats 4000000 in
theorem isPartOf_is (A A' : Option Addr) (c c' : Nat) (l l' : List (Int × Int)) (w : World) (hs : SeesE 2 encPoint w w.heap.size A l) (hs' : SeesE 2 encPoint w w.heap.size A' l') (hl : l.length ≤ 1099511627776) (hl' : l'.length ≤ 1099511627776) (z : Bool) (hz : partV l l' = z) :
    Calls Tryd.prog 9 #[.slice A l.length c, .slice A' l'.length c'] w fun e w' => e = .returned (.bool z) ∧ Below w.heap.size w w' := by
  have HS := Lib.hid hs; clear hs
  have HS' := Lib.hid hs'; clear hs'
  have HZ := Lib.hid hz; clear hz
  go_enter Tryd.func9, Tryd.ntmps9
  go_wp2
  go_loopg [5, 7, 10] l'.length (fun g s _ t wr => ∃ i k : Nat, i ≤ l.length ∧ k + g = l'.length ∧ s = .int .i64 (i : Int) ∧ t = .int .i64 (k : Int) ∧ Hid (i = eatN l 0 (l'.take k)) ∧ Hid (Below w.heap.size w wr))
  case atStart => exact ⟨0, 0, Nat.zero_le _, by omega, rfl, rfl, Lib.hid rfl, Lib.hid (Below.refl _ _)⟩
  case round =>
    obtain ⟨i, k, hi, hg, rfl, rfl, HE, HB⟩ := hrel
    by_cases hlt : k < l'.length
    · have hlt' : (k : Int) < (l'.length : Int) := by omega
      obtain ⟨b', off', ⟨u0, u1⟩, rfl, hbl', hx', -⟩ := (HS'.out.below HB.out).lt hlt
      obtain ⟨k2, k3⟩ := cellsPoint (HS'.out.below HB.out) hx'
      have HX' := Lib.hid hx'
      have HBa : Hid (Below w.heap.size w (wr.alloc (.cells #[.int .i64 u0, .int .i64 u1] 33)).drew) := Lib.hid (HB.out.alloc HB.out.size _).drew
      clear hx'
      have K2 : (wr.alloc (.cells #[.int .i64 u0, .int .i64 u1] 33)).drew.cell? ⟨wr.heap.size, 0, none⟩ = some (.int .i64 u0) := (OneV.new (m := 0) wr (Nat.zero_le _) #[.int .i64 u0, .int .i64 u1] 33).drew.cell 0 rfl
      have K3 : (wr.alloc (.cells #[.int .i64 u0, .int .i64 u1] 33)).drew.cell? ⟨wr.heap.size, 1, none⟩ = some (.int .i64 u1) := (OneV.new (m := 0) wr (Nat.zero_le _) #[.int .i64 u0, .int .i64 u1] 33).drew.cell 1 rfl
      by_cases hil : i < l.length
      · have hil' : (i : Int) < (l.length : Int) := by omega
        obtain ⟨b, off, ⟨t0, t1⟩, rfl, hbl, hx, -⟩ := (HS.out.below HB.out).lt hil
        obtain ⟨k0, k1⟩ := cellsPoint (HS.out.below HB.out) hx
        have HX := Lib.hid hx
        have hbs : b < wr.heap.size := World.block_lt_of_cell? _ _ k0
        have K0 : (wr.alloc (.cells #[.int .i64 u0, .int .i64 u1] 33)).drew.cell? ⟨b, off + i * 2, none⟩ = some (.int .i64 t0) := (((Below.refl wr.heap.size wr).alloc (Nat.le_refl _) _).drew.cell (p := ⟨b, off + i * 2, none⟩) hbs).trans k0
        have K1 : (wr.alloc (.cells #[.int .i64 u0, .int .i64 u1] 33)).drew.cell? ⟨b, off + i * 2 + 1, none⟩ = some (.int .i64 t1) := (((Below.refl wr.heap.size wr).alloc (Nat.le_refl _) _).drew.cell (p := ⟨b, off + i * 2 + 1, none⟩) hbs).trans k1
        have hpe := ptEql t0 t1 u0 u1
        clear hx
        go_upto_region 5 with fail
        by_cases h0 : t0 = u0 ∧ t1 = u1
        · have hq : (decide (t0 = u0) && decide (t1 = u1)) = true := by simp [h0]
          rw [hq] at hpe
          replace HX : Hid (l[i]? = some (u0, u1)) := Lib.hid (by rw [HX.out, h0.1, h0.2])
          clear hq
          refine wp_region_held_drew (S := (fun w' => (w'.cell? ⟨b, off + i * 2, none⟩ = some (.int .i64 t0) ∧ w'.cell? ⟨b, off + i * 2 + 1, none⟩ = some (.int .i64 t1)) ∧ w'.cell? ⟨wr.heap.size, 0, none⟩ = some (.int .i64 u0) ∧ w'.cell? ⟨wr.heap.size, 1, none⟩ = some (.int .i64 u1))) (by kernel_rfl) ⟨⟨K0, K1⟩, K2, K3⟩ (fun hHeld => ?_)
          refine to_lin (T := partIT) (n := 12) partIS ⟨by kernel_rfl, by kernel_rfl, by kernel_rfl⟩ (by kernel_rfl) (fun hTag => ?_)
          iterate 12 (refine lin_on (v := ?_) rfl (fun _ _ _ h => h) (by rfl) ?_ (by assumption) ?_; rotate_left; (· (intro wq hSw; go_simp; try with_reducible rfl)); try simp only [Act.put, List.setIfInBounds_toArray, List.set_cons_zero, List.set_cons_succ])
          refine lin_done ?_
          go_wp2
          go_roundg (l'.length - (k + 1))
          case measure => omega
          case rel => exact ⟨i + 1, k + 1, by omega, by omega, by go_num, by go_num, Lib.hid (eat_yes HX'.out HE.out HX.out), HBa⟩
        · have hq : (decide (t0 = u0) && decide (t1 = u1)) = false := by simpa using h0
          rw [hq] at hpe
          have HN : Hid (l[i]? ≠ some (u0, u1)) := Lib.hid (by rw [HX.out]; intro e; exact PtV_ne h0 (Option.some.inj e))
          clear hq
          refine wp_region_held_drew (S := (fun w' => (w'.cell? ⟨b, off + i * 2, none⟩ = some (.int .i64 t0) ∧ w'.cell? ⟨b, off + i * 2 + 1, none⟩ = some (.int .i64 t1)) ∧ w'.cell? ⟨wr.heap.size, 0, none⟩ = some (.int .i64 u0) ∧ w'.cell? ⟨wr.heap.size, 1, none⟩ = some (.int .i64 u1))) (by kernel_rfl) ⟨⟨K0, K1⟩, K2, K3⟩ (fun hHeld => ?_)
          refine to_lin (T := partIT) (n := 12) partIS ⟨by kernel_rfl, by kernel_rfl, by kernel_rfl⟩ (by kernel_rfl) (fun hTag => ?_)
          iterate 12 (refine lin_on (v := ?_) rfl (fun _ _ _ h => h) (by rfl) ?_ (by assumption) ?_; rotate_left; (· (intro wq hSw; go_simp; try with_reducible rfl)); try simp only [Act.put, List.setIfInBounds_toArray, List.set_cons_zero, List.set_cons_succ])
          refine lin_done ?_
          go_wp2
          go_roundg (l'.length - (k + 1))
          case measure => omega
          case rel => exact ⟨i, k + 1, by omega, by omega, rfl, by go_num, Lib.hid (eat_no HX'.out HE.out HN.out), HBa⟩
      · have hil' : ¬ (i : Int) < (l.length : Int) := by omega
        have HN : Hid (l[i]? ≠ some (u0, u1)) := Lib.hid (by rw [List.getElem?_eq_none (by omega)]; simp)
        go_upto_region 5 with fail
        refine wp_region_held_drew (S := (fun w' => True)) (by kernel_rfl) trivial (fun hHeld => ?_)
        refine to_lin (T := partIT) (n := 12) partIS ⟨by kernel_rfl, by kernel_rfl, by kernel_rfl⟩ (by kernel_rfl) (fun hTag => ?_)
        iterate 5 (refine lin_on (v := ?_) rfl (fun _ _ _ h => h) (by rfl) ?_ (by assumption) ?_; rotate_left; (· (intro wq hSw; go_simp; try with_reducible rfl)); try simp only [Act.put, List.setIfInBounds_toArray, List.set_cons_zero, List.set_cons_succ])
        iterate 6 (refine lin_off rfl (fun _ _ _ h => h) (by rfl) (by assumption) ?_; try simp only [Act.put, List.setIfInBounds_toArray, List.set_cons_zero, List.set_cons_succ])
        (refine lin_on (v := ?_) rfl (fun _ _ _ h => h) (by rfl) ?_ (by assumption) ?_; rotate_left; (· (intro wq hSw; go_simp; try with_reducible rfl)); try simp only [Act.put, List.setIfInBounds_toArray, List.set_cons_zero, List.set_cons_succ])
        refine lin_done ?_
        go_wp2
        go_roundg (l'.length - (k + 1))
        case measure => omega
        case rel => exact ⟨i, k + 1, by omega, by omega, rfl, by go_num, Lib.hid (eat_no HX'.out HE.out HN.out), HBa⟩
    · obtain rfl : k = l'.length := by omega
      have hlt' : ¬ (l'.length : Int) < (l'.length : Int) := by omega
      have HV : Hid (((i : Int) == (l.length : Int)) = z) := Lib.hid (by
        have e : partV l l' = decide (i = l.length) := by unfold partV; rw [HE.out, List.take_length]
        rw [← HZ.out, e, Bool.eq_iff_iff]; simp; omega)
      go_wp2
      go_ret
      exact ⟨by rw [← HV.out]; rfl, HB.out⟩
end Go.Proofs.YtpbmngbigdaklaaDoor
end
section
/- Simpler lines: IsFaithful of package impl. -/
namespace Go.Proofs.YtpbmngbigdaklaaDoor
open Go.ChangeShapes Go.WideShapes Go.ChangeAt Go.RowKit
set_option linter.unusedVariables false
/-- Do both begin and end at the same points? -/
def endsV (l k : List (Int × Int)) : Bool := decide (ptA l 0 = ptA k 0) && decide (ptA l (l.length - 1) = ptA k (k.length - 1))
theorem faith_ends (l k : List (Int × Int)) (n : Int) : faithV l k n = (isLn l && (isLn k && (endsV l k && l.all fun p => nearAny (sgV k) p n))) := by
  unfold faithV endsV; rw [Bool.and_assoc]
theorem pair_dec (a b c d : Int) : decide (((a, b) : Int × Int) = (c, d)) = (decide (a = c) && decide (b = d)) := by rw [Bool.eq_iff_iff]; simp
/-- The end points' cells. -/
theorem endsC {l : List (Int × Int)} {A : Option Addr} {B : Nat} {w : World} (hs : SeesE 2 encPoint w B A l) (hl : 0 < l.length) : ∃ b off p0 p1 r0 r1, A = some ⟨b, off, none⟩ ∧ b < B ∧ ptA l 0 = (p0, p1) ∧ ptA l (l.length - 1) = (r0, r1) ∧
    w.cell? ⟨b, off, none⟩ = some (.int .i64 p0) ∧ w.cell? ⟨b, off + 1, none⟩ = some (.int .i64 p1) ∧ w.cell? ⟨b, off + (l.length - 1) * 2, none⟩ = some (.int .i64 r0) ∧ w.cell? ⟨b, off + (l.length - 1) * 2 + 1, none⟩ = some (.int .i64 r1) := by
  obtain ⟨⟨p0, p1⟩, hp⟩ : ∃ p, l[0]? = some p := ⟨_, List.getElem?_eq_getElem (by omega)⟩
  obtain ⟨⟨r0, r1⟩, hr⟩ : ∃ p, l[l.length - 1]? = some p := ⟨_, List.getElem?_eq_getElem (by omega)⟩
  obtain ⟨b, off, rfl, hb, -⟩ := hs 0 _ hp
  obtain ⟨k0, k1⟩ := cellsPoint hs hp
  obtain ⟨k2, k3⟩ := cellsPoint hs hr
  exact ⟨b, off, p0, p1, r0, r1, rfl, hb, ptA_get hp, ptA_get hr, by simpa using k0, by simpa using k1, k2, k3⟩
def sameET : List (Nat × Nat × Nat) := [(0, 6, 1), (1, 7, 32), (2, 8, 64), (0, 9, 2), (8, 10, 256), (16, 11, 512), (36, 12, 1152), (64, 13, 2048), (128, 14, 4097), (128, 15, 4097), (640, 16, 20480), (1152, 17, 36864), (2432, 18, 77824), (4224, 19, 135168), (128, 20, 4098), (128, 21, 4098), (32896, 22, 1052672), (65664, 23, 2101248), (147584, 24, 4722688), (262272, 25, 8392704), (532608, 26, 17043456), (1048704, 27, 33558528), (4194303, 5, 67108864)]
def sameES : List (Nat × Bool) := [(0, true), (1, true), (2, true), (3, true), (4, true), (5, true), (6, true), (7, true), (8, true), (9, true), (10, true), (11, true), (12, true), (13, true), (14, true), (15, true), (16, true), (17, true), (18, true), (19, true), (20, true), (21, true), (22, true)]
set_option maxRecDepth 100000 in
set_option maxHeartbeats 4000000 in
theorem haveSameEnds_is (A A' : Option Addr) (c c' : Nat) (l l' : List (Int × Int)) (w : World) (hs : SeesE 2 encPoint w w.heap.size A l) (hs' : SeesE 2 encPoint w w.heap.size A' l') (h0 : 0 < l.length) (h0' : 0 < l'.length) (hl : l.length ≤ 1099511627776) (hl' : l'.length ≤ 1099511627776) (z : Bool) (hz : endsV l l' = z) :
    Calls Tryd.prog 31 #[.slice A l.length c, .slice A' l'.length c'] w fun e w' => e = .returned (.bool z) ∧ Below w.heap.size w w' := by
  obtain ⟨b, off, p0, p1, r0, r1, rfl, -, e0, e1, c0, c1, c2, c3⟩ := endsC hs h0
  obtain ⟨b', off', q0, q1, s0, s1, rfl, -, e0', e1', d0, d1, d2, d3⟩ := endsC hs' h0'
  unfold endsV at hz
  rw [e0, e1, e0', e1', pair_dec, pair_dec] at hz
  obtain ⟨n, hn⟩ : ∃ n, l.length = n := ⟨_, rfl⟩
  obtain ⟨n', hn'⟩ : ∃ n, l'.length = n := ⟨_, rfl⟩
  obtain ⟨m, hm⟩ : ∃ m, l.length - 1 = m := ⟨_, rfl⟩
  obtain ⟨m', hm'⟩ : ∃ m, l'.length - 1 = m := ⟨_, rfl⟩
  rw [hm] at c2 c3; rw [hm'] at d2 d3; rw [hn] at h0 hl hm ⊢; rw [hn'] at h0' hl' hm' ⊢
  have HQ : Hid ((w.cell? ⟨b, off, none⟩ = some (.int .i64 p0) ∧ w.cell? ⟨b, off + 1, none⟩ = some (.int .i64 p1) ∧ w.cell? ⟨b', off', none⟩ = some (.int .i64 q0) ∧ w.cell? ⟨b', off' + 1, none⟩ = some (.int .i64 q1)) ∧ w.cell? ⟨b, off + m * 2, none⟩ = some (.int .i64 r0) ∧ w.cell? ⟨b, off + m * 2 + 1, none⟩ = some (.int .i64 r1) ∧ w.cell? ⟨b', off' + m' * 2, none⟩ = some (.int .i64 s0) ∧ w.cell? ⟨b', off' + m' * 2 + 1, none⟩ = some (.int .i64 s1)) := Lib.hid ⟨⟨c0, c1, d0, d1⟩, c2, c3, d2, d3⟩
  have HZ := Lib.hid hz
  have i0 : (0 : Int) < (n : Int) := by omega
  have i1 : (0 : Int) < (n' : Int) := by omega
  have i2 : (n : Int) - 1 = (m : Int) := by omega
  have i3 : (n' : Int) - 1 = (m' : Int) := by omega
  have i4 : (m : Int) < (n : Int) := by omega
  have i5 : (m' : Int) < (n' : Int) := by omega
  have i6 : IntKind.i64.wrap (m : Int) = (m : Int) := by rw [IntKind.wrap_i64]; omega
  have i7 : IntKind.i64.wrap (m' : Int) = (m' : Int) := by rw [IntKind.wrap_i64]; omega
  have hp0 := ptEql p0 p1 q0 q1
  have hp1 := ptEql r0 r1 s0 s1
  clear hs hs' hz e0 e1 e0' e1' c0 c1 c2 c3 d0 d1 d2 d3 hn hn' hm hm'
  go_enter Tryd.func31, Tryd.ntmps31
  go_upto_region 1 with fail
  cases h1 : (decide (p0 = q0) && decide (p1 = q1))
  · rw [h1] at hp0
    have HC : Hid (false = z) := Lib.hid (by rw [← HZ.out, h1]; rfl)
    clear HZ hp1
    refine wp_region_held_drew (S := (fun w' => (w'.cell? ⟨b, off, none⟩ = some (.int .i64 p0) ∧ w'.cell? ⟨b, off + 1, none⟩ = some (.int .i64 p1) ∧ w'.cell? ⟨b', off', none⟩ = some (.int .i64 q0) ∧ w'.cell? ⟨b', off' + 1, none⟩ = some (.int .i64 q1)) ∧ w'.cell? ⟨b, off + m * 2, none⟩ = some (.int .i64 r0) ∧ w'.cell? ⟨b, off + m * 2 + 1, none⟩ = some (.int .i64 r1) ∧ w'.cell? ⟨b', off' + m' * 2, none⟩ = some (.int .i64 s0) ∧ w'.cell? ⟨b', off' + m' * 2 + 1, none⟩ = some (.int .i64 s1))) (by kernel_rfl) HQ.out (fun hHeld => ?_)
    refine to_lin (T := sameET) (n := 23) sameES ⟨by kernel_rfl, by kernel_rfl, by kernel_rfl⟩ (by kernel_rfl) (fun hTag => ?_)
    iterate 8 (refine lin_on (v := ?_) rfl (fun _ _ _ h => h) (by rfl) ?_ (by assumption) ?_; rotate_left; (· (intro wq hSw; go_simp; try with_reducible rfl)); try simp only [Act.put, List.setIfInBounds_toArray, List.set_cons_zero, List.set_cons_succ])
    iterate 13 (refine lin_off rfl (fun _ _ _ h => h) (by rfl) (by assumption) ?_; try simp only [Act.put, List.setIfInBounds_toArray, List.set_cons_zero, List.set_cons_succ])
    iterate 2 (refine lin_on (v := ?_) rfl (fun _ _ _ h => h) (by rfl) ?_ (by assumption) ?_; rotate_left; (· (intro wq hSw; go_simp; try with_reducible rfl)); try simp only [Act.put, List.setIfInBounds_toArray, List.set_cons_zero, List.set_cons_succ])
    refine lin_done ?_
    go_wp2
    go_ret
    exact ⟨ret_eq HC.out, (Below.refl _ _).drew⟩
  · rw [h1] at hp0
    cases h2 : (decide (r0 = s0) && decide (r1 = s1))
    · rw [h2] at hp1
      have HC : Hid (false = z) := Lib.hid (by rw [← HZ.out, h1, h2]; rfl)
      clear HZ
      refine wp_region_held_drew (S := (fun w' => (w'.cell? ⟨b, off, none⟩ = some (.int .i64 p0) ∧ w'.cell? ⟨b, off + 1, none⟩ = some (.int .i64 p1) ∧ w'.cell? ⟨b', off', none⟩ = some (.int .i64 q0) ∧ w'.cell? ⟨b', off' + 1, none⟩ = some (.int .i64 q1)) ∧ w'.cell? ⟨b, off + m * 2, none⟩ = some (.int .i64 r0) ∧ w'.cell? ⟨b, off + m * 2 + 1, none⟩ = some (.int .i64 r1) ∧ w'.cell? ⟨b', off' + m' * 2, none⟩ = some (.int .i64 s0) ∧ w'.cell? ⟨b', off' + m' * 2 + 1, none⟩ = some (.int .i64 s1))) (by kernel_rfl) HQ.out (fun hHeld => ?_)
      refine to_lin (T := sameET) (n := 23) sameES ⟨by kernel_rfl, by kernel_rfl, by kernel_rfl⟩ (by kernel_rfl) (fun hTag => ?_)
      iterate 23 (refine lin_on (v := ?_) rfl (fun _ _ _ h => h) (by rfl) ?_ (by assumption) ?_; rotate_left; (· (intro wq hSw; go_simp; try with_reducible rfl)); try simp only [Act.put, List.setIfInBounds_toArray, List.set_cons_zero, List.set_cons_succ])
      refine lin_done ?_
      go_wp2
      go_ret
      exact ⟨ret_eq HC.out, (Below.refl _ _).drew⟩
    · rw [h2] at hp1
      have HC : Hid (true = z) := Lib.hid (by rw [← HZ.out, h1, h2]; rfl)
      clear HZ
      refine wp_region_held_drew (S := (fun w' => (w'.cell? ⟨b, off, none⟩ = some (.int .i64 p0) ∧ w'.cell? ⟨b, off + 1, none⟩ = some (.int .i64 p1) ∧ w'.cell? ⟨b', off', none⟩ = some (.int .i64 q0) ∧ w'.cell? ⟨b', off' + 1, none⟩ = some (.int .i64 q1)) ∧ w'.cell? ⟨b, off + m * 2, none⟩ = some (.int .i64 r0) ∧ w'.cell? ⟨b, off + m * 2 + 1, none⟩ = some (.int .i64 r1) ∧ w'.cell? ⟨b', off' + m' * 2, none⟩ = some (.int .i64 s0) ∧ w'.cell? ⟨b', off' + m' * 2 + 1, none⟩ = some (.int .i64 s1))) (by kernel_rfl) HQ.out (fun hHeld => ?_)
      refine to_lin (T := sameET) (n := 23) sameES ⟨by kernel_rfl, by kernel_rfl, by kernel_rfl⟩ (by kernel_rfl) (fun hTag => ?_)
      iterate 23 (refine lin_on (v := ?_) rfl (fun _ _ _ h => h) (by rfl) ?_ (by assumption) ?_; rotate_left; (· (intro wq hSw; go_simp; try with_reducible rfl)); try simp only [Act.put, List.setIfInBounds_toArray, List.set_cons_zero, List.set_cons_succ])
      refine lin_done ?_
      go_wp2
      go_ret
      exact ⟨ret_eq HC.out, (Below.refl _ _).drew⟩
theorem nearBy_is (s : Int × Int × Int × Int) (x y n : Int) (z : Bool) (B C : Nat) (w : World) (hB : B < w.heap.size) (hC : C < w.heap.size) (h0 : w.cell? ⟨B, 0, none⟩ = some (.int .i64 x)) (h1 : w.cell? ⟨B, 1, none⟩ = some (.int .i64 y)) (h2 : w.cell? ⟨C, 0, none⟩ = some (.int .i64 n)) (hz : nearV s.1 s.2.1 s.2.2.1 s.2.2.2 x y n = z) :
    Calls Tryd.prog 54 #[SegV s.1 s.2.1 s.2.2.1 s.2.2.2, .pointer (some ⟨B, 0, none⟩), .pointer (some ⟨C, 0, none⟩)] w fun e w' => e = .returned (.bool z) ∧ Below w.heap.size w w' := by
  obtain ⟨a, b, c, d⟩ := s
  have HV := Lib.hid (Vars.of1 w (SegC a b c d) 35)
  obtain ⟨k0, k1, k2, k3⟩ := HV.out.c40
  have k4 := (HV.out.1.cell (p := ⟨B, 0, none⟩) hB).trans h0
  have k5 := (HV.out.1.cell (p := ⟨B, 1, none⟩) hB).trans h1
  have k6 := (HV.out.1.cell (p := ⟨C, 0, none⟩) hC).trans h2
  have HZ := Lib.hid hz
  clear hz h0 h1 h2
  go_enter Tryd.func54, Tryd.ntmps54
  go_wp2_with fail
  refine (isNear_is a b c d x y n z _ HZ.out).mono ?_
  rintro e w1 ⟨rfl, hb1⟩
  go_wp2
  go_ret
  exact ⟨rfl, (HV.out.next hb1).1⟩
set_option maxRecDepth 100000 in
theorem indexNear_is (A : Option Addr) (k : Nat) (l : List (Int × Int × Int × Int)) (x y n : Int) (z : Bool) (B C : Nat) (w : World) (hB : B < w.heap.size) (hC : C < w.heap.size) (h0 : w.cell? ⟨B, 0, none⟩ = some (.int .i64 x)) (h1 : w.cell? ⟨B, 1, none⟩ = some (.int .i64 y)) (h2 : w.cell? ⟨C, 0, none⟩ = some (.int .i64 n)) (hs : SeesE 4 encSegment w w.heap.size A l) (hl : l.length ≤ 1099511627776) (hz : nearAny l (x, y) n = z) :
    Calls Tryd.prog 67 #[.slice A l.length k, .func (.func 54) #[] #[.pointer (some ⟨B, 0, none⟩), .pointer (some ⟨C, 0, none⟩)]] w fun e w' => (∃ i : Int, e = .returned (.int .i64 i) ∧ decide (0 ≤ i) = z) ∧ Below w.heap.size w w' := by
  have eg : ∀ args w, (callFunc 54 args).run Tryd.prog w = .ok (.enter 54 args) w := enters_of Tryd.func54 (by kernel_rfl) rfl
  have HS := Lib.hid hs; have HZ := Lib.hid hz; have H0 := Lib.hid h0; have H1 := Lib.hid h1; have H2 := Lib.hid h2; have HBs := Lib.hid hB; have HCs := Lib.hid hC
  clear hs hz h0 h1 h2 hB hC
  go_enter Tryd.func67, Tryd.ntmps67
  go_wp2
  go_loopg [5, 8] l.length (fun g _ s8 wr => ∃ j : Nat, j + g = l.length ∧ s8 = .int .i64 j ∧ Hid (nearAny (l.take j) (x, y) n = false) ∧ Hid (Below w.heap.size w wr))
  case atStart => exact ⟨0, by omega, rfl, Lib.hid (by simp [nearAny]), Lib.hid (Below.refl _ _)⟩
  case round =>
    obtain ⟨j, hg, rfl, HN, HB⟩ := hrel
    by_cases hlt : j < l.length
    · have hlt' : (j : Int) < (l.length : Int) := by omega
      obtain ⟨b, off, s, rfl, hbl, hx, -⟩ := (HS.out.below HB.out).lt hlt
      obtain ⟨t0, t1, t2, t3⟩ := s
      obtain ⟨k0, k1, k2, k3⟩ := cellsSegment (HS.out.below HB.out) hx
      have HX := Lib.hid hx
      have G0 := Lib.hid ((HB.out.cell (p := ⟨B, 0, none⟩) HBs.out).trans H0.out)
      have G1 := Lib.hid ((HB.out.cell (p := ⟨B, 1, none⟩) HBs.out).trans H1.out)
      have G2 := Lib.hid ((HB.out.cell (p := ⟨C, 0, none⟩) HCs.out).trans H2.out)
      have HB2 := Lib.hid (Nat.lt_of_lt_of_le HBs.out HB.out.size)
      have HC2 := Lib.hid (Nat.lt_of_lt_of_le HCs.out HB.out.size)
      clear hx
      obtain ⟨v, hv⟩ : ∃ v, nearV t0 t1 t2 t3 x y n = v := ⟨_, rfl⟩
      have HY := Lib.hid hv
      clear hv
      cases v
      all_goals
        go_wp2_with (go_at_fn 54; refine (nearBy_is (t0, t1, t2, t3) x y n _ B C _ HB2.out HC2.out G0.out G1.out G2.out HY.out).mono ?_; rintro e9 w9 ⟨rfl, hb9⟩)
      · have HB9 := Lib.hid (HB.out.trans (hb9.mono HB.out.size))
        have HNx : Hid (nearAny (l.take (j + 1)) (x, y) n = false) := Lib.hid (by
          have h1 := HN.out
          unfold nearAny at h1 ⊢
          rw [List.take_add_one, HX.out, List.any_append, h1]
          simp [HY.out])
        go_roundg (l.length - (j + 1))
        case measure => omega
        case rel => exact ⟨j + 1, by omega, by go_num, HNx, HB9⟩
      · obtain rfl : true = z := by
          rw [← HZ.out]
          exact (List.any_eq_true.2 ⟨_, List.mem_of_getElem? HX.out, HY.out⟩).symm
        go_ret
        exact ⟨by first | exact ⟨_, rfl, decide_eq_true (by omega)⟩ | (simp; done) | (simp; omega), HB.out.trans (hb9.mono HB.out.size)⟩
    · obtain rfl : j = l.length := by omega
      have hlt' : ¬ (l.length : Int) < (l.length : Int) := by omega
      obtain rfl : false = z := by rw [← HZ.out]; have := HN.out; rw [List.take_length] at this; exact this.symm
      go_wp2
      go_ret
      exact ⟨by first | exact ⟨_, rfl, rfl⟩ | simp, HB.out⟩
set_option maxRecDepth 100000 in
theorem containsNear_is (A : Option Addr) (k : Nat) (l : List (Int × Int × Int × Int)) (x y n : Int) (z : Bool) (B C : Nat) (w : World) (hB : B < w.heap.size) (hC : C < w.heap.size) (h0 : w.cell? ⟨B, 0, none⟩ = some (.int .i64 x)) (h1 : w.cell? ⟨B, 1, none⟩ = some (.int .i64 y)) (h2 : w.cell? ⟨C, 0, none⟩ = some (.int .i64 n)) (hs : SeesE 4 encSegment w w.heap.size A l) (hl : l.length ≤ 1099511627776) (hz : nearAny l (x, y) n = z) :
    Calls Tryd.prog 53 #[.slice A l.length k, .func (.func 54) #[] #[.pointer (some ⟨B, 0, none⟩), .pointer (some ⟨C, 0, none⟩)]] w fun e w' => e = .returned (.bool z) ∧ Below w.heap.size w w' := by
  go_enter Tryd.func53, Tryd.ntmps53
  go_wp2_with fail
  refine (indexNear_is A k l x y n z B C w hB hC h0 h1 h2 hs hl hz).mono ?_
  rintro e9 w1 ⟨⟨i, rfl, hi⟩, hb1⟩
  subst hi
  go_wp2
  go_ret
  exact ⟨rfl, hb1⟩
set_option maxRecDepth 100000 in
theorem isNearOne_is (A : Option Addr) (k : Nat) (l : List (Int × Int × Int × Int)) (x y n : Int) (z : Bool) (w : World) (hs : SeesE 4 encSegment w w.heap.size A l) (hl : l.length ≤ 1099511627776) (hz : nearAny l (x, y) n = z) :
    Calls Tryd.prog 33 #[.slice A l.length k, PtV x y, .int .i64 n] w fun e w' => e = .returned (.bool z) ∧ Below w.heap.size w w' := by
  have hmf : ∀ (fn : Fn) (first cap : Array Value) (w : World), (Instr.makeFunc fn first cap).run Tryd.prog w = .ok (.func fn first cap) w := fun _ _ _ _ => rfl
  have HV := Lib.hid (Vars.of2 w #[.int .i64 x, .int .i64 y] #[.int .i64 n] 33 3)
  have HS := Lib.hid (hs.belowAll HV.out.1)
  have HZ := Lib.hid hz
  clear hs hz
  obtain ⟨k0, k1⟩ := HV.out.c20
  have k2 := HV.out.c1 (w.heap.size + 1) 1 rfl rfl
  go_enter Tryd.func33, Tryd.ntmps33
  go_wp2_with fail
  refine (containsNear_is A k l x y n z w.heap.size (w.heap.size + 1) _ (by simp <;> omega) (by simp <;> omega) k0 k1 k2 HS.out hl HZ.out).mono ?_
  rintro e9 w1 ⟨rfl, hb1⟩
  go_wp2
  go_ret
  exact ⟨rfl, (HV.out.next hb1).1⟩
set_option maxRecDepth 100000 in
set_option maxHeartbeats 4000000 in
theorem isFaithful_is (A A' : Option Addr) (c c' : Nat) (l l' : List (Int × Int)) (n : Int) (w : World) (hs : SeesE 2 encPoint w w.heap.size A l) (hs' : SeesE 2 encPoint w w.heap.size A' l') (hl : l.length ≤ 1099511627776) (hl' : l'.length ≤ 1099511627776) (z : Bool) (hz : faithV l l' n = z) :
    Calls Tryd.prog 12 #[.slice A l.length c, .slice A' l'.length c', .int .i64 n] w fun e w' => e = .returned (.bool z) ∧ Below w.heap.size w w' := by
  have HS := Lib.hid hs; have HS' := Lib.hid hs'; clear hs hs'
  have HZ := Lib.hid ((faith_ends l l' n).symm.trans hz); clear hz
  go_enter Tryd.func12, Tryd.ntmps12
  cases h1 : isLn l
  · obtain rfl : false = z := by rw [← HZ.out, h1]; rfl
    go_wp2_with fail
    refine (isLine_is A c l _ HS.out hl _ h1).mono ?_
    rintro e w1 ⟨rfl, hb1⟩
    go_wp2
    go_ret
    exact ⟨rfl, hb1⟩
  go_wp2_with fail
  refine (isLine_is A c l _ HS.out hl _ h1).mono ?_
  rintro e w1 ⟨rfl, hb1⟩
  have HB1 := Lib.hid hb1
  have HS1 := Lib.hid (HS.out.belowAll hb1); have HS1' := Lib.hid (HS'.out.belowAll hb1)
  clear hb1
  cases h2 : isLn l'
  · obtain rfl : false = z := by rw [← HZ.out, h1, h2]; rfl
    go_wp2_with fail
    refine (isLine_is A' c' l' _ HS1'.out hl' _ h2).mono ?_
    rintro e w2 ⟨rfl, hb2⟩
    go_wp2
    go_ret
    exact ⟨rfl, HB1.out.trans (hb2.mono HB1.out.size)⟩
  go_wp2_with fail
  refine (isLine_is A' c' l' _ HS1'.out hl' _ h2).mono ?_
  rintro e w2 ⟨rfl, hb2⟩
  have HB2 := Lib.hid (HB1.out.trans (hb2.mono HB1.out.size))
  have HS2 := Lib.hid (HS1.out.belowAll hb2); have HS2' := Lib.hid (HS1'.out.belowAll hb2)
  clear hb2 HB1 HS1 HS1'
  have hn0 : 0 < l.length := by have := (isLn_yes h1).1; omega
  have hn1 : 0 < l'.length := by have := (isLn_yes h2).1; omega
  cases h3 : endsV l l'
  · obtain rfl : false = z := by rw [← HZ.out, h1, h2, h3]; rfl
    go_wp2_with fail
    refine (haveSameEnds_is A A' c c' l l' _ HS2.out HS2'.out hn0 hn1 hl hl' _ h3).mono ?_
    rintro e w3 ⟨rfl, hb3⟩
    go_wp2
    go_ret
    exact ⟨rfl, HB2.out.trans (hb3.mono HB2.out.size)⟩
  have HZ2 : Hid ((l.all fun p => nearAny (sgV l') p n) = z) := Lib.hid (by rw [← HZ.out, h1, h2, h3]; rfl)
  clear HZ
  go_wp2_with fail
  refine (haveSameEnds_is A A' c c' l l' _ HS2.out HS2'.out hn0 hn1 hl hl' _ h3).mono ?_
  rintro e w3 ⟨rfl, hb3⟩
  have HB3 := Lib.hid (HB2.out.trans (hb3.mono HB2.out.size))
  have HS3 := Lib.hid (HS2.out.belowAll hb3); have HS3' := Lib.hid (HS2'.out.belowAll hb3)
  clear hb3 HB2 HS2 HS2' h1 h2 h3
  go_wp2_with fail
  refine (segmentsOf_any A' c' l' _ HS3'.out hl').mono ?_
  rintro e w4 ⟨A4, c4, G, hG, rfl, ho4, hb4⟩
  have HGe := hG
  have HG := Lib.hid (ho4.sees elSegment)
  have HB4 := Lib.hid (HB3.out.trans (hb4.mono HB3.out.size))
  have HS4 := Lib.hid (HS.out.below HB4.out)
  have hGl : G.length ≤ 1099511627776 := by rw [hG.out]; have := sgV_len l'; omega
  replace HZ2 : Hid ((l.all fun p => nearAny G p n) = z) := Lib.hid (by rw [hG.out]; exact HZ2.out)
  clear ho4 hb4 HS3 HS3' HB3 hG HS'
  go_wp2
  go_loopg [9, 28] l.length (fun g _ i wr => ∃ j : Nat, j + g = l.length ∧ i = .int .i64 j ∧ Hid (((l.take j).all fun p => nearAny G p n) = true) ∧ Hid (Below w.heap.size w wr) ∧ Hid (Below w4.heap.size w4 wr))
  case atStart => exact ⟨0, by omega, rfl, Lib.hid (by simp), HB4, Lib.hid (Below.refl _ _)⟩
  case round =>
    obtain ⟨j, hg, rfl, HN, HB, HBr⟩ := hrel
    by_cases hlt : j < l.length
    · have hlt' : (j : Int) < (l.length : Int) := by omega
      obtain ⟨b, off, ⟨t0, t1⟩, rfl, hbl, hx, -⟩ := (HS4.out.below (HBr.out.mono HB4.out.size)).lt hlt
      obtain ⟨k0, k1⟩ := cellsPoint (HS4.out.below (HBr.out.mono HB4.out.size)) hx
      have HX := Lib.hid hx
      have HBa := Lib.hid (HB.out.alloc HB.out.size (.cells #[.int .i64 t0, .int .i64 t1] 33))
      have HBra := Lib.hid (HBr.out.alloc HBr.out.size (.cells #[.int .i64 t0, .int .i64 t1] 33))
      have HGa := Lib.hid ((HG.out.below HBra.out).mono HBra.out.size)
      clear hx
      obtain ⟨y, hy⟩ : ∃ y, nearAny G (t0, t1) n = y := ⟨_, rfl⟩
      have HY := Lib.hid hy
      clear hy
      cases y
      all_goals
        go_wp2_with (go_at_call 33; refine (isNearOne_is A4 c4 G t0 t1 n _ _ HGa.out hGl HY.out).mono ?_; rintro e9 w9 ⟨rfl, hb9⟩)
      · obtain rfl : false = z := by
          rw [← HZ2.out]
          symm
          rw [List.all_eq_false]
          exact ⟨_, List.mem_of_getElem? HX.out, by rw [HY.out]; simp⟩
        go_ret
        exact ⟨rfl, HBa.out.trans (hb9.mono HBa.out.size)⟩
      · have HB9 := Lib.hid (HBa.out.trans (hb9.mono HBa.out.size))
        have HBr9 := Lib.hid (HBra.out.trans (hb9.mono HBra.out.size))
        have HNx : Hid (((l.take (j + 1)).all fun p => nearAny G p n) = true) := Lib.hid (by
          rw [List.take_add_one, HX.out, List.all_append, HN.out]
          simp [HY.out])
        go_roundg (l.length - (j + 1))
        case measure => omega
        case rel => exact ⟨j + 1, by omega, by go_num, HNx, HB9, HBr9⟩
    · obtain rfl : j = l.length := by omega
      have hlt' : ¬ (l.length : Int) < (l.length : Int) := by omega
      obtain rfl : true = z := by rw [← HZ2.out]; have := HN.out; rw [List.take_length] at this; exact this.symm
      go_wp2
      go_ret
      exact ⟨rfl, HB.out⟩
end Go.Proofs.YtpbmngbigdaklaaDoor
end
section
/- What the statements list of errNotSimpler, as the walks read it. -/
namespace Go.Proofs.YtpbmngbigdaklaaDoor
open Go.ChangeShapes Go.WideShapes Go.ChangeAt Go.RowKit Go.Stop
set_option linter.unusedVariables false
set_option maxRecDepth 100000

theorem simName : Tryd.prog.globalNamed "loop.example/g03005/impl.errNotSimpler" = some 0 := by kernel_rfl
theorem simType : (Tryd.prog.globals[0]?).map (·.type) = some 90 := by kernel_rfl
theorem simStar : "*" ++ "errors.errorString" = "*errors.errorString" := by decide
theorem simRow (u : TypeId) (h : Tryd.prog.typeName? 3 u = some "*errors.errorString") : u = 109 :=
  typeName_ptr_named (nm := "errors.errorString") (by rw [simStar]; kernel_rfl) (by kernel_rfl) (by decide) u (by rw [simStar]; exact h)
theorem simCells : Tryd.prog.cellsOf 127 = 1 := by kernel_rfl
theorem simStrCells : Tryd.prog.cellsOf 9 = 1 := by kernel_rfl
theorem simAt_of {w : World} (hL : laidMet Tryd.prog [("loop.example/g03005/impl.errNotSimpler", Rows.laid_loop_example_g03005_impl_errNotSimpler)] w) : ∃ a0, SimAt a0 w := by
  obtain ⟨a, s, hv, -, -, -⟩ := laid_sentinel (tp := 109) (te := 127) (ts := 9) hL simName simType Tryd.underlying90 simRow Tryd.underlying109 Tryd.underlying127 rfl rfl Tryd.underlying9 simCells simStrCells
  exact ⟨a, by have := World.var?_cell simName hv 0; simpa [SimAt] using this⟩
theorem simVar_of {w : World} (hL : laidMet Tryd.prog [("loop.example/g03005/impl.errNotSimpler", Rows.laid_loop_example_g03005_impl_errNotSimpler)] w) : ∃ a0, w.var? Tryd.prog "loop.example/g03005/impl.errNotSimpler" = some #[.iface 109 (.pointer (some a0))] := by
  obtain ⟨a, s, hv, -, -, -⟩ := laid_sentinel (tp := 109) (te := 127) (ts := 9) hL simName simType Tryd.underlying90 simRow Tryd.underlying109 Tryd.underlying127 rfl rfl Tryd.underlying9 simCells simStrCells
  exact ⟨a, hv⟩
theorem simVars {H : Type} (enc : TypeId × Value → H) {W : World} {a0 : Addr} (h : W.var? Tryd.prog "loop.example/g03005/impl.errNotSimpler" = some #[.iface 109 (.pointer (some a0))]) (sp : Nat → Bool) :
    DataW.TrodVars enc Tryd.prog W sp ["loop.example/g03005/impl.errNotSimpler"] [tok enc (.iface 109 (.pointer (some a0)))] [.cell 0 0] :=
  vars_read1 enc simName simType Tryd.underlying90 h trivial sp
theorem simVar_below {W W' : World} {a0 : Addr} (h : W.var? Tryd.prog "loop.example/g03005/impl.errNotSimpler" = some #[.iface 109 (.pointer (some a0))]) (hb : Below W.heap.size W W') : W'.var? Tryd.prog "loop.example/g03005/impl.errNotSimpler" = some #[.iface 109 (.pointer (some a0))] :=
  var?_below hb simName (World.block_lt_of_cell? _ _ (World.var?_cell simName h 0)) h
end Go.Proofs.YtpbmngbigdaklaaDoor
end
section
/- FnSimplified: its walk. -/
namespace Go.Proofs.YtpbmngbigdaklaaDoor
open Go.ChangeShapes Go.WideShapes Go.ChangeAt Go.RowKit
set_option linter.unusedVariables false

set_option maxRecDepth 100000 in
set_option maxHeartbeats 8000000 in
theorem law_FnSimplified (w : World) (a0 : Addr) (hE : SimAt a0 w) (A : Option Addr) (len cap : Nat) (hc : Code w w.heap.size A len) :
    Calls Tryd.prog 3 #[.slice A len cap] w fun e w' => e = .returned (.bool true) ∧ Below w.heap.size w w' := by
  have hlen := hc.1
  by_cases hbig : 1048576 < len
  · go_enter Tryd.func3, Tryd.ntmps3
    go_wp2_with fail
    refine (big_yes A len cap _ hbig).mono ?_
    rintro e w0 ⟨rfl, rfl⟩
    go_wp2
    go_ret
    exact ⟨rfl, Below.refl _ _⟩
  · go_enter Tryd.func3, Tryd.ntmps3
    have HC := Lib.hid hc; have HE := Lib.hid hE
    clear hc hE
    go_wp2_with fail
    refine (big_no A len cap _ (by omega)).mono ?_
    rintro e w0 ⟨rfl, rfl⟩
    go_wp2_with fail
    refine (drawSimplifyLine_any A len cap _ _ HC.out).mono ?_
    rintro e w1 ⟨Al, cl, l, n, rfl, hl1, ⟨hl11, -, -⟩, hn, hs, hb1⟩
    have HB1 := Lib.hid hb1; have HS1 := Lib.hid hs
    clear hb1 hs
    go_wp2_with fail
    refine (simplifyLine_any a0 Al cl l n _ (HE.out.all HB1.out) HS1.out (by omega)).mono ?_
    rintro e w2 ⟨Ak, ck, K, hK, rfl, ho2, hb2⟩
    have HK2 := Lib.hid (ho2.sees elPoint)
    have HS2 := Lib.hid (HS1.out.belowAll hb2)
    have HB2 := Lib.hid (HB1.out.trans (hb2.mono HB1.out.size))
    have hKl : K.length ≤ 11 := by have := simpV_len l n; rw [← hK.out] at this; omega
    have HKL : Hid ((simpV l n).length = K.length) := Lib.hid (by rw [hK.out])
    clear ho2 hb2 HB1 HS1
    go_wp2_with fail
    refine (isPartOf_is Ak Al ck cl K l _ HK2.out HS2.out (by omega) (by omega) true (part_sub (by rw [hK.out]; exact simpV_sub l n))).mono ?_
    rintro e w3 ⟨rfl, hb3⟩
    have HK3 := Lib.hid (HK2.out.belowAll hb3)
    have HS3 := Lib.hid (HS2.out.belowAll hb3)
    have HB3 := Lib.hid (HB2.out.trans (hb3.mono HB2.out.size))
    clear hb3 HB2 HS2 HK2
    go_wp2_with fail
    refine (countLeftOut_any a0 Al cl l n _ (HE.out.all HB3.out) HS3.out (by omega)).mono ?_
    rw [HKL.out]
    rintro e w4 ⟨rfl, hb4⟩
    have HK4 := Lib.hid (HK3.out.belowAll hb4)
    have HS4 := Lib.hid (HS3.out.belowAll hb4)
    have HB4 := Lib.hid (HB3.out.trans (hb4.mono HB3.out.size))
    clear hb4 HB3 HS3 HK3 HKL
    go_upto_region 7 with fail
    go_cut [54] (fun v wx => v = .bool false ∧ Hid (Below w.heap.size w wx))
    case first =>
      cases h1 : isLn l
      · go_wp2_with fail
        refine (isLine_is Al cl l _ HS4.out (by omega) _ h1).mono ?_
        rintro e w5 ⟨rfl, hb5⟩
        have HB5 := Lib.hid (HB4.out.trans (hb5.mono HB4.out.size))
        go_wp2_with fail
        go_meet
        exact ⟨rfl, HB5⟩
      go_wp2_with fail
      refine (isLine_is Al cl l _ HS4.out (by omega) _ h1).mono ?_
      rintro e w5 ⟨rfl, hb5⟩
      have HK5 := Lib.hid (HK4.out.belowAll hb5)
      have HS5 := Lib.hid (HS4.out.belowAll hb5)
      have HB5 := Lib.hid (HB4.out.trans (hb5.mono HB4.out.size))
      clear hb5 HB4 HS4 HK4
      by_cases hr : 0 ≤ n ∧ n ≤ 200
      · have r0 := hr.1; have r1 := hr.2
        cases h2 : isLn K
        · go_wp2_with fail
          refine (isLine_is Ak ck K _ HK5.out (by omega) _ h2).mono ?_
          rintro e w6 ⟨rfl, hb6⟩
          have HB6 := Lib.hid (HB5.out.trans (hb6.mono HB5.out.size))
          go_wp2_with fail
          go_meet
          exact ⟨rfl, HB6⟩
        · have HF : Hid (faithV l K n = true) := Lib.hid (by
            have h3 : isLn (simpV l n) = true := by rw [← hK.out]; exact h2
            rw [hK.out]
            exact faith_simp h1 (inB_yes r0 r1) h3)
          go_wp2_with fail
          refine (isLine_is Ak ck K _ HK5.out (by omega) _ h2).mono ?_
          rintro e w6 ⟨rfl, hb6⟩
          have HK6 := Lib.hid (HK5.out.belowAll hb6)
          have HS6 := Lib.hid (HS5.out.belowAll hb6)
          have HB6 := Lib.hid (HB5.out.trans (hb6.mono HB5.out.size))
          clear hb6 HB5 HS5 HK5
          go_wp2_with fail
          refine (isFaithful_is Al Ak cl ck l K n _ HS6.out HK6.out (by omega) (by omega) _ HF.out).mono ?_
          rintro e w7 ⟨rfl, hb7⟩
          have HB7 := Lib.hid (HB6.out.trans (hb7.mono HB6.out.size))
          go_wp2_with fail
          go_meet
          exact ⟨rfl, HB7⟩
      · by_cases r0 : 0 ≤ n
        · have r1 : ¬ n ≤ 200 := by omega
          go_wp2_with fail
          go_meet
          exact ⟨rfl, HB5⟩
        · go_wp2_with fail
          go_meet
          exact ⟨rfl, HB5⟩
    case rest =>
    obtain ⟨rfl, HB⟩ := hcut
    clear HB4 HS4 HK4 hn hl1 hl11 hKl hK
    go_wp2_with fail
    refine (drawIsNear_any A len cap _ _ (code_below HC.out HB.out)).mono ?_
    rintro e w8 ⟨a, b, c, d, x, y, m, rfl, hm, hb8⟩
    have HB8 := Lib.hid (HB.out.trans (hb8.mono HB.out.size))
    clear hb8 HB
    have HV := Lib.hid (Vars.of2 w8 (SegC a b c d) #[.int .i64 x, .int .i64 y] 35 33)
    obtain ⟨z, hz⟩ : ∃ z, nearV a b c d x y m = z := ⟨_, rfl⟩
    go_wp2_with fail
    refine (isNear_is a b c d x y m z _ hz).mono ?_
    rintro e w9 ⟨rfl, hb9⟩
    have HV9 := Lib.hid (HV.out.next hb9)
    have HB9 := Lib.hid (HB8.out.trans (HV9.out.1.mono HB8.out.size))
    obtain ⟨f0, f1, f2, f3⟩ := HV9.out.c40
    obtain ⟨f4, f5⟩ := HV9.out.c2 (w8.heap.size + 1) 1 rfl rfl
    clear hb9 HV
    cases z
    · go_wp2
      go_ret
      exact ⟨rfl, HB9.out⟩
    have hm2 : 0 ≤ m ∧ m ≤ 200 := by
      simp only [nearV, inB, Bool.and_eq_true, decide_eq_true_eq] at hz
      exact hz.2.2.1
    by_cases h200 : m = 200
    · subst h200
      go_wp2
      go_ret
      exact ⟨rfl, HB9.out⟩
    · have HN : Hid (nearV a b c d x y (m + 1) = true) := Lib.hid (nearV_mono hz (by omega) (by omega))
      clear hz
      go_wp2_with fail
      refine (isNear_is a b c d x y (m + 1) true _ HN.out).mono ?_
      rintro e w10 ⟨rfl, hb10⟩
      go_wp2
      go_ret
      exact ⟨rfl, HB9.out.trans (hb10.mono HB9.out.size)⟩
theorem law_FnSimplified_laid (w : World) (A : Option Addr) (len cap : Nat) (z : List Int) (hrow : IsRow .u8 w A len cap z) (hL : laidMet Tryd.prog Rows.fnSimplifiedRow.laid w) :
    Calls Tryd.prog 3 #[.slice A len cap] w fun e w' => e = .returned (.bool true) ∧ Below w.heap.size w w' := by
  obtain ⟨a0, hE⟩ := simAt_of hL
  exact law_FnSimplified w a0 hE A len cap (code_of_row hrow)
end Go.Proofs.YtpbmngbigdaklaaDoor
end
section
namespace Go.Proofs.YtpbmngbigdaklaaDoor.fnSimplified
open Go.ChangeShapes Go.WideShapes Go.ChangeAt Go.WideMaps Go.WideElems Go.RowKit
open Go.ChangeMaps (open_string shut_string)
set_option linter.unusedVariables false

theorem own : ownKnob Tryd.prog.godebug = none := by kernel_rfl
theorem laidOut : laidOutB Tryd.prog = true := by kernel_rfl

/-- What the package-level variables hold behind the program's own initialisers meets the row's condition. -/
theorem door_met (os : Os) (args : Array Value) : laidMetH Tryd.prog Rows.fnSimplifiedRow.laid ((World.doorLaid Tryd.prog 28 os).forCall (fun _ _ => 0) ⟨#[], args, []⟩).memory :=
  laidMetH_of_parts3 (fuel := 8) (laidMet_of_run' 8 (by kernel_rfl) (by kernel_rfl)) (by kernel_rfl) (by kernel_rfl)

set_option maxRecDepth 100000 in
theorem lifted (os : Os) (started : os.Started) (H : Type) (enc : TypeId × Value → H) :
    ReturnsInHanded {} Tryd.checked os 3 .any (fun w args => (Rows.fnSimplifiedSpec.pre enc Tryd.prog Tryd.f3 [] false w args ∧ laidMetH Tryd.prog Rows.fnSimplifiedRow.laid w) ∧ sizedMet enc Tryd.prog Tryd.f3 (OpenSpec.ofChange Rows.fnSimplifiedSpec) false w args)
      (Rows.fnSimplifiedSpec.post enc Tryd.prog Tryd.f3 false true false false) := by
  refine returnsInHanded_of_change_and (C := Tryd.checked) (X := fun w _ => laidMetH Tryd.prog Rows.fnSimplifiedRow.laid w) (fun _ _ _ hh h => h.of_heap hh) own started (by kernel_rfl) Tryd.func3
    (ChangeSpec.witness_shaped (enc := enc) (C := Tryd.checked) (os := os) (X := fun w _ => laidMetH Tryd.prog Rows.fnSimplifiedRow.laid w) false (World.doorLaid Tryd.prog 28 os) #[.slice none 0 0] 8 rfl (World.shaped_of_RefB (by kernel_rfl) (by kernel_rfl)) (by kernel_rfl) (by kernel_rfl) (by kernel_rfl) (door_met os _)) ?_
  intro W base args ds gs before hval0 hW _ hsz0 hL0 _
  have hsz : (DataW.weightsEach Tryd.prog (Tryd.f3.params.toList ++ Rows.fnSimplifiedSpec.plain.varTypes Tryd.prog) (ds ++ gs)).all (· ≤ reachBytes) = true := hsz0
  clear hsz0
  have hL : laidMet Tryd.prog Rows.fnSimplifiedRow.laid W := by rw [MakeChecks.laidMetH_plain _ _ _ (by kernel_rfl)] at hL0; exact hL0
  have hval : ∀ (j : Nat) t v, Tryd.f3.params[j]? = some t → args[j]? = some v → Value.okWide Tryd.prog W .any base t v := hval0
  have hW' := hW
  obtain ⟨p, q, hA0, hV, rfl, hfz, hnd⟩ := hW
  have hA : DataW.TrodAll enc Tryd.prog W 0 (fun _ => true) true Tryd.f3.params.toList args.toList ds p := hA0
  rw [Tryd.params3] at hA hval hsz
  obtain ⟨v0, vs0, d0, ds0, p0, q0, hargs, rfl, rfl, h0, r0⟩ := trodAll_cons hA
  obtain ⟨rfl, rfl, rfl⟩ := trodAll_nil r0
  obtain rfl : args = #[v0] := by cases args; simp_all
  obtain ⟨a0, hv0⟩ := simVar_of hL
  have hV1 : DataW.TrodVars enc Tryd.prog W (fun _ => true) ["loop.example/g03005/impl.errNotSimpler"] gs q := hV
  obtain ⟨rfl, rfl⟩ := hV1.unique (simVars enc hv0 _)
  obtain ⟨a0, len0, cap0, rfl⟩ := okWide_slice Tryd.underlying22 (hval 0 22 v0 rfl rfl)
  have k0 := h0
  have lt0 : ∀ x ∈ p0, x.block < W.heap.size := by obtain ⟨m, hm⟩ := k0; exact DataW.trod_lt m _ _ _ hm
  obtain ⟨z0, w0⟩ : ∃ zs, IsRow .u8 W a0 len0 cap0 zs := by
    obtain ⟨fuel, hf⟩ := h0
    rcases open_ints Tryd.underlying22 Tryd.underlying5 (by kernel_rfl) hf with ⟨hcs, _⟩ | ⟨x, l, c, zs, hcs, _, hl, hm, hz, _, hcell, hwz⟩
    · simp [Value.cells] at hcs
      obtain ⟨rfl, rfl, rfl⟩ := hcs
      exact ⟨[], .inl ⟨rfl, rfl, rfl, rfl⟩⟩
    · simp [Value.cells] at hcs
      obtain ⟨rfl, rfl, rfl⟩ := hcs
      exact ⟨zs, .inr ⟨_, rfl, hl, hm, by simpa using hz, hcell, hwz⟩⟩
  clear hA0 hval0
  refine (law_FnSimplified_laid W a0 len0 cap0 z0 w0 hL).mono fun e W' ⟨he, bel⟩ => ?_
  subst he
  exact ⟨_, rfl, _, _, _, [], _, _, hW', trodAll_mk1 (shut_bool Tryd.underlying4 _), (trodAll_cons_mk (Below.trod laidOut (by kernel_rfl) (of_decide_eq_true (by kernel_rfl)) k0 bel lt0) trodAll_mk0), simVars enc (simVar_below hv0 bel) _, bel.frame _, fun h => by cases h⟩

theorem over : Rows.fnSimplifiedRow.holds Tryd.pinned (OpenSpec.ofChange Rows.fnSimplifiedSpec) :=
  OpenClaim.holds_of_wide 3 Tryd.f3 rfl rfl rfl rfl rfl rfl rfl ⟨rfl, rfl, rfl, rfl, rfl⟩ rfl rfl rfl rfl rfl (by kernel_rfl) Tryd.func3 (by kernel_rfl)
    (of_decide_eq_true (by kernel_rfl)) (by unfold Func.isWrapper; first | (rw [if_pos (by decide +kernel)]; kernel_rfl) | (rw [if_neg (by decide +kernel)]; exact ⟨rfl, rfl⟩))
    (fun os started H enc _ => lifted os started H enc)

/-- THE STATEMENT. -/
theorem proved : Rows.FnSimplifiedCardSaid :=
  Claim7.holds_tied_plain_at .later [] [.sentinel] true (true, "f9a3822cea048bdab47f6b4598cb5dc05333cce5a8d99a014b0ddc21cc242c30") true
    over (fun _ h => by cases h) (by kernel_rfl) (fun _ h => by cases h) fnSimplified_row_tie rfl ⟨rfl, rfl⟩ (by kernel_rfl) rfl
    (fun f fn hf hfn => by
      obtain rfl : f = 3 := Option.some.inj ((show Tryd.prog.funcNamed "loop.example/g03005/laws.FnSimplified" = some 3 by kernel_rfl).symm.trans hf) |>.symm
      obtain rfl : fn = Tryd.f3 := (Option.some.inj (Tryd.func3.symm.trans hfn)).symm
      exact ⟨by kernel_rfl, fun j t ht => by
        rw [Tryd.params3] at ht
        have hm : t ∈ [22] := by simpa using Array.mem_of_getElem? ht
        have hall : ([22].all fun u => !Tryd.prog.wantsStandIn u) = true := by kernel_rfl
        exact (show Tryd.prog.wantsStandIn t = false by simpa using List.all_eq_true.1 hall t hm)⟩)
    (by kernel_rfl)
#print axioms proved
end Go.Proofs.YtpbmngbigdaklaaDoor.fnSimplified
end
