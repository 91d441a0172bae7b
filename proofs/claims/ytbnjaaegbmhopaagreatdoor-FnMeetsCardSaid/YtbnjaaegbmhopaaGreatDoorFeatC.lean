/- Features: l9Feature and l9Copy of the model. -/
import Derived.Test.YtbnjaaegbmhopaaGreatDoorFeatO
import Derived.Test.YtbnjaaegbmhopaaGreatDoorFeatS
import Derived.Test.YtbnjaaegbmhopaaGreatDoorVars2
import Derived.LoopTactic
import Derived.Deep.RegionHeld3
import Derived.Deep.DeepCutAuto
namespace Go.Proofs.YtbnjaaegbmhopaaGreatDoor
open Go.ChangeShapes Go.WideShapes Go.ChangeAt Go.RowKit
set_option linter.unusedVariables false

theorem Vars.keepB {w0 w w' : World} {l : List (Array Value)} {B : Nat} (h : Vars w0 w l) (hb : Below B w w') (hB : w0.heap.size + l.length ≤ B) : Vars w0 w' l := by
  refine ⟨h.1.trans (hb.mono (by omega)), Nat.le_trans h.2.1 hb.size, fun j x hj => ?_⟩
  have hl : j < l.length := (List.getElem?_eq_some_iff.1 hj).1
  obtain ⟨T, h3⟩ := h.2.2 j x hj
  exact ⟨T, (hb.block _ (by omega)).trans h3⟩
theorem Vars.f50 {w0 w : World} {l : List (Array Value)} {cs : Array Value} (h : Vars w0 w (cs :: l)) (i : Nat) : w.frozen? ⟨w0.heap.size, i, none⟩ = false := h.frozen w0.heap.size 0 i rfl rfl
theorem Vars.f51 {w0 w : World} {l : List (Array Value)} {cs cs' : Array Value} (h : Vars w0 w (cs :: cs' :: l)) : w.frozen? ⟨w0.heap.size + 1, 0, none⟩ = false ∧ w.frozen? ⟨w0.heap.size + 1, 1, none⟩ = false ∧ w.frozen? ⟨w0.heap.size + 1, 2, none⟩ = false ∧ w.frozen? ⟨w0.heap.size + 1, 3, none⟩ = false ∧ w.frozen? ⟨w0.heap.size + 1, 4, none⟩ = false :=
  ⟨h.frozen _ 1 0 rfl rfl, h.frozen _ 1 1 rfl rfl, h.frozen _ 1 2 rfl rfl, h.frozen _ 1 3 rfl rfl, h.frozen _ 1 4 rfl rfl⟩
theorem Vars.c51 {w0 w : World} {l : List (Array Value)} {cs : Array Value} {v0 v1 v2 v3 v4 : Value} (h : Vars w0 w (cs :: #[v0, v1, v2, v3, v4] :: l)) : w.cell? ⟨w0.heap.size + 1, 0, none⟩ = some v0 ∧ w.cell? ⟨w0.heap.size + 1, 1, none⟩ = some v1 ∧ w.cell? ⟨w0.heap.size + 1, 2, none⟩ = some v2 ∧ w.cell? ⟨w0.heap.size + 1, 3, none⟩ = some v3 ∧ w.cell? ⟨w0.heap.size + 1, 4, none⟩ = some v4 := h.c5 _ 1 rfl rfl
/-- A store ahead of what the call owns. -/
theorem OwnE.putO {α : Type} {n : Nat} {enc : α → List Value} {w : World} {B : Nat} {e : TypeId} {v : Value} {L : List α} (h : OwnE n enc w B e v L) {b : Nat} (hb : b < B) (i : Nat) (u : Value) : OwnE n enc (w.setCell ⟨b, i, none⟩ u) B e v L := by
  refine ⟨h.1, ?_⟩
  rcases h.2 with hn | ⟨g, cap, cur, rfl, hB, hg, rest⟩
  · exact .inl hn
  · exact .inr ⟨g, cap, cur, rfl, hB, (Below.heap_setCell _ _ _ _ (by simp; omega)).trans hg, rest⟩
/-- A call gives a feature whose points lie in new memory. -/
def GivesFt (a k r : Int) (s : ByteArray) (ps : List (Int × Int)) (w : World) (e : Ending) (w' : World) : Prop :=
  ∃ A L c, Hid (L = ps) ∧ e = .returned (FtV a k r s A L.length c) ∧ OwnE 2 encPoint w' w.heap.size 33 (.slice A L.length c) L ∧ Below w.heap.size w w'
set_option maxRecDepth 100000 in
set_option maxHeartbeats 1000000 in
theorem sl9Feature_any (a k r : Int) (s : ByteArray) (A : Option Addr) (c : Nat) (ps : List (Int × Int)) (w : World) (hs : SeesE 2 encPoint w w.heap.size A ps) (hl : ps.length ≤ 1099511627776) :
    Calls Tryz.prog 166 #[FtV a k r s A ps.length c] w (GivesFt a k r s ps w) := by
  have HS := Lib.hid hs; clear hs
  have HV0 := Lib.hid (Vars.of2 w (FtC a k r s A ps.length c) (FtC 0 0 0 ⟨#[]⟩ none 0 0) 41 41)
  have HS0 := Lib.hid (HS.out.below HV0.out.1)
  go_enter Tryz.func166, Tryz.ntmps166
  go_upto_region 1 with fail
  generalize hwz : ((w.alloc (.cells (FtC a k r s A ps.length c) 41)).alloc (.cells (FtC 0 0 0 ⟨#[]⟩ none 0 0) 41)) = wz at HV0 HS0 ⊢
  have hz2 : w.heap.size + 2 ≤ wz.heap.size := HV0.out.more2
  clear hwz
  have HVa := Lib.hid (HV0.out.al (.cells #[] 33))
  obtain ⟨k0, k1, k2, k3, k4⟩ := HVa.out.c50
  go_wp2_with (at_builtin; refine appPoint _ rfl _ _ rfl wz.heap.size _ [] rfl (OwnE.lit wz wz.heap.size 33 (Nat.le_refl _)) w.heap.size A ps.length c ps rfl rfl (HS0.out.alloc (by omega) _) (by simp; omega) (by simp) ?_; intro A1 c1 L w1 hL h1 h2 ho hb; have HL : Hid (L = ps) := Lib.hid (by rw [hL.out]; rfl); have HV1 := Lib.hid (HVa.out.keepB hb hz2); have HO := Lib.hid ho; have HB1 := Lib.hid hb; clear h1 h2 ho hb hL; obtain ⟨q0, q1, q2, q3, q4⟩ := HV1.out.c50; obtain ⟨j0, j1, j2, j3, j4⟩ := HV1.out.c51; obtain ⟨f0, f1, f2, f3, f4⟩ := HV1.out.f51; have f5 := HV1.out.f50 4)
  refine bodyPost_ret (v := FtV a k r s A1 L.length c1) (by simp [results, Tryz.results166, go_sem, j0, j1, j2, j3, j4]) rfl ?_
  have hB0 : w.heap.size ≤ wz.heap.size := by omega
  refine ⟨A1, L, c1, HL, rfl, ((((((HO.out.putO (by omega) _ _).putO (by omega) _ _).putO (by omega) _ _).putO (by omega) _ _).putO (by omega) _ _).putO (by omega) _ _).mono hB0, ?_⟩
  exact (((((HV1.out.1.setCell (Nat.le_refl _) _).setCell (by simp) _).setCell (by simp) _).setCell (by simp) _).setCell (by simp) _).setCell (by simp) _
/-- A call gives features of its own. -/
def GivesF (l : List Feat) (w : World) (e : Ending) (w' : World) : Prop :=
  ∃ A L c, Hid (L = l) ∧ e = .returned (.slice A L.length c) ∧ OwnF w' w.heap.size (.slice A L.length c) L ∧ Below w.heap.size w w'
/-- All features' points are few. -/
def FewP (l : List Feat) : Prop := ∀ (j : Nat) (f : Feat), l[j]? = some f → f.2.2.2.2.length ≤ 274877906944
/-- Small enough for a walk: names and points. -/
def SmallF (l : List Feat) : Prop := ∀ (j : Nat) (f : Feat), l[j]? = some f → f.2.2.2.2.length ≤ 274877906944 ∧ f.2.2.2.1.size ≤ maxLen
section
variable {l : List Feat}
theorem SmallF.few (h : SmallF l) : FewP l := fun j f hf => (h j f hf).1
theorem SmallF.take (h : SmallF l) (j : Nat) : SmallF (l.take j) := fun i f hf => by
  rw [List.getElem?_take] at hf
  split at hf
  · exact h i f hf
  · cases hf
theorem SmallF.drop (h : SmallF l) (j : Nat) : SmallF (l.drop j) := fun i f hf => by
  rw [List.getElem?_drop] at hf
  exact h _ f hf
end
set_option maxRecDepth 100000 in
set_option maxHeartbeats 1000000 in
theorem sl9Copy_any (A : Option Addr) (c : Nat) (l : List Feat) (w : World) (hs : SeesF w w.heap.size A l) (hl : l.length ≤ 1099511627776) (hp : FewP l) :
    Calls Tryz.prog 165 #[.slice A l.length c] w (GivesF l w) := by
  have HS := Lib.hid hs; clear hs
  have HP := Lib.hid hp; clear hp
  go_enter Tryz.func165, Tryz.ntmps165
  go_wp2
  go_loopw [3, 4] (fun v iv wr => ∃ (j : Nat) (L : List Feat) (A0 : Option Addr) (c0 : Nat), j ≤ l.length ∧ iv = .int .i64 j ∧ v = .slice A0 L.length c0 ∧ L.length = j ∧ Hid (L = l.take j) ∧ Hid (OwnF wr w.heap.size (.slice A0 L.length c0) L) ∧ Hid (Below w.heap.size w wr)) (fun _ iv _ => l.length - (intOf iv).toNat)
  case atStart => exact ⟨0, [], _, 0, Nat.zero_le _, rfl, rfl, rfl, Lib.hid rfl, Lib.hid (OwnF.lit w w.heap.size (Nat.le_refl _)), Lib.hid ((Below.refl _ _).alloc (Nat.le_refl _) _)⟩
  case round =>
    obtain ⟨j, L, A0, c0, hj, rfl, rfl, hLj, HL, HO, HB⟩ := hrel
    have HLj := Lib.hid hLj
    by_cases hlt : j < l.length
    · have hlt' : (j : Int) < (l.length : Int) := by omega
      obtain ⟨⟨a, k, r, s, ps⟩, hf⟩ : ∃ f, l[j]? = some f := ⟨_, List.getElem?_eq_getElem hlt⟩
      obtain ⟨b, off, A', c', rfl, hb, hss, hcap, q0, q1, q2, q3, q4⟩ := (HS.out.below HB.out).at_ hf
      have HSS := Lib.hid (hss.mono HB.out.size)
      have hpl : ps.length ≤ 274877906944 := HP.out j _ hf
      have HF := Lib.hid hf
      have hL1 : L.length + 1 ≤ 1099511627776 := by omega
      clear hf hss hcap hLj
      go_wp2_with fail
      refine (sl9Feature_any a k r s A' c' ps _ HSS.out (by omega)).mono ?_
      rintro e w1 ⟨A1, P, c1, hP, rfl, ho1, hb1⟩
      have HO1 := Lib.hid ho1
      have HPs := hP
      have HB0 := Lib.hid hb1
      have HB1 := Lib.hid (HB.out.trans (hb1.mono HB.out.size))
      have hbs := HB.out.size
      clear ho1 hb1 hP q0 q1 q2 q3 q4
      go_wp2_with (at_builtin; refine wpList_appF1 (nm := s) (a := a) (k := k) (r := r) w1 rfl _ _ rfl rfl HO.out HB0.out HO1.out rfl hL1 hbs ?_; intro A2 c2 L2 w2 hL2 h1 h2 ho2 hb2)
      go_roundw
      case rel => exact ⟨j + 1, L2, A2, c2, by omega, by go_num, rfl, by have := HLj.out; omega, Lib.hid (by rw [hL2.out, HL.out, HPs.out, List.take_add_one, HF.out]; rfl), Lib.hid ho2, Lib.hid ((HB1.out.alloc HB1.out.size _).trans hb2)⟩
      case measure => simp [intOf]; omega
    · obtain rfl : j = l.length := by omega
      have hlt' : ¬ (l.length : Int) < (l.length : Int) := by omega
      have HE : Hid (L = l) := Lib.hid (by rw [HL.out, List.take_length])
      clear hLj HLj HL
      go_wp2
      go_ret
      exact ⟨A0, L, c0, HE, rfl, HO.out, HB.out⟩
end Go.Proofs.YtbnjaaegbmhopaaGreatDoor
