/- Draws of features: a name, one feature. -/
import Derived.Test.YtbnjaaegbmhopaaGreatDoorDrawRing
import Derived.Test.YtbnjaaegbmhopaaGreatDoorFeatQ
import Derived.Test.YtbnjaaegbmhopaaGreatDoorFeatO
import Derived.Test.YtbnjaaegbmhopaaGreatDoorPad
import Derived.Deep.CutBlock
namespace Go.Proofs.YtbnjaaegbmhopaaGreatDoor
open Go.ChangeShapes Go.WideShapes Go.ChangeAt Go.RowKit
set_option linter.unusedVariables false

section
variable {p : Nat} {w0 w w' : World} {m b : Nat} {cs : Array Value}
theorem OneV.nextG (h : OneV m w b cs) (hg : w.grownBy w' (some p)) (hn : ¬ p = b) : OneV m w' b cs := by
  obtain ⟨h1, T, h3⟩ := h
  refine ⟨h1, T, (hg.block b (Array.getElem?_eq_some_iff.1 h3).1 (fun e => hn (Option.some.inj e).symm)).trans h3⟩
theorem CurG.al (h : CurG p w0 w) (o : Obj) : CurG p w0 (w.alloc o) := h.bel ((Below.refl _ _).alloc (Nat.le_refl _) o)
theorem CurG.put (h : CurG p w0 w) {b : Nat} (hb : w0.heap.size ≤ b) (i : Nat) (v : Value) : CurG p w0 (w.setCell ⟨b, i, none⟩ v) :=
  ⟨h.1, cur_set_other h.2.1 (Nat.lt_of_lt_of_le h.1 hb), grown_setNew h.2.2 hb i v⟩
theorem SeesE.off {α : Type} {n : Nat} {enc : α → List Value} {w : World} {B : Nat} {A : Option Addr} {l : List α} (h : SeesE n enc w B A l) (b i : Nat) (v : Value) (hne : ∀ a, A = some a → a.block ≠ b) : SeesE n enc (w.setCell ⟨b, i, none⟩ v) B A l := fun j x hj => by
  obtain ⟨b', off, e, hlt, hc⟩ := h j x hj
  exact ⟨b', off, e, hlt, fun k u hu => (World.cell?_of_block (Below.heap_setCell _ _ _ _ (by simpa using hne _ e))).trans (hc k u hu)⟩
theorem size_set (w : World) (a : Addr) (v : Value) : (w.setCell a v).heap.size = w.heap.size := by simp [World.setCell]
theorem SeesE.offAll {α : Type} {n : Nat} {enc : α → List Value} {w : World} {A : Option Addr} {l : List α} (h : SeesE n enc w w.heap.size A l) (b i : Nat) (v : Value) (hne : ∀ a, A = some a → a.block ≠ b) : SeesE n enc (w.setCell ⟨b, i, none⟩ v) (w.setCell ⟨b, i, none⟩ v).heap.size A l := by
  rw [size_set]; exact h.off b i v hne
theorem CurG.dint (h : CurG p w0 w) (hc : Cur w' p) (hg : w.grownBy w' (some p)) : CurG p w0 w' := h.next hc hg
end
set_option maxRecDepth 100000 in
theorem l9Name_any (p : Nat) (w : World) (hc : Cur w p) :
    Calls Tryz.prog 167 #[.pointer (some ⟨p, 0, none⟩)] w (DStr p w 4) := by
  have HC := Lib.hid hc
  clear hc
  go_enter Tryz.func167, Tryz.ntmps167
  go_wp2_with fail
  refine (strs_made p 7 7 _ [⟨#[]⟩, ⟨#[102, 111, 114, 100]⟩, ⟨#[104, 105, 108, 108]⟩, ⟨#[109, 105, 108, 108]⟩, ⟨#[111, 97, 107]⟩, ⟨#[108, 97, 107, 101]⟩, ⟨#[105, 110, 110]⟩] 4 w _ _ rfl (by decide) (by decide) rfl rfl (by decide) HC.out).mono ?_
  rintro e w1 ⟨⟨s, hs, rfl⟩, hc1, hg1⟩
  go_wp2
  go_ret
  exact ⟨⟨s, hs, rfl⟩, hc1, hg1⟩
/-- A feature was drawn: its points lie in memory of its own. -/
def DFt (p : Nat) (w : World) (e : Ending) (w' : World) : Prop :=
  ∃ (a k r : Int) (s : ByteArray) (A : Option Addr) (c : Nat) (ps : List (Int × Int)), e = .returned (FtV a k r s A ps.length c) ∧ s.size ≤ 100 ∧ ps.length ≤ 11 ∧ (ps.length ≤ c ∧ (c : Int) ≤ 9223372036854775807) ∧ SeesE 2 encPoint w' w'.heap.size A ps ∧ (∀ x, A = some x → w.heap.size ≤ x.block) ∧ Cur w' p ∧ w.grownBy w' (some p)
set_option maxRecDepth 100000 in
set_option maxHeartbeats 4000000 in
theorem l9Draw_any (p : Nat) (id : Int) (w : World) (hc : Cur w p) :
    Calls Tryz.prog 153 #[.pointer (some ⟨p, 0, none⟩), .int .i64 id] w (DFt p w) := by
  have HP := Lib.hid ((Pad.start hc).more 41 (FtC 0 0 0 ⟨#[]⟩ none 0 0))
  clear hc
  go_enter Tryz.func153, Tryz.ntmps153
  go_wp2_with fail
  refine (below_any p 3 _ (by decide) (by decide) HP.out.2.1).mono ?_
  rintro e w1 ⟨⟨n, hn0, hn1, rfl⟩, hc1, hg1⟩
  have HP1 := Lib.hid (HP.out.next hc1 hg1)
  clear hc1 hg1 HP
  obtain ⟨k, hk⟩ : ∃ k : Int, 1 + n = k := ⟨_, rfl⟩
  have h3 : k = 1 ∨ k = 2 ∨ k = 3 := by omega
  have hw : IntKind.i64.wrap (1 + n) = k := by rw [hk]; exact IntWalk.i64_in _ (by omega)
  clear hk
  go_wp2_with fail
  refine (below_any p 6 _ (by decide) (by decide) HP1.out.2.1).mono ?_
  rintro e w2 ⟨⟨r, hr0, hr1, rfl⟩, hc2, hg2⟩
  have HP2 := Lib.hid (HP1.out.next hc2 hg2)
  clear hc2 hg2 HP1
  go_wp2_with fail
  refine (l9Name_any p _ HP2.out.2.1).mono ?_
  rintro e w3 ⟨⟨s, hs, rfl⟩, hc3, hg3⟩
  have hsz3 := (HP2.out.next hc3 hg3).2.2.1.size
  have HP3 := Lib.hid ((HP2.out.next hc3 hg3).more 41 (FtC id k r s none 0 0))
  clear hc3 hg3 HP2
  simp only [List.nil_append, List.cons_append] at HP3
  obtain ⟨b, hb⟩ : ∃ b, w3.heap.size = b := ⟨_, rfl⟩
  rw [hb] at HP3
  have hne := HP3.out.ne 0 1 rfl rfl (by decide)
  have hne2 : ¬ b = w.heap.size := fun e => hne e.symm
  have hle0 : w.heap.size ≤ b := by rw [← hb]; exact hsz3
  go_upto_block 0 with fail
  clear hb
  go_cut [] (fun wx => Hid (∃ A c ps, Pad p w wx [(w.heap.size, FtC 0 0 0 ⟨#[]⟩ none 0 0), (b, FtC id k r s A ps.length c)] ∧ SeesE 2 encPoint wx wx.heap.size A ps ∧ (∀ x, A = some x → w.heap.size < x.block) ∧ ps.length ≤ 11 ∧ (ps.length ≤ c ∧ (c : Int) ≤ 9223372036854775807)))
  case first =>
    rcases h3 with rfl | rfl | rfl
    · go_wp2_with fail
      refine (l4Draw_any p _ HP3.out.2.1).mono ?_
      rintro e w4 ⟨⟨x, y, -, -, -, -, rfl⟩, hc4, hg4⟩
      have HP4 := Lib.hid (HP3.out.next hc4 hg4)
      have hle : w.heap.size ≤ w4.heap.size := Nat.le_trans HP3.out.2.2.1.size hg4.size
      have hlb : b < w4.heap.size := Nat.lt_of_lt_of_le (HP3.out.lt (j := 1) rfl) hg4.size
      have k4 := HP4.out.cell 1 4 rfl rfl
      have f4 := HP4.out.frozen 1 4 rfl
      clear hc4 hg4
      go_wp2
      go_meet
      refine Lib.hid ⟨some ⟨w4.heap.size, 0, none⟩, 1, [(x, y)], (HP4.out.set 1 4 rfl (.slice (some ⟨w4.heap.size, 0, none⟩) 1 1)).al _, seesE_at elPoint _ w4.heap.size (size_set _ _ _).symm (x, y) _ _ _ (by simp) rfl, fun a ha => ?_, by simp, by simp, by decide⟩
      simp only [Option.some.injEq] at ha
      subst ha
      show w.heap.size < w4.heap.size
      omega
    · go_wp2_with fail
      refine (l6Draw_any p _ HP3.out.2.1).mono ?_
      rintro e w4 ⟨A, c, L, rfl, h1, h6, hR⟩
      have HP4 := Lib.hid (HP3.out.next hR.2.1 hR.2.2.1)
      have k4 := HP4.out.cell 1 4 rfl rfl
      have f4 := HP4.out.frozen 1 4 rfl
      have HR := Lib.hid hR
      have hlt := HP3.out.lt (j := 1) rfl
      have hle : w.heap.size ≤ b := hle0
      clear hR
      go_wp2
      go_meet
      exact Lib.hid ⟨A, c, L, HP4.out.set 1 4 rfl (.slice A L.length c), SeesE.offAll (HR.out.2.2.2.sees elPoint) b 4 _ (fun a ha => by have := HR.out.2.2.2.base a ha; omega), fun a ha => Nat.lt_of_lt_of_le (Nat.lt_of_le_of_lt hle hlt) (HR.out.2.2.2.base a ha), by omega, HR.out.2.2.2.caps⟩
    · go_wp2_with fail
      refine (l7Draw_any p _ HP3.out.2.1).mono ?_
      rintro e w4 ⟨A, c, L, rfl, h1, hR⟩
      have HP4 := Lib.hid (HP3.out.next hR.2.1 hR.2.2.1)
      have k4 := HP4.out.cell 1 4 rfl rfl
      have f4 := HP4.out.frozen 1 4 rfl
      have HR := Lib.hid hR
      have hlt := HP3.out.lt (j := 1) rfl
      have hle : w.heap.size ≤ b := hle0
      have h6 := h1.len.2
      clear hR
      go_wp2
      go_meet
      exact Lib.hid ⟨A, c, L, HP4.out.set 1 4 rfl (.slice A L.length c), SeesE.offAll (HR.out.2.2.2.sees elPoint) b 4 _ (fun a ha => by have := HR.out.2.2.2.base a ha; omega), fun a ha => Nat.lt_of_lt_of_le (Nat.lt_of_le_of_lt hle hlt) (HR.out.2.2.2.base a ha), by omega, HR.out.2.2.2.caps⟩
  case rest =>
  obtain ⟨A, c, ps, hP, hS, hA0, hl, hcp⟩ := hcut.out
  have hA : ∀ x, A = some x → w.heap.size ≤ x.block := fun x hx => Nat.le_of_lt (hA0 x hx)
  have HPc := Lib.hid hP; have HSc := Lib.hid hS
  clear hcut hP hS HP3
  have k0 := HPc.out.cell 1 0 rfl rfl; have k1 := HPc.out.cell 1 1 rfl rfl; have k2 := HPc.out.cell 1 2 rfl rfl; have k3 := HPc.out.cell 1 3 rfl rfl; have k4 := HPc.out.cell 1 4 rfl rfl
  have q0 := HPc.out.cell 0 0 rfl rfl; have q1 := HPc.out.cell 0 1 rfl rfl; have q2 := HPc.out.cell 0 2 rfl rfl; have q3 := HPc.out.cell 0 3 rfl rfl; have q4 := HPc.out.cell 0 4 rfl rfl
  have f0 := HPc.out.frozen 0 0 rfl; have f1 := HPc.out.frozen 0 1 rfl; have f2 := HPc.out.frozen 0 2 rfl; have f3 := HPc.out.frozen 0 3 rfl; have f4 := HPc.out.frozen 0 4 rfl
  go_wp2
  refine bodyPost_ret (v := FtV id k r s A ps.length c) (by simp [results, Tryz.results153, go_sem, q0, q1, q2, q3, q4]) rfl ?_
  have h := (((((HPc.out.set 0 0 rfl (.int .i64 id)).set 0 1 rfl (.int .i64 k)).set 0 2 rfl (.int .i64 r)).set 0 3 rfl (.string s)).set 0 4 rfl (.slice A ps.length c))
  refine ⟨id, k, r, s, A, c, ps, rfl, by omega, hl, hcp, ?_, hA, h.2.1, h.2.2.1⟩
  have hne0 : ∀ a, A = some a → a.block ≠ w.heap.size := fun a ha => by have := hA0 a ha; omega
  exact SeesE.offAll (SeesE.offAll (SeesE.offAll (SeesE.offAll (SeesE.offAll HSc.out _ 0 _ hne0) _ 1 _ hne0) _ 2 _ hne0) _ 3 _ hne0) _ 4 _ hne0
end Go.Proofs.YtbnjaaegbmhopaaGreatDoor
