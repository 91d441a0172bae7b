/- Features: EqualFeatures and EqualSources of the model. -/
import Derived.Test.YtiibjppljpfmoaaFeatS
import Derived.Test.YtiibjppljpfmoaaLineE
import Derived.Deep.RegionHeld3
import Derived.Deep.DeepCutAuto
namespace Go.Proofs.Ytiibjppljpfmoaa
open Go.ChangeShapes Go.WideShapes Go.ChangeAt Go.RowKit
set_option linter.unusedVariables false

instance decName (a b : ByteArray) : Decidable (a = b) := if h : a.data = b.data then .isTrue (by cases a; cases b; simp_all) else .isFalse (fun e => h (by rw [e]))
instance decFeat (f g : Feat) : Decidable (f = g) :=
  if h : f.1 = g.1 ∧ f.2.1 = g.2.1 ∧ f.2.2.1 = g.2.2.1 ∧ f.2.2.2.1 = g.2.2.2.1 ∧ f.2.2.2.2 = g.2.2.2.2 then .isTrue (by
    obtain ⟨f0, f1, f2, f3, f4⟩ := f
    obtain ⟨g0, g1, g2, g3, g4⟩ := g
    obtain ⟨h0, h1, h2, h3, h4⟩ := h
    dsimp only at h0 h1 h2 h3 h4
    rw [h0, h1, h2, h3, h4])
  else .isFalse (fun e => h (by rw [e]; exact ⟨rfl, rfl, rfl, rfl, rfl⟩))
instance decFeats : DecidableEq (List Feat) := @instDecidableEqList Feat decFeat
theorem str_ne {s s' : ByteArray} (h : ¬ s = s') : (s.toList == s'.toList) = false := by
  rw [ByteArray.toList_eq, ByteArray.toList_eq, beq_eq_false_iff_ne]
  intro e
  apply h
  obtain ⟨d⟩ := s
  obtain ⟨d'⟩ := s'
  have : d = d' := Array.toList_inj.1 e
  rw [this]
/-- Features whose points are few. -/
def FewQ (l : List Feat) : Prop := ∀ (j : Nat) (f : Feat), l[j]? = some f → f.2.2.2.2.length ≤ 1099511627776
set_option maxRecDepth 100000 in
set_option maxHeartbeats 1000000 in
theorem sEqF_is (a k r : Int) (s : ByteArray) (A : Option Addr) (c : Nat) (ps : List (Int × Int)) (a' k' r' : Int) (s' : ByteArray) (A' : Option Addr) (c' : Nat) (ps' : List (Int × Int)) (z : Bool) (w : World)
    (hs : SeesE 2 encPoint w w.heap.size A ps) (hs' : SeesE 2 encPoint w w.heap.size A' ps') (hl : ps.length ≤ 1099511627776) (hz : decide ((a, k, r, s, ps) = (a', k', r', s', ps')) = z) :
    Calls Try.prog 23 #[FtV a k r s A ps.length c, FtV a' k' r' s' A' ps'.length c'] w fun e w' => e = .returned (.bool z) ∧ Below w.heap.size w w' := by
  have HV := Lib.hid (Vars.of2 w (FtC a k r s A ps.length c) (FtC a' k' r' s' A' ps'.length c') 30 30)
  have HS := Lib.hid ((hs.below HV.out.1).mono HV.out.1.size)
  have HS' := Lib.hid ((hs'.below HV.out.1).mono HV.out.1.size)
  have HZ := Lib.hid hz
  clear hs hs' hz
  go_enter Try.func23, Try.ntmps23
  by_cases h1 : a = a'
  · subst h1
    by_cases h2 : k = k'
    · subst h2
      by_cases h3 : r = r'
      · subst h3
        by_cases h4 : s = s'
        · subst h4
          have HP : Hid (decide (ps = ps') = z) := Lib.hid (by rw [← HZ.out]; simp)
          go_wp2_with fail
          refine (sEqualLines_is A A' c c' ps ps' _ HS.out HS'.out hl z HP.out).mono ?_
          rintro e w1 ⟨rfl, hb1⟩
          have HV1 := Lib.hid (HV.out.next hb1)
          clear hb1
          go_wp2
          go_ret
          exact ⟨rfl, HV1.out.1⟩
        · obtain rfl : false = z := by rw [← HZ.out]; simp [h4]
          have hst := str_ne h4
          go_wp2
          go_ret
          exact ⟨rfl, HV.out.1⟩
      · obtain rfl : false = z := by rw [← HZ.out]; simp [h3]
        go_wp2
        go_ret
        exact ⟨rfl, HV.out.1⟩
    · obtain rfl : false = z := by rw [← HZ.out]; simp [h2]
      go_wp2
      go_ret
      exact ⟨rfl, HV.out.1⟩
  · obtain rfl : false = z := by rw [← HZ.out]; simp [h1]
    go_wp2
    go_ret
    exact ⟨rfl, HV.out.1⟩
theorem eqL_no {l l' : List Feat} {j : Nat} {f g : Feat} (hf : l[j]? = some f) (hg : l'[j]? = some g) (h : ¬ f = g) : ¬ l = l' := fun e => by
  subst e
  rw [hf] at hg
  exact h (Option.some.inj hg)
set_option maxRecDepth 100000 in
set_option maxHeartbeats 1000000 in
theorem sEqL_is (A A' : Option Addr) (c c' : Nat) (l l' : List Feat) (z : Bool) (w : World) (hs : SeesF w w.heap.size A l) (hs' : SeesF w w.heap.size A' l') (hl : l.length ≤ 1099511627776) (hp : FewQ l) (hz : decide (l = l') = z) :
    Calls Try.prog 25 #[.slice A l.length c, .slice A' l'.length c'] w fun e w' => e = .returned (.bool z) ∧ Below w.heap.size w w' := by
  have HS := Lib.hid hs
  have HS' := Lib.hid hs'
  have HP := Lib.hid hp
  have HZ := Lib.hid hz
  clear hs hs' hp hz
  go_enter Try.func25, Try.ntmps25
  by_cases hll : l.length = l'.length
  · have hlli : (l.length : Int) = (l'.length : Int) := by omega
    obtain ⟨n, hn⟩ : ∃ n, l.length = n := ⟨_, rfl⟩
    have HN := Lib.hid hn
    have HN' : Hid (l'.length = n) := Lib.hid (by rw [← hll]; exact hn)
    rw [← hll]
    rw [hn] at hl ⊢
    clear hll hlli hn
    go_wp2
    go_loopw [5] (fun iv wr => ∃ j : Nat, j ≤ n ∧ iv = .int .i64 j ∧ Hid (l.take j = l'.take j) ∧ Hid (Below w.heap.size w wr)) (fun iv _ => n - (intOf iv).toNat)
    case atStart => exact ⟨0, Nat.zero_le _, rfl, Lib.hid (by simp), Lib.hid (Below.refl _ _)⟩
    case round =>
      obtain ⟨j, hj, rfl, HT, HB⟩ := hrel
      by_cases hlt : j < n
      · have hji : (j : Int) < (n : Int) := by omega
        obtain ⟨⟨a, k, r, s, ps⟩, hf⟩ : ∃ f, l[j]? = some f := ⟨_, List.getElem?_eq_getElem (by rw [HN.out]; exact hlt)⟩
        obtain ⟨⟨a', k', r', s', ps'⟩, hg⟩ : ∃ f, l'[j]? = some f := ⟨_, List.getElem?_eq_getElem (by rw [HN'.out]; exact hlt)⟩
        obtain ⟨b, off, A1, c1, rfl, hbl, h1, -, q0, q1, q2, q3, q4⟩ := HS.out.at_ hf
        obtain ⟨b2, off2, A2, c2, rfl, hbl2, h2, -, p0, p1, p2, p3, p4⟩ := HS'.out.at_ hg
        have hpl : ps.length ≤ 1099511627776 := HP.out j _ hf
        have HB0 := Lib.hid HB.out.drew
        have HQ : Hid (∀ W, Below w.heap.size w W → W.cell? ⟨b, off + j * 5, none⟩ = some (.int .i64 a) ∧ W.cell? ⟨b, off + j * 5 + 1, none⟩ = some (.int .i64 k) ∧ W.cell? ⟨b, off + j * 5 + 2, none⟩ = some (.int .i64 r) ∧ W.cell? ⟨b, off + j * 5 + 3, none⟩ = some (.string s) ∧ W.cell? ⟨b, off + j * 5 + 4, none⟩ = some (.slice A1 ps.length c1) ∧ W.cell? ⟨b2, off2 + j * 5, none⟩ = some (.int .i64 a') ∧ W.cell? ⟨b2, off2 + j * 5 + 1, none⟩ = some (.int .i64 k') ∧ W.cell? ⟨b2, off2 + j * 5 + 2, none⟩ = some (.int .i64 r') ∧ W.cell? ⟨b2, off2 + j * 5 + 3, none⟩ = some (.string s') ∧ W.cell? ⟨b2, off2 + j * 5 + 4, none⟩ = some (.slice A2 ps'.length c2)) := Lib.hid fun W hW => ⟨(hW.cell (p := ⟨b, off + j * 5, none⟩) hbl).trans q0, (hW.cell (p := ⟨b, off + j * 5 + 1, none⟩) hbl).trans q1, (hW.cell (p := ⟨b, off + j * 5 + 2, none⟩) hbl).trans q2, (hW.cell (p := ⟨b, off + j * 5 + 3, none⟩) hbl).trans q3, (hW.cell (p := ⟨b, off + j * 5 + 4, none⟩) hbl).trans q4, (hW.cell (p := ⟨b2, off2 + j * 5, none⟩) hbl2).trans p0, (hW.cell (p := ⟨b2, off2 + j * 5 + 1, none⟩) hbl2).trans p1, (hW.cell (p := ⟨b2, off2 + j * 5 + 2, none⟩) hbl2).trans p2, (hW.cell (p := ⟨b2, off2 + j * 5 + 3, none⟩) hbl2).trans p3, (hW.cell (p := ⟨b2, off2 + j * 5 + 4, none⟩) hbl2).trans p4⟩
        have H1 := Lib.hid ((h1.below HB.out.drew).mono HB.out.drew.size)
        have H2 := Lib.hid ((h2.below HB.out.drew).mono HB.out.drew.size)
        have HF := Lib.hid hf
        have HG := Lib.hid hg
        obtain ⟨y, hy⟩ : ∃ y, decide ((a, k, r, s, ps) = (a', k', r', s', ps')) = y := ⟨_, rfl⟩
        have HY := Lib.hid hy
        clear hf hg h1 h2 q0 q1 q2 q3 q4 p0 p1 p2 p3 p4 hy
        go_upto_region 6 with fail
        go_cut [26] (fun s26 wx => s26 = .bool (!y) ∧ Hid (Below w.heap.size w wx))
        case first =>
          go_region_held3 (fun w' => w'.cell? ⟨b, off + j * 5, none⟩ = some (.int .i64 a) ∧ w'.cell? ⟨b, off + j * 5 + 1, none⟩ = some (.int .i64 k) ∧ w'.cell? ⟨b, off + j * 5 + 2, none⟩ = some (.int .i64 r) ∧ w'.cell? ⟨b, off + j * 5 + 3, none⟩ = some (.string s) ∧ w'.cell? ⟨b, off + j * 5 + 4, none⟩ = some (.slice A1 ps.length c1) ∧ w'.cell? ⟨b2, off2 + j * 5, none⟩ = some (.int .i64 a') ∧ w'.cell? ⟨b2, off2 + j * 5 + 1, none⟩ = some (.int .i64 k') ∧ w'.cell? ⟨b2, off2 + j * 5 + 2, none⟩ = some (.int .i64 r') ∧ w'.cell? ⟨b2, off2 + j * 5 + 3, none⟩ = some (.string s') ∧ w'.cell? ⟨b2, off2 + j * 5 + 4, none⟩ = some (.slice A2 ps'.length c2)) (first | with_reducible exact HQ.out _ HB0.out | with_reducible exact HQ.out _ HB9.out | fail) (first
            | (go_at_call 23; (with_reducible refine (sEqF_is a k r s A1 c1 ps a' k' r' s' A2 c2 ps' y _ H1.out H2.out hpl HY.out).mono ?_); rintro e w9 ⟨rfl, hb9⟩; have HB9 := Lib.hid (HB0.out.trans (hb9.mono HB0.out.size)))
            | fail)
          all_goals
            go_wp2_with fail
            go_meet
            exact ⟨rfl, HB9⟩
        case rest =>
        obtain ⟨rfl, HBc⟩ := hcut
        cases y
        · obtain rfl : false = z := by rw [← HZ.out]; exact (decide_eq_false (eqL_no HF.out HG.out (of_decide_eq_false HY.out))).symm
          go_wp2
          go_ret
          exact ⟨rfl, HBc.out⟩
        · have HTn : Hid (l.take (j + 1) = l'.take (j + 1)) := Lib.hid (by rw [List.take_add_one, List.take_add_one, HF.out, HG.out, HT.out, of_decide_eq_true HY.out])
          go_wp2
          go_roundw
          case rel => exact ⟨j + 1, by omega, by go_num, HTn, HBc⟩
          case measure => simp [intOf]; omega
      · obtain rfl : j = n := by omega
        have hji : ¬ (j : Int) < (j : Int) := by omega
        obtain rfl : true = z := by
          rw [← HZ.out]
          have := HT.out
          rw [List.take_of_length_le (by rw [HN.out]; exact Nat.le_refl _), List.take_of_length_le (by rw [HN'.out]; exact Nat.le_refl _)] at this
          exact (decide_eq_true this).symm
        go_wp2
        go_ret
        exact ⟨rfl, HB.out⟩
  · have hlli : ¬ (l.length : Int) = (l'.length : Int) := by omega
    obtain rfl : false = z := by rw [← HZ.out]; exact (decide_eq_false (fun e => hll (by rw [e]))).symm
    clear hll
    go_wp2
    go_ret
    exact ⟨rfl, Below.refl _ _⟩
end Go.Proofs.Ytiibjppljpfmoaa
