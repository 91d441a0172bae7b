/- Features: how much the laws weigh them; equal slices of features. -/
import Derived.Test.YtbnjaaegbmhopaaGreatDoorFeatL
namespace Go.Proofs.YtbnjaaegbmhopaaGreatDoor
open Go.ChangeShapes Go.WideShapes Go.ChangeAt Go.RowKit
set_option linter.unusedVariables false

/-- What is left when a feature is weighed; negative if it is too heavy. -/
def szF (left : Int) (f : Feat) : Int := if left < (f.2.2.2.1.size : Int) then -1 else if left - f.2.2.2.1.size < (f.2.2.2.2.length : Int) then -1 else left - f.2.2.2.1.size - f.2.2.2.2.length
def szL : Int → List Feat → Int
  | left, [] => left
  | left, f :: t => if szF left f < 0 then -1 else szL (szF left f) t
theorem szF_le {left : Int} {f : Feat} (h : 0 ≤ szF left f) : szF left f ≤ left ∧ (f.2.2.2.1.size : Int) ≤ left ∧ (f.2.2.2.2.length : Int) ≤ left := by
  unfold szF at h ⊢
  split at h
  · omega
  · split at h
    · omega
    · next h1 h2 => rw [if_neg h1, if_neg h2]; omega
theorem szL_le {left : Int} {l : List Feat} (h : 0 ≤ szL left l) : szL left l ≤ left ∧ ∀ f ∈ l, (f.2.2.2.1.size : Int) ≤ left ∧ (f.2.2.2.2.length : Int) ≤ left := by
  induction l generalizing left with
  | nil => exact ⟨Int.le_refl _, fun f hf => by cases hf⟩
  | cons g t ih =>
    unfold szL at h ⊢
    split at h
    · omega
    · next hz =>
      rw [if_neg hz]
      have h1 := szF_le (left := left) (f := g) (by omega)
      obtain ⟨h2, h3⟩ := ih h
      refine ⟨by omega, fun f hf => ?_⟩
      rw [List.mem_cons] at hf
      rcases hf with rfl | hf
      · exact h1.2
      · have := h3 f hf; omega
/-- The weights of the first j are known. -/
theorem szL_take {left z : Int} {l : List Feat} {j : Nat} {f : Feat} (hf : l[j]? = some f) (h : szL left (l.take j) = z) (hz : 0 ≤ z) : szL left (l.take (j + 1)) = if szF z f < 0 then -1 else szF z f := by
  induction l generalizing left j with
  | nil => simp at hf
  | cons g t ih =>
    cases j with
    | zero =>
      simp only [List.getElem?_cons_zero, Option.some.injEq] at hf
      subst hf
      simp only [List.take_zero, szL] at h
      subst h
      simp only [List.take_succ_cons, List.take_zero, szL]
    | succ j =>
      simp only [List.take_succ_cons, szL] at h ⊢
      split at h
      · omega
      · next hn => rw [if_neg hn]; exact ih (by simpa using hf) h
theorem szL_bad {left : Int} {l : List Feat} {j : Nat} (h : szL left (l.take j) < 0) (hl : 0 ≤ left) : szL left l < 0 := by
  induction l generalizing left j with
  | nil => simp only [List.take_nil] at h; exact h
  | cons g t ih =>
    cases j with
    | zero => simp only [List.take_zero, szL] at h; omega
    | succ j =>
      simp only [List.take_succ_cons, szL] at h ⊢
      split at h
      · next hn => rw [if_pos hn]; omega
      · next hn => rw [if_neg hn]; exact ih h (by omega)
set_option maxHeartbeats 1000000 in
theorem szFeature_is (a k r : Int) (s : ByteArray) (A : Option Addr) (c : Nat) (ps : List (Int × Int)) (left z : Int) (w : World) (h0 : 0 ≤ left) (h1 : left ≤ 1048576) (hm : s.size ≤ maxLen) (hp : ps.length ≤ 9223372036854775807) (hz : szF left (a, k, r, s, ps) = z) :
    Calls Tryz.prog 25 #[FtV a k r s A ps.length c, .int .i64 left] w fun e w' => e = .returned (.int .i64 z) ∧ Below w.heap.size w w' := by
  have HV := Lib.hid (Vars.of1 w (FtC a k r s A ps.length c) 54)
  unfold maxLen at hm
  unfold szF at hz
  dsimp only at hz
  go_enter Tryz.func25, Tryz.ntmps25
  by_cases hs : left < (s.size : Int)
  · rw [if_pos hs] at hz
    subst hz
    have hs' : left - (s.size : Int) < 0 := by omega
    go_wp2
    go_ret
    exact ⟨rfl, HV.out.1⟩
  · rw [if_neg hs] at hz
    have hs' : ¬ left - (s.size : Int) < 0 := by omega
    obtain ⟨m, hm2⟩ : ∃ m, left - (s.size : Int) = m := ⟨_, rfl⟩
    rw [hm2] at hz hs'
    have hm0 : 0 ≤ m := by omega
    have hm1 : m ≤ 1048576 := by omega
    by_cases hq : m < (ps.length : Int)
    · rw [if_pos hq] at hz
      subst hz
      go_wp2_with fail
      refine (szPointS_no A ps.length c m _ hq hm0 hp).mono ?_
      rintro e w1 ⟨rfl, rfl⟩
      go_wp2
      go_ret
      exact ⟨rfl, HV.out.1⟩
    · rw [if_neg hq] at hz
      have hq' : ¬ m - (ps.length : Int) < 0 := by omega
      go_wp2_with fail
      refine (szPointS_yes A ps.length c m _ (by omega) hm1).mono ?_
      rintro e w1 ⟨rfl, rfl⟩
      go_wp2
      go_ret
      exact ⟨by rw [← hz]; rfl, HV.out.1⟩
def szS (left : Int) (l : List Feat) : Int := if left < (l.length : Int) then -1 else szL (left - l.length) l
theorem szS_ok {left : Int} {l : List Feat} (h : 0 ≤ szS left l) : (l.length : Int) ≤ left ∧ szS left l ≤ left ∧ ∀ f ∈ l, (f.2.2.2.1.size : Int) ≤ left ∧ (f.2.2.2.2.length : Int) ≤ left := by
  unfold szS at h ⊢
  split at h
  · omega
  · next hn =>
    rw [if_neg hn]
    obtain ⟨h1, h2⟩ := szL_le h
    refine ⟨by omega, by omega, fun f hf => ?_⟩
    have := h2 f hf
    omega
theorem szF_cases (left : Int) (f : Feat) : szF left f = -1 ∨ 0 ≤ szF left f := by
  unfold szF
  split
  · exact .inl rfl
  · split
    · exact .inl rfl
    · next h1 h2 => right; omega
theorem szL_neg {left : Int} {l : List Feat} (h : szL left l < 0) (hl : 0 ≤ left) : szL left l = -1 := by
  induction l generalizing left with
  | nil => simp only [szL] at h; omega
  | cons g t ih =>
    unfold szL at h ⊢
    split
    · rfl
    · next hn => rw [if_neg hn] at h; exact ih h (by omega)
/-- Names and points that a machine holds. -/
def MachF (l : List Feat) : Prop := ∀ (j : Nat) (f : Feat), l[j]? = some f → f.2.2.2.1.size ≤ maxLen ∧ f.2.2.2.2.length ≤ 9223372036854775807
set_option maxRecDepth 100000 in
set_option maxHeartbeats 1000000 in
theorem szFeatureS_is (A : Option Addr) (c : Nat) (l : List Feat) (left z : Int) (w : World) (hs : SeesF w w.heap.size A l) (h0 : 0 ≤ left) (h1 : left ≤ 1048576) (hl : l.length ≤ 9223372036854775807) (hm : MachF l) (hz : szS left l = z) :
    Calls Tryz.prog 34 #[.slice A l.length c, .int .i64 left] w fun e w' => e = .returned (.int .i64 z) ∧ Below w.heap.size w w' := by
  have HS := Lib.hid hs
  have HM := Lib.hid hm
  obtain ⟨n, hn⟩ : ∃ n, l.length = n := ⟨_, rfl⟩
  have HN := Lib.hid hn
  unfold szS at hz
  rw [hn] at hl hz ⊢
  clear hs hm hn
  go_enter Tryz.func34, Tryz.ntmps34
  by_cases hb : left < (n : Int)
  · rw [if_pos hb] at hz
    subst hz
    have hb' : left - (n : Int) < 0 := by omega
    go_wp2
    go_ret
    exact ⟨rfl, Below.refl _ _⟩
  · rw [if_neg hb] at hz
    obtain ⟨m0, hm0⟩ : ∃ m, left - (n : Int) = m := ⟨_, rfl⟩
    rw [hm0] at hz
    have HZ := Lib.hid hz
    have hp0 : 0 ≤ m0 := by omega
    have hp1 : m0 ≤ 1048576 := by omega
    have hp2 : ¬ m0 < 0 := by omega
    clear hz
    go_wp2
    go_loopw [1, 5] (fun v iv wr => ∃ (j : Nat) (m : Int), j ≤ n ∧ iv = .int .i64 j ∧ v = .int .i64 m ∧ 0 ≤ m ∧ m ≤ 1048576 ∧ Hid (szL m0 (l.take j) = m) ∧ Hid (Below w.heap.size w wr)) (fun _ iv _ => n - (intOf iv).toNat)
    case atStart => exact ⟨0, m0, Nat.zero_le _, rfl, rfl, hp0, hp1, Lib.hid rfl, Lib.hid (Below.refl _ _)⟩
    case round =>
      obtain ⟨j, m, hj, rfl, rfl, hq0, hq1, HL, HB⟩ := hrel
      by_cases hlt : j < n
      · have hji : (j : Int) < (n : Int) := by omega
        obtain ⟨⟨a, k, r, s, ps⟩, hf⟩ : ∃ f, l[j]? = some f := ⟨_, List.getElem?_eq_getElem (by rw [HN.out]; exact hlt)⟩
        obtain ⟨b, off, A', c', rfl, hbl, -, -, q0, q1, q2, q3, q4⟩ := (HS.out.below HB.out).at_ hf
        obtain ⟨g1, g2⟩ := HM.out j _ hf
        have HT := Lib.hid (szL_take hf HL.out hq0)
        clear hf
        obtain ⟨y, hy⟩ : ∃ y, szF m (a, k, r, s, ps) = y := ⟨_, rfl⟩
        have hyc := szF_cases m (a, k, r, s, ps)
        have hyl : 0 ≤ y → y ≤ m := fun h => by rw [← hy] at h ⊢; exact (szF_le h).1
        rw [hy] at HT hyc
        have HY := Lib.hid hy
        clear hy
        go_wp2_with fail
        refine (szFeature_is a k r s A' c' ps m y _ hq0 hq1 g1 g2 HY.out).mono ?_
        rintro e w1 ⟨rfl, hb1⟩
        have HB1 := Lib.hid (HB.out.trans (hb1.mono HB.out.size))
        clear hb1 q0 q1 q2 q3 q4
        rcases hyc with rfl | hy0
        · have HE : Hid (z = -1) := Lib.hid (by rw [← HZ.out]; exact szL_neg (szL_bad (j := j + 1) (by rw [HT.out]; decide) hp0) hp0)
          go_wp2
          go_ret
          exact ⟨by rw [HE.out]; rfl, HB1.out⟩
        · have hyn : ¬ y < 0 := by omega
          have hym := hyl hy0
          go_wp2
          go_roundw
          case rel => exact ⟨j + 1, y, by omega, by go_num, rfl, hy0, by omega, Lib.hid (by rw [HT.out, if_neg (by omega)]), HB1⟩
          case measure => simp [intOf]; omega
      · obtain rfl : j = n := by omega
        have hji : ¬ (j : Int) < (j : Int) := by omega
        have HE : Hid (m = z) := Lib.hid (by rw [← HL.out, ← HZ.out, List.take_of_length_le (by rw [HN.out]; exact Nat.le_refl _)])
        go_wp2
        go_ret
        exact ⟨by rw [← HE.out]; rfl, HB.out⟩
set_option maxRecDepth 100000 in
set_option maxHeartbeats 1000000 in
theorem eqFeatureS_yes (A A' : Option Addr) (c c' : Nat) (l : List Feat) (w : World) (hs : SeesF w w.heap.size A l) (hs' : SeesF w w.heap.size A' l) (hl : l.length ≤ 1099511627776) (hp : FewP l) :
    Calls Tryz.prog 38 #[.slice A l.length c, .slice A' l.length c'] w fun e w' => e = .returned (.bool true) ∧ Below w.heap.size w w' := by
  have HS := Lib.hid hs
  have HS' := Lib.hid hs'
  have HP := Lib.hid hp
  obtain ⟨n, hn⟩ : ∃ n, l.length = n := ⟨_, rfl⟩
  have HN := Lib.hid hn
  rw [hn] at hl ⊢
  clear hs hs' hp hn
  go_enter Tryz.func38, Tryz.ntmps38
  go_wp2
  go_loopw [5] (fun iv wr => ∃ j : Nat, j ≤ n ∧ iv = .int .i64 j ∧ Hid (Below w.heap.size w wr)) (fun iv _ => n - (intOf iv).toNat)
  case atStart => exact ⟨0, Nat.zero_le _, rfl, Lib.hid (Below.refl _ _)⟩
  case round =>
    obtain ⟨j, hj, rfl, HB⟩ := hrel
    by_cases hlt : j < n
    · have hji : (j : Int) < (n : Int) := by omega
      obtain ⟨⟨a, k, r, s, ps⟩, hf⟩ : ∃ f, l[j]? = some f := ⟨_, List.getElem?_eq_getElem (by rw [HN.out]; exact hlt)⟩
      obtain ⟨b, off, A1, c1, rfl, hbl, h1, -, q0, q1, q2, q3, q4⟩ := HS.out.at_ hf
      obtain ⟨b2, off2, A2, c2, rfl, hbl2, h2, -, p0, p1, p2, p3, p4⟩ := HS'.out.at_ hf
      have hpl : ps.length ≤ 1099511627776 := Nat.le_trans (HP.out j _ hf) (by decide)
      have HB0 := Lib.hid HB.out.drew
      have HQ : Hid (∀ W, Below w.heap.size w W → W.cell? ⟨b, off + j * 5, none⟩ = some (.int .i64 a) ∧ W.cell? ⟨b, off + j * 5 + 1, none⟩ = some (.int .i64 k) ∧ W.cell? ⟨b, off + j * 5 + 2, none⟩ = some (.int .i64 r) ∧ W.cell? ⟨b, off + j * 5 + 3, none⟩ = some (.string s) ∧ W.cell? ⟨b, off + j * 5 + 4, none⟩ = some (.slice A1 ps.length c1) ∧ W.cell? ⟨b2, off2 + j * 5, none⟩ = some (.int .i64 a) ∧ W.cell? ⟨b2, off2 + j * 5 + 1, none⟩ = some (.int .i64 k) ∧ W.cell? ⟨b2, off2 + j * 5 + 2, none⟩ = some (.int .i64 r) ∧ W.cell? ⟨b2, off2 + j * 5 + 3, none⟩ = some (.string s) ∧ W.cell? ⟨b2, off2 + j * 5 + 4, none⟩ = some (.slice A2 ps.length c2)) := Lib.hid fun W hW => ⟨(hW.cell (p := ⟨b, off + j * 5, none⟩) hbl).trans q0, (hW.cell (p := ⟨b, off + j * 5 + 1, none⟩) hbl).trans q1, (hW.cell (p := ⟨b, off + j * 5 + 2, none⟩) hbl).trans q2, (hW.cell (p := ⟨b, off + j * 5 + 3, none⟩) hbl).trans q3, (hW.cell (p := ⟨b, off + j * 5 + 4, none⟩) hbl).trans q4, (hW.cell (p := ⟨b2, off2 + j * 5, none⟩) hbl2).trans p0, (hW.cell (p := ⟨b2, off2 + j * 5 + 1, none⟩) hbl2).trans p1, (hW.cell (p := ⟨b2, off2 + j * 5 + 2, none⟩) hbl2).trans p2, (hW.cell (p := ⟨b2, off2 + j * 5 + 3, none⟩) hbl2).trans p3, (hW.cell (p := ⟨b2, off2 + j * 5 + 4, none⟩) hbl2).trans p4⟩
      have H1 := Lib.hid ((h1.below HB.out.drew).mono HB.out.drew.size)
      have H2 := Lib.hid ((h2.below HB.out.drew).mono HB.out.drew.size)
      clear hf h1 h2 q0 q1 q2 q3 q4 p0 p1 p2 p3 p4
      go_wp2_with fail
      go_region_held3 (fun w' => w'.cell? ⟨b, off + j * 5, none⟩ = some (.int .i64 a) ∧ w'.cell? ⟨b, off + j * 5 + 1, none⟩ = some (.int .i64 k) ∧ w'.cell? ⟨b, off + j * 5 + 2, none⟩ = some (.int .i64 r) ∧ w'.cell? ⟨b, off + j * 5 + 3, none⟩ = some (.string s) ∧ w'.cell? ⟨b, off + j * 5 + 4, none⟩ = some (.slice A1 ps.length c1) ∧ w'.cell? ⟨b2, off2 + j * 5, none⟩ = some (.int .i64 a) ∧ w'.cell? ⟨b2, off2 + j * 5 + 1, none⟩ = some (.int .i64 k) ∧ w'.cell? ⟨b2, off2 + j * 5 + 2, none⟩ = some (.int .i64 r) ∧ w'.cell? ⟨b2, off2 + j * 5 + 3, none⟩ = some (.string s) ∧ w'.cell? ⟨b2, off2 + j * 5 + 4, none⟩ = some (.slice A2 ps.length c2)) (first | with_reducible exact HQ.out _ HB0.out | with_reducible exact HQ.out _ HB9.out | fail) (first
        | (go_at_call 30; (with_reducible refine (eqFeature_yes a k r s A1 A2 c1 c2 ps ps _ H1.out H2.out rfl hpl).mono ?_); rintro e w9 ⟨rfl, hb9⟩; have HB9 := Lib.hid (HB0.out.trans (hb9.mono HB0.out.size)))
        | fail)
      all_goals
        go_wp2
        go_roundw
        case rel => exact ⟨j + 1, by omega, by go_num, HB9⟩
        case measure => simp [intOf]; omega
    · obtain rfl : j = n := by omega
      have hji : ¬ (j : Int) < (j : Int) := by omega
      go_wp2
      go_ret
      exact ⟨rfl, HB.out⟩
end Go.Proofs.YtbnjaaegbmhopaaGreatDoor
