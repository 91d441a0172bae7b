/- Simpler lines: the model's recursion. -/
import Derived.Test.YtpbmngbigdaklaaDoorSimpC
import Derived.Test.YtpbmngbigdaklaaDoorHelpE
import Derived.Test.YtpbmngbigdaklaaDoorMarkF
import Derived.Test.YtpbmngbigdaklaaDoorLineS1
import Derived.Deep.RegionHeld3
import Derived.Deep.LoopGhost
namespace Go.Proofs.YtpbmngbigdaklaaDoor
open Go.ChangeShapes Go.WideShapes Go.ChangeAt Go.RowKit
set_option linter.unusedVariables false

def encB (x : Bool) : List Value := [.bool x]
theorem elB : IsEl 1 encB := ⟨by decide, fun x => ⟨rfl, fun u hu => by simp only [encB, List.mem_cons, List.not_mem_nil, or_false] at hu; subst hu; rfl⟩⟩
open Classical in
noncomputable def kB (l : List (Int × Int)) (n : Int) (i k j : Nat) : Bool := decide (Kept l n i k j)
open Classical in
theorem kB_iff {l : List (Int × Int)} {n : Int} {i k j : Nat} : kB l n i k j = true ↔ Kept l n i k j := by unfold kB; exact decide_eq_true_iff
theorem kB_none {l : List (Int × Int)} {n : Int} {i k : Nat} (h : bestV l n i k < 0) (j : Nat) : kB l n i k j = false := by
  cases hk : kB l n i k j
  · rfl
  · exact absurd (kB_iff.1 hk) (kept_none h)
theorem kB_step {l : List (Int × Int)} {n : Int} {i k b : Nat} (h : bestV l n i k = (b : Int)) (j : Nat) : kB l n i k j = (decide (j = b) || kB l n i b j || kB l n b k j) := by
  rw [Bool.eq_iff_iff, kB_iff, kept_iff h]
  simp only [Bool.or_eq_true, decide_eq_true_eq, kB_iff, or_assoc]
/-- What a call makes of the flags. -/
def Flags (f : Nat → Bool) (K K' : List Bool) : Prop := K'.length = K.length ∧ ∀ (j : Nat) b, K[j]? = some b → K'[j]? = some (b || f j)
theorem Flags.none {K : List Bool} {f : Nat → Bool} (h : ∀ j, f j = false) : Flags f K K := ⟨rfl, fun j b hb => by rw [h, Bool.or_false]; exact hb⟩
theorem Flags.set {K : List Bool} (b : Nat) : Flags (fun j => decide (j = b)) K (K.set b true) := ⟨List.length_set, fun j x hx => by
  rw [List.getElem?_set]
  have hl := (List.getElem?_eq_some_iff.1 hx).1
  split
  · next e => subst e; simp [hl]
  · next e => rw [hx]; simp [Ne.symm e]⟩
theorem Flags.trans {K K' K'' : List Bool} {f g : Nat → Bool} (h : Flags f K K') (h' : Flags g K' K'') : Flags (fun j => f j || g j) K K'' := ⟨h'.1.trans h.1, fun j b hb => by
  have := h'.2 j _ (h.2 j b hb)
  rw [Bool.or_assoc] at this
  exact this⟩
theorem Flags.congr {K K' : List Bool} {f g : Nat → Bool} (h : Flags f K K') (e : ∀ j, f j = g j) : Flags g K K' := ⟨h.1, fun j b hb => by rw [← e]; exact h.2 j b hb⟩
set_option maxRecDepth 100000 in
set_option maxHeartbeats 8000000 in
theorem sBetween_any (l : List (Int × Int)) (n : Int) (A : Option Addr) (c g ck : Nat) (hp : AllPt l) (hl : l.length ≤ 10) (hn : 0 ≤ n ∧ n ≤ 200) : ∀ (m i k : Nat) (K : List Bool) (w : World), k - i ≤ m → i < k → k < l.length → K.length = l.length →
    SeesE 2 encPoint w g A l → RowE 1 encB w g 4 ck K →
    Calls Tryd.prog 41 #[.slice A l.length c, .int .i64 (i : Int), .int .i64 (k : Int), .int .i64 n, .slice (some ⟨g, 0, none⟩) l.length ck] w fun e w' =>
      ∃ K', e = .returned (.slice (some ⟨g, 0, none⟩) l.length ck) ∧ Flags (kB l n i k) K K' ∧ RowE 1 encB w' g 4 ck K' ∧ Within g (g + 1) w w' := by
  intro m
  induction m with
  | zero => intro i k K w hm hik; omega
  | succ m ih =>
  intro i k K w hm hik hkl hK hs hr
  have HS := Lib.hid hs; have HR := Lib.hid hr; have HIH := Lib.hid ih
  have hgw : g < w.heap.size := hr.lt
  clear hs hr ih
  go_enter Tryd.func41, Tryd.ntmps41
  go_wp2
  go_loopw [11, 12, 13, 14, 15, 16] (fun s11 s12 s13 s14 _ _ wr => ∃ t : Nat, i + 1 + t ≤ k ∧ s14 = .int .i64 ((i + 1 + t : Nat) : Int) ∧ s11 = .int .i64 (bestS l n i k t).1 ∧ s12 = .int .i64 (bestS l n i k t).2.1 ∧ s13 = .int .i64 (bestS l n i k t).2.2 ∧ Hid (Below w.heap.size w wr)) (fun _ _ _ s14 _ _ _ => k - (intOf s14).toNat)
  case atStart => exact ⟨0, by omega, by go_num, rfl, rfl, rfl, Lib.hid (Below.refl _ _)⟩
  case round =>
    obtain ⟨t, ht, rfl, rfl, rfl, rfl, HB⟩ := hrel
    obtain ⟨j, hj⟩ : ∃ j, i + 1 + t = j := ⟨_, rfl⟩
    have HJ := Lib.hid hj
    have hjk : j ≤ k := by omega
    have hij : i < j := by omega
    have hbd := bestS_bd hp (n := n) (i := i) (k := k) (by omega) hkl t (by omega)
    have hrg := bestS_range l n i k t
    rw [hj]
    obtain ⟨⟨B0, B1, B2⟩, hB⟩ : ∃ s, bestS l n i k t = s := ⟨_, rfl⟩
    have HBs := Lib.hid hB
    rw [hB] at hbd hrg ⊢
    dsimp only at hbd hrg ⊢
    clear hB
    by_cases hlt : j < k
    · have hlt' : (j : Int) < (k : Int) := by omega
      have hil : (i : Int) < (l.length : Int) := by omega
      have hkl' : (k : Int) < (l.length : Int) := by omega
      have hjl : (j : Int) < (l.length : Int) := by omega
      obtain ⟨⟨a, b⟩, hpi⟩ : ∃ p, l[i]? = some p := ⟨_, List.getElem?_eq_getElem (by omega)⟩
      obtain ⟨⟨c1, d1⟩, hpk⟩ : ∃ p, l[k]? = some p := ⟨_, List.getElem?_eq_getElem hkl⟩
      obtain ⟨⟨x, y⟩, hpj⟩ : ∃ p, l[j]? = some p := ⟨_, List.getElem?_eq_getElem (by omega)⟩
      have hSr := HS.out.below (HB.out.mono (Nat.le_of_lt hgw))
      obtain ⟨bb, off, rfl, hbl, -⟩ := hSr i _ hpi
      obtain ⟨p0, p1⟩ := cellsPoint hSr hpi
      obtain ⟨p2, p3⟩ := cellsPoint hSr hpk
      obtain ⟨p4, p5⟩ := cellsPoint hSr hpj
      have v1 := hp i (by omega); have v2 := hp k hkl; have v3 := hp j (by omega)
      obtain ⟨⟨u, v⟩, hf⟩ : ∃ f, farD a b c1 d1 x y = f := ⟨_, rfl⟩
      have hfj : farJ l i k j = (u, v) := by unfold farJ; rw [ptA_get hpi, ptA_get hpk, ptA_get hpj]; exact hf
      rw [ptA_get hpi] at v1; rw [ptA_get hpk] at v2; rw [ptA_get hpj] at v3
      have hfb := far_bd (isP_bd v1) (isP_bd v2) (isP_bd v3)
      rw [hf] at hfb
      dsimp only at hfb v1 v2 v3
      have HF := Lib.hid hf
      have HQ : Hid (∀ W, Below wr.heap.size wr W → W.cell? ⟨bb, off + i * 2, none⟩ = some (.int .i64 a) ∧ W.cell? ⟨bb, off + i * 2 + 1, none⟩ = some (.int .i64 b) ∧ W.cell? ⟨bb, off + k * 2, none⟩ = some (.int .i64 c1) ∧ W.cell? ⟨bb, off + k * 2 + 1, none⟩ = some (.int .i64 d1) ∧ W.cell? ⟨bb, off + j * 2, none⟩ = some (.int .i64 x) ∧ W.cell? ⟨bb, off + j * 2 + 1, none⟩ = some (.int .i64 y)) := Lib.hid fun W hW => by
        have q := fun o => hW.cell (p := ⟨bb, o, none⟩) (Nat.lt_of_lt_of_le hbl (Nat.le_trans (Nat.le_of_lt hgw) HB.out.size))
        exact ⟨(q _).trans p0, (q _).trans p1, (q _).trans p2, (q _).trans p3, (q _).trans p4, (q _).trans p5⟩
      have HQ0 := Lib.hid (HQ.out _ (Below.refl _ _)); have HQd := Lib.hid (HQ.out _ (Below.refl _ _).drew)
      have HBd := Lib.hid HB.out.drew
      have g1 := mul_le2 ⟨hfb.1.1, hfb.1.2⟩ (v := B2) (b := 80000) ⟨by omega, hbd.2.2⟩
      have g2 := mul_le2 ⟨hbd.1.1, hbd.1.2⟩ (v := v) (b := 80000) ⟨by omega, hfb.2.2⟩
      have g3 := mul_le2 hn hn
      have g4 := mul_le2 g3 (v := v) (b := 80000) ⟨by omega, hfb.2.2⟩
      have HN : Hid (bestS l n i k (t + 1) = if ¬ (u ≤ n * n * v) ∧ (B0 < 0 ∨ B1 * v < u * B2) then ((j : Int), u, v) else (B0, B1, B2)) := Lib.hid (by
        rw [bestS, HBs.out, HJ.out, hfj]
        simp only [nearD, decide_eq_false_iff_not])
      clear hf hfj p0 p1 p2 p3 p4 p5 hpi hpk hpj hSr
      go_upto_region 7 with fail
      go_cut [15, 16] (fun s15 s16 wx => s15 = .int .i64 u ∧ s16 = .int .i64 v ∧ Hid (Below w.heap.size w wx))
      case first =>
        go_region_held3 (fun w' => w'.cell? ⟨bb, off + i * 2, none⟩ = some (.int .i64 a) ∧ w'.cell? ⟨bb, off + i * 2 + 1, none⟩ = some (.int .i64 b) ∧ w'.cell? ⟨bb, off + k * 2, none⟩ = some (.int .i64 c1) ∧ w'.cell? ⟨bb, off + k * 2 + 1, none⟩ = some (.int .i64 d1) ∧ w'.cell? ⟨bb, off + j * 2, none⟩ = some (.int .i64 x) ∧ w'.cell? ⟨bb, off + j * 2 + 1, none⟩ = some (.int .i64 y))
          (first | with_reducible exact HQ0.out | with_reducible exact HQd.out | with_reducible exact hQ1.out) (first
          | (go_at_call 63; (with_reducible refine (sFar_is a b c1 d1 x y u v _ v1 v2 v3 HF.out).mono ?_); rintro e w9 ⟨rfl, hb9⟩; have hQ1 := Lib.hid (HQ.out _ ((Below.refl _ _).drew.trans hb9)); have HB9 := Lib.hid (HBd.out.trans (hb9.mono HBd.out.size))) | fail)
        all_goals
          go_wp2_with fail
          go_meet
          exact ⟨rfl, rfl, HB9⟩
      case rest =>
      obtain ⟨rfl, rfl, HB9⟩ := hcut
      clear HQ HQ0 HQd HBd HB HF
      by_cases hq : u ≤ n * n * v
      · have HN2 : Hid (bestS l n i k (t + 1) = (B0, B1, B2)) := Lib.hid (by rw [HN.out, if_neg (fun h => h.1 hq)])
        go_wp2
        go_roundw
        case rel => exact ⟨t + 1, by omega, by have := HJ.out; go_num, by rw [HN2.out], by rw [HN2.out], by rw [HN2.out], HB9⟩
        case measure => simp [intOf]; omega
      · by_cases hb0 : B0 < 0
        · have HN2 : Hid (bestS l n i k (t + 1) = ((j : Int), u, v)) := Lib.hid (by rw [HN.out, if_pos ⟨hq, .inl hb0⟩])
          have hq' : n * n * v < u := by omega
          go_wp2
          go_roundw
          case rel => exact ⟨t + 1, by omega, by have := HJ.out; go_num, by rw [HN2.out], by rw [HN2.out], by rw [HN2.out], HB9⟩
          case measure => simp [intOf]; omega
        · have hq' : n * n * v < u := by omega
          by_cases hgt : B1 * v < u * B2
          · have HN2 : Hid (bestS l n i k (t + 1) = ((j : Int), u, v)) := Lib.hid (by rw [HN.out, if_pos ⟨hq, .inr hgt⟩])
            go_wp2
            go_roundw
            case rel => exact ⟨t + 1, by omega, by have := HJ.out; go_num, by rw [HN2.out], by rw [HN2.out], by rw [HN2.out], HB9⟩
            case measure => simp [intOf]; omega
          · have HN2 : Hid (bestS l n i k (t + 1) = (B0, B1, B2)) := Lib.hid (by rw [HN.out, if_neg (fun h => h.2.elim hb0 hgt)])
            go_wp2
            go_roundw
            case rel => exact ⟨t + 1, by omega, by have := HJ.out; go_num, by rw [HN2.out], by rw [HN2.out], by rw [HN2.out], HB9⟩
            case measure => simp [intOf]; omega
    · obtain rfl : j = k := by omega
      have hlt' : ¬ (j : Int) < (j : Int) := by omega
      have hV : bestV l n i j = B0 := by unfold bestV; rw [show j - (i + 1) = t by omega, HBs.out]
      have HRr := Lib.hid (HR.out.below HB.out hgw)
      have HSr := Lib.hid (HS.out.below (HB.out.mono (Nat.le_of_lt hgw)))
      clear hj
      by_cases hb0 : B0 < 0
      · have HFl := Lib.hid (Flags.none (K := K) (fun q => kB_none (l := l) (n := n) (i := i) (k := j) (by rw [hV]; exact hb0) q))
        clear hV
        go_wp2
        go_ret
        exact ⟨rfl, K, HFl.out, HRr.out, Within.of _ _ HB.out⟩
      · obtain ⟨b, rfl⟩ : ∃ b : Nat, B0 = b := ⟨B0.toNat, by omega⟩
        have hbr := bestV_range (l := l) (n := n) (i := i) (k := j) (by rw [hV]; omega)
        rw [hV] at hbr
        have hib : i < b := by omega
        have hbj : b < j := by omega
        have hbl : (b : Int) < (l.length : Int) := by omega
        have hb0' : ¬ (b : Int) < 0 := by omega
        obtain ⟨q, hq⟩ : ∃ q, K[b]? = some q := ⟨_, List.getElem?_eq_getElem (by omega)⟩
        have kc := HRr.out.cell elB hq (k := 0) rfl
        have kf := HRr.out.frozen (b * 1 + 0)
        have HR2 := Lib.hid (HRr.out.put elB hq (k := 0) (x' := true) (v := .bool true) (by decide) rfl)
        have HS2 := Lib.hid (HSr.out.below ((Below.refl g wr).setCell (Nat.le_refl g) (p := ⟨g, b * 1 + 0, none⟩) (.bool true)))
        have HW2 := Lib.hid ((Within.of g (g + 1) HB.out).trans (Within.cell (w := wr) (Nat.le_refl g) (Nat.lt_succ_self g) (b * 1 + 0) (.bool true)))
        have HFl := Lib.hid (Flags.set (K := K) b)
        have HV := Lib.hid hV
        have hKl : (K.set b true).length = l.length := by rw [List.length_set]; exact hK
        simp only [Nat.mul_one, Nat.add_zero] at kc kf HR2 HS2 HW2
        clear hq hV HRr HSr
        go_wp2_with fail
        have hbj' : b < l.length := by omega
        refine (HIH.out i b _ _ (by omega) hib hbj' hKl HS2.out HR2.out).mono ?_
        rintro e w1 ⟨K1, rfl, hf1, hr1, hw1⟩
        have HF1 := Lib.hid hf1; have HR1 := Lib.hid hr1
        have HS1 := Lib.hid (HS2.out.below (hw1.below (Nat.le_refl g) (Nat.le_of_lt HR2.out.lt)))
        have HW1 := Lib.hid (HW2.out.trans hw1)
        have hK1 : K1.length = l.length := by rw [hf1.1]; exact hKl
        clear hf1 hr1 hw1
        go_wp2_with fail
        refine (HIH.out b j _ _ (by omega) hbj hkl hK1 HS1.out HR1.out).mono ?_
        rintro e w2 ⟨K2, rfl, hf2, hr2, hw2⟩
        have HF2 := Lib.hid hf2; have HR2' := Lib.hid hr2
        have HW2' := Lib.hid (HW1.out.trans hw2)
        clear hf2 hr2 hw2
        go_wp2
        go_ret
        exact ⟨K2, rfl, ((HFl.out.trans HF1.out).trans HF2.out).congr fun q => (kB_step HV.out q).symm, HR2'.out, HW2'.out⟩
end Go.Proofs.YtpbmngbigdaklaaDoor
