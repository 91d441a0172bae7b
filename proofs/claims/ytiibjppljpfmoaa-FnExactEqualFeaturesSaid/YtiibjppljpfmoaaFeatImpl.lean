/- Features: IsName, FindFeature, EqualFeatures, EqualSources of package impl. -/
import Derived.Test.YtiibjppljpfmoaaFeatE
import Derived.LoopTactic
import Derived.Shelf.Abstract
import Derived.Deep.RegionHeld3
import Derived.Deep.DeepCutAuto
namespace Go.Proofs.Ytiibjppljpfmoaa
open Go.ChangeShapes Go.WideShapes Go.ChangeAt Go.RowKit
set_option linter.unusedVariables false

theorem all_no {s : ByteArray} {k : Nat} (h : k < s.size) (hc : s[k].toNat < 97 ∨ 122 < s[k].toNat) : s.data.toList.all lowB = false := by
  rw [List.all_eq_false]
  refine ⟨s[k], name_mem s k h, ?_⟩
  simp only [lowB, Bool.and_eq_true, decide_eq_true_eq]
  omega
theorem all_end {s : ByteArray} (h : ∀ c ∈ s.data.toList.take s.size, lowB c = true) : s.data.toList.all lowB = true := by
  have hl : s.data.toList.length = s.size := Array.length_toList
  rw [← hl, List.take_length] at h
  exact List.all_eq_true.2 h
set_option maxRecDepth 100000 in
theorem areLetters_is (s : ByteArray) (z : Bool) (w : World) (hz : s.data.toList.all lowB = z) :
    Calls Try.prog 29 #[.string s] w fun e w' => e = .returned (.bool z) ∧ Below w.heap.size w w' := by
  have HZ := Lib.hid hz
  clear hz
  have HB := Lib.hid (fun p : Nat => (show Below w.heap.size w (w.iter s p) from (Below.refl _ _).alloc (Nat.le_refl _) _))
  go_enter Try.func29, Try.ntmps29
  go_wp2
  go_loopg [] s.size (fun g wr => ∃ pos : Nat, pos + g = s.size ∧ wr = w.iter s pos ∧ Hid (∀ c ∈ s.data.toList.take pos, lowB c = true))
  case atStart => exact ⟨0, by omega, rfl, Lib.hid (by simp)⟩
  case round =>
    obtain ⟨pos, hg, rfl, HT⟩ := hrel
    by_cases hp : pos < s.size
    · by_cases ha : (s[pos]'hp).toNat < 128
      · have hnx : ∀ ty, (Instr.next (.pointer (some ⟨w.heap.size, 0, none⟩)) true ty).run Try.prog (w.iter s pos) = _ := fun ty => run_next_ascii w s pos ty hp ha
        by_cases h1 : (s[pos]'hp).toNat < 97
        · have h1' : (((s[pos]'hp).toNat : Nat) : Int) < 97 := by omega
          obtain rfl : false = z := (all_no hp (.inl h1)).symm.trans HZ.out
          clear h1
          go_wp2
          go_ret
          exact ⟨rfl, HB.out _⟩
        · have h1' : ¬ (((s[pos]'hp).toNat : Nat) : Int) < 97 := by omega
          by_cases h2 : 122 < (s[pos]'hp).toNat
          · have h2' : (122 : Int) < (((s[pos]'hp).toNat : Nat) : Int) := by omega
            obtain rfl : false = z := (all_no hp (.inr h2)).symm.trans HZ.out
            clear h1 h2
            go_wp2
            go_ret
            exact ⟨rfl, HB.out _⟩
          · have h2' : ¬ (122 : Int) < (((s[pos]'hp).toNat : Nat) : Int) := by omega
            have HN := Lib.hid (name_step hp HT.out (by omega) (by omega))
            clear h1 h2
            go_wp2
            go_roundg (s.size - (pos + 1))
            case measure => omega
            case rel => exact ⟨pos + 1, by omega, rfl, HN⟩
      · have hnx : ∀ ty, (Instr.next (.pointer (some ⟨w.heap.size, 0, none⟩)) true ty).run Try.prog (w.iter s pos) = _ := fun ty => run_next_any w s pos ty hp
        have hd := (decode_high s pos hp (by omega)).1
        have hd2 := decode_le s pos
        obtain rfl : false = z := (all_no hp (.inr (by omega))).symm.trans HZ.out
        obtain ⟨r, hr⟩ : ∃ r, (Utf8.decode s pos).1 = r := ⟨_, rfl⟩
        rw [hr] at hd hd2 hnx
        have h1' : ¬ ((r : Nat) : Int) < 97 := by omega
        have h2' : (122 : Int) < ((r : Nat) : Int) := by omega
        clear hr
        go_wp2
        go_ret
        exact ⟨rfl, HB.out _⟩
    · have hnx : ∀ ty, (Instr.next (.pointer (some ⟨w.heap.size, 0, none⟩)) true ty).run Try.prog (w.iter s pos) = _ := fun ty => run_next_end w s pos ty hp
      obtain rfl : pos = s.size := by omega
      obtain rfl : true = z := (all_end HT.out).symm.trans HZ.out
      go_wp2
      go_ret
      exact ⟨rfl, HB.out _⟩
set_option maxRecDepth 100000 in
theorem isName_is (s : ByteArray) (z : Bool) (w : World) (hm : s.size ≤ maxLen) (hz : nameV s = z) :
    Calls Try.prog 10 #[.string s] w fun e w' => e = .returned (.bool z) ∧ Below w.heap.size w w' := by
  unfold maxLen at hm
  obtain ⟨p, hp⟩ : ∃ p, inB (s.size : Int) 1 8 = p := ⟨_, rfl⟩
  obtain ⟨q, hq⟩ : ∃ q, s.data.toList.all lowB = q := ⟨_, rfl⟩
  obtain rfl : (p && q) = z := by rw [← hz, ← hp, ← hq]; simp [nameV, Bool.and_comm]
  have HP := Lib.hid hp
  have HQ := Lib.hid hq
  clear hp hq hz
  go_enter Try.func10, Try.ntmps10
  cases p
  all_goals
    go_wp2_with (first
      | (go_at_call 28; refine (in_is _ _ _ _ _ HP.out).mono ?_; rintro e w1 ⟨rfl, rfl⟩)
      | (go_at_call 29; refine (areLetters_is s q _ HQ.out).mono ?_; rintro e w1 ⟨rfl, hb1⟩))
    go_ret
    first | exact ⟨rfl, hb1⟩ | exact ⟨rfl, Below.refl _ _⟩
set_option maxRecDepth 100000 in
theorem findBy_is (a k r : Int) (s : ByteArray) (A : Option Addr) (n c : Nat) (i : Int) (B : Nat) (w : World) (hB : B < w.heap.size) (hi : w.cell? ⟨B, 0, none⟩ = some (.int .i64 i)) (z : Bool) (hz : decide (a = i) = z) :
    Calls Try.prog 38 #[FtV a k r s A n c, .pointer (some ⟨B, 0, none⟩)] w fun e w' => e = .returned (.bool z) ∧ Below w.heap.size w w' := by
  have hne : ¬ B = w.heap.size := by omega
  have HB := Lib.hid (show Below w.heap.size w (w.alloc (.cells (FtC a k r s A n c) 30)) from (Below.refl _ _).alloc (Nat.le_refl _) _)
  by_cases he : a = i
  · obtain rfl : true = z := by rw [← hz]; exact (decide_eq_true he).symm
    subst he
    clear hz
    go_enter Try.func38, Try.ntmps38
    go_wp2
    go_ret
    exact ⟨rfl, HB.out⟩
  · obtain rfl : false = z := by rw [← hz]; exact (decide_eq_false he).symm
    clear hz
    go_enter Try.func38, Try.ntmps38
    go_wp2
    go_ret
    exact ⟨by simp_all, HB.out⟩
set_option maxRecDepth 100000 in
theorem indexFeat_is (A : Option Addr) (c : Nat) (l : List Feat) (i z : Int) (B : Nat) (w : World) (hB : B < w.heap.size) (hi : w.cell? ⟨B, 0, none⟩ = some (.int .i64 i)) (hs : SeesF w w.heap.size A l) (hl : l.length ≤ 1099511627776) (hz : findV l i = z) :
    Calls Try.prog 37 #[.slice A l.length c, .func (.func 38) #[] #[.pointer (some ⟨B, 0, none⟩)]] w fun e w' => e = .returned (.int .i64 z) ∧ Below w.heap.size w w' := by
  have eg : ∀ args w, (callFunc 38 args).run Try.prog w = .ok (.enter 38 args) w := enters_of Try.func38 (by kernel_rfl) rfl
  have HS := Lib.hid hs
  have HZ := Lib.hid hz
  have HI := Lib.hid hi
  have HBs := Lib.hid hB
  clear hs hz hi hB
  go_enter Try.func37, Try.ntmps37
  go_wp2
  go_loopg [5, 8] l.length (fun g _ s8 wr => ∃ j : Nat, j + g = l.length ∧ s8 = .int .i64 j ∧ Hid (∀ (k : Nat) (g : Feat), k < j → l[k]? = some g → ¬ g.1 = i) ∧ Hid (Below w.heap.size w wr))
  case atStart => exact ⟨0, by omega, rfl, Lib.hid (fun k g hk => by omega), Lib.hid (Below.refl _ _)⟩
  case round =>
    obtain ⟨j, hg, rfl, HN, HB⟩ := hrel
    by_cases hlt : j < l.length
    · have hlt' : (j : Int) < (l.length : Int) := by omega
      obtain ⟨⟨a, k, r, s, ps⟩, hf⟩ : ∃ f, l[j]? = some f := ⟨_, List.getElem?_eq_getElem hlt⟩
      obtain ⟨b, off, A', c', rfl, hb, -, -, q0, q1, q2, q3, q4⟩ := (HS.out.below HB.out).at_ hf
      have HF := Lib.hid hf
      have HI2 := Lib.hid ((HB.out.cell (p := ⟨B, 0, none⟩) HBs.out).trans HI.out)
      have HB2 := Lib.hid (Nat.lt_of_lt_of_le HBs.out HB.out.size)
      clear hf
      obtain ⟨y, hy⟩ : ∃ y, decide (a = i) = y := ⟨_, rfl⟩
      have HY := Lib.hid hy
      clear hy
      cases y
      all_goals
        go_wp2_with (go_at_fn 38; refine (findBy_is a k r s A' ps.length c' i B _ HB2.out HI2.out _ HY.out).mono ?_; rintro e w9 ⟨rfl, hb9⟩)
      · have HB9 := Lib.hid (HB.out.trans (hb9.mono HB.out.size))
        have hne := of_decide_eq_false HY.out
        go_roundg (l.length - (j + 1))
        case measure => omega
        case rel => exact ⟨j + 1, by omega, by go_num, Lib.hid (fun m f' hm hf' => by
            by_cases e : m = j
            · rw [e] at hf'
              obtain rfl := Option.some.inj (hf'.symm.trans HF.out)
              exact hne
            · exact HN.out m f' (by omega) hf'), HB9⟩
      · obtain rfl : (j : Int) = z := (find_at HF.out (of_decide_eq_true HY.out) HN.out).symm.trans HZ.out
        go_ret
        exact ⟨rfl, HB.out.trans (hb9.mono HB.out.size)⟩
    · obtain rfl : j = l.length := by omega
      have hlt' : ¬ (l.length : Int) < (l.length : Int) := by omega
      obtain rfl : -1 = z := (find_none (fun k g hg => HN.out k g (List.getElem?_eq_some_iff.1 hg).1 hg)).symm.trans HZ.out
      go_wp2
      go_ret
      exact ⟨rfl, HB.out⟩
set_option maxRecDepth 100000 in
theorem find_is (A : Option Addr) (c : Nat) (l : List Feat) (i z : Int) (w : World) (hs : SeesF w w.heap.size A l) (hl : l.length ≤ 1099511627776) (hlc : l.length ≤ c) (hc : (c : Int) ≤ 9223372036854775807) (hz : findV l i = z) :
    Calls Try.prog 22 #[.slice A l.length c, .int .i64 i] w fun e w' => e = .returned (.int .i64 z) ∧ Below w.heap.size w w' := by
  have hmf : ∀ (fn : Fn) (first cap : Array Value) (w : World), (Instr.makeFunc fn first cap).run Try.prog w = .ok (.func fn first cap) w := fun _ _ _ _ => rfl
  have HB := Lib.hid (show Below w.heap.size w (w.alloc (.cells #[.int .i64 i] 3)) from (Below.refl _ _).alloc (Nat.le_refl _) _)
  have HS := Lib.hid (hs.belowAll HB.out)
  have HZ := Lib.hid hz
  clear hs hz
  go_enter Try.func22, Try.ntmps22
  go_wp2_with fail
  refine (indexFeat_is A c l i z w.heap.size _ (by simp) (by simp) HS.out hl HZ.out).mono ?_
  rintro e w1 ⟨rfl, hb1⟩
  have HB1 := Lib.hid (HB.out.trans (hb1.mono HB.out.size))
  clear hb1
  go_wp2
  go_ret
  exact ⟨rfl, HB1.out⟩
set_option maxRecDepth 100000 in
set_option maxHeartbeats 1000000 in
theorem eqF_is (a k r : Int) (s : ByteArray) (A : Option Addr) (c : Nat) (ps : List (Int × Int)) (a' k' r' : Int) (s' : ByteArray) (A' : Option Addr) (c' : Nat) (ps' : List (Int × Int)) (z : Bool) (w : World)
    (hs : SeesE 2 encPoint w w.heap.size A ps) (hs' : SeesE 2 encPoint w w.heap.size A' ps') (hl : ps.length ≤ 1099511627776) (hz : decide ((a, k, r, s, ps) = (a', k', r', s', ps')) = z) :
    Calls Try.prog 24 #[FtV a k r s A ps.length c, FtV a' k' r' s' A' ps'.length c'] w fun e w' => e = .returned (.bool z) ∧ Below w.heap.size w w' := by
  have HV := Lib.hid (Vars.of2 w (FtC a k r s A ps.length c) (FtC a' k' r' s' A' ps'.length c') 30 30)
  have HS := Lib.hid ((hs.below HV.out.1).mono HV.out.1.size)
  have HS' := Lib.hid ((hs'.below HV.out.1).mono HV.out.1.size)
  have HZ := Lib.hid hz
  clear hs hs' hz
  go_enter Try.func24, Try.ntmps24
  by_cases h1 : a = a'
  · subst h1
    by_cases h2 : k = k'
    · subst h2
      by_cases h3 : r = r'
      · subst h3
        by_cases h4 : s = s'
        · subst h4
          have HP : Hid (decide (ps = ps') = z) := Lib.hid (by rw [← HZ.out]; simp)
          go_wp2_with fail
          refine (equalLines_is A A' c c' ps ps' _ HS.out HS'.out hl z HP.out).mono ?_
          rintro e w1 ⟨rfl, hb1⟩
          have HV1 := Lib.hid (HV.out.next hb1)
          clear hb1
          go_wp2
          go_ret
          exact ⟨rfl, HV1.out.1⟩
        · obtain rfl : false = z := by rw [← HZ.out]; simp [h4]
          have hst := str_ne h4
          go_wp2
          go_ret
          exact ⟨rfl, HV.out.1⟩
      · obtain rfl : false = z := by rw [← HZ.out]; simp [h3]
        go_wp2
        go_ret
        exact ⟨rfl, HV.out.1⟩
    · obtain rfl : false = z := by rw [← HZ.out]; simp [h2]
      go_wp2
      go_ret
      exact ⟨rfl, HV.out.1⟩
  · obtain rfl : false = z := by rw [← HZ.out]; simp [h1]
    go_wp2
    go_ret
    exact ⟨rfl, HV.out.1⟩
set_option maxRecDepth 100000 in
set_option maxHeartbeats 1000000 in
theorem equalFunc_is (A A' : Option Addr) (c c' : Nat) (l l' : List Feat) (z : Bool) (w : World) (hs : SeesF w w.heap.size A l) (hs' : SeesF w w.heap.size A' l') (hl : l.length ≤ 1099511627776) (hp : FewQ l) (hz : decide (l = l') = z) :
    Calls Try.prog 41 #[.slice A l.length c, .slice A' l'.length c', .func (.func 24) #[] #[]] w fun e w' => e = .returned (.bool z) ∧ Below w.heap.size w w' := by
  have eg : ∀ args w, (callFunc 24 args).run Try.prog w = .ok (.enter 24 args) w := enters_of Try.func24 (by kernel_rfl) rfl
  have HS := Lib.hid hs
  have HS' := Lib.hid hs'
  have HP := Lib.hid hp
  have HZ := Lib.hid hz
  clear hs hs' hp hz
  go_enter Try.func41, Try.ntmps41
  by_cases hll : l.length = l'.length
  · have hlli : (l.length : Int) = (l'.length : Int) := by omega
    obtain ⟨n, hn⟩ : ∃ n, l.length = n := ⟨_, rfl⟩
    have HN := Lib.hid hn
    have HN' : Hid (l'.length = n) := Lib.hid (by rw [← hll]; exact hn)
    rw [← hll]
    rw [hn] at hl ⊢
    clear hll hlli hn
    go_wp2
    go_loopg [7, 17] n (fun g _ iv wr => ∃ j : Nat, j + g = n ∧ iv = .int .i64 j ∧ Hid (l.take j = l'.take j) ∧ Hid (Below w.heap.size w wr))
    case atStart => exact ⟨0, by omega, rfl, Lib.hid (by simp), Lib.hid (Below.refl _ _)⟩
    case round =>
      obtain ⟨j, hg, rfl, HT, HB⟩ := hrel
      by_cases hlt : j < n
      · have hji : (j : Int) < (n : Int) := by omega
        obtain ⟨⟨a, k, r, s, ps⟩, hf⟩ : ∃ f, l[j]? = some f := ⟨_, List.getElem?_eq_getElem (by rw [HN.out]; exact hlt)⟩
        obtain ⟨⟨a', k', r', s', ps'⟩, hgg⟩ : ∃ f, l'[j]? = some f := ⟨_, List.getElem?_eq_getElem (by rw [HN'.out]; exact hlt)⟩
        obtain ⟨b, off, A1, c1, rfl, hbl, h1, -, q0, q1, q2, q3, q4⟩ := (HS.out.below HB.out).at_ hf
        have HBa := Lib.hid (HB.out.alloc HB.out.size (.cells (FtC a k r s A1 ps.length c1) 30))
        obtain ⟨b2, off2, A2, c2, rfl, hbl2, h2, -, p0, p1, p2, p3, p4⟩ := (HS'.out.below HBa.out).at_ hgg
        have HBb := Lib.hid (HBa.out.alloc HBa.out.size (.cells (FtC a' k' r' s' A2 ps'.length c2) 30))
        have hbw : Below wr.heap.size wr ((wr.alloc (.cells (FtC a k r s A1 ps.length c1) 30)).alloc (.cells (FtC a' k' r' s' A2 ps'.length c2) 30)) := ((Below.refl _ _).alloc (Nat.le_refl _) _).alloc (by simp) _
        have hpl : ps.length ≤ 1099511627776 := HP.out j _ hf
        have HF := Lib.hid hf
        have HG := Lib.hid hgg
        have H1 := Lib.hid (((h1.mono HB.out.size).below hbw).mono hbw.size)
        have H2 := Lib.hid ((h2.mono HBa.out.size).belowAll ((Below.refl _ _).alloc (Nat.le_refl _) (.cells (FtC a' k' r' s' A2 ps'.length c2) 30)))
        clear hf hgg h1 h2 hbw
        obtain ⟨y, hy⟩ : ∃ y, decide ((a, k, r, s, ps) = (a', k', r', s', ps')) = y := ⟨_, rfl⟩
        have HY := Lib.hid hy
        clear hy
        cases y
        all_goals
          go_wp2_with (go_at_fn 24; refine (eqF_is a k r s A1 c1 ps a' k' r' s' A2 c2 ps' _ _ H1.out H2.out hpl HY.out).mono ?_; rintro e w9 ⟨rfl, hb9⟩)
        · obtain rfl : false = z := by rw [← HZ.out]; exact (decide_eq_false (eqL_no HF.out HG.out (of_decide_eq_false HY.out))).symm
          go_ret
          exact ⟨rfl, HBb.out.trans (hb9.mono HBb.out.size)⟩
        · have HTn : Hid (l.take (j + 1) = l'.take (j + 1)) := Lib.hid (by rw [List.take_add_one, List.take_add_one, HF.out, HG.out, HT.out, of_decide_eq_true HY.out])
          go_roundg (n - (j + 1))
          case measure => omega
          case rel => exact ⟨j + 1, by omega, by go_num, HTn, Lib.hid (HBb.out.trans (hb9.mono HBb.out.size))⟩
      · obtain rfl : j = n := by omega
        have hji : ¬ (j : Int) < (j : Int) := by omega
        obtain rfl : true = z := by
          rw [← HZ.out]
          have := HT.out
          rw [List.take_of_length_le (by rw [HN.out]; exact Nat.le_refl _), List.take_of_length_le (by rw [HN'.out]; exact Nat.le_refl _)] at this
          exact (decide_eq_true this).symm
        go_wp2
        go_ret
        exact ⟨rfl, HB.out⟩
  · have hlli : ¬ (l.length : Int) = (l'.length : Int) := by omega
    obtain rfl : false = z := by rw [← HZ.out]; exact (decide_eq_false (fun e => hll (by rw [e]))).symm
    clear hll
    go_wp2
    go_ret
    exact ⟨rfl, Below.refl _ _⟩
theorem eqL_is (A A' : Option Addr) (c c' : Nat) (l l' : List Feat) (z : Bool) (w : World) (hs : SeesF w w.heap.size A l) (hs' : SeesF w w.heap.size A' l') (hl : l.length ≤ 1099511627776) (hlc : l.length ≤ c) (hc : (c : Int) ≤ 9223372036854775807) (hlc' : l'.length ≤ c') (hc' : (c' : Int) ≤ 9223372036854775807) (hp : FewQ l) (hp' : FewQ l') (hz : decide (l = l') = z) :
    Calls Try.prog 26 #[.slice A l.length c, .slice A' l'.length c'] w fun e w' => e = .returned (.bool z) ∧ Below w.heap.size w w' := by
  go_enter Try.func26, Try.ntmps26
  go_wp2_with fail
  refine (equalFunc_is A A' c c' l l' z w hs hs' hl hp hz).mono ?_
  rintro e w' ⟨rfl, hb⟩
  go_wp2
  go_ret
  exact ⟨rfl, hb⟩
end Go.Proofs.Ytiibjppljpfmoaa
