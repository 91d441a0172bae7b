/- For every list of points and every index, DropPoint of package impl gives what the model gives, in memory of its own, and leaves its argument as it was. -/
import Derived.Test.YtbnjaaegbmhopaaSafeI
import Derived.Test.YtbnjaaegbmhopaaStable
import Derived.Test.YtbnjaaegbmhopaaShelf
import Derived.Shelf.SlSortCmp.NoneTotal
import Derived.LoopTactic
import Derived.Deep.LoopGhost
import Derived.Deep.DeepCutAuto
import Derived.Test.YtbnjaaegbmhopaaSafeJ
import Derived.Test.YtbnjaaegbmhopaaOneVar
import Derived.Test.YtbnjaaegbmhopaaLine
import Derived.Test.YtbnjaaegbmhopaaHelpE
import Derived.Test.YtbnjaaegbmhopaaPoint2
import Derived.Test.YtbnjaaegbmhopaaVars
import Derived.Test.YtbnjaaegbmhopaaVars2
import Derived.Deep.RegionHeld3
import Derived.Test.YtbnjaaegbmhopaaInt
import Derived.Lib.Hide
import Derived.Laws.IdiomStrings
import Derived.Laws.Concat
import Derived.WalkLawsBesides
import Derived.WalkSpells
import Derived.Test.YtbnjaaegbmhopaaPoint
import Derived.Lib.SmallJoins
import Derived.OpenShut
import Derived.ChangeArms
import Derived.ChangeSame
import Derived.Test.YtbnjaaegbmhopaaSafeS
import Derived.Test.YtbnjaaegbmhopaaRows
import Derived.WalkKit
import Derived.ProofKit
import Derived.ShutString
import Derived.ChangeOld
import Derived.Below
section
/- Lines that never cross: smallCorners of package impl: a stable sort of corners. -/
namespace Go.Proofs.Ytbnjaaegbmhopaa
open Go.Shelf Go.ChangeShapes Go.WideShapes Go.ChangeAt Go.RowKit
set_option linter.unusedVariables false

set_option maxRecDepth 100000 in
theorem closureC (x y : Cor) (W : World) : Calls Try.prog 123 #[.agg (enccorner x).toArray, .agg (enccorner y).toArray] W fun e w' => e = .returned (.int .i64 (cfC x y)) ∧ ∃ q os', w' = Sort.grow (W.drewN q) os' := by
  obtain ⟨a, b⟩ := x
  obtain ⟨a', b'⟩ := y
  obtain ⟨r, hr⟩ : ∃ r, cmpV b b' = r := ⟨_, rfl⟩
  have hc : cfC (a, b) (a', b') = r := hr
  have HC := fun W' => compare_any b b' W'
  rw [hr] at HC
  rw [hc]
  clear hr hc
  show Calls Try.prog 123 #[PtV a b, PtV a' b'] W _
  go_enter Try.func123, Try.ntmps123
  go_wp2_with (go_at_call 65; refine (HC _).mono ?_; rintro e w' ⟨rfl, rfl⟩)
  go_ret
  exact ⟨rfl, 0, _, by rw [Sort.alloc_eq_grow, Sort.alloc_eq_grow, Sort.grow_grow]; rfl⟩
theorem cmpLaysC (blk off size : Nat) (w : World) : CmpLays Try.prog 123 #[] enccorner 2 cfC blk off size w := fun _ _ _ _ x y => closureC x y _
theorem holdsC_row {w : World} {g c : Nat} {e : TypeId} {L : List Cor} (h : RowE 2 enccorner w g e c L) : Sort.HoldsK enccorner 2 w g 0 L.toArray := fun j hj => by
  rw [Sort.size_flatK] at hj
  have hj' : j < L.length * 2 := by simpa using hj
  have hq : j / 2 < L.length := by omega
  refine ⟨?_, by rw [Nat.zero_add]; exact h.frozen j⟩
  rw [Sort.get_flatK _ _ _ _ hj]
  have hx : L[j / 2]? = some L.toArray[j / 2]! := by
    rw [getElem!_pos _ _ (by simpa using hq)]; simp [hq]
  obtain ⟨v, hv⟩ : ∃ v, (enccorner L.toArray[j / 2]!)[j % 2]? = some v := ⟨_, List.getElem?_eq_getElem (by show j % 2 < 2; omega)⟩
  have := h.cell elcorner hx hv
  rw [show j / 2 * 2 + j % 2 = 0 + j by omega] at this
  rw [this, List.getElem!_eq_getElem?_getD, hv]; rfl
theorem seesC_holds {w : World} {g : Nat} {d : Array Cor} (h : Sort.HoldsK enccorner 2 w g 0 d) (hg : g < w.heap.size) : SeesE 2 enccorner w w.heap.size (some ⟨g, 0, none⟩) d.toList := fun j x hx => by
  have hj : j < d.size := by have := (List.getElem?_eq_some_iff.1 hx).1; simpa using this
  refine ⟨g, 0, rfl, hg, fun k v hv => ?_⟩
  have hk : k < 2 := by have := (List.getElem?_eq_some_iff.1 hv).1; exact this
  have := (h.cell hj hk).1
  rw [this]
  have hx' : d[j]! = x := by rw [getElem!_pos d j hj]; simpa [hj] using hx
  rw [hx', List.getElem!_eq_getElem?_getD, hv]; rfl
theorem grownBy_sortedC {w : World} {g n : Nat} {os : Array Obj} (d : Array Cor) : w.grownBy (sortWorldK enccorner 2 w g 0 n d os) (some g) := by
  refine ⟨rfl, rfl, rfl, by simp [sortWorldK, Sort.putRowK, Sort.grow, Sort.putRow, Sort.mapBlock, Sort.ahead], fun k hk hne => ?_⟩
  have : g ≠ k := fun e => hne (by rw [e])
  unfold sortWorldK
  rw [Sort.heap_grow_old _ _ (by simpa [Sort.putRowK, Sort.putRow, Sort.mapBlock, Sort.ahead] using hk)]
  simp [Sort.putRowK, Sort.putRow, Sort.mapBlock, Sort.ahead, Array.getElem?_modify, this]
set_option maxRecDepth 100000 in
theorem insSort_any (g c : Nat) (L : List Cor) (w : World) (h : RowE 2 enccorner w g 120 c L) (hl : L.length ≤ 1099511627776) (hR : L.Pairwise fun x y => x.1 < y.1) :
    Calls Try.prog 133 #[.slice (some ⟨g, 0, none⟩) L.length c, .int .i64 0, .int .i64 L.length, .func (.func 123) #[] #[]] w fun e w' => e = .returned (.tuple #[]) ∧ SeesE 2 enccorner w' w'.heap.size (some ⟨g, 0, none⟩) (queueV L) ∧ Below g w w' := by
  have eg : ∀ args w, (callFunc 123 args).run Try.prog w = .ok (.enter 123 args) w := enters_of Try.func123 (by kernel_rfl) rfl
  have hcon := AnyQ.insertionSortCmpFunc Try.sortCor 2 Try.isAgg120 Try.sizeOf120 enccorner (fun _ => rfl) (fun x v hv => (elcorner.2 x).2 v hv) cfC 123 #[] g 0 c 0 L.length L.toArray w eg (cmpLaysC g 0 _ w) (holdsC_row h) h.lt (Nat.zero_le _) (by simp) (by simp; omega)
  rw [show L.toArray.size = L.length from by simp] at hcon
  refine Calls.mono hcon ?_
  rintro e w' ⟨he, n, os, rfl⟩
  have hq : (Sort.insertionSort (ltOf cfC) L.toArray 0 L.length).toList = queueV L := by
    unfold queueV
    rw [show L.toArray.size = L.length from by simp]; rfl
  have hd : (Sort.insertionSort (ltOf cfC) L.toArray 0 L.length).size = L.toArray.size := by
    rw [← Array.length_toList, hq, queue_len L hR]; simp
  have hH := holdsK_sortWorldK enccorner 2 w g 0 n L.toArray _ os h.lt (holdsC_row h) hd
  refine ⟨he, ?_, (Below.refl g w).grown (grownBy_sortedC _) (Nat.le_of_lt h.lt) (fun k hk => by cases hk; exact Nat.le_refl _)⟩
  rw [← hq]
  exact seesC_holds hH (lt_sortWorldK _ _ _ _ _ _ _ _ h.lt)
theorem queue_nil : queueV [] = [] := by
  have := (queue_all (W := []) List.Pairwise.nil).1
  exact this.eq_nil
set_option maxRecDepth 100000 in
set_option maxHeartbeats 4000000 in
theorem stableCmp_any (B : Nat) (A : Option Addr) (c : Nat) (L : List Cor) (w : World) (h : OwnE 2 enccorner w B 120 (.slice A L.length c) L) (hB : B ≤ w.heap.size) (hl : L.length ≤ 8) (hR : L.Pairwise fun x y => x.1 < y.1) :
    Calls Try.prog 131 #[.slice A L.length c, .int .i64 L.length, .func (.func 123) #[] #[]] w fun e w' => e = .returned (.tuple #[]) ∧ SeesE 2 enccorner w' w'.heap.size A (queueV L) ∧ Below B w w' := by
  have h20 : ¬ (20 : Int) ≤ (L.length : Int) := by omega
  have h20' : ¬ (20 : Int) < (L.length : Int) := by omega
  have HC : Hid (∀ W, W = w → Calls Try.prog 133 #[.slice A L.length c, .int .i64 0, .int .i64 L.length, .func (.func 123) #[] #[]] W fun e w' => e = .returned (.tuple #[]) ∧ SeesE 2 enccorner w' w'.heap.size A (queueV L) ∧ Below B w w') := Lib.hid (by
    rintro W rfl
    by_cases h0 : 0 < L.length
    · obtain ⟨g, rfl, hBg, -, hr⟩ := h.row h0
      refine (insSort_any g c L W hr (by omega) hR).mono ?_
      rintro e w' ⟨he, hs, hb⟩
      exact ⟨he, hs, hb.mono hBg⟩
    · obtain rfl : L = [] := List.length_eq_zero_iff.1 (by omega)
      refine (AnyF.insertionSortCmpFunc_none Try.sortCor A c _ W).mono ?_
      rintro e w' ⟨he, rfl⟩
      exact ⟨he, by rw [queue_nil]; exact SeesE.nil, Below.refl _ _⟩)
  clear h
  go_enter Try.func131, Try.ntmps131
  go_wp2
  go_loopw [7, 8] (fun s7 s8 wr => s7 = .int .i64 0 ∧ s8 = .int .i64 20 ∧ wr = w) (fun _ _ _ => 0)
  case atStart => exact ⟨rfl, rfl, rfl⟩
  case round =>
    obtain ⟨rfl, rfl, rfl⟩ := hrel
    go_wp2_with fail
    refine (HC.out _ rfl).mono ?_
    rintro e w1 ⟨rfl, hs1, hb1⟩
    have HS1 := Lib.hid hs1; have HB1 := Lib.hid hb1
    clear hs1 hb1
    go_wp2
    go_loopw [6, 7, 8, 9] (fun s6 s7 s8 _ wr2 => s6 = .int .i64 20 ∧ s7 = .int .i64 0 ∧ s8 = .int .i64 20 ∧ wr2 = w1) (fun _ _ _ _ _ => 0)
    case atStart => exact ⟨rfl, rfl, rfl, rfl⟩
    case round =>
      obtain ⟨rfl, rfl, rfl, rfl⟩ := hrel
      go_wp2
      go_end0
      exact ⟨rfl, HS1.out, HB1.out⟩
set_option maxRecDepth 100000 in
theorem sortStable_any (B : Nat) (A : Option Addr) (c : Nat) (L : List Cor) (w : World) (h : OwnE 2 enccorner w B 120 (.slice A L.length c) L) (hB : B ≤ w.heap.size) (hl : L.length ≤ 8) (hR : L.Pairwise fun x y => x.1 < y.1) :
    Calls Try.prog 122 #[.slice A L.length c, .func (.func 123) #[] #[]] w fun e w' => e = .returned (.tuple #[]) ∧ SeesE 2 enccorner w' w'.heap.size A (queueV L) ∧ Below B w w' := by
  go_enter Try.func122, Try.ntmps122
  go_wp2_with fail
  refine (stableCmp_any B A c L w h hB hl hR).mono ?_
  rintro e w1 ⟨rfl, hs1, hb1⟩
  go_wp2
  go_end0
  exact ⟨rfl, hs1, hb1⟩
theorem wait_yes {l : List (Int × Int)} {least a : Int} {t : Nat} {W W' : List Cor} (hW : W = waitS l least t) (ha : crnV l ((t + 1 : Nat) : Int) = a) (h : a < least) (hW' : W' = W ++ [(((t + 1 : Nat) : Int), a)]) : W' = waitS l least (t + 1) := by
  subst ha; rw [hW', hW, waitS, if_pos h]
theorem wait_no {l : List (Int × Int)} {least a : Int} {t : Nat} {W : List Cor} (hW : W = waitS l least t) (ha : crnV l ((t + 1 : Nat) : Int) = a) (h : ¬ a < least) : W = waitS l least (t + 1) := by
  subst ha; rw [hW, waitS, if_neg h]
set_option maxRecDepth 100000 in
set_option maxHeartbeats 4000000 in
theorem smallCorners_any (A : Option Addr) (c : Nat) (l : List (Int × Int)) (least : Int) (w : World) (hs : SeesE 2 encPoint w w.heap.size A l) (h2 : 2 ≤ l.length) (h10 : l.length ≤ 10) :
    Calls Try.prog 98 #[.slice A l.length c, .int .i64 least] w fun e w' => ∃ A1 c1 Q, Hid (Q = queueV (waitV l least)) ∧ Q.length ≤ 8 ∧ e = .returned (.slice A1 Q.length c1) ∧ SeesE 2 enccorner w' w'.heap.size A1 Q ∧ Below w.heap.size w w' := by
  have HS := Lib.hid hs; clear hs
  have hwl : IntKind.i64.wrap ((l.length : Int) - 1) = (l.length : Int) - 1 := by rw [IntKind.wrap_i64]; omega
  go_enter Try.func98, Try.ntmps98
  go_wp2
  go_loopw [5, 6, 7] (fun s5 s6 _ wr => ∃ (t : Nat) (A1 : Option Addr) (c1 : Nat) (W : List Cor), t + 2 ≤ l.length ∧ s6 = .int .i64 ((t + 1 : Nat) : Int) ∧ s5 = .slice A1 W.length c1 ∧ Hid (W = waitS l least t) ∧ W.length ≤ t ∧ Hid (OwnE 2 enccorner wr w.heap.size 120 (.slice A1 W.length c1) W) ∧ Hid (Below w.heap.size w wr)) (fun _ s6 _ _ => l.length - (intOf s6).toNat)
  case atStart => exact ⟨0, _, 0, [], by omega, by go_num, rfl, Lib.hid rfl, Nat.le_refl _, Lib.hid (OwnE.lit _ _ _ (Nat.le_refl _)), Lib.hid ((Below.refl _ w).alloc (Nat.le_refl _) _)⟩
  case round =>
    obtain ⟨t, A1, c1, W, ht, rfl, rfl, HW, hWt, HO, HB⟩ := hrel
    by_cases hlt : t + 2 < l.length
    · have hlt' : ((t + 1 : Nat) : Int) < (l.length : Int) - 1 := by omega
      obtain ⟨a, ha⟩ : ∃ a, crnV l ((t + 1 : Nat) : Int) = a := ⟨_, rfl⟩
      have HA := Lib.hid ha
      have HSr := Lib.hid (HS.out.belowAll HB.out)
      obtain ⟨i, hi⟩ : ∃ i : Int, ((t + 1 : Nat) : Int) = i := ⟨_, rfl⟩
      have HI := Lib.hid hi
      have hi0 : 0 ≤ i ∧ i ≤ 10 := by omega
      have hw1 : IntKind.i64.wrap (i + 1) = i + 1 := by rw [IntKind.wrap_i64]; omega
      rw [hi] at ha hlt' ⊢
      clear hi
      have HAi := Lib.hid ha
      clear ha
      go_wp2_with fail
      refine (cornerArea_is A c l i a _ HSr.out (by omega) HAi.out).mono ?_
      rintro e w2 ⟨rfl, hb2⟩
      have HO2 := Lib.hid (HO.out.belowAll hb2)
      have HB2 := Lib.hid (HB.out.trans (hb2.mono HB.out.size))
      have hz2 := HB2.out.size
      clear hb2
      by_cases hal : a < least
      · have hW1 : W.length + [((i, a) : Cor)].length ≤ 1099511627776 := by simp; omega
        go_wp2_with (at_builtin; refine appcorner _ rfl _ _ rfl w.heap.size _ W rfl (HO2.out.alloc _) (w2.heap.size + 1) (some ⟨w2.heap.size, 0, none⟩) 1 1 [(i, a)] rfl rfl (seesE_new elcorner w2 (i, a) _ _ _ (Nat.lt_succ_self _) rfl) hW1 (by simp; omega) ?_; intro A3 c3 L3 w3 hL3 h3 h4 ho3 hb3)
        go_roundw
        case rel => exact ⟨t + 1, A3, c3, L3, by omega, by have := HI.out; go_num, rfl, Lib.hid (wait_yes HW.out HA.out hal (by rw [hL3.out, ← HI.out])), by simp at h3; omega, Lib.hid ho3, Lib.hid ((HB2.out.alloc hz2 _).trans hb3)⟩
        case measure => have := HI.out; simp [intOf]; omega
      · go_wp2
        go_roundw
        case rel => exact ⟨t + 1, A1, c1, W, by omega, by have := HI.out; go_num, rfl, Lib.hid (wait_no HW.out HA.out (by omega)), by omega, HO2, HB2⟩
        case measure => have := HI.out; simp [intOf]; omega
    · have hlt' : ¬ ((t + 1 : Nat) : Int) < (l.length : Int) - 1 := by omega
      have HW2 : Hid (W = waitV l least) := Lib.hid (by rw [HW.out]; unfold waitV; congr 1; omega)
      have hW8 : W.length ≤ 8 := by omega
      have HR : Hid (W.Pairwise fun x y => x.1 < y.1) := Lib.hid (by rw [HW.out]; exact waitS_rise _ _ _)
      have HL : Hid ((queueV W).length = W.length) := Lib.hid (queue_len W HR.out)
      go_wp2_with fail
      refine (sortStable_any w.heap.size A1 c1 W _ HO.out HB.out.size hW8 HR.out).mono ?_
      rintro e w2 ⟨rfl, hs2, hb2⟩
      go_wp2
      go_ret
      exact ⟨A1, c1, queueV W, Lib.hid (by rw [HW2.out]), by rw [HL.out]; exact hW8, by rw [HL.out]; rfl, hs2, HB.out.trans hb2⟩
end Go.Proofs.Ytbnjaaegbmhopaa
end
section
/- Lines that never cross: SafeSimplify of package impl. -/
namespace Go.Proofs.Ytbnjaaegbmhopaa
open Go.Shelf Go.ChangeShapes Go.WideShapes Go.ChangeAt Go.RowKit
set_option linter.unusedVariables false

/-- None of the first j can be dropped. -/
def NoneBy (Q : List Cor) (l : List (Int × Int)) (O : List (List (Int × Int))) (j : Nat) : Prop := ∀ (k : Nat) (y : Cor), k < j → Q[k]? = some y → canV l y.1 O = false
theorem none_cut {l : List (Int × Int)} {O : List (List (Int × Int))} {least : Int} {Q : List Cor} (hQ : Q = queueV (waitV l least)) (h : NoneBy Q l O Q.length) {k : Nat} : safeS O least k l = l := by
  subst hQ
  exact safe_stop (cut_none fun k y hy => h k y (List.getElem?_eq_some_iff.1 hy).1 hy)
/-- One more round: what is left is as good, and shorter. -/
theorem next_cut {l D : List (Int × Int)} {O : List (List (Int × Int))} {least i a : Int} {n : Nat} {Q : List Cor} (hQ : Q = queueV (waitV l least)) (hx : Q[n]? = some (i, a)) (hc : canV l i O = true) (h : NoneBy Q l O n) (hD : D = dropV l i) :
    safeS O least D.length D = safeS O least l.length l ∧ D.length + 1 = l.length ∧ smpV D = true := by
  subst hQ hD
  have hcut : cutV l O least = i := cut_first (x := (i, a)) hx hc (fun k y hk hy => h k y hk hy)
  have hb := hc
  unfold canV at hb
  simp only [Bool.and_eq_true] at hb
  obtain ⟨-, -, b, rfl, -, -⟩ := dropOk_at hb.1
  have h1 := drop_one hb.1
  refine ⟨?_, h1, hb.2.1⟩
  rw [← h1, safe_step hcut]
set_option maxRecDepth 100000 in
theorem canCor_is (x : Cor) (A Ao : Option Addr) (c co : Nat) (l : List (Int × Int)) (O : List (List (Int × Int))) (B C : Nat) (z : Bool) (w : World) (k0 : w.cell? ⟨B, 0, none⟩ = some (.slice A l.length c)) (k1 : w.cell? ⟨C, 0, none⟩ = some (.slice Ao O.length co))
    (hs : SeesE 2 encPoint w w.heap.size A l) (ho : SeesLs 2 encPoint w w.heap.size Ao O) (hl : l.length ≤ 274877906944) (hlc : l.length ≤ c) (hc : (c : Int) ≤ 9223372036854775807) (hO : O.length ≤ 1099511627776) (hF : FewLs O) (hz : canV l x.1 O = z) :
    Calls Try.prog 97 #[PtV x.1 x.2, .pointer (some ⟨B, 0, none⟩), .pointer (some ⟨C, 0, none⟩)] w fun e w' => e = .returned (.bool z) ∧ Below w.heap.size w w' := by
  obtain ⟨i, a⟩ := x
  have HV := Lib.hid (Vars.of1 w #[.int .i64 i, .int .i64 a] 120)
  obtain ⟨q0, q1⟩ := HV.out.c20
  have k0' := (HV.out.1.cell (World.block_lt_of_cell? _ _ k0)).trans k0
  have k1' := (HV.out.1.cell (World.block_lt_of_cell? _ _ k1)).trans k1
  have HS := Lib.hid (hs.belowAll HV.out.1); have HO := Lib.hid (ho.belowAll HV.out.1); have HF := Lib.hid hF; have HZ := Lib.hid hz
  clear hs ho hF hz k0 k1
  go_enter Try.func97, Try.ntmps97
  go_wp2_with fail
  refine (canDrop_is A Ao c co l i O z _ HS.out HO.out hl hlc hc hO HF.out HZ.out).mono ?_
  rintro e w1 ⟨rfl, hb1⟩
  go_wp2
  go_ret
  exact ⟨rfl, (HV.out.next hb1).1⟩
set_option maxRecDepth 100000 in
theorem indexCor_is (A Ao A1 : Option Addr) (c co c1 : Nat) (l : List (Int × Int)) (O : List (List (Int × Int))) (Q : List Cor) (B C : Nat) (w : World) (k0 : w.cell? ⟨B, 0, none⟩ = some (.slice A l.length c)) (k1 : w.cell? ⟨C, 0, none⟩ = some (.slice Ao O.length co))
    (hs : SeesE 2 encPoint w w.heap.size A l) (ho : SeesLs 2 encPoint w w.heap.size Ao O) (hq : SeesE 2 enccorner w w.heap.size A1 Q) (hl : l.length ≤ 274877906944) (hlc : l.length ≤ c) (hc : (c : Int) ≤ 9223372036854775807) (hO : O.length ≤ 1099511627776) (hF : FewLs O) (hQ : Q.length ≤ 8) :
    Calls Try.prog 99 #[.slice A1 Q.length c1, .func (.func 97) #[] #[.pointer (some ⟨B, 0, none⟩), .pointer (some ⟨C, 0, none⟩)]] w fun e w' =>
      ((e = .returned (.int .i64 (-1)) ∧ Hid (NoneBy Q l O Q.length)) ∨ (∃ (n : Nat) (i a : Int), e = .returned (.int .i64 (n : Int)) ∧ n < Q.length ∧ Hid (Q[n]? = some (i, a)) ∧ Hid (canV l i O = true) ∧ Hid (NoneBy Q l O n))) ∧ Below w.heap.size w w' := by
  have eg : ∀ args w, (callFunc 97 args).run Try.prog w = .ok (.enter 97 args) w := enters_of Try.func97 (by kernel_rfl) rfl
  have HO := Lib.hid ho; have H0 := Lib.hid k0; have H1 := Lib.hid k1; have HS := Lib.hid hs; have HF := Lib.hid hF; have HQ := Lib.hid hq
  clear ho k0 k1 hs hF hq
  go_enter Try.func99, Try.ntmps99
  go_wp2
  go_loopg [5, 8] Q.length (fun g _ s8 wr => ∃ j : Nat, j + g = Q.length ∧ s8 = .int .i64 j ∧ Hid (NoneBy Q l O j) ∧ Hid (Below w.heap.size w wr))
  case atStart => exact ⟨0, by omega, rfl, Lib.hid (fun k y h => absurd h (Nat.not_lt_zero _)), Lib.hid (Below.refl _ _)⟩
  case round =>
    obtain ⟨j, hg, rfl, HN, HB⟩ := hrel
    by_cases hlt : j < Q.length
    · have hlt' : (j : Int) < (Q.length : Int) := by omega
      obtain ⟨b, off, ⟨i, a⟩, rfl, hbl, hx, -⟩ := (HQ.out.below HB.out).lt hlt
      obtain ⟨q0, q1⟩ := cellscorner (HQ.out.below HB.out) hx
      have HX := Lib.hid hx
      have G0 := Lib.hid ((HB.out.cell (World.block_lt_of_cell? _ _ H0.out)).trans H0.out)
      have G1 := Lib.hid ((HB.out.cell (World.block_lt_of_cell? _ _ H1.out)).trans H1.out)
      have HSr := Lib.hid (HS.out.belowAll HB.out)
      have HOr := Lib.hid (HO.out.belowAll HB.out)
      obtain ⟨v, hv⟩ : ∃ v, canV l i O = v := ⟨_, rfl⟩
      have HY := Lib.hid hv
      clear hx hv
      cases v
      all_goals
        go_wp2_with (go_at_fn 97; refine (canCor_is (i, a) _ _ c co l O B C _ _ G0.out G1.out HSr.out HOr.out hl hlc hc hO HF.out HY.out).mono ?_; rintro e9 w9 ⟨rfl, hb9⟩)
      · have HB9 := Lib.hid (HB.out.trans (hb9.mono HB.out.size))
        have HNx : Hid (NoneBy Q l O (j + 1)) := Lib.hid fun k y hk hy => by
          by_cases e : k < j
          · exact HN.out k y e hy
          · obtain rfl : k = j := by omega
            rw [HX.out] at hy
            rw [← Option.some.inj hy]
            exact HY.out
        go_roundg (Q.length - (j + 1))
        case measure => omega
        case rel => exact ⟨j + 1, by omega, by go_num, HNx, HB9⟩
      · go_ret
        exact ⟨.inr ⟨j, i, a, rfl, hlt, HX, HY, HN⟩, HB.out.trans (hb9.mono HB.out.size)⟩
    · obtain rfl : j = Q.length := by omega
      have hlt' : ¬ (Q.length : Int) < (Q.length : Int) := by omega
      go_wp2
      go_ret
      refine ⟨?_, HB.out⟩
      first | exact .inl ⟨rfl, HN⟩ | exact .inl rfl
set_option maxRecDepth 100000 in
set_option maxHeartbeats 8000000 in
theorem safeSimplify_any (A Ao : Option Addr) (c co : Nat) (l : List (Int × Int)) (O : List (List (Int × Int))) (least : Int) (w : World) (hs : SeesE 2 encPoint w w.heap.size A l) (ho : SeesLs 2 encPoint w w.heap.size Ao O) (hl : l.length ≤ 274877906944) (hO : O.length ≤ 1099511627776) (hF : FewLs O) :
    Calls Try.prog 41 #[.slice A l.length c, .slice Ao O.length co, .int .i64 least] w (GivesE 2 encPoint 25 (safeV l O least) w) := by
  have hmf : ∀ (fn : Fn) (first cap : Array Value) (w : World), (Instr.makeFunc fn first cap).run Try.prog w = .ok (.func fn first cap) w := fun _ _ _ _ => rfl
  have HV := Lib.hid (Vars.of1 w #[.slice Ao O.length co] 58)
  have HS := Lib.hid (hs.belowAll HV.out.1); have HOw0 := Lib.hid ho; have HF := Lib.hid hF
  clear hs ho hF
  obtain ⟨sm, hsm⟩ : ∃ s, smpV l = s := ⟨_, rfl⟩
  have HSm := Lib.hid hsm; clear hsm
  go_enter Try.func41, Try.ntmps41
  go_wp2_with fail
  refine (clone_any A c l _ HS.out (by omega)).mono ?_
  rintro e w1 ⟨A1, c1, L1, hL1, rfl, ho1, hb1⟩
  have HL1 := hL1
  have HV1 := Lib.hid (HV.out.next hb1)
  have hl1 : L1.length ≤ 1099511627776 := by rw [hL1.out]; omega
  have hz1 := HV1.out.more1
  have HOth : Hid (OneV w.heap.size (w1.alloc (.cells #[.slice A1 L1.length c1] 47)) w.heap.size #[.slice Ao O.length co]) := Lib.hid ((((OneV.new (m := w.heap.size) w (Nat.le_refl _) #[.slice Ao O.length co] 58).next hb1)).al _)
  have HKp : Hid (OneV w.heap.size (w1.alloc (.cells #[.slice A1 L1.length c1] 47)) w1.heap.size #[.slice A1 L1.length c1]) := Lib.hid (OneV.new (m := w.heap.size) w1 HV1.out.1.size #[.slice A1 L1.length c1] 47)
  have hb2 : Below w1.heap.size w1 (w1.alloc (.cells #[.slice A1 L1.length c1] 47)) := (Below.refl _ w1).alloc (Nat.le_refl _) _
  have HB2 : Hid (Below w.heap.size w (w1.alloc (.cells #[.slice A1 L1.length c1] 47))) := Lib.hid (HV1.out.next hb2).1
  have HOw1 : Hid (OwnE 2 encPoint (w1.alloc (.cells #[.slice A1 L1.length c1] 47)) w.heap.size 25 (.slice A1 L1.length c1) L1) := Lib.hid ((ho1.mono (by simp)).belowAll hb2)
  have HNe : Hid (∀ g, (Value.slice A1 L1.length c1).ownBlock = some g → g < w1.heap.size) := Lib.hid fun g hg => (ho1.lt g hg).2
  have HSk := Lib.hid (HOw1.out.sees elPoint)
  have k1 := HKp.out.cell 0 rfl
  clear hL1 ho1 hb1 hb2 HV HS HV1
  cases sm
  · have HN : Hid (L1 = safeV l O least) := Lib.hid (by rw [HL1.out, safeV_no HSm.out])
    have HSm1 : Hid (smpV L1 = false) := Lib.hid (by rw [HL1.out]; exact HSm.out)
    go_wp2_with fail
    refine (isSimple_is A1 c1 L1 _ HSk.out hl1 _ HSm1.out).mono ?_
    rintro e w2 ⟨rfl, hb2⟩
    have k2 := (HKp.out.next hb2).cell 0 rfl
    go_wp2
    go_ret
    exact ⟨A1, c1, L1, HN, rfl, HOw1.out.belowAll hb2, HB2.out.trans (hb2.mono HB2.out.size)⟩
  have HN : Hid (safeS O least L1.length L1 = safeV l O least) := Lib.hid (by rw [HL1.out]; unfold safeV; rw [if_pos HSm.out])
  have HSm1 : Hid (smpV L1 = true) := Lib.hid (by rw [HL1.out]; exact HSm.out)
  go_wp2_with fail
  refine (isSimple_is A1 c1 L1 _ HSk.out hl1 _ HSm1.out).mono ?_
  rintro e w2 ⟨rfl, hb2⟩
  have HOth2 := Lib.hid (HOth.out.next hb2)
  have HKp2 := Lib.hid (HKp.out.next hb2)
  have HB3 := Lib.hid (HB2.out.trans (hb2.mono HB2.out.size))
  have HOw2 := Lib.hid (HOw1.out.belowAll hb2)
  have hz2 : w1.heap.size + 1 ≤ w2.heap.size := by have := hb2.size; simp at this; exact this
  clear hb2 k1 HOth HKp HB2 HOw1 HSk
  go_wp2
  go_loopg [9, 10] L1.length (fun g _ _ wr => ∃ (A2 : Option Addr) (c2 : Nat) (L : List (Int × Int)), Hid (L.length = g) ∧ Hid (safeS O least L.length L = safeV l O least) ∧ Hid (smpV L = true) ∧ Hid (OneV w.heap.size wr w.heap.size #[.slice Ao O.length co]) ∧ Hid (OneV w.heap.size wr w1.heap.size #[.slice A2 L.length c2]) ∧ Hid (Below w.heap.size w wr) ∧ Hid (OwnE 2 encPoint wr w.heap.size 25 (.slice A2 L.length c2) L) ∧ Hid (∀ g, (Value.slice A2 L.length c2).ownBlock = some g → g ≠ w1.heap.size) ∧ w1.heap.size + 1 ≤ wr.heap.size)
  case atStart => exact ⟨A1, c1, L1, Lib.hid rfl, HN, HSm1, HOth2, HKp2, HB3, HOw2, Lib.hid fun g hg => Nat.ne_of_lt (HNe.out g hg), hz2⟩
  case round =>
    obtain ⟨A2, c2, L, HG, HR, HSmL, HOt, HK, HB, HOw, HNb, hzr⟩ := hrel
    have hln : isLn L = true := by have := HSmL.out; unfold smpV at this; rw [Bool.and_eq_true] at this; exact this.2
    have h2l := (isLn_yes hln).1; have h10 := (isLn_yes hln).2.1
    have hcap := capsLs HOw.out
    have hLc : L.length ≤ c2 := hcap.2.1
    have hc2 : (c2 : Int) ≤ 9223372036854775807 := hcap.2.2
    have HSk := Lib.hid (HOw.out.sees elPoint)
    have k1 := HK.out.cell 0 rfl
    clear hcap hln
    go_wp2_with fail
    refine (smallCorners_any A2 c2 L least _ HSk.out h2l h10).mono ?_
    rintro e w3 ⟨A3, c3, Q, hQ, hQ8, rfl, hsq, hb3⟩
    have HQ := hQ
    have HOt3 := Lib.hid (HOt.out.next hb3)
    have HK3 := Lib.hid (HK.out.next hb3)
    have HB3 := Lib.hid (HB.out.trans (hb3.mono HB.out.size))
    have HSk3 := Lib.hid (HSk.out.belowAll hb3)
    have HOw3 := Lib.hid (HOw.out.belowAll hb3)
    have HSq3 := Lib.hid hsq
    have hz3 : w1.heap.size + 1 ≤ w3.heap.size := Nat.le_trans hzr hb3.size
    have HOs3 := Lib.hid (HOw0.out.belowAll HB3.out)
    clear hQ hsq hb3 k1 HOt HK HB HSk HOw hzr
    go_wp2_with fail
    refine (indexCor_is A2 Ao A3 c2 co c3 L O Q w1.heap.size w.heap.size _ (HK3.out.cell 0 rfl) (HOt3.out.cell 0 rfl) HSk3.out HOs3.out HSq3.out (by omega) hLc hc2 hO HF.out hQ8).mono ?_
    rintro e w4 ⟨⟨rfl, hn⟩ | ⟨n, i, a, rfl, hnQ, hx, hc, hn⟩, hb4⟩
    · have HX := hn
      have HK4 := Lib.hid (HK3.out.next hb4)
      have k4 := HK4.out.cell 0 rfl
      go_wp2
      go_ret
      exact ⟨A2, c2, L, Lib.hid (by rw [← HR.out]; exact (none_cut HQ.out HX.out).symm), rfl, HOw3.out.belowAll hb4, HB3.out.trans (hb4.mono HB3.out.size)⟩
    · have HN1 := hn; have HX := hx; have HC := hc
      have HOt4 := Lib.hid (HOt3.out.next hb4)
      have HK4 := Lib.hid (HK3.out.next hb4)
      have HB4 := Lib.hid (HB3.out.trans (hb4.mono HB3.out.size))
      have HSk4 := Lib.hid (HSk3.out.belowAll hb4)
      have HSq4 := Lib.hid (HSq3.out.belowAll hb4)
      have hz4 : w1.heap.size + 1 ≤ w4.heap.size := Nat.le_trans hz3 hb4.size
      obtain ⟨b, off, rfl, hbl, -⟩ := HSq4.out n _ hx.out
      obtain ⟨q0, q1⟩ := cellscorner HSq4.out hx.out
      have k4 := HK4.out.cell 0 rfl
      have hn0 : ¬ (n : Int) < 0 := by omega
      have hn1 : (n : Int) < (Q.length : Int) := by omega
      have hw : IntKind.i64.wrap (n : Int) = (n : Int) := by rw [IntKind.wrap_i64]; omega
      clear hb4 hn hx hc HOt3 HK3 HB3 HSk3 HSq3 hz3 HOw3 HOs3
      go_wp2_with fail
      go_region_with (first
        | (go_at_call 48; refine (dropPoint_any A2 c2 L i _ (by first | exact HSk4.out | exact HSk4.out.drew) (by omega) hLc hc2).mono ?_; rintro e w5 ⟨A5, c5, D, k, hD, hk, rfl, ho5, hb5⟩; have HD := hD; have HO5 := Lib.hid ho5; have HBx : Hid (Below w4.heap.size w4 w5) := Lib.hid ((Below.refl _ w4).drew.trans hb5); have HK5 := Lib.hid (HK4.out.next HBx.out); have k5 := HK5.out.cell 0 rfl; have f5 := HK5.out.frozen 0)
        | fail)
      all_goals
        have HNC := Lib.hid (next_cut HQ.out HX.out HC.out HN1.out HD.out)
        have HB5 := Lib.hid (HB4.out.trans (HBx.out.mono HB4.out.size))
        have HOt5 := Lib.hid (HOt4.out.next HBx.out)
        have hz5 := HBx.out.size
        have hz6 : w4.drew.heap.size = w4.heap.size := rfl
        have hz7 : w.heap.size ≤ w4.heap.size := HB4.out.size
        clear q0 q1 k4 k5 f5 hD hk
        go_wp2
        go_roundg D.length
        case measure => have := HNC.out.2.1; have := HG.out; omega
        case rel => exact ⟨A5, c5, D, Lib.hid rfl, Lib.hid (HNC.out.1.trans HR.out), Lib.hid HNC.out.2.2, Lib.hid (HOt5.out.other (by omega) 0 _), Lib.hid (HK5.out.set 0 _), Lib.hid (HB5.out.setCell (p := ⟨w1.heap.size, 0, none⟩) (by show w.heap.size ≤ w1.heap.size; omega) _), Lib.hid ((HO5.out.setUnder (by rw [hz6]; omega) _).mono (by rw [hz6]; omega)), Lib.hid fun g hg => by (have := (HO5.out.lt g hg).1; rw [hz6] at this; omega), by rw [World.size_setCell]; omega⟩
end Go.Proofs.Ytbnjaaegbmhopaa
end
section
/- Lines that never cross: the contracts of package impl. -/
end
section
/- Rings: what the functions of chapter 7 give, by values; turned and rotated. -/
namespace Go.Proofs.Ytbnjaaegbmhopaa
open Go.RowKit
set_option linter.unusedVariables false

/-- The segments of a closed list of points: from each point to the next one, from the last one to the first one. -/
def rgS (l : List (Int × Int)) : List (Int × Int × Int × Int) := jts (l ++ l.take 1)
theorem rgS_len (l : List (Int × Int)) : (rgS l).length = l.length := by
  rw [rgS, jts_len, List.length_append, List.length_take]
  cases l with
  | nil => rfl
  | cons a t => simp
/-- The i-th one. -/
theorem rgS_get {l : List (Int × Int)} {i : Nat} {a b c d : Int} (h : l[i]? = some (a, b)) (h' : l[(i + 1) % l.length]? = some (c, d)) : (rgS l)[i]? = some (a, b, c, d) := by
  have hi := (List.getElem?_eq_some_iff.1 h).1
  refine jts_get (by rw [List.getElem?_append_left hi]; exact h) ?_
  by_cases hl : i + 1 < l.length
  · rw [Nat.mod_eq_of_lt hl] at h'
    rw [List.getElem?_append_left hl]; exact h'
  · have e : i + 1 = l.length := by omega
    rw [e, Nat.mod_self] at h'
    rw [e, List.getElem?_append_right (Nat.le_refl _), Nat.sub_self, List.getElem?_take]
    simpa using h'
/-- Neighbours on a ring of n. -/
def adjC (n i k : Nat) : Prop := i + 1 = k ∨ k + 1 = i ∨ (i = 0 ∧ k + 1 = n) ∨ (k = 0 ∧ i + 1 = n)
instance (n i k : Nat) : Decidable (adjC n i k) := by unfold adjC; infer_instance
theorem adjC_comm (n i k : Nat) : adjC n k i ↔ adjC n i k := by unfold adjC; omega
/-- Neighbours touch, no others meet. -/
def CycOk (s : List (Int × Int × Int × Int)) : Prop := ∀ (i k : Nat) u v, s[i]? = some u → s[k]? = some v → i ≠ k → howS u v = if adjC s.length i k then 1 else 0
/-- It is enough to look at each pair once. -/
theorem cycOk_of {s : List (Int × Int × Int × Int)} (h : ∀ (i k : Nat) u v, s[i]? = some u → s[k]? = some v → k < i → howS u v = if adjC s.length i k then 1 else 0) : CycOk s := fun i k u v hu hv hn => by
  by_cases hk : k < i
  · exact h i k u v hu hv hk
  · rw [← howS_comm]
    rw [h k i v u hv hu (by omega)]
    simp only [adjC_comm]
def rgOk (s : List (Int × Int × Int × Int)) (i k : Nat) : Bool := match s[i]?, s[k]? with
  | some u, some v => howS u v == (if adjC s.length i k then 1 else 0)
  | _, _ => true
theorem rgOk_at {s : List (Int × Int × Int × Int)} {i k : Nat} {u v : Int × Int × Int × Int} (h : s[i]? = some u) (h' : s[k]? = some v) : rgOk s i k = (howS u v == (if adjC s.length i k then 1 else 0)) := by simp only [rgOk, h, h']
/-- Is it a ring? -/
def isRg (l : List (Int × Int)) : Bool := inB l.length 3 10 && ((rgS l).all sOk && decide (∀ i, i < (rgS l).length → ∀ k, k < i → rgOk (rgS l) i k = true))
theorem isRg_iff (l : List (Int × Int)) : isRg l = true ↔ (3 ≤ l.length ∧ l.length ≤ 10) ∧ (∀ s ∈ rgS l, sOk s = true) ∧ CycOk (rgS l) := by
  unfold isRg
  simp only [Bool.and_eq_true, List.all_eq_true, decide_eq_true_eq, inB]
  refine and_congr (by omega) (and_congr_right fun _ => ?_)
  constructor
  · intro h
    refine cycOk_of fun i k u v hu hv hk => ?_
    have := h i (List.getElem?_eq_some_iff.1 hu).1 k hk
    rw [rgOk_at hu hv, beq_iff_eq] at this
    exact this
  · intro h i hi k hk
    obtain ⟨u, hu⟩ : ∃ u, (rgS l)[i]? = some u := ⟨_, List.getElem?_eq_getElem hi⟩
    obtain ⟨v, hv⟩ : ∃ v, (rgS l)[k]? = some v := ⟨_, List.getElem?_eq_getElem (by omega)⟩
    rw [rgOk_at hu hv, beq_iff_eq]
    exact h i k u v hu hv (by omega)
/-- The area's part of one segment. -/
def arS (s : Int × Int × Int × Int) : Int := s.1 * s.2.2.2 - s.2.1 * s.2.2.1
def twA (l : List (Int × Int)) : Int := if isRg l = true then ((rgS l).map arS).sum else 0
theorem arS_tr (s : Int × Int × Int × Int) : arS (trS s) = -arS s := by
  obtain ⟨a, b, c, d⟩ := s
  show c * b - d * a = -(a * d - b * c)
  rw [Int.mul_comm c b, Int.mul_comm d a]; omega
/-- Does the segment cross the ray from p? -/
def crC (p : Int × Int) (s : Int × Int × Int × Int) : Bool :=
  (decide (s.2.1 > p.2) != decide (s.2.2.2 > p.2)) && ((decide (s.2.2.2 > s.2.1) && decide (crs s.1 s.2.1 s.2.2.1 s.2.2.2 p.1 p.2 > 0)) || (decide (s.2.2.2 < s.2.1) && decide (crs s.1 s.2.1 s.2.2.1 s.2.2.2 p.1 p.2 < 0)))
def onS (p : Int × Int) (s : Int × Int × Int × Int) : Bool := onV s.1 s.2.1 s.2.2.1 s.2.2.2 p.1 p.2
/-- On one of its segments, or inside: an odd number of them crosses the ray. -/
def inV (l : List (Int × Int)) (p : Int × Int) : Bool := (isRg l && isP p.1 p.2) && ((rgS l).any (onS p) || decide ((rgS l).countP (crC p) % 2 = 1))
theorem crs_flip (a b c d x y : Int) : crs c d a b x y = -crs a b c d x y := by
  unfold crs
  have e1 : (a - c) * (y - d) = -((c - a) * (y - b) + (c - a) * (b - d)) := by rw [← Int.mul_add, show y - b + (b - d) = y - d by omega, ← Int.neg_mul, show -(c - a) = a - c by omega]
  have e2 : (b - d) * (x - c) = -((d - b) * (x - a) + (d - b) * (a - c)) := by rw [← Int.mul_add, show x - a + (a - c) = x - c by omega, ← Int.neg_mul, show -(d - b) = b - d by omega]
  have e3 : (c - a) * (b - d) = (d - b) * (a - c) := by rw [show c - a = -(a - c) by omega, show d - b = -(b - d) by omega, Int.neg_mul, Int.neg_mul, Int.mul_comm]
  rw [e1, e2, e3]; omega
theorem crC_tr (p : Int × Int) (s : Int × Int × Int × Int) : crC p (trS s) = crC p s := by
  obtain ⟨a, b, c, d⟩ := s
  unfold crC trS
  dsimp only
  rw [crs_flip a b c d]
  have e1 : decide (-crs a b c d p.1 p.2 > 0) = decide (crs a b c d p.1 p.2 < 0) := decide_eq_decide.2 (by omega)
  have e2 : decide (-crs a b c d p.1 p.2 < 0) = decide (crs a b c d p.1 p.2 > 0) := decide_eq_decide.2 (by omega)
  have e3 : decide (b > d) = decide (d < b) := rfl
  have e4 : decide (b < d) = decide (d > b) := rfl
  have e5 : (decide (d > p.2) != decide (b > p.2)) = (decide (b > p.2) != decide (d > p.2)) := by cases decide (d > p.2) <;> cases decide (b > p.2) <;> rfl
  rw [e1, e2, e3, e4, e5]
  congr 1
  exact Bool.or_comm _ _
theorem onS_tr (p : Int × Int) (s : Int × Int × Int × Int) : onS p (trS s) = onS p s := onV_turn _ _ _ _ _ _
/-! ### Turned round -/
def trn : List (Int × Int) → List (Int × Int)
  | [] => []
  | a :: t => a :: t.reverse
theorem trn_len (l : List (Int × Int)) : (trn l).length = l.length := by cases l <;> simp [trn]
theorem rgS_trn (l : List (Int × Int)) : rgS (trn l) = (rgS l).reverse.map trS := by
  cases l with
  | nil => rfl
  | cons a t =>
    show jts (a :: t.reverse ++ [a]) = (jts (a :: t ++ [a])).reverse.map trS
    rw [← jts_rev]
    simp
theorem cycOk_rev {s : List (Int × Int × Int × Int)} (h : CycOk s) : CycOk (s.reverse.map trS) := fun i k u v hu hv hn => by
  have hl : (s.reverse.map trS).length = s.length := by simp
  have hi := (List.getElem?_eq_some_iff.1 hu).1
  have hk := (List.getElem?_eq_some_iff.1 hv).1
  rw [hl] at hi hk ⊢
  rw [List.getElem?_map, List.getElem?_reverse hi, Option.map_eq_some_iff] at hu
  rw [List.getElem?_map, List.getElem?_reverse hk, Option.map_eq_some_iff] at hv
  obtain ⟨u', hu', rfl⟩ := hu
  obtain ⟨v', hv', rfl⟩ := hv
  rw [howS_tr, howS_tr2, h _ _ _ _ hu' hv' (by omega)]
  have e : adjC s.length (s.length - 1 - i) (s.length - 1 - k) ↔ adjC s.length i k := by unfold adjC; omega
  simp only [e]
theorem map_tr_rev (s : List (Int × Int × Int × Int)) : ((s.reverse.map trS).reverse.map trS) = s := by
  rw [List.map_reverse, List.map_map, List.map_reverse, List.reverse_reverse]
  exact List.map_id'' (fun x => rfl) s
theorem isRg_trn (l : List (Int × Int)) : isRg (trn l) = isRg l := by
  rw [Bool.eq_iff_iff, isRg_iff, isRg_iff, trn_len, rgS_trn]
  refine and_congr_right fun _ => and_congr ?_ ?_
  · constructor
    · intro h s hs
      have := h (trS s) (List.mem_map.2 ⟨s, List.mem_reverse.2 hs, rfl⟩)
      rwa [sOk_tr] at this
    · intro h s hs
      obtain ⟨t, ht, rfl⟩ := List.mem_map.1 hs
      rw [sOk_tr]; exact h t (List.mem_reverse.1 ht)
  · constructor
    · intro h
      have := cycOk_rev h
      rwa [map_tr_rev] at this
    · exact cycOk_rev
theorem sum_map_neg {α : Type} (f : α → Int) (l : List α) : (l.map fun x => -f x).sum = -(l.map f).sum := by
  induction l with
  | nil => rfl
  | cons a t ih => simp only [List.map_cons, List.sum_cons, ih]; omega
theorem twA_trn (l : List (Int × Int)) : twA (trn l) = -twA l := by
  unfold twA
  rw [isRg_trn, rgS_trn, List.map_map]
  split
  · rw [← sum_map_neg, List.map_reverse, List.sum_reverse]
    congr 1
    exact List.map_congr_left fun s _ => arS_tr s
  · rfl
theorem inV_trn (l : List (Int × Int)) (p : Int × Int) : inV (trn l) p = inV l p := by
  unfold inV
  rw [isRg_trn, rgS_trn, List.any_map, List.any_reverse, List.countP_map, List.countP_reverse]
  have e1 : (onS p ∘ trS) = onS p := funext fun s => onS_tr p s
  have e2 : (crC p ∘ trS) = crC p := funext fun s => crC_tr p s
  rw [e1, e2]
/-! ### Rotated -/
theorem jts_app (u v : List (Int × Int)) (a : Int × Int) : jts (u ++ a :: v) = jts (u ++ [a]) ++ jts (a :: v) := by
  induction u with
  | nil => rfl
  | cons p t ih =>
    cases t with
    | nil => rfl
    | cons q r =>
      show (p.1, p.2, q.1, q.2) :: jts (q :: r ++ a :: v) = (p.1, p.2, q.1, q.2) :: jts (q :: r ++ [a]) ++ jts (a :: v)
      rw [ih]; rfl
/-- Rotated by one. -/
def rot1 {α : Type} : List α → List α
  | [] => []
  | a :: t => t ++ [a]
theorem rgS_rot1 (l : List (Int × Int)) : rgS (rot1 l) = rot1 (rgS l) := by
  match l with
  | [] => rfl
  | [a] => rfl
  | a :: b :: t =>
    show jts (b :: t ++ [a] ++ [b]) = rot1 (jts (a :: b :: t ++ [a]))
    have e1 : jts (a :: b :: t ++ [a]) = (a.1, a.2, b.1, b.2) :: jts (b :: t ++ [a]) := rfl
    have e2 : b :: t ++ [a] ++ [b] = (b :: t) ++ a :: [b] := by simp
    rw [e1, e2, jts_app]; rfl
theorem rot1_len {α : Type} (l : List α) : (rot1 l).length = l.length := by cases l <;> simp [rot1]
theorem rot1_get {α : Type} {l : List α} {j : Nat} (h : j < l.length) : (rot1 l)[j]? = if j + 1 < l.length then l[j + 1]? else l[0]? := by
  cases l with
  | nil => cases h
  | cons a t =>
    simp only [rot1, List.length_cons] at h ⊢
    split
    · rw [List.getElem?_append_left (by omega)]; simp
    · rw [List.getElem?_append_right (by omega), show j - t.length = 0 by omega]; simp
theorem cycOk_rot1 {s : List (Int × Int × Int × Int)} (h : CycOk s) : CycOk (rot1 s) := fun i k u v hu hv hn => by
  have hi := (List.getElem?_eq_some_iff.1 hu).1
  have hk := (List.getElem?_eq_some_iff.1 hv).1
  rw [rot1_len] at hi hk ⊢
  rw [rot1_get hi] at hu
  rw [rot1_get hk] at hv
  have e : ∀ (i' k' : Nat), (i' = if i + 1 < s.length then i + 1 else 0) → (k' = if k + 1 < s.length then k + 1 else 0) → (adjC s.length i' k' ↔ adjC s.length i k) := fun i' k' hi' hk' => by
    unfold adjC; split at hi' <;> split at hk' <;> omega
  split at hu <;> split at hv
  · rw [h _ _ _ _ hu hv (by omega)]; simp only [e (i + 1) (k + 1) (by rw [if_pos (by assumption)]) (by rw [if_pos (by assumption)])]
  · rw [h _ _ _ _ hu hv (by omega)]; simp only [e (i + 1) 0 (by rw [if_pos (by assumption)]) (by rw [if_neg (by assumption)])]
  · rw [h _ _ _ _ hu hv (by omega)]; simp only [e 0 (k + 1) (by rw [if_neg (by assumption)]) (by rw [if_pos (by assumption)])]
  · omega
theorem mem_rot1 {α : Type} {l : List α} {x : α} : x ∈ rot1 l ↔ x ∈ l := by
  cases l with
  | nil => rfl
  | cons a t => simp [rot1, or_comm]
end Go.Proofs.Ytbnjaaegbmhopaa
end
section
/- Features and sources: values. -/
namespace Go.Proofs.Ytbnjaaegbmhopaa
set_option linter.unusedVariables false

/-- A feature: id, kind, rank, name, points. -/
abbrev Feat := Int × Int × Int × ByteArray × List (Int × Int)
abbrev Feat.id (f : Feat) : Int := f.1
abbrev Feat.kind (f : Feat) : Int := f.2.1
abbrev Feat.rank (f : Feat) : Int := f.2.2.1
abbrev Feat.name (f : Feat) : ByteArray := f.2.2.2.1
abbrev Feat.pts (f : Feat) : List (Int × Int) := f.2.2.2.2
/-- Is it a name? -/
def lowB (x : UInt8) : Bool := decide (97 ≤ x.toNat) && decide (x.toNat ≤ 122)
def nameV (s : ByteArray) : Bool := s.data.toList.all lowB && inB (s.size : Int) 1 8
/-- One valid point. -/
def onePt : List (Int × Int) → Bool
  | [p] => isP p.1 p.2
  | _ => false
def shapeV (k : Int) (l : List (Int × Int)) : Bool :=
  if k = 1 then onePt l else if k = 2 then smpV l else if k = 3 then isRg l else false
/-- Is it a feature? -/
def featV (f : Feat) : Bool := inB f.1 1 99 && (inB f.2.2.1 0 9 && ((decide (f.2.2.2.1.size = 0) || nameV f.2.2.2.1) && shapeV f.2.1 f.2.2.2.2))
/-- Ids that rise. -/
def Rising (l : List Feat) : Prop := (l.map fun f => f.1).Pairwise (· < ·)
instance (l : List Feat) : Decidable (Rising l) := by unfold Rising; infer_instance
/-- Is it a source? -/
def srcV (l : List Feat) : Bool := l.all featV && (decide (Rising l) && decide (l.length ≤ 16))
theorem src_len {l : List Feat} (h : srcV l = true) : l.length ≤ 16 := by
  simp only [srcV, Bool.and_eq_true, decide_eq_true_eq] at h; exact h.2.2
theorem src_rise {l : List Feat} (h : srcV l = true) : Rising l := by
  simp only [srcV, Bool.and_eq_true, decide_eq_true_eq] at h; exact h.2.1
theorem src_all {l : List Feat} (h : srcV l = true) {f : Feat} (hf : f ∈ l) : featV f = true := by
  simp only [srcV, Bool.and_eq_true, List.all_eq_true] at h; exact h.1 f hf
theorem src_sub {l m : List Feat} (h : srcV l = true) (hs : m.Sublist l) : srcV m = true := by
  simp only [srcV, Bool.and_eq_true, decide_eq_true_eq, List.all_eq_true]
  exact ⟨fun f hf => src_all h (hs.subset hf), (src_rise h).sublist (hs.map _), Nat.le_trans hs.length_le (src_len h)⟩
/-- What the loop of IsSource has seen. -/
def SeenUp (l : List Feat) (j : Nat) : Prop := (l.take j).all featV = true ∧ Rising (l.take j)
theorem seen_zero (l : List Feat) : SeenUp l 0 := ⟨rfl, by simp [Rising]⟩
theorem rising_snoc {l : List Feat} {f : Feat} (h : Rising l) (hl : ∀ g, l.getLast? = some g → g.1 < f.1) : Rising (l ++ [f]) := by
  unfold Rising at h ⊢
  rw [List.map_append, List.pairwise_append]
  refine ⟨h, by simp, fun a ha b hb => ?_⟩
  simp only [List.map_cons, List.map_nil, List.mem_singleton] at hb
  subst hb
  cases hg : l.getLast? with
  | none => rw [List.getLast?_eq_none_iff] at hg; subst hg; simp at ha
  | some g =>
    have hlt := hl g hg
    obtain ⟨m, rfl⟩ := List.getLast?_eq_some_iff.1 hg
    rw [List.map_append, List.pairwise_append] at h
    rw [List.map_append, List.mem_append] at ha
    rcases ha with ha | ha
    · have := h.2.2 a ha g.1 (by simp)
      omega
    · simp only [List.map_cons, List.map_nil, List.mem_singleton] at ha
      omega
theorem seen_step {l : List Feat} {j : Nat} {f : Feat} (h : SeenUp l j) (hf : l[j]? = some f) (hv : featV f = true) (hr : ∀ g, 0 < j → l[j - 1]? = some g → g.1 < f.1) : SeenUp l (j + 1) := by
  unfold SeenUp at h ⊢
  rw [List.take_add_one, hf]
  refine ⟨by simp only [Option.toList_some, List.all_append, List.all_cons, List.all_nil, Bool.and_true, Bool.and_eq_true]; exact ⟨h.1, hv⟩, ?_⟩
  refine rising_snoc h.2 fun g hg => ?_
  have hj : j < l.length := (List.getElem?_eq_some_iff.1 hf).1
  rw [List.getLast?_eq_getElem?, List.length_take, Nat.min_eq_left (Nat.le_of_lt hj)] at hg
  by_cases h0 : 0 < j
  · rw [List.getElem?_take, if_pos (by omega)] at hg
    exact hr g h0 hg
  · obtain rfl : j = 0 := by omega
    simp at hg
theorem seen_all {l : List Feat} (h : SeenUp l l.length) : srcV l = decide (l.length ≤ 16) := by
  unfold SeenUp at h
  rw [List.take_length] at h
  simp [srcV, h.1, h.2]
theorem src_no1 {l : List Feat} {j : Nat} {f : Feat} (hf : l[j]? = some f) (hv : featV f = false) : srcV l = false := by
  have : l.all featV = false := by rw [List.all_eq_false]; exact ⟨f, List.mem_of_getElem? hf, by simp [hv]⟩
  simp [srcV, this]
theorem src_no2 {l : List Feat} {j : Nat} {f g : Feat} (h0 : 0 < j) (hg : l[j - 1]? = some g) (hf : l[j]? = some f) (hle : f.1 ≤ g.1) : srcV l = false := by
  have : ¬ Rising l := by
    unfold Rising
    rw [List.pairwise_iff_getElem]
    intro h
    obtain ⟨h1, h2⟩ := List.getElem?_eq_some_iff.1 hg
    obtain ⟨h3, h4⟩ := List.getElem?_eq_some_iff.1 hf
    have := h (j - 1) j (by simpa using h1) (by simpa using h3) (by omega)
    simp only [List.getElem_map, h2, h4] at this
    omega
  simp [srcV, this]
/-- The place of the first feature with an Id. -/
def findV (l : List Feat) (i : Int) : Int := match l.findIdx? (fun f => f.1 == i) with
  | some k => (k : Int)
  | none => -1
theorem find_at {l : List Feat} {i : Int} {j : Nat} {f : Feat} (hf : l[j]? = some f) (he : f.1 = i) (hn : ∀ (k : Nat) (g : Feat), k < j → l[k]? = some g → ¬ g.1 = i) : findV l i = (j : Int) := by
  have : l.findIdx? (fun f => f.1 == i) = some j := by
    rw [List.findIdx?_eq_some_iff_getElem]
    obtain ⟨h1, h2⟩ := List.getElem?_eq_some_iff.1 hf
    refine ⟨h1, by simp [h2, he], fun k hk => ?_⟩
    have := hn k l[k] hk (List.getElem?_eq_getElem (by omega))
    simpa using this
  simp [findV, this]
theorem find_none {l : List Feat} {i : Int} (hn : ∀ (k : Nat) (g : Feat), l[k]? = some g → ¬ g.1 = i) : findV l i = -1 := by
  have : l.findIdx? (fun f => f.1 == i) = none := by
    rw [List.findIdx?_eq_none_iff]
    intro g hg
    obtain ⟨k, hk⟩ := List.getElem?_of_mem hg
    simpa using hn k g hk
  simp [findV, this]
theorem find_ge (l : List Feat) (i : Int) : -1 ≤ findV l i := by unfold findV; split <;> omega
theorem find_lt (l : List Feat) (i : Int) : findV l i < (l.length : Int) ∨ findV l i = -1 := by
  unfold findV; split
  · next k h => rw [List.findIdx?_eq_some_iff_getElem] at h; obtain ⟨h1, _⟩ := h; left; omega
  · right; rfl
theorem find_yes {l : List Feat} {i : Int} {k : Nat} (h : findV l i = (k : Int)) : ∃ f : Feat, l[k]? = some f ∧ f.1 = i ∧ ∀ (m : Nat) (g : Feat), m < k → l[m]? = some g → ¬ g.1 = i := by
  unfold findV at h
  split at h
  · next j hj =>
    obtain rfl : j = k := by omega
    rw [List.findIdx?_eq_some_iff_getElem] at hj
    obtain ⟨h1, h2, h3⟩ := hj
    refine ⟨l[j], List.getElem?_eq_getElem h1, by simpa using h2, fun m g hm hg => ?_⟩
    obtain ⟨h4, h5⟩ := List.getElem?_eq_some_iff.1 hg
    have := h3 m hm
    rw [h5] at this
    simpa using this
  · omega
theorem find_not {l : List Feat} {i : Int} (h : findV l i = -1) {k : Nat} {g : Feat} (hg : l[k]? = some g) : ¬ g.1 = i := by
  unfold findV at h
  split at h
  · omega
  · next hj =>
    rw [List.findIdx?_eq_none_iff] at hj
    have := hj g (List.mem_of_getElem? hg)
    simpa using this
/-- How many come ahead of an Id. -/
def cutK : List Feat → Int → Nat
  | [], _ => 0
  | f :: t, i => if f.1 < i then cutK t i + 1 else 0
theorem cut_le (l : List Feat) (i : Int) : cutK l i ≤ l.length := by
  induction l with
  | nil => exact Nat.le_refl _
  | cons f t ih => unfold cutK; split <;> simp <;> omega
theorem cut_below {l : List Feat} {i : Int} {k : Nat} {g : Feat} (hk : k < cutK l i) (hg : l[k]? = some g) : g.1 < i := by
  induction l generalizing k with
  | nil => simp at hg
  | cons f t ih =>
    unfold cutK at hk
    split at hk
    · next h =>
      cases k with
      | zero => simp only [List.getElem?_cons_zero, Option.some.injEq] at hg; subst hg; exact h
      | succ k => exact ih (k := k) (by omega) (by simpa using hg)
    · omega
theorem cut_at {l : List Feat} {i : Int} {j : Nat} (hj : j ≤ l.length) (hb : ∀ (k : Nat) (g : Feat), k < j → l[k]? = some g → g.1 < i) (hs : ∀ g : Feat, l[j]? = some g → ¬ g.1 < i) : cutK l i = j := by
  induction l generalizing j with
  | nil => simp at hj; subst hj; rfl
  | cons f t ih =>
    unfold cutK
    cases j with
    | zero => rw [if_neg (hs f rfl)]
    | succ j =>
      rw [if_pos (hb 0 f (by omega) rfl)]
      have := ih (j := j) (by simpa using hj) (fun k g hk hg => hb (k + 1) g (by omega) (by simpa using hg)) (fun g hg => hs g (by simpa using hg))
      omega
/-- What comes behind, without one of the same Id. -/
def restV (l : List Feat) (i : Int) : List Feat := match l.drop (cutK l i) with
  | [] => []
  | g :: t => if g.1 = i then t else g :: t
def putOut (l : List Feat) (f : Feat) : List Feat := l.take (cutK l f.1) ++ [f] ++ restV l f.1
def putV (l : List Feat) (f : Feat) : List Feat × Bool := if srcV (putOut l f) then (putOut l f, true) else (l, false)
def takeV (l : List Feat) (i : Int) : List Feat × Bool := if srcV l ∧ 0 ≤ findV l i then (l.take (findV l i).toNat ++ l.drop ((findV l i).toNat + 1), true) else (l, false)
theorem rest_sub (l : List Feat) (i : Int) : (restV l i).Sublist (l.drop (cutK l i)) := by
  unfold restV
  split
  · next h => rw [h]; exact List.Sublist.slnil
  · next g t h => rw [h]; split
                  · exact List.sublist_cons_self _ _
                  · exact List.Sublist.refl _
theorem put_yes {l : List Feat} {f : Feat} (h : srcV (putOut l f) = true) : putV l f = (putOut l f, true) := by unfold putV; rw [if_pos h]
theorem put_no {l : List Feat} {f : Feat} (h : srcV (putOut l f) = false) : putV l f = (l, false) := by unfold putV; rw [h]; rfl
/-- What was put is found. -/
theorem put_at (l : List Feat) (f : Feat) : (putOut l f)[cutK l f.1]? = some f := by
  unfold putOut
  have h1 : (l.take (cutK l f.1)).length = cutK l f.1 := by rw [List.length_take, Nat.min_eq_left (cut_le _ _)]
  rw [List.append_assoc, List.getElem?_append_right (by rw [h1]; exact Nat.le_refl _), h1]
  simp
theorem put_find (l : List Feat) (f : Feat) : findV (putOut l f) f.1 = (cutK l f.1 : Int) := by
  refine find_at (put_at l f) rfl fun k g hk hg => ?_
  unfold putOut at hg
  have h1 : (l.take (cutK l f.1)).length = cutK l f.1 := by rw [List.length_take, Nat.min_eq_left (cut_le _ _)]
  rw [List.append_assoc, List.getElem?_append_left (by rw [h1]; exact hk), List.getElem?_take, if_pos hk] at hg
  have := cut_below hk hg
  omega
/-- What is left when it is taken away. -/
def leftV (l : List Feat) (i : Int) : List Feat := l.take (cutK l i) ++ restV l i
theorem put_take {l : List Feat} {f : Feat} (h : srcV (putOut l f) = true) : takeV (putOut l f) f.1 = (leftV l f.1, true) := by
  unfold takeV
  rw [put_find, if_pos ⟨h, by omega⟩, Int.toNat_natCast]
  have h1 : (l.take (cutK l f.1)).length = cutK l f.1 := by rw [List.length_take, Nat.min_eq_left (cut_le _ _)]
  have h2 : (putOut l f).take (cutK l f.1) = l.take (cutK l f.1) := by
    unfold putOut
    rw [List.append_assoc, List.take_append_of_le_length (by rw [h1]; exact Nat.le_refl _), List.take_take, Nat.min_self]
  have h3 : (putOut l f).drop (cutK l f.1 + 1) = restV l f.1 := by
    unfold putOut
    have h4 : (l.take (cutK l f.1) ++ [f]).length = cutK l f.1 + 1 := by rw [List.length_append, h1]; rfl
    rw [← h4, List.drop_left]
  rw [h2, h3]; rfl
theorem left_sub (l : List Feat) (f : Feat) : (leftV l f.1).Sublist (putOut l f) := by
  unfold leftV putOut
  rw [List.append_assoc]
  exact (List.Sublist.refl _).append (List.sublist_append_right _ _)
theorem left_src {l : List Feat} {f : Feat} (h : srcV (putOut l f) = true) : srcV (leftV l f.1) = true := src_sub h (left_sub l f)
theorem left_gone {l : List Feat} {f : Feat} (h : srcV (putOut l f) = true) : findV (leftV l f.1) f.1 = -1 := by
  refine find_none fun k g hg => ?_
  have hr := src_rise h
  unfold putOut Rising at hr
  rw [List.map_append, List.map_append, List.pairwise_append] at hr
  obtain ⟨ha, hb, hc⟩ := hr
  rw [List.pairwise_append] at ha
  have hm := List.mem_of_getElem? hg
  unfold leftV at hm
  rw [List.mem_append] at hm
  rcases hm with hm | hm
  · have := ha.2.2 g.1 (List.mem_map.2 ⟨g, hm, rfl⟩) f.1 (by simp)
    omega
  · have := hc f.1 (by simp) g.1 (List.mem_map.2 ⟨g, hm, rfl⟩)
    omega
theorem left_same {l : List Feat} {i : Int} (h : findV l i < 0) : leftV l i = l := by
  have hn : findV l i = -1 := by have := find_ge l i; omega
  have : restV l i = l.drop (cutK l i) := by
    unfold restV
    split
    · next e => rw [e]
    · next g t e =>
      have hg : l[cutK l i]? = some g := by
        have : (l.drop (cutK l i))[0]? = some g := by rw [e]; rfl
        rwa [List.getElem?_drop, Nat.add_zero] at this
      rw [if_neg (find_not hn hg), e]
  unfold leftV
  rw [this, List.take_append_drop]
end Go.Proofs.Ytbnjaaegbmhopaa
end
section
/- Features in memory: what a slice of features shows. -/
namespace Go.Proofs.Ytbnjaaegbmhopaa
open Go.ChangeShapes Go.WideShapes Go.ChangeAt Go.RowKit
set_option linter.unusedVariables false

/-- A feature's cells: its points are a slice. -/
abbrev FCel := Int × Int × Int × ByteArray × Option Addr × Nat × Nat
def encF (x : FCel) : List Value := [.int .i64 x.1, .int .i64 x.2.1, .int .i64 x.2.2.1, .string x.2.2.2.1, .slice x.2.2.2.2.1 x.2.2.2.2.2.1 x.2.2.2.2.2.2]
theorem elF : IsEl 5 encF := ⟨by decide, fun x => ⟨rfl, fun u hu => by simp only [encF, List.mem_cons, List.not_mem_nil, or_false] at hu; rcases hu with rfl | rfl | rfl | rfl | rfl <;> rfl⟩⟩
/-- A feature as a value, its points in a slice. -/
abbrev FtC (a k r : Int) (s : ByteArray) (A : Option Addr) (n c : Nat) : Array Value := #[.int .i64 a, .int .i64 k, .int .i64 r, .string s, .slice A n c]
abbrev FtV (a k r : Int) (s : ByteArray) (A : Option Addr) (n c : Nat) : Value := .agg (FtC a k r s A n c)
/-- What a feature's cells show: below block B. -/
def Deep (w : World) (B : Nat) (x : FCel) (f : Feat) : Prop :=
  x.1 = f.1 ∧ x.2.1 = f.2.1 ∧ x.2.2.1 = f.2.2.1 ∧ x.2.2.2.1 = f.2.2.2.1 ∧ x.2.2.2.2.2.1 = f.2.2.2.2.length ∧ SeesE 2 encPoint w B x.2.2.2.2.1 f.2.2.2.2 ∧ f.2.2.2.2.length ≤ x.2.2.2.2.2.2 ∧ (x.2.2.2.2.2.2 : Int) ≤ 9223372036854775807
/-- What a slice of features shows, below block B. -/
def SeesF (w : World) (B : Nat) (A : Option Addr) (l : List Feat) : Prop :=
  ∃ xs : List FCel, xs.length = l.length ∧ SeesE 5 encF w B A xs ∧ ∀ (j : Nat) x f, xs[j]? = some x → l[j]? = some f → Deep w B x f
section
variable {w w' : World} {B B' : Nat} {A : Option Addr} {l : List Feat} {x : FCel} {f : Feat}
theorem Deep.below (h : Deep w B x f) (hb : Below B w w') : Deep w' B x f := ⟨h.1, h.2.1, h.2.2.1, h.2.2.2.1, h.2.2.2.2.1, h.2.2.2.2.2.1.below hb, h.2.2.2.2.2.2⟩
theorem Deep.mono (h : Deep w B x f) (hB : B ≤ B') : Deep w B' x f := ⟨h.1, h.2.1, h.2.2.1, h.2.2.2.1, h.2.2.2.2.1, h.2.2.2.2.2.1.mono hB, h.2.2.2.2.2.2⟩
theorem SeesF.below (h : SeesF w B A l) (hb : Below B w w') : SeesF w' B A l := by
  obtain ⟨xs, h1, h2, h3⟩ := h
  exact ⟨xs, h1, h2.below hb, fun j x f hx hf => (h3 j x f hx hf).below hb⟩
theorem SeesF.mono (h : SeesF w B A l) (hB : B ≤ B') : SeesF w B' A l := by
  obtain ⟨xs, h1, h2, h3⟩ := h
  exact ⟨xs, h1, h2.mono hB, fun j x f hx hf => (h3 j x f hx hf).mono hB⟩
theorem SeesF.belowAll (h : SeesF w w.heap.size A l) (hb : Below w.heap.size w w') : SeesF w' w'.heap.size A l := (h.below hb).mono hb.size
theorem SeesF.nil : SeesF w B A [] := ⟨[], rfl, SeesE.nil, fun j x f hx => by simp at hx⟩
/-- One of them: where its cells lie, and its points. -/
theorem SeesF.at_ (h : SeesF w B A l) {j : Nat} {a k r : Int} {s : ByteArray} {ps : List (Int × Int)} (hf : l[j]? = some (a, k, r, s, ps)) :
    ∃ b off A' c, A = some ⟨b, off, none⟩ ∧ b < B ∧ SeesE 2 encPoint w B A' ps ∧ (ps.length ≤ c ∧ (c : Int) ≤ 9223372036854775807) ∧
      (w.cell? ⟨b, off + j * 5, none⟩ = some (.int .i64 a) ∧ w.cell? ⟨b, off + j * 5 + 1, none⟩ = some (.int .i64 k) ∧ w.cell? ⟨b, off + j * 5 + 2, none⟩ = some (.int .i64 r) ∧
        w.cell? ⟨b, off + j * 5 + 3, none⟩ = some (.string s) ∧ w.cell? ⟨b, off + j * 5 + 4, none⟩ = some (.slice A' ps.length c)) := by
  obtain ⟨xs, h1, h2, h3⟩ := h
  have hj : j < l.length := (List.getElem?_eq_some_iff.1 hf).1
  obtain ⟨⟨a', k', r', s', A', m, c⟩, hx⟩ : ∃ x, xs[j]? = some x := ⟨_, List.getElem?_eq_getElem (by omega)⟩
  obtain ⟨b, off, e, hb, hc⟩ := h2 j _ hx
  obtain ⟨e1, e2, e3, e4, e5, hs, hcap⟩ := h3 j _ _ hx hf
  dsimp only at e1 e2 e3 e4 e5 hs hcap
  subst e1 e2 e3 e4 e5
  exact ⟨b, off, A', c, e, hb, hs, hcap, hc 0 _ rfl, hc 1 _ rfl, hc 2 _ rfl, hc 3 _ rfl, hc 4 _ rfl⟩
/-- A cut. -/
theorem SeesF.cut (h : SeesF w B A l) (lo m : Nat) (A' : Option Addr) (hA : lo < l.length → A' = A.map (·.add (lo * 5))) : SeesF w B A' ((l.drop lo).take m) := by
  obtain ⟨xs, h1, h2, h3⟩ := h
  refine ⟨(xs.drop lo).take m, by rw [List.length_take, List.length_take, List.length_drop, List.length_drop, h1], h2.cut lo m A' (by rw [h1]; exact hA), fun j x f hx hf => ?_⟩
  rw [List.getElem?_take] at hx hf
  split at hx
  · next hm =>
    rw [if_pos hm, List.getElem?_drop] at hf
    rw [List.getElem?_drop] at hx
    exact h3 _ _ _ hx hf
  · cases hx
end
end Go.Proofs.Ytbnjaaegbmhopaa
end
section
/- Features in memory: a slice of features that the call owns, with the rows of their points. -/
namespace Go.Proofs.Ytbnjaaegbmhopaa
open Go.ChangeShapes Go.WideShapes Go.ChangeAt Go.RowKit
set_option linter.unusedVariables false

/-- The slice of a feature's points. -/
def slF (x : FCel) : Value := .slice x.2.2.2.2.1 x.2.2.2.2.2.1 x.2.2.2.2.2.2
def Shal (x : FCel) (f : Feat) : Prop := x.1 = f.1 ∧ x.2.1 = f.2.1 ∧ x.2.2.1 = f.2.2.1 ∧ x.2.2.2.1 = f.2.2.2.1
/-- No two rows of points in one block. -/
def ApartF (xs : List FCel) : Prop := ∀ (i j : Nat) x y b, i ≠ j → xs[i]? = some x → xs[j]? = some y → (slF x).ownBlock = some b → (slF y).ownBlock ≠ some b
/-- The rows of points of features that lie in v. -/
def RowsF (w : World) (B : Nat) (v : Value) (xs : List FCel) (l : List Feat) : Prop :=
  xs.length = l.length ∧ ApartF xs ∧ ∀ (j : Nat) x f, xs[j]? = some x → l[j]? = some f → Shal x f ∧ OwnE 2 encPoint w B 25 (slF x) f.2.2.2.2 ∧ ∀ b, (slF x).ownBlock = some b → v.ownBlock ≠ some b
section
variable {w w' w0 : World} {B C : Nat} {v v' : Value} {A : Option Addr} {m c : Nat} {xs ys : List FCel} {l l2 : List Feat} {x : FCel} {f : Feat}
theorem RowsF.len (h : RowsF w B v xs l) : xs.length = l.length := h.1
theorem own_caps {α : Type} {n : Nat} {enc : α → List Value} {e : TypeId} {L : List α} (h : OwnE n enc w B e (.slice A m c) L) : m = L.length ∧ L.length ≤ c ∧ (c : Int) ≤ 9223372036854775807 := by
  obtain ⟨A', c', hv, hc, hl⟩ := h.form
  simp only [Value.slice.injEq] at hv
  unfold maxLen at hc
  omega
theorem RowsF.belowAll (h : RowsF w B v xs l) (hb : Below w.heap.size w w') : RowsF w' B v xs l :=
  ⟨h.1, h.2.1, fun j x f hx hf => by obtain ⟨h1, h2, h3⟩ := h.2.2 j x f hx hf; exact ⟨h1, h2.belowAll hb, h3⟩⟩
theorem RowsF.mono (h : RowsF w B v xs l) (hC : C ≤ B) : RowsF w C v xs l :=
  ⟨h.1, h.2.1, fun j x f hx hf => by obtain ⟨h1, h2, h3⟩ := h.2.2 j x f hx hf; exact ⟨h1, h2.mono hC, h3⟩⟩
/-- The rows behind the row of the slice: it grows, and they stay. -/
theorem RowsF.grown (h : RowsF w B v xs l) (hg : w.grownBy w' v.ownBlock) (hv : v'.ownBlock = v.ownBlock ∨ v'.ownBlock = some w.heap.size) : RowsF w' B v' xs l := by
  refine ⟨h.1, h.2.1, fun j x f hx hf => ?_⟩
  obtain ⟨h1, h2, h3⟩ := h.2.2 j x f hx hf
  refine ⟨h1, h2.kept hg ?_, fun b hb he => ?_⟩
  · match hs : (slF x).ownBlock with
    | none => exact .inl rfl
    | some b => exact .inr fun e => h3 b hs e.symm
  · rcases hv with hv | hv
    · rw [hv] at he; exact h3 b hb he
    · rw [hv] at he
      have := (h2.lt b hb).2
      simp only [Option.some.injEq] at he
      omega
/-- Two lists of features side by side: the second one's rows lie behind the first one's. -/
theorem RowsF.app (h : RowsF w B v xs l) (h2 : RowsF w B v ys l2) (hs : ∀ (i j : Nat) x y b, xs[i]? = some x → ys[j]? = some y → (slF x).ownBlock = some b → (slF y).ownBlock ≠ some b) : RowsF w B v (xs ++ ys) (l ++ l2) := by
  refine ⟨by rw [List.length_append, List.length_append, h.1, h2.1], fun i j x y b hij hx hy hb => ?_, fun j x f hx hf => ?_⟩
  · rw [List.getElem?_append] at hx hy
    split at hx
    · split at hy
      · exact h.2.1 i j x y b hij hx hy hb
      · exact hs _ _ x y b hx hy hb
    · split at hy
      · intro e
        exact hs _ _ y x b hy hx e hb
      · exact h2.2.1 _ _ x y b (by omega) hx hy hb
  · rw [List.getElem?_append] at hx hf
    rw [h.1] at hx
    split at hx
    · next hlt => rw [if_pos hlt] at hf; exact h.2.2 _ _ _ hx hf
    · next hlt => rw [if_neg hlt] at hf; exact h2.2.2 _ _ _ hx hf
/-- One feature whose points lie in new memory. -/
theorem rows_one {f : Feat} (ho : OwnE 2 encPoint w B 25 (slF x) f.2.2.2.2) (hb : ∀ b, (slF x).ownBlock = some b → C ≤ b) (hv : ∀ g, v.ownBlock = some g → g < C) (hs : Shal x f) : RowsF w B v [x] [f] := by
  refine ⟨rfl, fun i j x y b hij hx hy => ?_, fun j x' f' hx hf => ?_⟩
  · have h1 := (List.getElem?_eq_some_iff.1 hx).1
    have h2 := (List.getElem?_eq_some_iff.1 hy).1
    simp at h1 h2
    omega
  · match j, hx, hf with
    | 0, hx, hf =>
      simp at hx hf
      subst hx hf
      refine ⟨hs, ho, fun b h1 h2 => ?_⟩
      have := hb b h1
      have := hv b h2
      omega
    | j + 1, hx, hf => simp at hx
/-- What was ahead of C, and what lies behind it. -/
theorem rows_sep (h : RowsF w0 B v xs l) (hC : w0.heap.size ≤ C) (hy : ∀ (j : Nat) y b, ys[j]? = some y → (slF y).ownBlock = some b → C ≤ b) :
    ∀ (i j : Nat) x y b, xs[i]? = some x → ys[j]? = some y → (slF x).ownBlock = some b → (slF y).ownBlock ≠ some b := fun i j x y b hx hy' hb he => by
  obtain ⟨f, hf⟩ : ∃ f, l[i]? = some f := ⟨_, List.getElem?_eq_getElem (by rw [← h.1]; exact (List.getElem?_eq_some_iff.1 hx).1)⟩
  obtain ⟨_, h2, _⟩ := h.2.2 i x f hx hf
  have := (h2.lt b hb).2
  have := hy j y b hy' he
  omega
/-- Rows behind C are none of what lies ahead of it. -/
theorem RowsF.turn {u : Value} {l2 : List Feat} (h : RowsF w C u ys l2) (hv : ∀ g, v.ownBlock = some g → g < C) : RowsF w C v ys l2 :=
  ⟨h.1, h.2.1, fun j x f hx hf => by
    obtain ⟨h1, h2, _⟩ := h.2.2 j x f hx hf
    refine ⟨h1, h2, fun b hb he => ?_⟩
    have := (h2.lt b hb).1
    have := hv b he
    omega⟩
end
end Go.Proofs.Ytbnjaaegbmhopaa
end
section
/- Features: IsName, IsFeature, IsSource and FindFeature of the model. -/
namespace Go.Proofs.Ytbnjaaegbmhopaa
open Go.ChangeShapes Go.WideShapes Go.ChangeAt Go.RowKit
set_option linter.unusedVariables false

theorem name_take (s : ByteArray) (k : Nat) (h : k < s.size) : s.data.toList.take (k + 1) = s.data.toList.take k ++ [s[k]] := by
  rw [List.take_succ_eq_append_getElem (by simpa using h)]; rfl
theorem name_mem (s : ByteArray) (k : Nat) (h : k < s.size) : s[k] ∈ s.data.toList := by
  have : s[k] = s.data.toList[k]'(by simpa using h) := rfl
  rw [this]; exact List.getElem_mem _
theorem name_no {s : ByteArray} {k : Nat} (h : k < s.size) (hc : s[k].toNat < 97 ∨ 122 < s[k].toNat) : nameV s = false := by
  have : s.data.toList.all lowB = false := by
    rw [List.all_eq_false]
    refine ⟨s[k], name_mem s k h, ?_⟩
    simp only [lowB, Bool.and_eq_true, decide_eq_true_eq]
    omega
  simp [nameV, this]
theorem name_end {s : ByteArray} (h : ∀ c ∈ s.data.toList.take s.size, lowB c = true) : nameV s = inB (s.size : Int) 1 8 := by
  have hl : s.data.toList.length = s.size := Array.length_toList
  rw [← hl, List.take_length] at h
  have : s.data.toList.all lowB = true := List.all_eq_true.2 h
  simp [nameV, this]
theorem name_step {s : ByteArray} {k : Nat} (h : k < s.size) (ht : ∀ c ∈ s.data.toList.take k, lowB c = true) (h1 : 97 ≤ s[k].toNat) (h2 : s[k].toNat ≤ 122) : ∀ c ∈ s.data.toList.take (k + 1), lowB c = true := by
  rw [name_take s k h]
  intro c hc
  rw [List.mem_append, List.mem_singleton] at hc
  rcases hc with hc | rfl
  · exact ht c hc
  · simp only [lowB, Bool.and_eq_true, decide_eq_true_eq]; exact ⟨h1, h2⟩
theorem Vars.c5 {w0 w : World} {l : List (Array Value)} {v0 v1 v2 v3 v4 : Value} (h : Vars w0 w l) (b j : Nat) (hb : b = w0.heap.size + j) (hj : l[j]? = some #[v0, v1, v2, v3, v4]) : w.cell? ⟨b, 0, none⟩ = some v0 ∧ w.cell? ⟨b, 1, none⟩ = some v1 ∧ w.cell? ⟨b, 2, none⟩ = some v2 ∧ w.cell? ⟨b, 3, none⟩ = some v3 ∧ w.cell? ⟨b, 4, none⟩ = some v4 :=
  ⟨h.cell b j 0 hb hj rfl, h.cell b j 1 hb hj rfl, h.cell b j 2 hb hj rfl, h.cell b j 3 hb hj rfl, h.cell b j 4 hb hj rfl⟩
theorem Vars.c50 {w0 w : World} {l : List (Array Value)} {v0 v1 v2 v3 v4 : Value} (h : Vars w0 w (#[v0, v1, v2, v3, v4] :: l)) : w.cell? ⟨w0.heap.size, 0, none⟩ = some v0 ∧ w.cell? ⟨w0.heap.size, 1, none⟩ = some v1 ∧ w.cell? ⟨w0.heap.size, 2, none⟩ = some v2 ∧ w.cell? ⟨w0.heap.size, 3, none⟩ = some v3 ∧ w.cell? ⟨w0.heap.size, 4, none⟩ = some v4 := h.c5 _ 0 rfl rfl
end Go.Proofs.Ytbnjaaegbmhopaa
end
section
/- Features: l9Feature and l9Copy of the model. -/
namespace Go.Proofs.Ytbnjaaegbmhopaa
open Go.ChangeShapes Go.WideShapes Go.ChangeAt Go.RowKit
set_option linter.unusedVariables false

theorem Vars.keepB {w0 w w' : World} {l : List (Array Value)} {B : Nat} (h : Vars w0 w l) (hb : Below B w w') (hB : w0.heap.size + l.length ≤ B) : Vars w0 w' l := by
  refine ⟨h.1.trans (hb.mono (by omega)), Nat.le_trans h.2.1 hb.size, fun j x hj => ?_⟩
  have hl : j < l.length := (List.getElem?_eq_some_iff.1 hj).1
  obtain ⟨T, h3⟩ := h.2.2 j x hj
  exact ⟨T, (hb.block _ (by omega)).trans h3⟩
theorem Vars.f50 {w0 w : World} {l : List (Array Value)} {cs : Array Value} (h : Vars w0 w (cs :: l)) (i : Nat) : w.frozen? ⟨w0.heap.size, i, none⟩ = false := h.frozen w0.heap.size 0 i rfl rfl
theorem Vars.f51 {w0 w : World} {l : List (Array Value)} {cs cs' : Array Value} (h : Vars w0 w (cs :: cs' :: l)) : w.frozen? ⟨w0.heap.size + 1, 0, none⟩ = false ∧ w.frozen? ⟨w0.heap.size + 1, 1, none⟩ = false ∧ w.frozen? ⟨w0.heap.size + 1, 2, none⟩ = false ∧ w.frozen? ⟨w0.heap.size + 1, 3, none⟩ = false ∧ w.frozen? ⟨w0.heap.size + 1, 4, none⟩ = false :=
  ⟨h.frozen _ 1 0 rfl rfl, h.frozen _ 1 1 rfl rfl, h.frozen _ 1 2 rfl rfl, h.frozen _ 1 3 rfl rfl, h.frozen _ 1 4 rfl rfl⟩
theorem Vars.c51 {w0 w : World} {l : List (Array Value)} {cs : Array Value} {v0 v1 v2 v3 v4 : Value} (h : Vars w0 w (cs :: #[v0, v1, v2, v3, v4] :: l)) : w.cell? ⟨w0.heap.size + 1, 0, none⟩ = some v0 ∧ w.cell? ⟨w0.heap.size + 1, 1, none⟩ = some v1 ∧ w.cell? ⟨w0.heap.size + 1, 2, none⟩ = some v2 ∧ w.cell? ⟨w0.heap.size + 1, 3, none⟩ = some v3 ∧ w.cell? ⟨w0.heap.size + 1, 4, none⟩ = some v4 := h.c5 _ 1 rfl rfl
/-- A store ahead of what the call owns. -/
theorem OwnE.putO {α : Type} {n : Nat} {enc : α → List Value} {w : World} {B : Nat} {e : TypeId} {v : Value} {L : List α} (h : OwnE n enc w B e v L) {b : Nat} (hb : b < B) (i : Nat) (u : Value) : OwnE n enc (w.setCell ⟨b, i, none⟩ u) B e v L := by
  refine ⟨h.1, ?_⟩
  rcases h.2 with hn | ⟨g, cap, cur, rfl, hB, hg, rest⟩
  · exact .inl hn
  · exact .inr ⟨g, cap, cur, rfl, hB, (Below.heap_setCell _ _ _ _ (by simp; omega)).trans hg, rest⟩
/-- A call gives a feature whose points lie in new memory. -/
def GivesFt (a k r : Int) (s : ByteArray) (ps : List (Int × Int)) (w : World) (e : Ending) (w' : World) : Prop :=
  ∃ A L c, Hid (L = ps) ∧ e = .returned (FtV a k r s A L.length c) ∧ OwnE 2 encPoint w' w.heap.size 25 (.slice A L.length c) L ∧ Below w.heap.size w w'
/-- All features' points are few. -/
def FewP (l : List Feat) : Prop := ∀ (j : Nat) (f : Feat), l[j]? = some f → f.2.2.2.2.length ≤ 274877906944
/-- Small enough for a walk: names and points. -/
def SmallF (l : List Feat) : Prop := ∀ (j : Nat) (f : Feat), l[j]? = some f → f.2.2.2.2.length ≤ 274877906944 ∧ f.2.2.2.1.size ≤ maxLen
section
variable {l : List Feat}
theorem SmallF.few (h : SmallF l) : FewP l := fun j f hf => (h j f hf).1
theorem SmallF.take (h : SmallF l) (j : Nat) : SmallF (l.take j) := fun i f hf => by
  rw [List.getElem?_take] at hf
  split at hf
  · exact h i f hf
  · cases hf
theorem SmallF.drop (h : SmallF l) (j : Nat) : SmallF (l.drop j) := fun i f hf => by
  rw [List.getElem?_drop] at hf
  exact h _ f hf
end
end Go.Proofs.Ytbnjaaegbmhopaa
end
section
/- Features: what the laws do with them: toFeature, eqFeature, and slices of them. -/
namespace Go.Proofs.Ytbnjaaegbmhopaa
open Go.ChangeShapes Go.WideShapes Go.ChangeAt Go.RowKit
set_option linter.unusedVariables false

theorem Vars.c52 {w0 w : World} {l : List (Array Value)} {cs cs' : Array Value} {v0 v1 v2 v3 v4 : Value} (h : Vars w0 w (cs :: cs' :: #[v0, v1, v2, v3, v4] :: l)) : w.cell? ⟨w0.heap.size + 1 + 1, 0, none⟩ = some v0 ∧ w.cell? ⟨w0.heap.size + 1 + 1, 1, none⟩ = some v1 ∧ w.cell? ⟨w0.heap.size + 1 + 1, 2, none⟩ = some v2 ∧ w.cell? ⟨w0.heap.size + 1 + 1, 3, none⟩ = some v3 ∧ w.cell? ⟨w0.heap.size + 1 + 1, 4, none⟩ = some v4 := h.c5 _ 2 rfl rfl
section
variable {w : World} {g B cc : Nat} {e : TypeId} {L : List FCel} {j : Nat} {v : Value} {l : List Feat}
/-- One feature's cells are written. -/
theorem rowF_set (h : RowE 5 encF w g e cc L) (hj : j < L.length) (a k r : Int) (s : ByteArray) (A : Option Addr) (n m : Nat) :
    RowE 5 encF (((((w.setCell ⟨g, j * 5, none⟩ (.int .i64 a)).setCell ⟨g, j * 5 + 1, none⟩ (.int .i64 k)).setCell ⟨g, j * 5 + 2, none⟩ (.int .i64 r)).setCell ⟨g, j * 5 + 3, none⟩ (.string s)).setCell ⟨g, j * 5 + 4, none⟩ (.slice A n m)) g e cc (L.set j (a, k, r, s, A, n, m)) := by
  obtain ⟨⟨y0, y1, y2, y3, y4, y5, y6⟩, hx⟩ : ∃ x, L[j]? = some x := ⟨_, List.getElem?_eq_getElem hj⟩
  have h1 := h.put elF (k := 0) (x' := (a, y1, y2, y3, y4, y5, y6)) (v := .int .i64 a) hx (by decide) rfl
  have h2 := h1.put elF (k := 1) (x' := (a, k, y2, y3, y4, y5, y6)) (v := .int .i64 k) (List.getElem?_set_self (by simpa using hj)) (by decide) rfl
  have h3 := h2.put elF (k := 2) (x' := (a, k, r, y3, y4, y5, y6)) (v := .int .i64 r) (List.getElem?_set_self (by simpa using hj)) (by decide) rfl
  have h4 := h3.put elF (k := 3) (x' := (a, k, r, s, y4, y5, y6)) (v := .string s) (List.getElem?_set_self (by simpa using hj)) (by decide) rfl
  have h5 := h4.put elF (k := 4) (x' := (a, k, r, s, A, n, m)) (v := .slice A n m) (List.getElem?_set_self (by simpa using hj)) (by decide) rfl
  simp only [List.set_set, Nat.add_zero] at h5
  exact h5
theorem rowF_cells (h : RowE 5 encF w g e cc L) {y : FCel} (hx : L[j]? = some y) : w.cell? ⟨g, j * 5, none⟩ = some (.int .i64 y.1) ∧ w.cell? ⟨g, j * 5 + 1, none⟩ = some (.int .i64 y.2.1) ∧ w.cell? ⟨g, j * 5 + 2, none⟩ = some (.int .i64 y.2.2.1) ∧ w.cell? ⟨g, j * 5 + 3, none⟩ = some (.string y.2.2.2.1) ∧ w.cell? ⟨g, j * 5 + 4, none⟩ = some (slF y) :=
  ⟨h.cell elF hx (k := 0) rfl, h.cell elF hx (k := 1) rfl, h.cell elF hx (k := 2) rfl, h.cell elF hx (k := 3) rfl, h.cell elF hx (k := 4) rfl⟩
theorem rowF_frz (h : RowE 5 encF w g e cc L) (j : Nat) : w.frozen? ⟨g, j * 5, none⟩ = false ∧ w.frozen? ⟨g, j * 5 + 1, none⟩ = false ∧ w.frozen? ⟨g, j * 5 + 2, none⟩ = false ∧ w.frozen? ⟨g, j * 5 + 3, none⟩ = false ∧ w.frozen? ⟨g, j * 5 + 4, none⟩ = false :=
  ⟨h.frozen _, h.frozen _, h.frozen _, h.frozen _, h.frozen _⟩
theorem OwnE.putN {α : Type} {n : Nat} {enc : α → List Value} {LL : List α} (h : OwnE n enc w B e v LL) {b : Nat} (hb : v.ownBlock ≠ some b) (i : Nat) (u : Value) : OwnE n enc (w.setCell ⟨b, i, none⟩ u) B e v LL := by
  refine ⟨h.1, ?_⟩
  rcases h.2 with hn | ⟨g, cap, cur, rfl, hB, hg, rest⟩
  · exact .inl hn
  · exact .inr ⟨g, cap, cur, rfl, hB, (Below.heap_setCell _ _ _ _ (by intro e; apply hb; simp [Value.ownBlock]; first | exact e | exact e.symm)).trans hg, rest⟩
theorem RowsF.putN (h : RowsF w B v L l) {b : Nat} (hv : v.ownBlock = some b) (i : Nat) (u : Value) : RowsF (w.setCell ⟨b, i, none⟩ u) B v L l :=
  ⟨h.1, h.2.1, fun j x f hx hf => by
    obtain ⟨h1, h2, h3⟩ := h.2.2 j x f hx hf
    exact ⟨h1, h2.putN (fun e => h3 b e hv) i u, h3⟩⟩
end
theorem take_setF {α : Type} (xs : List α) (j : Nat) (x : α) (h : j < xs.length) : (xs.set j x).take (j + 1) = xs.take j ++ [x] := by
  have e : (xs.set j x).take j = xs.take j := by
    apply List.ext_getElem?
    intro i
    rw [List.getElem?_take, List.getElem?_take]
    split
    · rw [List.getElem?_set_ne (by omega)]
    · rfl
  rw [List.take_add_one, List.getElem?_set_self h, e]
  rfl
end Go.Proofs.Ytbnjaaegbmhopaa
end
section
/- The laws' marks over slices of structs, and the look at them. -/
namespace Go.Proofs.Ytbnjaaegbmhopaa
open Go.ChangeShapes Go.WideShapes Go.ChangeAt Go.RowKit
set_option linter.unusedVariables false

theorem growE_setCell {w w0 : World} {p : Nat} (hg : w0.grownBy w (some p)) (j : Nat) (v : Value) : w0.grownBy (w.setCell ⟨p, j, none⟩ v) (some p) :=
  ⟨hg.os, hg.tape, hg.output, Nat.le_trans hg.size (by simp [World.setCell]), fun k hk hne => (Below.heap_setCell _ _ _ _ (fun e => hne (by rw [e]))).trans (hg.block k hk hne)⟩
/-- What a mark lays at place j. -/
def mkAtPoint (k0 j : Nat) : Int × Int := (((k0 + j * 2 : Nat) : Int), ((k0 + j * 2 : Nat) : Int) + 1)
def mkPoint (k0 m : Nat) : List (Int × Int) := (List.range m).map (mkAtPoint k0)
theorem mkPoint_len (k0 m : Nat) : (mkPoint k0 m).length = m := by simp [mkPoint]
theorem mkPoint_get (k0 m i : Nat) (h : i < m) : (mkPoint k0 m)[i]? = some (mkAtPoint k0 i) := by simp [mkPoint, h]
def MarkPointRel (B : Nat) (A : Option Addr) (m c k0 : Nat) (w : World) (kk i : Value) (wr : World) : Prop :=
  ∃ (j : Nat) (L : List (Int × Int)), j ≤ m ∧ i = .int .i64 j ∧ kk = .int .i64 (k0 + j * 2 : Nat) ∧ L.length = m ∧ FillE (fun i => some (mkAtPoint k0 i)) j L ∧ OwnE 2 encPoint wr B 25 (.slice A m c) L ∧ w.grownBy wr (Value.ownBlock (.slice A m c))
set_option maxRecDepth 100000 in
theorem markPoint_any (A : Option Addr) (m c k0 B : Nat) (l : List (Int × Int)) (w : World) (hm : l.length = m) (ho : OwnE 2 encPoint w B 25 (.slice A m c) l) (hl : m ≤ 1099511627776) (hk : k0 ≤ 1099511627776) :
    Calls Try.prog 60 #[.slice A m c, .int .i64 k0] w fun e w' => e = .returned (.int .i64 (k0 + m * 2 : Nat)) ∧ OwnE 2 encPoint w' B 25 (.slice A m c) (mkPoint k0 m) ∧ w.grownBy w' (Value.ownBlock (.slice A m c)) := by
  have HO := Lib.hid ho; clear ho
  have HN := Lib.hid hm; clear hm
  go_enter Try.func60, Try.ntmps60
  go_wp2
  go_loopw [1, 5] (fun kk i wr => MarkPointRel B A m c k0 w kk i wr) (fun _ i _ => m - (intOf i).toNat)
  case atStart => exact ⟨0, l, Nat.zero_le _, rfl, by go_num, HN.out, FillE.zero _ _, HO.out, World.grownBy.refl _ _⟩
  case round =>
    obtain ⟨j, L, hj, rfl, rfl, hL, hf, ho, hg⟩ := hrel
    clear HO HN
    by_cases hlt : j < m
    · obtain ⟨g, rfl, hB, -, hr⟩ := ho.row (by omega)
      obtain ⟨⟨y0, y1⟩, hy⟩ : ∃ y, L[j]? = some y := ⟨_, List.getElem?_eq_getElem (by omega)⟩
      obtain ⟨c0, c1⟩ := rowCellsPoint hr hy
      obtain ⟨f0, f1⟩ := rowFrozenPoint hr j
      have HF := Lib.hid hf; clear hf
      have HR := Lib.hid hr; clear hr
      have HL := Lib.hid hL; clear hL
      have HG := Lib.hid hg; clear hg
      clear hy ho
      obtain ⟨K, hK⟩ : ∃ K : Int, ((k0 + j * 2 : Nat) : Int) = K := ⟨_, rfl⟩
      have hK0 : 0 ≤ K ∧ K ≤ 6597069766656 := by omega
      have hw1 : IntKind.i64.wrap (K + 1) = K + 1 := IntWalk.i64_in _ (by omega)
      have hw2 : IntKind.i64.wrap (K + 1 + 1) = K + 1 + 1 := IntWalk.i64_in _ (by omega)
      have HA : Hid (mkAtPoint k0 j = (K, K + 1)) := Lib.hid (by rw [← hK]; rfl)
      have HK : Hid (K + 2 = ((k0 + (j + 1) * 2 : Nat) : Int)) := Lib.hid (by omega)
      rw [hK]
      clear hK hK0
      go_wp2
      go_roundw
      case rel =>
        have h2 := (rowPoint_set HR.out (by rw [HL.out]; exact hlt) (K) (K + 1)).own elPoint hB
        rw [List.length_set, HL.out] at h2
        exact ⟨j + 1, _, by omega, by go_num, by rw [← HK.out]; go_num, by rw [List.length_set]; exact HL.out, HF.out.set (by rw [HL.out]; exact hlt) (congrArg some HA.out), h2, (growE_setCell (growE_setCell HG.out (j * 2) _) (j * 2 + 1) _)⟩
      case measure => simp [intOf]; omega
    · obtain rfl : j = m := by omega
      have HF := Lib.hid hf; clear hf
      have HO := Lib.hid ho; clear ho
      have HG := Lib.hid hg; clear hg
      have HL := Lib.hid hL; clear hL
      go_wp2
      go_ret
      have e : L = mkPoint k0 j := FillE.done (f := fun i => some (mkAtPoint k0 i)) (by rw [HL.out]; exact HF.out) (by rw [mkPoint_len]; exact HL.out.symm) (fun i hi => mkPoint_get _ _ _ (by rw [mkPoint_len] at hi; exact hi))
      have ho := HO.out
      rw [e] at ho
      exact ⟨rfl, ho, HG.out⟩
/-- The mark of a held row. -/
def MarkPointHeld (lo hi : Nat) (A : Option Addr) (m c k0 : Nat) (w : World) (e : Ending) (w' : World) : Prop :=
  ∃ q : Nat, Hid (q = k0 + m * 2) ∧ e = .returned (.int .i64 q) ∧ HeldE 2 encPoint w' lo hi 25 (.slice A m c) (mkPoint k0 m) ∧ w.grownBy w' (Value.ownBlock (.slice A m c))
theorem markPoint_held (A : Option Addr) (m c k0 lo hi : Nat) (l : List (Int × Int)) (w : World) (ho : HeldE 2 encPoint w lo hi 25 (.slice A m c) l) (hm : l.length = m) (hl : m ≤ 1099511627776) (hk : k0 ≤ 1099511627776) :
    Calls Try.prog 60 #[.slice A m c, .int .i64 k0] w (MarkPointHeld lo hi A m c k0 w) :=
  (markPoint_any A m c k0 lo l w hm ho.1 hl hk).mono fun e w' ⟨h1, h2, h3⟩ => ⟨_, Lib.hid rfl, h1, ⟨h2, ho.2.1, Nat.le_trans ho.2.2 h3.size⟩, h3⟩
set_option maxRecDepth 100000 in
theorem heldPoint_any (A : Option Addr) (m c k0 B : Nat) (w : World) (hs : SeesE 2 encPoint w B A (mkPoint k0 m)) (hl : m ≤ 1099511627776) (hk : k0 ≤ 1099511627776) :
    Calls Try.prog 61 #[.slice A m c, .int .i64 k0] w fun e w' => e = .returned (.int .i64 (k0 + m * 2 : Nat)) ∧ w = w' := by
  have HS := Lib.hid hs; clear hs
  go_enter Try.func61, Try.ntmps61
  go_wp2
  go_loop [1, 5] (fun kk i => ∃ j : Nat, j ≤ m ∧ i = .int .i64 j ∧ kk = .int .i64 (k0 + j * 2 : Nat)) (fun _ i => m - (intOf i).toNat)
  case atStart => exact ⟨0, Nat.zero_le _, rfl, by go_num⟩
  case round =>
    obtain ⟨j, hj, rfl, rfl⟩ := hrel
    by_cases hlt : j < m
    · obtain ⟨b, off, rfl, hbl, -⟩ := HS.out j _ (mkPoint_get k0 m j hlt)
      obtain ⟨K, hK⟩ : ∃ K : Int, ((k0 + j * 2 : Nat) : Int) = K := ⟨_, rfl⟩
      have hx : (mkPoint k0 m)[j]? = some (K, K + 1) := by rw [mkPoint_get k0 m j hlt, ← hK]; rfl
      obtain ⟨c0, c1⟩ := cellsPoint HS.out hx
      have hK0 : 0 ≤ K ∧ K ≤ 6597069766656 := by omega
      have hw1 : IntKind.i64.wrap (K + 1) = K + 1 := IntWalk.i64_in _ (by omega)
      have hw2 : IntKind.i64.wrap (K + 1 + 1) = K + 1 + 1 := IntWalk.i64_in _ (by omega)
      have HK : Hid (K + 2 = ((k0 + (j + 1) * 2 : Nat) : Int)) := Lib.hid (by omega)
      rw [hK]
      clear hK hK0 hx
      go_wp2
      go_round
      case rel => exact ⟨j + 1, by omega, by go_num, by rw [← HK.out]; go_num⟩
      case measure => simp [intOf]; omega
    · obtain rfl : j = m := by omega
      go_wp2
      go_ret
      exact ⟨rfl, rfl⟩
/-- The marks are found again: the next number. -/
theorem heldPoint_q (A : Option Addr) (m c k0 B : Nat) (w : World) (hs : SeesE 2 encPoint w B A (mkPoint k0 m)) (hl : m ≤ 1099511627776) (hk : k0 ≤ 1099511627776) :
    Calls Try.prog 61 #[.slice A m c, .int .i64 k0] w fun e w' => ∃ q : Nat, Hid (q = k0 + m * 2) ∧ e = .returned (.int .i64 q) ∧ w = w' :=
  (heldPoint_any A m c k0 B w hs hl hk).mono fun e w' ⟨h1, h2⟩ => ⟨_, Lib.hid rfl, h1, h2⟩
end Go.Proofs.Ytbnjaaegbmhopaa
end
section
/- markText of the laws: a text for each int, the same each time. -/
namespace Go.Proofs.Ytbnjaaegbmhopaa
open Go.ChangeShapes Go.WideShapes Go.ChangeAt Go.RowKit
set_option linter.unusedVariables false

def mkD (d : Nat) : UInt8 := UInt8.ofNat (48 + d)
theorem mkD_int (d : Nat) (h : d < 10) : (Value.int .u8 ((mkD d).toNat : Int)) = .int .u8 (48 + (d : Int)) := by
  unfold mkD
  congr 1
  have : (UInt8.ofNat (48 + d)).toNat = 48 + d := by simp [UInt8.toNat_ofNat]; omega
  omega
def mkG (x : Nat) (l : List UInt8) : List UInt8 := if h : x = 0 then l else mkG (x / 10) (mkD (x % 10) :: l)
termination_by x
decreasing_by omega
theorem mkG_zero (l : List UInt8) : mkG 0 l = l := by unfold mkG; simp
theorem mkG_step (x : Nat) (l : List UInt8) (h : x ≠ 0) : mkG x l = mkG (x / 10) (mkD (x % 10) :: l) := by rw [mkG]; simp [h]
theorem mkG_len (x : Nat) : ∀ l, l.length ≤ (mkG x l).length ∧ (mkG x l).length ≤ x / 10 + 1 + l.length ∧ (x ≠ 0 → l.length + 1 ≤ (mkG x l).length) := by
  induction x using Nat.strongRecOn with
  | _ x ih =>
    intro l
    by_cases h : x = 0
    · subst h; rw [mkG_zero]; exact ⟨Nat.le_refl _, by omega, by omega⟩
    · rw [mkG_step x l h]
      by_cases h1 : x / 10 = 0
      · rw [h1, mkG_zero]; simp only [List.length_cons]; exact ⟨by omega, by omega, by omega⟩
      · obtain ⟨a, b, c⟩ := ih (x / 10) (by omega) (mkD (x % 10) :: l)
        simp only [List.length_cons] at a b c
        exact ⟨by omega, by omega, fun _ => by omega⟩
theorem mkG_dig (m : Nat) : ∀ x l, x < 10 ^ m → (mkG x l).length ≤ m + l.length := by
  induction m with
  | zero => intro x l h; have : x = 0 := by simp at h; exact h
            subst this; rw [mkG_zero]; omega
  | succ m ih =>
    intro x l h
    by_cases hx : x = 0
    · subst hx; rw [mkG_zero]; omega
    · rw [mkG_step x l hx]
      have := ih (x / 10) (mkD (x % 10) :: l) (by rw [Nat.pow_succ] at h; omega)
      simp only [List.length_cons] at this
      omega
/-- The text that marks k. -/
def mkV (k : Int) : ByteArray := if k ≤ 0 then ⟨([109, 48] : List UInt8).toArray⟩ else ⟨(109 :: mkG k.toNat []).toArray⟩
theorem mk_conv (w : World) (b : Nat) (d : Nat) (z : Int) (hd : d < 10) (hz : z = 48 + (d : Int)) (hb : b = w.heap.size) :
    (convert 22 9 (.slice (some ⟨b, 0, none⟩) 1 1)).run Try.prog (w.alloc (.cells #[.int .u8 z] 5)) = .ok (.string ⟨[mkD d].toArray⟩) (w.alloc (.cells #[.int .u8 z] 5)) := by
  refine run_convert_bytes_back (P := Try.prog) _ 22 9 5 ⟨b, 0, none⟩ 1 [mkD d] Try.underlying22 Try.underlying5 Try.underlying9 ?_
  intro j hj
  have hj0 : j = 0 := by simp at hj; omega
  subst hj0; subst hb; subst hz
  simp only [List.getElem_cons_zero]
  rw [mkD_int d hd]
  simp [Addr.add, go_sem]
theorem mk_ret {a b : List UInt8} (h : a = b) : Ending.returned (.string ⟨a.toArray⟩) = .returned (.string ⟨b.toArray⟩) := by rw [h]

/-- The head of a round: digits l have been taken off, x is what is left. -/
def MkRel (n : Int) (B : Nat) (w : World) (v3 v4 : Value) (wr : World) : Prop :=
  ∃ x : Int, ∃ l : List UInt8, v4 = .int .i64 x ∧ v3 = .string ⟨l.toArray⟩ ∧ mkG x.toNat l = mkG n.toNat [] ∧
    0 ≤ x ∧ x ≤ 9223372036854775807 ∧ Below B w wr

end Go.Proofs.Ytbnjaaegbmhopaa
end
section
/- Marks over features: what they lay, and what they leave. -/
namespace Go.Proofs.Ytbnjaaegbmhopaa
open Go.ChangeShapes Go.WideShapes Go.ChangeAt Go.RowKit
set_option linter.unusedVariables false

/-- What a mark lays over one feature, over a list, and the next number. -/
def mkF1 (k : Nat) (f : Feat) : Feat := ((k : Int), (k : Int) + 1, (k : Int) + 2, mkV ((k : Int) + 3), mkPoint (k + 4) f.2.2.2.2.length)
def mkFn (k : Nat) (f : Feat) : Nat := k + 4 + f.2.2.2.2.length * 2
def mkFs : Nat → List Feat → List Feat
  | _, [] => []
  | k, f :: t => mkF1 k f :: mkFs (mkFn k f) t
def mkFq : Nat → List Feat → Nat
  | k, [] => k
  | k, f :: t => mkFq (mkFn k f) t
theorem mkFs_len (l : List Feat) : ∀ k, (mkFs k l).length = l.length := by
  induction l with
  | nil => intro k; rfl
  | cons f t ih => intro k; simp [mkFs, ih]
theorem mkFq_app (l l2 : List Feat) : ∀ k, mkFq k (l ++ l2) = mkFq (mkFq k l) l2 := by
  induction l with
  | nil => intro k; rfl
  | cons f t ih => intro k; simp [mkFq, ih]
theorem mkFs_app (l l2 : List Feat) : ∀ k, mkFs k (l ++ l2) = mkFs k l ++ mkFs (mkFq k l) l2 := by
  induction l with
  | nil => intro k; rfl
  | cons f t ih => intro k; simp [mkFs, mkFq, ih]
theorem mkFq_le (l : List Feat) : ∀ k, k ≤ mkFq k l := by
  induction l with
  | nil => intro k; exact Nat.le_refl _
  | cons f t ih => intro k; have := ih (mkFn k f); simp only [mkFq]; unfold mkFn at this ⊢; omega
theorem take_succF {l : List Feat} {j : Nat} {f : Feat} (h : l[j]? = some f) : l.take (j + 1) = l.take j ++ [f] := by
  rw [List.take_add_one, h]; rfl
theorem mkFq_succ {l : List Feat} {j : Nat} {f : Feat} (k : Nat) (h : l[j]? = some f) : mkFq k (l.take (j + 1)) = mkFn (mkFq k (l.take j)) f := by
  rw [take_succF h, mkFq_app]; rfl
theorem mkFq_take (l : List Feat) (k j : Nat) : mkFq k (l.take j) ≤ mkFq k l := by
  have := mkFq_app (l.take j) (l.drop j) k
  rw [List.take_append_drop] at this
  rw [this]
  exact mkFq_le _ _
/-- The list in the middle of a walk. -/
def mkMid (k j : Nat) (l : List Feat) : List Feat := mkFs k (l.take j) ++ l.drop j
theorem mkMid_zero (k : Nat) (l : List Feat) : mkMid k 0 l = l := rfl
theorem mkMid_all (k : Nat) (l : List Feat) : mkMid k l.length l = mkFs k l := by simp [mkMid]
theorem mkMid_at {k j : Nat} {l : List Feat} {f : Feat} (h : l[j]? = some f) : (mkMid k j l)[j]? = some f := by
  have hj := (List.getElem?_eq_some_iff.1 h).1
  unfold mkMid
  rw [List.getElem?_append_right (by rw [mkFs_len, List.length_take]; omega), mkFs_len, List.length_take, List.getElem?_drop]
  rw [show j + (j - min j l.length) = j by omega]; exact h
theorem mkMid_succ {k j : Nat} {l : List Feat} {f : Feat} (h : l[j]? = some f) : mkMid k (j + 1) l = (mkMid k j l).set j (mkF1 (mkFq k (l.take j)) f) := by
  have hj := (List.getElem?_eq_some_iff.1 h).1
  have hd : l.drop j = f :: l.drop (j + 1) := by
    rw [List.drop_eq_getElem_cons hj]
    congr 1
    exact (List.getElem?_eq_some_iff.1 h).2
  unfold mkMid
  rw [take_succF h, mkFs_app, hd, List.set_append_right _ _ (by rw [mkFs_len, List.length_take]; omega), mkFs_len, List.length_take, show j - min j l.length = 0 by omega]
  simp [mkFs]
theorem mkFs_get {l : List Feat} {j : Nat} {f : Feat} (k : Nat) (h : l[j]? = some f) : (mkFs k l)[j]? = some (mkF1 (mkFq k (l.take j)) f) := by
  have hj := (List.getElem?_eq_some_iff.1 h).1
  have e : l = l.take j ++ f :: l.drop (j + 1) := by
    have hd : l.drop j = f :: l.drop (j + 1) := by
      rw [List.drop_eq_getElem_cons hj]; congr 1; exact (List.getElem?_eq_some_iff.1 h).2
    rw [← hd, List.take_append_drop]
  have e2 := congrArg (mkFs k) e
  rw [mkFs_app] at e2
  rw [e2, List.getElem?_append_right (by rw [mkFs_len, List.length_take]; omega), mkFs_len, List.length_take, show j - min j l.length = 0 by omega]
  rfl

/-- Nothing outside the blocks from lo to hi has changed. -/
structure Within (lo hi : Nat) (w w' : World) : Prop where
  os : w'.os = w.os
  tape : w'.tape = w.tape
  output : w'.output = w.output
  size : w.heap.size ≤ w'.heap.size
  block : ∀ k, k < w.heap.size → (k < lo ∨ hi ≤ k) → w'.heap[k]? = w.heap[k]?
section
variable {w w' w'' w0 : World} {lo hi lo' hi' : Nat} {v : Value} {l : List Feat} {r : Option Nat}
theorem Within.refl (lo hi : Nat) (w : World) : Within lo hi w w := ⟨rfl, rfl, rfl, Nat.le_refl _, fun _ _ _ => rfl⟩
theorem Within.trans (h : Within lo hi w w') (k : Within lo hi w' w'') : Within lo hi w w'' :=
  ⟨k.os.trans h.os, k.tape.trans h.tape, k.output.trans h.output, Nat.le_trans h.size k.size, fun i hi' ho => (k.block i (Nat.lt_of_lt_of_le hi' h.size) ho).trans (h.block i hi' ho)⟩
theorem Within.of (lo hi : Nat) (h : Below w.heap.size w w') : Within lo hi w w' := ⟨h.os, h.tape, h.output, h.size, fun k hk _ => h.block k hk⟩
theorem Within.grown (h : w.grownBy w' r) (hr : ∀ g, r = some g → lo ≤ g ∧ g < hi) : Within lo hi w w' :=
  ⟨h.os, h.tape, h.output, h.size, fun k hk ho => h.block k hk fun e => by have := hr k e.symm; omega⟩
theorem Within.cell {g : Nat} (h1 : lo ≤ g) (h2 : g < hi) (i : Nat) (u : Value) : Within lo hi w (w.setCell ⟨g, i, none⟩ u) :=
  Within.grown (growE_setCell (World.grownBy.refl w (some g)) i u) fun g' e => by simp only [Option.some.injEq] at e; subst e; exact ⟨h1, h2⟩
theorem Within.below {B : Nat} (h : Within lo hi w w') (hB : B ≤ lo) (hw : B ≤ w.heap.size) : Below B w w' := ⟨h.os, h.tape, h.output, h.size, fun k hk => h.block k (Nat.lt_of_lt_of_le hk hw) (.inl (Nat.lt_of_lt_of_le hk hB))⟩
theorem OwnE.within {α : Type} {n : Nat} {enc : α → List Value} {B : Nat} {e : TypeId} {L : List α} (h : OwnE n enc w B e v L) (hw : Within lo hi w w') (hv : ∀ g, v.ownBlock = some g → g < lo ∨ hi ≤ g) : OwnE n enc w' B e v L := by
  have hlt := h.lt
  refine ⟨h.1, ?_⟩
  rcases h.2 with hn | ⟨g, cap, cur, rfl, hB, hg, rest⟩
  · exact .inl hn
  · exact .inr ⟨g, cap, cur, rfl, hB, (hw.block g (hlt g rfl).2 (hv g rfl)).trans hg, rest⟩
theorem HeldE.within {α : Type} {n : Nat} {enc : α → List Value} {e : TypeId} {L : List α} (h : HeldE n enc w lo' hi' e v L) (hd : hi' ≤ lo ∨ hi ≤ lo') (hw : Within lo hi w w') : HeldE n enc w' lo' hi' e v L :=
  ⟨h.1.within hw fun g hg => by have := (h.1.lt g hg).1; have := h.2.1 g hg; omega, h.2.1, Nat.le_trans h.2.2 hw.size⟩

/-- One feature of the rows is marked. -/
theorem RowsF.mark {xs : List FCel} {j : Nat} {x x' : FCel} {f f' : Feat} (h : RowsF w lo v xs l) (hx : xs[j]? = some x) (hf : l[j]? = some f) (hg : w.grownBy w' (slF x).ownBlock)
    (hs : slF x' = slF x) (hS : Shal x' f') (ho : OwnE 2 encPoint w' lo 25 (slF x) f'.2.2.2.2) : RowsF w' lo v (xs.set j x') (l.set j f') := by
  have hjx := (List.getElem?_eq_some_iff.1 hx).1
  have hjl := (List.getElem?_eq_some_iff.1 hf).1
  have key : ∀ (i : Nat) y, (xs.set j x')[i]? = some y → ∃ y0, xs[i]? = some y0 ∧ slF y = slF y0 := fun i y hy => by
    by_cases hij : i = j
    · subst hij
      rw [List.getElem?_set_self hjx] at hy
      obtain rfl : x' = y := by simpa using hy
      exact ⟨x, hx, hs⟩
    · rw [List.getElem?_set_ne (fun e => hij e.symm)] at hy
      exact ⟨y, hy, rfl⟩
  refine ⟨by simp [h.1], fun i k y z b hik hy hz hb => ?_, fun i y g hy hgg => ?_⟩
  · obtain ⟨y0, hy0, e1⟩ := key i y hy
    obtain ⟨z0, hz0, e2⟩ := key k z hz
    rw [e1] at hb
    rw [e2]
    exact h.2.1 i k y0 z0 b hik hy0 hz0 hb
  · by_cases hij : i = j
    · subst hij
      rw [List.getElem?_set_self hjx] at hy
      rw [List.getElem?_set_self hjl] at hgg
      obtain rfl : x' = y := by simpa using hy
      obtain rfl : f' = g := by simpa using hgg
      refine ⟨hS, hs ▸ ho, fun b hb => ?_⟩
      rw [hs] at hb
      exact (h.2.2 i x f hx hf).2.2 b hb
    · rw [List.getElem?_set_ne (fun e => hij e.symm)] at hy hgg
      obtain ⟨a, b, c⟩ := h.2.2 i y g hy hgg
      refine ⟨a, b.kept hg ?_, c⟩
      match hv : (slF y).ownBlock with
      | none => exact .inl rfl
      | some p => exact .inr fun e => h.2.1 i j y x p hij hy hx hv (e ▸ rfl)
end
end Go.Proofs.Ytbnjaaegbmhopaa
end
section
/- markFeatureS and heldFeatureS of the laws. -/
namespace Go.Proofs.Ytbnjaaegbmhopaa
open Go.ChangeShapes Go.WideShapes Go.ChangeAt Go.RowKit
set_option linter.unusedVariables false

theorem markPoint_z (A : Option Addr) (m c k0 B : Nat) (z : Int) (hz : ((k0 : Nat) : Int) = z) (l : List (Int × Int)) (w : World) (hm : l.length = m) (ho : OwnE 2 encPoint w B 25 (.slice A m c) l) (hl : m ≤ 1099511627776) (hk : k0 ≤ 1099511627776) :
    Calls Try.prog 60 #[.slice A m c, .int .i64 z] w fun e w' => ∃ q : Nat, Hid (q = k0 + m * 2) ∧ e = .returned (.int .i64 q) ∧ OwnE 2 encPoint w' B 25 (.slice A m c) (mkPoint k0 m) ∧ w.grownBy w' (Value.ownBlock (.slice A m c)) := by
  subst hz
  exact (markPoint_any A m c k0 B l w hm ho hl hk).mono fun e w' ⟨a, b, d⟩ => ⟨_, Lib.hid rfl, a, b, d⟩
section
variable {w : World} {g cc : Nat} {e : TypeId} {L : List FCel} {j : Nat}
theorem rowF_set3 (h : RowE 5 encF w g e cc L) {y : FCel} (hx : L[j]? = some y) (a k r : Int) :
    RowE 5 encF (((w.setCell ⟨g, j * 5, none⟩ (.int .i64 a)).setCell ⟨g, j * 5 + 1, none⟩ (.int .i64 k)).setCell ⟨g, j * 5 + 2, none⟩ (.int .i64 r)) g e cc (L.set j (a, k, r, y.2.2.2)) := by
  obtain ⟨y0, y1, y2, y3, y4, y5, y6⟩ := y
  have hj := (List.getElem?_eq_some_iff.1 hx).1
  have h1 := h.put elF (k := 0) (x' := (a, y1, y2, y3, y4, y5, y6)) (v := .int .i64 a) hx (by decide) rfl
  have h2 := h1.put elF (k := 1) (x' := (a, k, y2, y3, y4, y5, y6)) (v := .int .i64 k) (List.getElem?_set_self (by simpa using hj)) (by decide) rfl
  have h3 := h2.put elF (k := 2) (x' := (a, k, r, y3, y4, y5, y6)) (v := .int .i64 r) (List.getElem?_set_self (by simpa using hj)) (by decide) rfl
  simp only [List.set_set, Nat.add_zero] at h3
  exact h3
theorem rowF_set4 (h : RowE 5 encF w g e cc L) {y : FCel} (hx : L[j]? = some y) (s : ByteArray) :
    RowE 5 encF (w.setCell ⟨g, j * 5 + 3, none⟩ (.string s)) g e cc (L.set j (y.1, y.2.1, y.2.2.1, s, y.2.2.2.2)) := by
  obtain ⟨y0, y1, y2, y3, y4, y5, y6⟩ := y
  exact h.put elF (k := 3) (x' := (y0, y1, y2, s, y4, y5, y6)) (v := .string s) hx (by decide) rfl
end
end Go.Proofs.Ytbnjaaegbmhopaa
end
section
/- heldFeatureS of the laws: the marks are found again. -/
namespace Go.Proofs.Ytbnjaaegbmhopaa
open Go.ChangeShapes Go.WideShapes Go.ChangeAt Go.RowKit
set_option linter.unusedVariables false

end Go.Proofs.Ytbnjaaegbmhopaa
end
section
/- Features: how much the laws weigh them; equal slices of features. -/
namespace Go.Proofs.Ytbnjaaegbmhopaa
open Go.ChangeShapes Go.WideShapes Go.ChangeAt Go.RowKit
set_option linter.unusedVariables false

/-- What is left when a feature is weighed; negative if it is too heavy. -/
def szF (left : Int) (f : Feat) : Int := if left < (f.2.2.2.1.size : Int) then -1 else if left - f.2.2.2.1.size < (f.2.2.2.2.length : Int) then -1 else left - f.2.2.2.1.size - f.2.2.2.2.length
def szL : Int → List Feat → Int
  | left, [] => left
  | left, f :: t => if szF left f < 0 then -1 else szL (szF left f) t
theorem szF_le {left : Int} {f : Feat} (h : 0 ≤ szF left f) : szF left f ≤ left ∧ (f.2.2.2.1.size : Int) ≤ left ∧ (f.2.2.2.2.length : Int) ≤ left := by
  unfold szF at h ⊢
  split at h
  · omega
  · split at h
    · omega
    · next h1 h2 => rw [if_neg h1, if_neg h2]; omega
theorem szL_le {left : Int} {l : List Feat} (h : 0 ≤ szL left l) : szL left l ≤ left ∧ ∀ f ∈ l, (f.2.2.2.1.size : Int) ≤ left ∧ (f.2.2.2.2.length : Int) ≤ left := by
  induction l generalizing left with
  | nil => exact ⟨Int.le_refl _, fun f hf => by cases hf⟩
  | cons g t ih =>
    unfold szL at h ⊢
    split at h
    · omega
    · next hz =>
      rw [if_neg hz]
      have h1 := szF_le (left := left) (f := g) (by omega)
      obtain ⟨h2, h3⟩ := ih h
      refine ⟨by omega, fun f hf => ?_⟩
      rw [List.mem_cons] at hf
      rcases hf with rfl | hf
      · exact h1.2
      · have := h3 f hf; omega
/-- The weights of the first j are known. -/
theorem szL_take {left z : Int} {l : List Feat} {j : Nat} {f : Feat} (hf : l[j]? = some f) (h : szL left (l.take j) = z) (hz : 0 ≤ z) : szL left (l.take (j + 1)) = if szF z f < 0 then -1 else szF z f := by
  induction l generalizing left j with
  | nil => simp at hf
  | cons g t ih =>
    cases j with
    | zero =>
      simp only [List.getElem?_cons_zero, Option.some.injEq] at hf
      subst hf
      simp only [List.take_zero, szL] at h
      subst h
      simp only [List.take_succ_cons, List.take_zero, szL]
    | succ j =>
      simp only [List.take_succ_cons, szL] at h ⊢
      split at h
      · omega
      · next hn => rw [if_neg hn]; exact ih (by simpa using hf) h
theorem szL_bad {left : Int} {l : List Feat} {j : Nat} (h : szL left (l.take j) < 0) (hl : 0 ≤ left) : szL left l < 0 := by
  induction l generalizing left j with
  | nil => simp only [List.take_nil] at h; exact h
  | cons g t ih =>
    cases j with
    | zero => simp only [List.take_zero, szL] at h; omega
    | succ j =>
      simp only [List.take_succ_cons, szL] at h ⊢
      split at h
      · next hn => rw [if_pos hn]; omega
      · next hn => rw [if_neg hn]; exact ih h (by omega)
def szS (left : Int) (l : List Feat) : Int := if left < (l.length : Int) then -1 else szL (left - l.length) l
theorem szS_ok {left : Int} {l : List Feat} (h : 0 ≤ szS left l) : (l.length : Int) ≤ left ∧ szS left l ≤ left ∧ ∀ f ∈ l, (f.2.2.2.1.size : Int) ≤ left ∧ (f.2.2.2.2.length : Int) ≤ left := by
  unfold szS at h ⊢
  split at h
  · omega
  · next hn =>
    rw [if_neg hn]
    obtain ⟨h1, h2⟩ := szL_le h
    refine ⟨by omega, by omega, fun f hf => ?_⟩
    have := h2 f hf
    omega
theorem szF_cases (left : Int) (f : Feat) : szF left f = -1 ∨ 0 ≤ szF left f := by
  unfold szF
  split
  · exact .inl rfl
  · split
    · exact .inl rfl
    · next h1 h2 => right; omega
theorem szL_neg {left : Int} {l : List Feat} (h : szL left l < 0) (hl : 0 ≤ left) : szL left l = -1 := by
  induction l generalizing left with
  | nil => simp only [szL] at h; omega
  | cons g t ih =>
    unfold szL at h ⊢
    split
    · rfl
    · next hn => rw [if_neg hn] at h; exact ih h (by omega)
/-- Names and points that a machine holds. -/
def MachF (l : List Feat) : Prop := ∀ (j : Nat) (f : Feat), l[j]? = some f → f.2.2.2.1.size ≤ maxLen ∧ f.2.2.2.2.length ≤ 9223372036854775807
end Go.Proofs.Ytbnjaaegbmhopaa
end
section
/- How far the marks go. -/
namespace Go.Proofs.Ytbnjaaegbmhopaa
open Go.ChangeShapes Go.WideShapes Go.ChangeAt Go.RowKit
set_option linter.unusedVariables false

def ptsF : List Feat → Nat
  | [] => 0
  | f :: t => f.2.2.2.2.length + ptsF t
theorem ptsF_app (l l2 : List Feat) : ptsF (l ++ l2) = ptsF l + ptsF l2 := by
  induction l with
  | nil => simp [ptsF]
  | cons f t ih => simp only [List.cons_append, ptsF, ih]; omega
theorem mkFq_eq (l : List Feat) : ∀ k, mkFq k l = k + 4 * l.length + 2 * ptsF l := by
  induction l with
  | nil => intro k; simp [mkFq, ptsF]
  | cons f t ih => intro k; simp only [mkFq, ptsF, ih, mkFn, List.length_cons]; omega
theorem ptsF_sub {l l2 : List Feat} (h : l.Sublist l2) : ptsF l ≤ ptsF l2 := by
  induction h with
  | slnil => exact Nat.le_refl _
  | cons a _ ih => simp only [ptsF]; omega
  | cons_cons a _ ih => simp only [ptsF]; omega
theorem szL_pts (l : List Feat) : ∀ left : Int, 0 ≤ left → 0 ≤ szL left l → (ptsF l : Int) ≤ left := by
  induction l with
  | nil => intro left h _; simpa [ptsF] using h
  | cons f t ih =>
    intro left h0 h
    unfold szL at h
    split at h
    · omega
    · next hn =>
      have h1 := ih (szF left f) (by omega) h
      have h2 : szF left f + f.2.2.2.2.length ≤ left := by
        unfold szF at hn ⊢
        split
        · next h3 => rw [if_pos h3] at hn; omega
        · next h3 =>
          rw [if_neg h3] at hn
          split
          · next h4 => rw [if_pos h4] at hn; omega
          · omega
      simp only [ptsF]
      omega
theorem szS_pts {l : List Feat} {left : Int} (h : 0 ≤ szS left l) : (ptsF l : Int) + l.length ≤ left := by
  unfold szS at h
  split at h
  · omega
  · next hn => have := szL_pts l (left - l.length) (by omega) h; omega
theorem rest_subl (l : List Feat) (i : Int) : (restV l i).Sublist (l.drop (cutK l i)) := rest_sub l i
theorem putOut_pts (l : List Feat) (f : Feat) : ptsF (putOut l f) ≤ ptsF l + f.2.2.2.2.length ∧ (putOut l f).length ≤ l.length + 1 := by
  have h1 : ptsF l = ptsF (l.take (cutK l f.1)) + ptsF (l.drop (cutK l f.1)) := by rw [← ptsF_app, List.take_append_drop]
  have h2 := ptsF_sub (rest_sub l f.1)
  have h3 := (rest_sub l f.1).length_le
  have h4 := cut_le l f.1
  unfold putOut
  rw [ptsF_app, ptsF_app]
  simp only [ptsF, List.length_append, List.length_take, List.length_drop, List.length_cons, List.length_nil] at h3 ⊢
  omega
theorem putV_pts (l : List Feat) (f : Feat) : ptsF (putV l f).1 ≤ ptsF l + f.2.2.2.2.length ∧ (putV l f).1.length ≤ l.length + 1 := by
  unfold putV
  split
  · exact putOut_pts l f
  · exact ⟨Nat.le_add_right _ _, Nat.le_succ _⟩
theorem takeV_pts (l : List Feat) (i : Int) : ptsF (takeV l i).1 ≤ ptsF l ∧ (takeV l i).1.length ≤ l.length := by
  unfold takeV
  split
  · have h1 : ptsF l = ptsF (l.take (findV l i).toNat) + ptsF (l.drop (findV l i).toNat) := by rw [← ptsF_app, List.take_append_drop]
    have hs : (l.drop ((findV l i).toNat + 1)).Sublist (l.drop (findV l i).toNat) := by
      rw [← List.drop_drop]; exact List.drop_sublist _ _
    have h2 := ptsF_sub hs
    rw [ptsF_app]
    simp only [List.length_append, List.length_take, List.length_drop]
    exact ⟨by omega, by omega⟩
  · exact ⟨Nat.le_refl _, Nat.le_refl _⟩
end Go.Proofs.Ytbnjaaegbmhopaa
end
section
/- Small features, and frames of what a law holds while it marks: for the exact laws. -/
namespace Go.Proofs.Ytbnjaaegbmhopaa
open Go.ChangeShapes Go.WideShapes Go.ChangeAt Go.RowKit
set_option linter.unusedVariables false

theorem few_pts {l : List Feat} (h : ptsF l ≤ 274877906944) : FewP l := by
  have key : ∀ (l : List Feat) (f : Feat), f ∈ l → f.2.2.2.2.length ≤ ptsF l := by
    intro l
    induction l with
    | nil => intro f h; simp at h
    | cons g t ih =>
      intro f h
      simp only [ptsF]
      rcases List.mem_cons.1 h with rfl | h
      · omega
      · have := ih f h; omega
  intro j f hf
  exact Nat.le_trans (key l f (List.mem_of_getElem? hf)) h
theorem small_le {left : Int} {l : List Feat} (hl : left ≤ 1048576) (h : 0 ≤ szS left l) : l.length ≤ 1048576 ∧ SmallF l ∧ ptsF l ≤ 1048576 ∧ szS left l ≤ left := by
  obtain ⟨h1, h4, h2⟩ := szS_ok h
  have h3 := szS_pts h
  refine ⟨by omega, fun j f hf => ?_, by omega, h4⟩
  have := h2 f (List.mem_of_getElem? hf)
  unfold maxLen
  omega
section
variable {w0 w w' : World} {l : List (Array Value)} {m b lo hi : Nat} {cs : Array Value}
theorem Vars.within (h : Vars w0 w l) (hw : Within lo hi w w') (hlo : w0.heap.size + l.length ≤ lo) : Vars w0 w' l := by
  refine ⟨h.1.trans (hw.below (B := w0.heap.size) (by omega) h.1.size), Nat.le_trans h.2.1 hw.size, fun j x hj => ?_⟩
  have hl : j < l.length := (List.getElem?_eq_some_iff.1 hj).1
  have h2 := h.2.1
  obtain ⟨T, h3⟩ := h.2.2 j x hj
  exact ⟨T, (hw.block _ (by omega) (.inl (by omega))).trans h3⟩
theorem OneV.within (h : OneV m w b cs) (hw : Within lo hi w w') (hb : b < lo ∨ hi ≤ b) : OneV m w' b cs := by
  have hl := h.lt
  obtain ⟨h1, T, h3⟩ := h
  exact ⟨h1, T, (hw.block _ hl hb).trans h3⟩
theorem OneV.five {v0 v1 v2 v3 v4 : Value} (h : OneV m w b #[v0, v1, v2, v3, v4]) : w.cell? ⟨b, 0, none⟩ = some v0 ∧ w.cell? ⟨b, 1, none⟩ = some v1 ∧ w.cell? ⟨b, 2, none⟩ = some v2 ∧ w.cell? ⟨b, 3, none⟩ = some v3 ∧ w.cell? ⟨b, 4, none⟩ = some v4 :=
  ⟨h.cell 0 rfl, h.cell 1 rfl, h.cell 2 rfl, h.cell 3 rfl, h.cell 4 rfl⟩
theorem Vars.fiveAt {v0 v1 v2 v3 v4 : Value} (h : Vars w0 w l) (b j : Nat) (hb : b = w0.heap.size + j) (hj : l[j]? = some #[v0, v1, v2, v3, v4]) : w.cell? ⟨b, 0, none⟩ = some v0 ∧ w.cell? ⟨b, 1, none⟩ = some v1 ∧ w.cell? ⟨b, 2, none⟩ = some v2 ∧ w.cell? ⟨b, 3, none⟩ = some v3 ∧ w.cell? ⟨b, 4, none⟩ = some v4 :=
  ⟨h.cell _ j 0 hb hj rfl, h.cell _ j 1 hb hj rfl, h.cell _ j 2 hb hj rfl, h.cell _ j 3 hb hj rfl, h.cell _ j 4 hb hj rfl⟩
end
theorem HeldE.wits {α : Type} {n : Nat} {enc : α → List Value} {w w' : World} {lo hi : Nat} {e : TypeId} {v : Value} {L : List α} (h : HeldE n enc w lo hi e v L) (hg : w.grownBy w' v.ownBlock) : Within lo hi w w' :=
  Within.grown hg fun g hg' => ⟨(h.1.lt g hg').1, h.2.1 g hg'⟩
theorem HeldE.caps {α : Type} {n : Nat} {enc : α → List Value} {w : World} {lo hi m c : Nat} {e : TypeId} {A : Option Addr} {L : List α} (h : HeldE n enc w lo hi e (.slice A m c) L) : L.length ≤ c ∧ (c : Int) ≤ 9223372036854775807 := (own_caps h.1).2
end Go.Proofs.Ytbnjaaegbmhopaa
end
section
/- A point as an argument of a law: opened to its two integers. -/
namespace Go.Proofs.Ytbnjaaegbmhopaa
open Go.ChangeShapes Go.WideShapes Go.ChangeAt Go.RowKit Go.Joins
set_option linter.unusedVariables false

set_option maxRecDepth 100000 in
theorem cellsPt : Try.prog.cellsOf 71 = 2 := by kernel_rfl
set_option maxRecDepth 100000 in
theorem open_pt {H : Type} {enc : TypeId × Value → H} {W : World} {base b0 : Nat} {spare : Nat → Bool} {held : Bool} {r : Reach} {v : Value} {d : DataW H} {p : List MemPlace}
    (hv : Value.okWide Try.prog W r b0 71 v) (h : DataW.Trod enc Try.prog W base spare held 71 v d p) :
    ∃ x y : Int, v = PtV x y ∧ (Lit.int .i64 x).wf = true ∧ (Lit.int .i64 y).wf = true := by
  obtain ⟨c0, c1, y0, y1, m, rfl, rfl, rfl, hy0, hy1⟩ := open_agg2 Try.underlying71 (by kernel_rfl) cellsPt hv h
  obtain ⟨a, e0, rfl, wa⟩ := DataW.trod_int Try.underlying3 hy0
  obtain ⟨b, e1, rfl, wb⟩ := DataW.trod_int Try.underlying3 hy1
  simp at e0 e1
  subst e0 e1
  exact ⟨a, b, rfl, wa, wb⟩
end Go.Proofs.Ytbnjaaegbmhopaa
end
section
/- A slice of points as an argument of a law: opened to a list of pairs. -/
namespace Go.Proofs.Ytbnjaaegbmhopaa
open Go.ChangeShapes Go.WideShapes Go.ChangeAt Go.RowKit Go.Joins
set_option linter.unusedVariables false
set_option maxRecDepth 100000

/-- A slice argument that shows l. -/
def ShowsP (w : World) (a : Option Addr) (len : Nat) (l : List (Int × Int)) : Prop := len = l.length ∧ SeesE 2 encPoint w w.heap.size a l ∧ l.length ≤ 9223372036854775807
theorem trod_pt {H : Type} {enc : TypeId × Value → H} {W : World} {base : Nat} {spare : Nat → Bool} {held : Bool} {n : Nat} {cs : List Value} {y : DataW H × List MemPlace}
    (h : DataW.trod enc Try.prog W base spare held n 71 cs = some y) : ∃ a b : Int, cs = [.int .i64 a, .int .i64 b] := by
  obtain ⟨y0, y1, m, hx, hlen, h0, h1⟩ := trod_struct2 Try.underlying71 h
  obtain ⟨c0, c1, rfl⟩ : ∃ c0 c1, cs = [c0, c1] := by
    rw [cellsPt] at hlen
    match cs, hlen with
    | [c0, c1], _ => exact ⟨c0, c1, rfl⟩
  have hc : Try.prog.cellsOf 3 = 1 := by kernel_rfl
  have h0' := h0; have h1' := h1
  simp [hc] at h0'
  simp [hc] at h1'
  obtain ⟨a, e0, -, -⟩ := DataW.trod_int Try.underlying3 h0'
  obtain ⟨b, e1, -, -⟩ := DataW.trod_int Try.underlying3 h1'
  simp at e0 e1
  subst e0 e1
  exact ⟨a, b, rfl⟩
theorem open_pts {H : Type} {enc : TypeId × Value → H} {W : World} {base b0 : Nat} {spare : Nat → Bool} {held : Bool} {r : Reach} {v : Value} {d : DataW H} {p : List MemPlace}
    (hv : Value.okWide Try.prog W r b0 79 v) (h : DataW.Trod enc Try.prog W base spare held 79 v d p) :
    ∃ (a : Option Addr) (len cap : Nat) (l : List (Int × Int)), v = .slice a len cap ∧ ShowsP W a len l := by
  obtain ⟨a, len, cap, rfl⟩ := okWide_slice Try.underlying79 hv
  obtain ⟨fuel, hf⟩ := h
  rcases DataW.trod_slice Try.underlying79 hf with ⟨hcs, -⟩ | ⟨ad, l', c', elems, rest, n, -, hcs, -, hb, hl, hm, hlen, hel, -, -⟩
  · simp [Value.cells] at hcs
    obtain ⟨rfl, rfl, rfl⟩ := hcs
    exact ⟨none, 0, 0, [], rfl, rfl, SeesE.nil, by simp⟩
  · simp [Value.cells] at hcs
    obtain ⟨rfl, rfl, rfl⟩ := hcs
    obtain ⟨b, off, spot⟩ := ad
    have each : ∀ i, i < len → ∃ x : Int × Int, W.cell? ((⟨b, off, spot⟩ : Addr).add (i * 2)) = some (.int .i64 x.1) ∧ W.cell? (((⟨b, off, spot⟩ : Addr).add (i * 2)).add 1) = some (.int .i64 x.2) := by
      intro i hi
      obtain ⟨y, hy⟩ : ∃ y, elems[i]? = some y := ⟨_, List.getElem?_eq_getElem (by omega)⟩
      have h1 := hel i hi
      rw [hy, cellsPt, Option.bind_eq_some_iff] at h1
      obtain ⟨cs, hcs, ht⟩ := h1
      obtain ⟨a, b, rfl⟩ := trod_pt ht
      have h2 := (World.cells?_some hcs).2.2
      exact ⟨(a, b), by have := h2 0 (by omega); simpa [Addr.add] using this, by have := h2 1 (by omega); simpa using this⟩
    have hf2 : ∀ i : Nat, ∃ x : Int × Int, i < len → W.cell? ((⟨b, off, spot⟩ : Addr).add (i * 2)) = some (.int .i64 x.1) ∧ W.cell? (((⟨b, off, spot⟩ : Addr).add (i * 2)).add 1) = some (.int .i64 x.2) := fun i => by
      by_cases hi : i < len
      · obtain ⟨x, hx⟩ := each i hi; exact ⟨x, fun _ => hx⟩
      · exact ⟨(0, 0), fun h => absurd h hi⟩
    let f : Nat → Int × Int := fun i => Classical.choose (hf2 i)
    have hff : ∀ i, i < len → W.cell? ((⟨b, off, spot⟩ : Addr).add (i * 2)) = some (.int .i64 (f i).1) ∧ W.cell? (((⟨b, off, spot⟩ : Addr).add (i * 2)).add 1) = some (.int .i64 (f i).2) := fun i => Classical.choose_spec (hf2 i)
    clear_value f
    refine ⟨_, _, _, (List.range len).map f, rfl, by simp, fun j x hj => ?_, by unfold maxLen at hm; simp; omega⟩
    simp only [List.getElem?_map, Option.map_eq_some_iff] at hj
    obtain ⟨i, hi, rfl⟩ := hj
    have hil : i < len := by have := List.mem_of_getElem? hi; simpa using this
    obtain rfl : i = j := by
      have := (List.getElem?_eq_some_iff.1 hi).2
      simpa using this.symm
    have hspot : spot = none := by
      have h0 := (hff 0 (by omega)).1
      simpa [Addr.add] using World.cell?_spot h0
    subst hspot
    obtain ⟨g0, g1⟩ := hff i hil
    rw [add_none] at g0 g1
    rw [add_none] at g1
    refine ⟨b, off, rfl, World.block_lt_of_cell? W _ g0, fun k u hu => ?_⟩
    match k, hu with
    | 0, hu => simp [encPoint] at hu; subst hu; exact g0
    | 1, hu => simp [encPoint] at hu; subst hu; exact g1
    | k + 2, hu => simp [encPoint] at hu
end Go.Proofs.Ytbnjaaegbmhopaa
end
section
/- The exact law of DropPoint. -/
namespace Go.Proofs.Ytbnjaaegbmhopaa
open Go.ChangeShapes Go.WideShapes Go.ChangeAt Go.RowKit
set_option linter.unusedVariables false

set_option maxRecDepth 100000 in
set_option maxHeartbeats 4000000 in
theorem law_FnExactDropPoint (pa0 : Option Addr) (len0 cap0 : Nat) (l0 : List (Int × Int)) (a1 : Int) (w : World) (ws0 : ShowsP w pa0 len0 l0) (w1 : (Lit.int .i64 a1).wf = true)  :
    Calls Try.prog 13 #[.slice pa0 len0 cap0, .int .i64 a1] w fun e w' => e = .returned (.bool true) ∧ Below w.heap.size w w' := by
  obtain ⟨rfl, hp0, hm0⟩ := ws0
  have HP0 := Lib.hid hp0; clear hp0
  obtain ⟨R, hR⟩ : ∃ R, dropV l0 a1 = R := ⟨_, rfl⟩
  have HI := Lib.hid hR; clear hR
  obtain ⟨K2, hK2⟩ : ∃ K2, dropOk l0 a1 = K2 := ⟨_, rfl⟩
  have HK2 := Lib.hid hK2; clear hK2
  have HV := Lib.hid (Vars.nil w)
  go_enter Try.func13, Try.ntmps13
  have hz0 : w.heap.size ≤ w.heap.size := Nat.le_refl _
  have hl0 : (0 : Int) ≤ 1048576 := by omega
  by_cases hc0 : (l0.length : Int) ≤ 1048576
  · skip
    go_wp2_with fail
    refine (szPointS_yes pa0 l0.length cap0 (1048576) _ hc0 (by omega)).mono ?_
    rintro e w9 ⟨rfl, rfl⟩
    have hlt0 : ¬ (1048576 - (l0.length : Int) < 0) := by omega
    have hR1 : R.length ≤ 1048576 := by
      rw [← HI.out]
      have := dropV_len l0 a1
      omega
    go_wp2_with fail
    refine (toPointS_any pa0 cap0 l0 _ ((HP0.out.below HV.out.1).mono HV.out.1.size) (by omega)).mono ?_
    rintro e v2 ⟨At0, ct0, Lt0, hLt0, rfl, hot0, hb⟩
    obtain rfl : l0 = Lt0 := hLt0.out.symm
    have HOt0 := Lib.hid hot0.held; clear hLt0 hot0
    have hz2 := hb.size
    replace HV := Lib.hid (HV.out.next hb)
    clear hb
    go_wp2_with fail
    refine (sDropPoint_any At0 ct0 l0 a1 _ (HOt0.out.seesAll elPoint) (by omega) HOt0.out.caps.1 HOt0.out.caps.2).mono ?_
    rintro e v3 ⟨As, cs, Ls, kk, hLs, hkk, rfl, hos, hb⟩
    obtain rfl : Ls = R := hLs.out.trans HI.out
    obtain rfl : kk = K2 := hkk.out.trans HK2.out
    clear hkk
    have HOs := Lib.hid hos.held; clear hLs hos
    have hz3 := hb.size
    replace HV := Lib.hid (HV.out.next hb)
    replace HOt0 := Lib.hid (HOt0.out.belowAll hb)
    clear hb
    clear HOt0
    go_wp2_with fail
    refine (toPointS_any pa0 cap0 l0 _ ((HP0.out.below HV.out.1).mono HV.out.1.size) (by omega)).mono ?_
    rintro e v4 ⟨Ax0, cx0, Lx0, hLx0, rfl, hox0, hb⟩
    obtain rfl : l0 = Lx0 := hLx0.out.symm
    have HOx0 := Lib.hid hox0.held; clear hLx0 hox0
    have hz4 := hb.size
    replace HV := Lib.hid (HV.out.next hb)
    replace HOs := Lib.hid (HOs.out.belowAll hb)
    clear hb
    go_wp2_with fail
    refine (dropPoint_any Ax0 cx0 l0 a1 _ (HOx0.out.seesAll elPoint) (by omega) HOx0.out.caps.1 HOx0.out.caps.2).mono ?_
    rintro e v5 ⟨Ag, cg, Lg, kk2, hLg, hkk, rfl, hog, hb⟩
    obtain rfl : Ls = Lg := HI.out.symm.trans hLg.out.symm
    obtain rfl : kk = kk2 := HK2.out.symm.trans hkk.out.symm
    clear hkk
    have HOg := Lib.hid hog.held; clear hLg hog
    have hz5 := hb.size
    replace HV := Lib.hid (HV.out.next hb)
    replace HOs := Lib.hid (HOs.out.belowAll hb)
    replace HOx0 := Lib.hid (HOx0.out.belowAll hb)
    clear hb
    go_wp2_with fail
    refine (eqPointS_yes Ag As cg cs Ls Ls _ (HOg.out.seesAll elPoint) (HOs.out.seesAll elPoint) rfl (by omega)).mono ?_
    rintro e v6 ⟨rfl, hb⟩
    have hz6 := hb.size
    replace HV := Lib.hid (HV.out.next hb)
    replace HOs := Lib.hid (HOs.out.belowAll hb)
    replace HOx0 := Lib.hid (HOx0.out.belowAll hb)
    replace HOg := Lib.hid (HOg.out.belowAll hb)
    clear hb
    go_wp2_with fail
    refine (toPointS_any pa0 cap0 l0 _ ((HP0.out.below HV.out.1).mono HV.out.1.size) (by omega)).mono ?_
    rintro e v7 ⟨Ay, cy, Ly, hLy, rfl, hoy, hb⟩
    obtain rfl : l0 = Ly := hLy.out.symm
    have HOy := Lib.hid hoy.held; clear hLy hoy
    have hz7 := hb.size
    replace HV := Lib.hid (HV.out.next hb)
    replace HOs := Lib.hid (HOs.out.belowAll hb)
    replace HOx0 := Lib.hid (HOx0.out.belowAll hb)
    replace HOg := Lib.hid (HOg.out.belowAll hb)
    clear hb
    go_wp2_with fail
    refine (eqPointS_yes Ax0 Ay cx0 cy l0 l0 _ (HOx0.out.seesAll elPoint) (HOy.out.seesAll elPoint) rfl (by omega)).mono ?_
    rintro e v8 ⟨rfl, hb⟩
    have hz8 := hb.size
    replace HV := Lib.hid (HV.out.next hb)
    replace HOs := Lib.hid (HOs.out.belowAll hb)
    replace HOx0 := Lib.hid (HOx0.out.belowAll hb)
    replace HOg := Lib.hid (HOg.out.belowAll hb)
    replace HOy := Lib.hid (HOy.out.belowAll hb)
    clear hb
    clear HOy
    go_wp2_with fail
    refine (markPoint_held Ax0 l0.length cx0 1 _ _ l0 _ HOx0.out rfl (by omega) (by omega)).mono ?_
    rintro e v9 ⟨k_0, Hk_0, rfl, ho, hg⟩
    have hw := HOx0.out.wits hg; clear hg
    have hb_k_0 : k_0 ≤ 8388608 := by rw [Hk_0.out]; omega
    have hz9 := hw.size
    replace HV := Lib.hid (HV.out.within hw (by show w.heap.size + 0 ≤ _; omega))
    replace HOs := Lib.hid (HOs.out.within (by omega) hw)
    replace HOg := Lib.hid (HOg.out.within (by omega) hw)
    replace HOx0 := Lib.hid ho; clear ho hw
    have hkq : ¬ ((k_0 : Int) < 0) := by omega
    go_wp2_with fail
    refine (eqPointS_yes Ag As cg cs Ls Ls _ (HOg.out.seesAll elPoint) (HOs.out.seesAll elPoint) rfl (by omega)).mono ?_
    rintro e v10 ⟨rfl, hb⟩
    have hz10 := hb.size
    replace HV := Lib.hid (HV.out.next hb)
    replace HOs := Lib.hid (HOs.out.belowAll hb)
    replace HOx0 := Lib.hid (HOx0.out.belowAll hb)
    replace HOg := Lib.hid (HOg.out.belowAll hb)
    clear hb
    clear HOx0
    go_wp2_with fail
    refine (markPoint_held Ag Ls.length cg 1 _ _ Ls _ HOg.out rfl (by omega) (by omega)).mono ?_
    rintro e v11 ⟨m, Hm, rfl, ho, hg⟩
    have hw := HOg.out.wits hg; clear hg
    have hb_m : m ≤ 16777216 := by rw [Hm.out]; omega
    have hz11 := hw.size
    replace HV := Lib.hid (HV.out.within hw (by show w.heap.size + 0 ≤ _; omega))
    replace HOs := Lib.hid (HOs.out.within (by omega) hw)
    replace HOg := Lib.hid ho; clear ho hw
    go_wp2_with fail
    refine (heldPoint_q Ag Ls.length cg 1 _ _ (HOg.out.seesAll elPoint) (by omega) (by omega)).mono ?_
    rintro e w9 ⟨q, Hq, rfl, rfl⟩
    obtain rfl : m = q := Hm.out.trans Hq.out.symm
    have hmq : ¬ ((m : Int) < 0) := by omega
    go_wp2_with fail
    refine (toPointS_any pa0 cap0 l0 _ ((HP0.out.below HV.out.1).mono HV.out.1.size) (by omega)).mono ?_
    rintro e v13 ⟨Au0, cu0, Lu0, hLu0, rfl, hou0, hb⟩
    obtain rfl : l0 = Lu0 := hLu0.out.symm
    have HOu0 := Lib.hid hou0.held; clear hLu0 hou0
    have hz13 := hb.size
    replace HV := Lib.hid (HV.out.next hb)
    replace HOs := Lib.hid (HOs.out.belowAll hb)
    replace HOg := Lib.hid (HOg.out.belowAll hb)
    clear hb
    go_wp2_with fail
    refine (dropPoint_any Au0 cu0 l0 a1 _ (HOu0.out.seesAll elPoint) (by omega) HOu0.out.caps.1 HOu0.out.caps.2).mono ?_
    rintro e v14 ⟨Ah, ch, Lh, kk2, hLh, hkk, rfl, hoh, hb⟩
    obtain rfl : Ls = Lh := HI.out.symm.trans hLh.out.symm
    obtain rfl : kk = kk2 := HK2.out.symm.trans hkk.out.symm
    clear hkk
    have HOh := Lib.hid hoh.held; clear hLh hoh
    have hz14 := hb.size
    replace HV := Lib.hid (HV.out.next hb)
    replace HOs := Lib.hid (HOs.out.belowAll hb)
    replace HOg := Lib.hid (HOg.out.belowAll hb)
    replace HOu0 := Lib.hid (HOu0.out.belowAll hb)
    clear hb
    go_wp2_with fail
    refine (eqPointS_yes Ah As ch cs Ls Ls _ (HOh.out.seesAll elPoint) (HOs.out.seesAll elPoint) rfl (by omega)).mono ?_
    rintro e v15 ⟨rfl, hb⟩
    have hz15 := hb.size
    replace HV := Lib.hid (HV.out.next hb)
    replace HOs := Lib.hid (HOs.out.belowAll hb)
    replace HOg := Lib.hid (HOg.out.belowAll hb)
    replace HOu0 := Lib.hid (HOu0.out.belowAll hb)
    replace HOh := Lib.hid (HOh.out.belowAll hb)
    clear hb
    go_wp2_with fail
    refine (heldPoint_q Ag Ls.length cg 1 _ _ (HOg.out.seesAll elPoint) (by omega) (by omega)).mono ?_
    rintro e w9 ⟨q2, Hq2, rfl, rfl⟩
    obtain rfl : m = q2 := Hm.out.trans Hq2.out.symm
    go_wp2
    go_ret
    exact ⟨rfl, HV.out.1⟩
  · go_wp2_with fail
    refine (szPointS_no pa0 l0.length cap0 (1048576) _ (by omega) (by omega) (by omega)).mono ?_
    rintro e w9 ⟨rfl, rfl⟩
    go_wp2
    go_ret
    exact ⟨rfl, HV.out.1⟩
end Go.Proofs.Ytbnjaaegbmhopaa
end
section
namespace Go.Proofs.Ytbnjaaegbmhopaa.fnExactDropPoint
open Go.ChangeShapes Go.WideShapes Go.ChangeAt Go.RowKit
open Go.ChangeMaps (open_string shut_string)
set_option linter.unusedVariables false

theorem own : ownKnob Try.prog.godebug = none := by kernel_rfl
theorem laidOut : laidOutB Try.prog = true := by kernel_rfl

theorem walk (pa0 : Option Addr) (len0 cap0 : Nat) (l0 : List (Int × Int)) (a1 : Int) (w : World) (ws0 : ShowsP w pa0 len0 l0) (w1 : (Lit.int .i64 a1).wf = true) :
    Calls Try.prog 13 #[.slice pa0 len0 cap0, .int .i64 a1] w fun e w' => e = .returned (.bool true) ∧ Below w.heap.size w w' := by
  exact law_FnExactDropPoint pa0 len0 cap0 l0 a1 w ws0 w1

set_option maxRecDepth 100000 in
theorem lifted (os : Os) (started : os.Started) (H : Type) (enc : TypeId × Value → H) :
    ReturnsInHanded {} Try.checked os 13 .any (Rows.fnExactDropPointSpec.pre6 enc Try.prog Try.f13 Rows.fnExactDropPointRow.domain false) (Rows.fnExactDropPointSpec.post enc Try.prog Try.f13 false true false false) := by
  refine returnsInHanded_of_change (C := Try.checked) own started (by kernel_rfl) Try.func13
    (ChangeSpec.witness6 (enc := enc) (C := Try.checked) false ⟨#[], #[.slice none 0 0, .int .i64 0], []⟩ 8 (by kernel_rfl) (by kernel_rfl) (by kernel_rfl) (by kernel_rfl)) ?_
  intro W base args ds gs before hval0 hW hcnd _
  have hval : ∀ (j : Nat) t v, Try.f13.params[j]? = some t → args[j]? = some v → Value.okWide Try.prog W .any base t v := hval0
  have hW' := hW
  obtain ⟨p, q, hA0, hV, rfl, hfz, hnd⟩ := hW
  have hA : DataW.TrodAll enc Try.prog W 0 (fun _ => true) true Try.f13.params.toList args.toList ds p := hA0
  rw [Try.params13] at hA hval
  obtain ⟨v0, vs0, d0, ds0, p0, q0, hargs, rfl, rfl, h0, r0⟩ := trodAll_cons hA
  obtain ⟨v1, vs1, d1, ds1, p1, q1, rfl, rfl, rfl, h1, r1⟩ := trodAll_cons r0
  obtain ⟨rfl, rfl, rfl⟩ := trodAll_nil r1
  obtain rfl : args = #[v0, v1] := by cases args; simp_all
  obtain ⟨rfl, rfl⟩ := trodVars_none hV
  have k0 := h0
  have lt0 : ∀ x ∈ p0, x.block < W.heap.size := by obtain ⟨m, hm⟩ := k0; exact DataW.trod_lt m _ _ _ hm
  obtain ⟨pa0, len0, cap0, l0, rfl, ws0⟩ := open_pts (hval 0 79 v0 rfl rfl) h0
  obtain ⟨a1, rfl, rfl, rfl, w1⟩ := open_int Try.underlying3 (hval 1 3 v1 rfl rfl) h1
  clear hA0 hval0
  refine (walk pa0 len0 cap0 l0 a1 W ws0 w1).mono fun e W' ⟨he, bel⟩ => ?_
  subst he
  exact ⟨_, rfl, _, _, _, [], _, [], hW', trodAll_mk1 (shut_bool Try.underlying4 _), (trodAll_cons_mk (Below.trod laidOut (by kernel_rfl) (of_decide_eq_true (by kernel_rfl)) k0 bel lt0) (trodAll_cons_mk (shut_int Try.underlying3 w1) trodAll_mk0)), rfl, bel.frame _, fun h => by cases h⟩

theorem over : Rows.fnExactDropPointRow.holds Try.pinned (OpenSpec.ofChange Rows.fnExactDropPointSpec) :=
  OpenClaim.holds_of_wide 13 Try.f13 rfl rfl rfl rfl rfl rfl rfl ⟨rfl, rfl, rfl, rfl, rfl⟩ rfl rfl rfl rfl rfl (by kernel_rfl) Try.func13 (by kernel_rfl)
    (of_decide_eq_true (by kernel_rfl)) (by unfold Func.isWrapper; first | (rw [if_pos (by decide +kernel)]; kernel_rfl) | (rw [if_neg (by decide +kernel)]; exact ⟨rfl, rfl⟩))
    (fun os started H enc _ => lifted os started H enc)

/-- The statement. -/
theorem proved : Rows.FnExactDropPointSaid := over
#print axioms proved
end Go.Proofs.Ytbnjaaegbmhopaa.fnExactDropPoint
end
