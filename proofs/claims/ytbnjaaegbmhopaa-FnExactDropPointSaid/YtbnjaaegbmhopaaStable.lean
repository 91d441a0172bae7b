/- The insertion sort, of what rises by a second number, sorts by both: values alone. -/
import Derived.Test.YtbnjaaegbmhopaaSafeV
import Derived.Sort.LotA
import Derived.Sort.WalkA
namespace Go.Proofs.Ytbnjaaegbmhopaa
open Go.Sort
set_option linter.unusedVariables false

section
variable {α : Type} [Inhabited α] {lt lt' : α → α → Bool} {pos : α → Int}
theorem ins_same (hlt : ∀ x y, pos y < pos x → lt x y = lt' x y) : ∀ (j : Nat) (d : Array α), j < d.size → (∀ p, p < j → pos d[p]! < pos d[j]!) → insInner lt 0 j d = insInner lt' 0 j d
  | 0, d, _, _ => by unfold insInner; rfl
  | j + 1, d, hj, h => by
    have e := hlt d[j + 1]! d[j]! (h j (by omega))
    unfold insInner
    rw [e]
    split
    · refine ins_same hlt j _ (by rw [swp_size]; omega) fun p hp => ?_
      have g := swp_get d (i := j + 1) (j := j) hj (by omega)
      rw [g, g, if_neg (by omega), if_neg (by omega), if_pos rfl]
      exact h p (by omega)
    · rfl
theorem ins_keep : ∀ (j : Nat) (d : Array α), j < d.size → (insInner lt 0 j d).size = d.size ∧ (∀ q, j < q → (insInner lt 0 j d)[q]! = d[q]!) ∧ (∀ p, p ≤ j → ∃ p', p' ≤ j ∧ (insInner lt 0 j d)[p]! = d[p']!)
  | 0, d, _ => by unfold insInner; exact ⟨rfl, fun _ _ => rfl, fun p hp => ⟨p, hp, rfl⟩⟩
  | j + 1, d, hj => by
    unfold insInner
    split
    · have g := swp_get d (i := j + 1) (j := j) hj (by omega)
      obtain ⟨h1, h2, h3⟩ := ins_keep j (swp d (j + 1) j) (by rw [swp_size]; omega)
      refine ⟨by rw [h1, swp_size], fun q hq => ?_, fun p hp => ?_⟩
      · rw [h2 q (by omega), g, if_neg (by omega), if_neg (by omega)]
      · by_cases hpj : p ≤ j
        · obtain ⟨p', hp', e⟩ := h3 p hpj
          rw [e, g]
          by_cases h4 : p' = j
          · exact ⟨j + 1, Nat.le_refl _, if_pos h4⟩
          · rw [if_neg h4, if_neg (by omega)]; exact ⟨p', by omega, rfl⟩
        · obtain rfl : p = j + 1 := by omega
          rw [h2 (j + 1) (by omega), g, if_neg (by omega), if_pos rfl]
          exact ⟨j, by omega, rfl⟩
    · exact ⟨rfl, fun _ _ => rfl, fun p hp => ⟨p, hp, rfl⟩⟩
theorem outer_same (hlt : ∀ x y, pos y < pos x → lt x y = lt' x y) : ∀ (n i b : Nat) (d : Array α), b - i = n → b ≤ d.size → (∀ q, i ≤ q → q < b → ∀ p, p < q → pos d[p]! < pos d[q]!) → insOuter lt 0 b i d = insOuter lt' 0 b i d
  | 0, i, b, d, hn, _, _ => by rw [insOuter_stop _ _ _ _ _ (by omega), insOuter_stop _ _ _ _ _ (by omega)]
  | n + 1, i, b, d, hn, hb, h => by
    have hib : i < b := by omega
    rw [insOuter_go _ _ _ _ _ hib, insOuter_go _ _ _ _ _ hib, ins_same hlt i d (by omega) (fun p hp => h i (Nat.le_refl _) hib p hp)]
    obtain ⟨h1, h2, h3⟩ := ins_keep (lt := lt') i d (by omega)
    refine outer_same hlt n (i + 1) b _ (by omega) (by rw [h1]; exact hb) fun q hq hqb p hp => ?_
    rw [h2 q (by omega)]
    by_cases hpi : p ≤ i
    · obtain ⟨p', hp', e⟩ := h3 p hpi
      rw [e]
      exact h q (by omega) hqb p' (by omega)
    · rw [h2 p (by omega)]
      exact h q (by omega) hqb p hp
theorem stable_both (hlt : ∀ x y, pos y < pos x → lt x y = lt' x y) (hS : SWO lt') (d : Array α) (h : ∀ q, q < d.size → ∀ p, p < q → pos d[p]! < pos d[q]!) :
    PermIn 0 d.size d (insertionSort lt d 0 d.size) ∧ SortedIn lt' 0 d.size (insertionSort lt d 0 d.size) := by
  have e : insertionSort lt d 0 d.size = insertionSort lt' d 0 d.size := by
    unfold insertionSort
    exact outer_same hlt _ 1 d.size d rfl (Nat.le_refl _) fun q _ hq p hp => h q hq p hp
  rw [e]
  exact insertionSort_holds hS d 0 d.size (Nat.zero_le _) (Nat.le_refl _)
end

/-! ### Corners by size -/
/-- A corner: its index and its area. -/
abbrev Cor := Int × Int
def cfC (x y : Cor) : Int := cmpV x.2 y.2
def ltA (x y : Cor) : Bool := decide (cfC x y < 0)
def ltL (x y : Cor) : Bool := decide (x.2 < y.2) || (decide (x.2 = y.2) && decide (x.1 < y.1))
theorem ltA_eq (x y : Cor) : ltA x y = decide (x.2 < y.2) := by
  unfold ltA cfC
  rcases cmp_bd x.2 y.2 with ⟨h, h1⟩ | ⟨h, h1⟩ | ⟨h, h1⟩ <;> rw [h] <;> simp <;> omega
theorem ltA_L (x y : Cor) (h : y.1 < x.1) : ltA x y = ltL x y := by
  rw [ltA_eq]; unfold ltL
  rw [decide_eq_false (p := x.1 < y.1) (by omega)]; simp
theorem swoL : SWO ltL where
  irrefl x := by simp [ltL]
  trans x y z h1 h2 := by simp only [ltL, Bool.or_eq_true, Bool.and_eq_true, decide_eq_true_eq] at *; omega
  ntrans x y z h1 h2 := by
    simp only [ltL, Bool.or_eq_false_iff, Bool.and_eq_false_iff, decide_eq_false_iff_not] at *; omega
/-- The small ones of the first t corners, as they come. -/
def waitS (l : List (Int × Int)) (least : Int) : Nat → List Cor
  | 0 => []
  | t + 1 => if crnV l ((t + 1 : Nat) : Int) < least then waitS l least t ++ [(((t + 1 : Nat) : Int), crnV l ((t + 1 : Nat) : Int))] else waitS l least t
def waitV (l : List (Int × Int)) (least : Int) : List Cor := waitS l least (l.length - 2)
theorem waitS_len (l : List (Int × Int)) (least : Int) : ∀ t, (waitS l least t).length ≤ t
  | 0 => Nat.le_refl _
  | t + 1 => by
    have := waitS_len l least t
    unfold waitS; split
    · simp; omega
    · omega
theorem waitS_mem {l : List (Int × Int)} {least : Int} : ∀ {t : Nat} {x : Cor}, x ∈ waitS l least t ↔ ∃ j : Nat, 1 ≤ j ∧ j ≤ t ∧ x = ((j : Int), crnV l (j : Int)) ∧ crnV l (j : Int) < least
  | 0, x => by simp [waitS]; omega
  | t + 1, x => by
    have ih := waitS_mem (l := l) (least := least) (t := t) (x := x)
    unfold waitS
    constructor
    · intro h
      have h' : x ∈ waitS l least t ∨ (crnV l ((t + 1 : Nat) : Int) < least ∧ x = (((t + 1 : Nat) : Int), crnV l ((t + 1 : Nat) : Int))) := by
        split at h
        · next hs =>
          rcases List.mem_append.1 h with h | h
          · exact .inl h
          · exact .inr ⟨hs, List.mem_singleton.1 h⟩
        · exact .inl h
      rcases h' with h' | ⟨h1, h2⟩
      · obtain ⟨j, a, b, c⟩ := ih.1 h'
        exact ⟨j, a, by omega, c⟩
      · exact ⟨t + 1, by omega, Nat.le_refl _, h2, h1⟩
    · rintro ⟨j, a, b, c, d⟩
      by_cases e : j = t + 1
      · subst e
        rw [if_pos d]
        exact List.mem_append.2 (.inr (List.mem_singleton.2 c))
      · have := ih.2 ⟨j, a, by omega, c, d⟩
        split
        · exact List.mem_append.2 (.inl this)
        · exact this
theorem waitS_rise (l : List (Int × Int)) (least : Int) : ∀ t, (waitS l least t).Pairwise fun x y => x.1 < y.1
  | 0 => List.Pairwise.nil
  | t + 1 => by
    unfold waitS
    split
    · refine List.pairwise_append.2 ⟨waitS_rise l least t, List.pairwise_singleton _ _, fun x hx y hy => ?_⟩
      obtain ⟨j, -, h2, rfl, -⟩ := waitS_mem.1 hx
      rw [List.mem_singleton.1 hy]
      show (j : Int) < ((t + 1 : Nat) : Int)
      omega
    · exact waitS_rise l least t
/-- Sorted by size, the first one of equals first. -/
def queueV (W : List Cor) : List Cor := (insertionSort ltA W.toArray 0 W.toArray.size).toList
theorem queue_all {W : List Cor} (h : W.Pairwise fun x y => x.1 < y.1) : (queueV W).Perm W ∧ ∀ (i j : Nat) (x y : Cor), i < j → (queueV W)[i]? = some x → (queueV W)[j]? = some y → ltL y x = false := by
  obtain ⟨⟨h1, -, h3⟩, h4⟩ := stable_both (pos := fun x : Cor => x.1) ltA_L swoL W.toArray (fun q hq p hp => by
    have hq' : q < W.length := by simpa using hq
    have := List.pairwise_iff_getElem.1 h p q (by omega) hq' hp
    rw [getElem!_pos W.toArray p (by simp; omega), getElem!_pos W.toArray q hq]
    simpa using this)
  refine ⟨?_, fun i j x y hij hx hy => ?_⟩
  · unfold queueV
    have e1 : ∀ (d : Array Cor) (n : Nat), d.size = n → d.extract 0 n = d := fun d n h => by subst h; simp
    rw [e1 _ _ h1, e1 W.toArray _ rfl] at h3
    simpa using h3
  · unfold queueV at hx hy
    generalize hd : insertionSort ltA W.toArray 0 W.toArray.size = d at *
    rw [Array.getElem?_toList] at hx hy
    have hj : j < d.size := (Array.getElem?_eq_some_iff.1 hy).1
    have hi : i < d.size := by omega
    have := h4 i j (Nat.zero_le _) hij (by rw [← h1]; exact hj)
    rw [getElem!_pos d j hj, getElem!_pos d i hi] at this
    have e1 := (Array.getElem?_eq_some_iff.1 hx).2
    have e2 := (Array.getElem?_eq_some_iff.1 hy).2
    rw [e1, e2] at this
    exact this
theorem queue_len (W : List Cor) (h : W.Pairwise fun x y => x.1 < y.1) : (queueV W).length = W.length := (queue_all h).1.length_eq
/-! ### The one that is dropped -/
theorem cutS_best {l : List (Int × Int)} {O : List (List (Int × Int))} {least : Int} : ∀ (t j : Nat), 1 ≤ j → j ≤ t → crnV l (j : Int) < least → canV l (j : Int) O = true → 0 ≤ cutS l O least t ∧ (crnV l (cutS l O least t) < crnV l (j : Int) ∨ crnV l (cutS l O least t) = crnV l (j : Int) ∧ cutS l O least t ≤ (j : Int))
  | 0, j, h1, h2, _, _ => by omega
  | t + 1, j, h1, h2, h3, h4 => by
    by_cases e : j = t + 1
    · subst e
      by_cases hc : crnV l ((t + 1 : Nat) : Int) < least ∧ (cutS l O least t < 0 ∨ crnV l ((t + 1 : Nat) : Int) < crnV l (cutS l O least t)) ∧ canV l ((t + 1 : Nat) : Int) O = true
      · rw [cutS_yes hc]; omega
      · rw [cutS_no hc]
        have hn : ¬ (cutS l O least t < 0 ∨ crnV l ((t + 1 : Nat) : Int) < crnV l (cutS l O least t)) := fun q => hc ⟨h3, q, h4⟩
        rcases cutS_range l O least t with h | ⟨b, hb, -, hb2, -⟩
        · exact absurd (.inl (by omega)) hn
        · omega
    · have ih := cutS_best t j h1 (by omega) h3 h4
      by_cases hc : crnV l ((t + 1 : Nat) : Int) < least ∧ (cutS l O least t < 0 ∨ crnV l ((t + 1 : Nat) : Int) < crnV l (cutS l O least t)) ∧ canV l ((t + 1 : Nat) : Int) O = true
      · rw [cutS_yes hc]; omega
      · rw [cutS_no hc]; exact ih
/-- The first of the queue that can be dropped is the model's. -/
theorem cut_first {l : List (Int × Int)} {O : List (List (Int × Int))} {least : Int} {n : Nat} {x : Cor} (hx : (queueV (waitV l least))[n]? = some x) (hc : canV l x.1 O = true) (hp : ∀ (k : Nat) (y : Cor), k < n → (queueV (waitV l least))[k]? = some y → canV l y.1 O = false) : cutV l O least = x.1 := by
  obtain ⟨hP, hS⟩ := queue_all (waitS_rise l least (l.length - 2))
  have hm : x ∈ waitV l least := hP.mem_iff.1 (List.mem_of_getElem? hx)
  obtain ⟨j, h1, h2, rfl, h3⟩ := waitS_mem.1 hm
  have hb := cutS_best (l.length - 2) j h1 h2 h3 hc
  rcases cutS_range l O least (l.length - 2) with h | ⟨b, hb1, hb2, hb3, hb4, hb5⟩
  · omega
  have hmb : ((b : Int), crnV l (b : Int)) ∈ queueV (waitV l least) := hP.mem_iff.2 (waitS_mem.2 ⟨b, hb2, hb3, rfl, hb4⟩)
  obtain ⟨k, hk⟩ := List.getElem?_of_mem hmb
  have hk' : n ≤ k := by
    by_cases e : k < n
    · have := hp k _ e hk
      rw [hb5] at this; cases this
    · omega
  unfold cutV
  rw [hb1] at hb ⊢
  by_cases e : n = k
  · subst e
    rw [hx] at hk
    have := congrArg Prod.fst (Option.some.inj hk)
    exact this.symm
  · have := hS n k _ _ (by omega) hx hk
    simp only [ltL, Bool.or_eq_false_iff, Bool.and_eq_false_iff, decide_eq_false_iff_not] at this
    show (b : Int) = (j : Int)
    omega
theorem cut_none {l : List (Int × Int)} {O : List (List (Int × Int))} {least : Int} (h : ∀ (k : Nat) (y : Cor), (queueV (waitV l least))[k]? = some y → canV l y.1 O = false) : cutV l O least < 0 := by
  obtain ⟨hP, hS⟩ := queue_all (waitS_rise l least (l.length - 2))
  rcases cutS_range l O least (l.length - 2) with h' | ⟨b, hb1, hb2, hb3, hb4, hb5⟩
  · unfold cutV; omega
  · have hmb : ((b : Int), crnV l (b : Int)) ∈ queueV (waitV l least) := hP.mem_iff.2 (waitS_mem.2 ⟨b, hb2, hb3, rfl, hb4⟩)
    obtain ⟨k, hk⟩ := List.getElem?_of_mem hmb
    have := h k _ hk
    rw [hb5] at this; cases this
end Go.Proofs.Ytbnjaaegbmhopaa
