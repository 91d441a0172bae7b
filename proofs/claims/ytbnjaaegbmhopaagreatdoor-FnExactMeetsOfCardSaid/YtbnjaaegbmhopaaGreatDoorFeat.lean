/- Features and sources: values. -/
import Derived.Test.YtbnjaaegbmhopaaGreatDoorRing
namespace Go.Proofs.YtbnjaaegbmhopaaGreatDoor
set_option linter.unusedVariables false

/-- A feature: id, kind, rank, name, points. -/
abbrev Feat := Int × Int × Int × ByteArray × List (Int × Int)
abbrev Feat.id (f : Feat) : Int := f.1
abbrev Feat.kind (f : Feat) : Int := f.2.1
abbrev Feat.rank (f : Feat) : Int := f.2.2.1
abbrev Feat.name (f : Feat) : ByteArray := f.2.2.2.1
abbrev Feat.pts (f : Feat) : List (Int × Int) := f.2.2.2.2
/-- Is it a name? -/
def lowB (x : UInt8) : Bool := decide (97 ≤ x.toNat) && decide (x.toNat ≤ 122)
def nameV (s : ByteArray) : Bool := s.data.toList.all lowB && inB (s.size : Int) 1 8
/-- One valid point. -/
def onePt : List (Int × Int) → Bool
  | [p] => isP p.1 p.2
  | _ => false
def shapeV (k : Int) (l : List (Int × Int)) : Bool :=
  if k = 1 then onePt l else if k = 2 then smpV l else if k = 3 then isRg l else false
/-- Is it a feature? -/
def featV (f : Feat) : Bool := inB f.1 1 99 && (inB f.2.2.1 0 9 && ((decide (f.2.2.2.1.size = 0) || nameV f.2.2.2.1) && shapeV f.2.1 f.2.2.2.2))
/-- Ids that rise. -/
def Rising (l : List Feat) : Prop := (l.map fun f => f.1).Pairwise (· < ·)
instance (l : List Feat) : Decidable (Rising l) := by unfold Rising; infer_instance
/-- Is it a source? -/
def srcV (l : List Feat) : Bool := l.all featV && (decide (Rising l) && decide (l.length ≤ 16))
theorem src_len {l : List Feat} (h : srcV l = true) : l.length ≤ 16 := by
  simp only [srcV, Bool.and_eq_true, decide_eq_true_eq] at h; exact h.2.2
theorem src_rise {l : List Feat} (h : srcV l = true) : Rising l := by
  simp only [srcV, Bool.and_eq_true, decide_eq_true_eq] at h; exact h.2.1
theorem src_all {l : List Feat} (h : srcV l = true) {f : Feat} (hf : f ∈ l) : featV f = true := by
  simp only [srcV, Bool.and_eq_true, List.all_eq_true] at h; exact h.1 f hf
theorem src_sub {l m : List Feat} (h : srcV l = true) (hs : m.Sublist l) : srcV m = true := by
  simp only [srcV, Bool.and_eq_true, decide_eq_true_eq, List.all_eq_true]
  exact ⟨fun f hf => src_all h (hs.subset hf), (src_rise h).sublist (hs.map _), Nat.le_trans hs.length_le (src_len h)⟩
/-- What the loop of IsSource has seen. -/
def SeenUp (l : List Feat) (j : Nat) : Prop := (l.take j).all featV = true ∧ Rising (l.take j)
theorem seen_zero (l : List Feat) : SeenUp l 0 := ⟨rfl, by simp [Rising]⟩
theorem rising_snoc {l : List Feat} {f : Feat} (h : Rising l) (hl : ∀ g, l.getLast? = some g → g.1 < f.1) : Rising (l ++ [f]) := by
  unfold Rising at h ⊢
  rw [List.map_append, List.pairwise_append]
  refine ⟨h, by simp, fun a ha b hb => ?_⟩
  simp only [List.map_cons, List.map_nil, List.mem_singleton] at hb
  subst hb
  cases hg : l.getLast? with
  | none => rw [List.getLast?_eq_none_iff] at hg; subst hg; simp at ha
  | some g =>
    have hlt := hl g hg
    obtain ⟨m, rfl⟩ := List.getLast?_eq_some_iff.1 hg
    rw [List.map_append, List.pairwise_append] at h
    rw [List.map_append, List.mem_append] at ha
    rcases ha with ha | ha
    · have := h.2.2 a ha g.1 (by simp)
      omega
    · simp only [List.map_cons, List.map_nil, List.mem_singleton] at ha
      omega
theorem seen_step {l : List Feat} {j : Nat} {f : Feat} (h : SeenUp l j) (hf : l[j]? = some f) (hv : featV f = true) (hr : ∀ g, 0 < j → l[j - 1]? = some g → g.1 < f.1) : SeenUp l (j + 1) := by
  unfold SeenUp at h ⊢
  rw [List.take_add_one, hf]
  refine ⟨by simp only [Option.toList_some, List.all_append, List.all_cons, List.all_nil, Bool.and_true, Bool.and_eq_true]; exact ⟨h.1, hv⟩, ?_⟩
  refine rising_snoc h.2 fun g hg => ?_
  have hj : j < l.length := (List.getElem?_eq_some_iff.1 hf).1
  rw [List.getLast?_eq_getElem?, List.length_take, Nat.min_eq_left (Nat.le_of_lt hj)] at hg
  by_cases h0 : 0 < j
  · rw [List.getElem?_take, if_pos (by omega)] at hg
    exact hr g h0 hg
  · obtain rfl : j = 0 := by omega
    simp at hg
theorem seen_all {l : List Feat} (h : SeenUp l l.length) : srcV l = decide (l.length ≤ 16) := by
  unfold SeenUp at h
  rw [List.take_length] at h
  simp [srcV, h.1, h.2]
theorem src_no1 {l : List Feat} {j : Nat} {f : Feat} (hf : l[j]? = some f) (hv : featV f = false) : srcV l = false := by
  have : l.all featV = false := by rw [List.all_eq_false]; exact ⟨f, List.mem_of_getElem? hf, by simp [hv]⟩
  simp [srcV, this]
theorem src_no2 {l : List Feat} {j : Nat} {f g : Feat} (h0 : 0 < j) (hg : l[j - 1]? = some g) (hf : l[j]? = some f) (hle : f.1 ≤ g.1) : srcV l = false := by
  have : ¬ Rising l := by
    unfold Rising
    rw [List.pairwise_iff_getElem]
    intro h
    obtain ⟨h1, h2⟩ := List.getElem?_eq_some_iff.1 hg
    obtain ⟨h3, h4⟩ := List.getElem?_eq_some_iff.1 hf
    have := h (j - 1) j (by simpa using h1) (by simpa using h3) (by omega)
    simp only [List.getElem_map, h2, h4] at this
    omega
  simp [srcV, this]
/-- The place of the first feature with an Id. -/
def findV (l : List Feat) (i : Int) : Int := match l.findIdx? (fun f => f.1 == i) with
  | some k => (k : Int)
  | none => -1
theorem find_at {l : List Feat} {i : Int} {j : Nat} {f : Feat} (hf : l[j]? = some f) (he : f.1 = i) (hn : ∀ (k : Nat) (g : Feat), k < j → l[k]? = some g → ¬ g.1 = i) : findV l i = (j : Int) := by
  have : l.findIdx? (fun f => f.1 == i) = some j := by
    rw [List.findIdx?_eq_some_iff_getElem]
    obtain ⟨h1, h2⟩ := List.getElem?_eq_some_iff.1 hf
    refine ⟨h1, by simp [h2, he], fun k hk => ?_⟩
    have := hn k l[k] hk (List.getElem?_eq_getElem (by omega))
    simpa using this
  simp [findV, this]
theorem find_none {l : List Feat} {i : Int} (hn : ∀ (k : Nat) (g : Feat), l[k]? = some g → ¬ g.1 = i) : findV l i = -1 := by
  have : l.findIdx? (fun f => f.1 == i) = none := by
    rw [List.findIdx?_eq_none_iff]
    intro g hg
    obtain ⟨k, hk⟩ := List.getElem?_of_mem hg
    simpa using hn k g hk
  simp [findV, this]
theorem find_ge (l : List Feat) (i : Int) : -1 ≤ findV l i := by unfold findV; split <;> omega
theorem find_lt (l : List Feat) (i : Int) : findV l i < (l.length : Int) ∨ findV l i = -1 := by
  unfold findV; split
  · next k h => rw [List.findIdx?_eq_some_iff_getElem] at h; obtain ⟨h1, _⟩ := h; left; omega
  · right; rfl
theorem find_yes {l : List Feat} {i : Int} {k : Nat} (h : findV l i = (k : Int)) : ∃ f : Feat, l[k]? = some f ∧ f.1 = i ∧ ∀ (m : Nat) (g : Feat), m < k → l[m]? = some g → ¬ g.1 = i := by
  unfold findV at h
  split at h
  · next j hj =>
    obtain rfl : j = k := by omega
    rw [List.findIdx?_eq_some_iff_getElem] at hj
    obtain ⟨h1, h2, h3⟩ := hj
    refine ⟨l[j], List.getElem?_eq_getElem h1, by simpa using h2, fun m g hm hg => ?_⟩
    obtain ⟨h4, h5⟩ := List.getElem?_eq_some_iff.1 hg
    have := h3 m hm
    rw [h5] at this
    simpa using this
  · omega
theorem find_not {l : List Feat} {i : Int} (h : findV l i = -1) {k : Nat} {g : Feat} (hg : l[k]? = some g) : ¬ g.1 = i := by
  unfold findV at h
  split at h
  · omega
  · next hj =>
    rw [List.findIdx?_eq_none_iff] at hj
    have := hj g (List.mem_of_getElem? hg)
    simpa using this
/-- How many come ahead of an Id. -/
def cutK : List Feat → Int → Nat
  | [], _ => 0
  | f :: t, i => if f.1 < i then cutK t i + 1 else 0
theorem cut_le (l : List Feat) (i : Int) : cutK l i ≤ l.length := by
  induction l with
  | nil => exact Nat.le_refl _
  | cons f t ih => unfold cutK; split <;> simp <;> omega
theorem cut_below {l : List Feat} {i : Int} {k : Nat} {g : Feat} (hk : k < cutK l i) (hg : l[k]? = some g) : g.1 < i := by
  induction l generalizing k with
  | nil => simp at hg
  | cons f t ih =>
    unfold cutK at hk
    split at hk
    · next h =>
      cases k with
      | zero => simp only [List.getElem?_cons_zero, Option.some.injEq] at hg; subst hg; exact h
      | succ k => exact ih (k := k) (by omega) (by simpa using hg)
    · omega
theorem cut_at {l : List Feat} {i : Int} {j : Nat} (hj : j ≤ l.length) (hb : ∀ (k : Nat) (g : Feat), k < j → l[k]? = some g → g.1 < i) (hs : ∀ g : Feat, l[j]? = some g → ¬ g.1 < i) : cutK l i = j := by
  induction l generalizing j with
  | nil => simp at hj; subst hj; rfl
  | cons f t ih =>
    unfold cutK
    cases j with
    | zero => rw [if_neg (hs f rfl)]
    | succ j =>
      rw [if_pos (hb 0 f (by omega) rfl)]
      have := ih (j := j) (by simpa using hj) (fun k g hk hg => hb (k + 1) g (by omega) (by simpa using hg)) (fun g hg => hs g (by simpa using hg))
      omega
/-- What comes behind, without one of the same Id. -/
def restV (l : List Feat) (i : Int) : List Feat := match l.drop (cutK l i) with
  | [] => []
  | g :: t => if g.1 = i then t else g :: t
def putOut (l : List Feat) (f : Feat) : List Feat := l.take (cutK l f.1) ++ [f] ++ restV l f.1
def putV (l : List Feat) (f : Feat) : List Feat × Bool := if srcV (putOut l f) then (putOut l f, true) else (l, false)
def takeV (l : List Feat) (i : Int) : List Feat × Bool := if srcV l ∧ 0 ≤ findV l i then (l.take (findV l i).toNat ++ l.drop ((findV l i).toNat + 1), true) else (l, false)
theorem rest_sub (l : List Feat) (i : Int) : (restV l i).Sublist (l.drop (cutK l i)) := by
  unfold restV
  split
  · next h => rw [h]; exact List.Sublist.slnil
  · next g t h => rw [h]; split
                  · exact List.sublist_cons_self _ _
                  · exact List.Sublist.refl _
theorem put_yes {l : List Feat} {f : Feat} (h : srcV (putOut l f) = true) : putV l f = (putOut l f, true) := by unfold putV; rw [if_pos h]
theorem put_no {l : List Feat} {f : Feat} (h : srcV (putOut l f) = false) : putV l f = (l, false) := by unfold putV; rw [h]; rfl
/-- What was put is found. -/
theorem put_at (l : List Feat) (f : Feat) : (putOut l f)[cutK l f.1]? = some f := by
  unfold putOut
  have h1 : (l.take (cutK l f.1)).length = cutK l f.1 := by rw [List.length_take, Nat.min_eq_left (cut_le _ _)]
  rw [List.append_assoc, List.getElem?_append_right (by rw [h1]; exact Nat.le_refl _), h1]
  simp
theorem put_find (l : List Feat) (f : Feat) : findV (putOut l f) f.1 = (cutK l f.1 : Int) := by
  refine find_at (put_at l f) rfl fun k g hk hg => ?_
  unfold putOut at hg
  have h1 : (l.take (cutK l f.1)).length = cutK l f.1 := by rw [List.length_take, Nat.min_eq_left (cut_le _ _)]
  rw [List.append_assoc, List.getElem?_append_left (by rw [h1]; exact hk), List.getElem?_take, if_pos hk] at hg
  have := cut_below hk hg
  omega
/-- What is left when it is taken away. -/
def leftV (l : List Feat) (i : Int) : List Feat := l.take (cutK l i) ++ restV l i
theorem put_take {l : List Feat} {f : Feat} (h : srcV (putOut l f) = true) : takeV (putOut l f) f.1 = (leftV l f.1, true) := by
  unfold takeV
  rw [put_find, if_pos ⟨h, by omega⟩, Int.toNat_natCast]
  have h1 : (l.take (cutK l f.1)).length = cutK l f.1 := by rw [List.length_take, Nat.min_eq_left (cut_le _ _)]
  have h2 : (putOut l f).take (cutK l f.1) = l.take (cutK l f.1) := by
    unfold putOut
    rw [List.append_assoc, List.take_append_of_le_length (by rw [h1]; exact Nat.le_refl _), List.take_take, Nat.min_self]
  have h3 : (putOut l f).drop (cutK l f.1 + 1) = restV l f.1 := by
    unfold putOut
    have h4 : (l.take (cutK l f.1) ++ [f]).length = cutK l f.1 + 1 := by rw [List.length_append, h1]; rfl
    rw [← h4, List.drop_left]
  rw [h2, h3]; rfl
theorem left_sub (l : List Feat) (f : Feat) : (leftV l f.1).Sublist (putOut l f) := by
  unfold leftV putOut
  rw [List.append_assoc]
  exact (List.Sublist.refl _).append (List.sublist_append_right _ _)
theorem left_src {l : List Feat} {f : Feat} (h : srcV (putOut l f) = true) : srcV (leftV l f.1) = true := src_sub h (left_sub l f)
theorem left_gone {l : List Feat} {f : Feat} (h : srcV (putOut l f) = true) : findV (leftV l f.1) f.1 = -1 := by
  refine find_none fun k g hg => ?_
  have hr := src_rise h
  unfold putOut Rising at hr
  rw [List.map_append, List.map_append, List.pairwise_append] at hr
  obtain ⟨ha, hb, hc⟩ := hr
  rw [List.pairwise_append] at ha
  have hm := List.mem_of_getElem? hg
  unfold leftV at hm
  rw [List.mem_append] at hm
  rcases hm with hm | hm
  · have := ha.2.2 g.1 (List.mem_map.2 ⟨g, hm, rfl⟩) f.1 (by simp)
    omega
  · have := hc f.1 (by simp) g.1 (List.mem_map.2 ⟨g, hm, rfl⟩)
    omega
theorem left_same {l : List Feat} {i : Int} (h : findV l i < 0) : leftV l i = l := by
  have hn : findV l i = -1 := by have := find_ge l i; omega
  have : restV l i = l.drop (cutK l i) := by
    unfold restV
    split
    · next e => rw [e]
    · next g t e =>
      have hg : l[cutK l i]? = some g := by
        have : (l.drop (cutK l i))[0]? = some g := by rw [e]; rfl
        rwa [List.getElem?_drop, Nat.add_zero] at this
      rw [if_neg (find_not hn hg), e]
  unfold leftV
  rw [this, List.take_append_drop]
end Go.Proofs.YtbnjaaegbmhopaaGreatDoor
