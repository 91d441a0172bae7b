/- A region that draws its order, by tables: what each operation waits for, what it writes, and at what it looks, as bits of numbers, so that each step's tests are cheap for the kernel. -/
import Derived.Test.YtbnjaaegbmhopaaGreatDoorOrders
namespace Go.Proofs.YtbnjaaegbmhopaaGreatDoor
set_option linter.unusedVariables false
/-- Which operations have come up: the bits of m. -/
def maskArr (n m : Nat) : Array Bool := ((List.range n).map fun j => m.testBit j).toArray
theorem maskArr_get (n m j : Nat) (d : Bool) : (maskArr n m).getD j d = if j < n then m.testBit j else d := by
  unfold maskArr
  by_cases h : j < n
  · simp [Array.getD, h]
  · simp [Array.getD, h]
theorem maskArr_set {n m i : Nat} (h : i < n) : (maskArr n m).setIfInBounds i true = maskArr n (m ||| 2 ^ i) := by
  unfold maskArr
  apply Array.ext
  · simp
  · intro k h1 h2
    simp at h1 h2
    by_cases e : i = k
    · subst e
      simp [Nat.testBit_or, Nat.testBit_two_pow]
    · rw [Array.getElem_setIfInBounds_ne (by simpa using h1) e]
      simp [Nat.testBit_or, Nat.testBit_two_pow, e]
theorem maskArr_zero (n : Nat) : Array.replicate n false = maskArr n 0 := by
  unfold maskArr
  apply Array.ext
  · simp
  · intro k h1 h2; simp
def depM : List Edge → Nat
  | [] => 0
  | e :: r => if Region.binds .any e then 2 ^ e.on ||| depM r else depM r
theorem depM_bit (l : List Edge) (k : Nat) : (depM l).testBit k = l.any fun e => Region.binds .any e && e.on == k := by
  induction l with
  | nil => simp [depM]
  | cons e r ih =>
    unfold depM
    cases h : Region.binds .any e
    · simp [h, ih]
    · have hd : decide (e.on = k) = (e.on == k) := by by_cases hk : e.on = k <;> simp [hk]
      simp [h, ih, Nat.testBit_or, Nat.testBit_two_pow, hd]
def looksM : List Nat → Nat
  | [] => 0
  | d :: r => 2 ^ d ||| looksM r
theorem looksM_bit (l : List Nat) (k : Nat) : (looksM l).testBit k = l.contains k := by
  induction l with
  | nil => simp [looksM]
  | cons d r ih =>
    have hd : decide (d = k) = (k == d) := by by_cases hk : d = k <;> simp [hk]; exact fun e => hk e.symm
    simp only [looksM, Nat.testBit_or, Nat.testBit_two_pow, ih, List.contains_cons, hd]
def dstN (o : Oper) : Nat := match o.dst with | some d => d + 1 | none => 0
def tab (ops : Array Oper) : List (Nat × Nat × Nat) := ops.toList.map fun o => (depM o.after.toList, dstN o, looksM (o.looksAt ops))
def apartT (di li dj lj : Nat) : Bool := (di == 0 || (!lj.testBit (di - 1) && dj != di)) && (dj == 0 || !li.testBit (dj - 1))
theorem apartT_ok {ops : Array Oper} {x y : Oper} (h : apartT (dstN x) (looksM (x.looksAt ops)) (dstN y) (looksM (y.looksAt ops)) = true) : x.apart ops y = true := by
  unfold apartT dstN at h
  unfold Oper.apart
  rw [looksM_bit, looksM_bit] at h
  cases hx : x.dst <;> cases hy : y.dst <;> simp [hx, hy] at h ⊢ <;> first | exact h | (refine ⟨⟨h.1.1, fun e => h.1.2 e⟩, h.2⟩)
def freeGo (m i di li : Nat) : List (Nat × Nat × Nat) → Nat → Bool
  | [], _ => true
  | (dep, dj, lj) :: r, j => (j == i || m.testBit j || dep.testBit i || apartT di li dj lj) && freeGo m i di li r (j + 1)
theorem freeGo_ok {m i di li : Nat} {l : List (Nat × Nat × Nat)} {j : Nat} (h : freeGo m i di li l j = true) {k dep dj lj : Nat} (hk : l[k]? = some (dep, dj, lj)) :
    (j + k == i || m.testBit (j + k) || dep.testBit i || apartT di li dj lj) = true := by
  induction l generalizing j k with
  | nil => simp at hk
  | cons e r ih =>
    obtain ⟨dep', dj', lj'⟩ := e
    unfold freeGo at h
    rw [Bool.and_eq_true] at h
    cases k with
    | zero =>
      simp only [List.getElem?_cons_zero, Option.some.injEq, Prod.mk.injEq] at hk
      obtain ⟨rfl, rfl, rfl⟩ := hk
      simpa using h.1
    | succ k =>
      have := ih h.2 (k := k) (by simpa using hk)
      rwa [Nat.add_assoc, Nat.add_comm 1 k] at this
def freeT (T : List (Nat × Nat × Nat)) (m i : Nat) : Bool :=
  match T[i]? with
  | none => false
  | some (_, di, li) => freeGo m i di li T 0
theorem tab_get {ops : Array Oper} {j : Nat} {o : Oper} (h : ops[j]? = some o) : (tab ops)[j]? = some (depM o.after.toList, dstN o, looksM (o.looksAt ops)) := by
  unfold tab
  rw [List.getElem?_map, Array.getElem?_toList, h]; rfl
theorem freeT_ok {ops : Array Oper} {T : List (Nat × Nat × Nat)} (hT : tab ops = T) {n m i : Nat} (hn : ops.size = n) (h : freeT T m i = true) : Region.free .any ops (maskArr n m) i = true := by
  subst hT
  unfold freeT at h
  unfold Region.free
  cases hi : ops[i]? with
  | none =>
    have h0 : (tab ops)[i]? = none := by
      unfold tab; rw [List.getElem?_map, Array.getElem?_toList, hi]; rfl
    rw [h0] at h; cases h
  | some oi =>
    rw [tab_get hi] at h
    simp only [List.all_eq_true, List.mem_range]
    intro j hj
    obtain ⟨oj, hoj⟩ : ∃ oj, ops[j]? = some oj := ⟨_, Array.getElem?_eq_getElem hj⟩
    have hc := freeGo_ok h (tab_get hoj)
    rw [Nat.zero_add, depM_bit] at hc
    rw [maskArr_get, if_pos (by omega), hoj]
    simp only [Bool.or_eq_true] at hc ⊢
    rcases hc with ((hc | hc) | hc) | hc
    · exact .inl (.inl hc)
    · exact .inl (.inr hc)
    · exact .inr (.inl (by rw [← Array.any_toList]; exact hc))
    · exact .inr (.inr (apartT_ok hc))
def readyT (T : List (Nat × Nat × Nat)) (n m i : Nat) : Bool :=
  match T[i]? with
  | none => false
  | some (dep, _, _) => !m.testBit i && dep &&& m == dep && Nat.blt m (2 ^ n)
theorem bit_lt {m n k : Nat} (h : m < 2 ^ n) (hk : m.testBit k = true) : k < n := by
  apply Classical.byContradiction
  intro hn
  have := Nat.testBit_lt_two_pow (x := m) (i := k) (Nat.lt_of_lt_of_le h (Nat.pow_le_pow_right (by decide) (by omega)))
  rw [this] at hk; cases hk
theorem and_bit {d m : Nat} (h : d &&& m = d) {k : Nat} (hk : d.testBit k = true) : m.testBit k = true := by
  rw [← h, Nat.testBit_and, Bool.and_eq_true] at hk; exact hk.2
theorem ready_iff {ops : Array Oper} {n m : Nat} (hn : ops.size = n) (hm : m < 2 ^ n) {i : Nat} {o : Oper} (hi : ops[i]? = some o) :
    (!(maskArr n m).getD i true && ((ops[i]?).map (·.after.all fun e => !Region.binds .any e || (maskArr n m).getD e.on false)).getD false) = (!m.testBit i && (depM o.after.toList &&& m == depM o.after.toList)) := by
  have hin : i < n := by have := (Array.getElem?_eq_some_iff.1 hi).1; omega
  rw [maskArr_get, if_pos hin, hi]
  congr 1
  simp only [Option.map_some, Option.getD_some]
  rw [Bool.eq_iff_iff, Array.all_eq_true_iff_forall_mem, beq_iff_eq]
  constructor
  · intro h
    apply Nat.eq_of_testBit_eq
    intro k
    rw [Nat.testBit_and]
    cases hd : (depM o.after.toList).testBit k
    · rfl
    · rw [depM_bit, List.any_eq_true] at hd
      obtain ⟨e, he, hb⟩ := hd
      simp only [Bool.and_eq_true, beq_iff_eq] at hb
      obtain ⟨hb, rfl⟩ := hb
      have := h e (by simpa using he)
      rw [hb, maskArr_get] at this
      by_cases hlt : e.on < n
      · rw [if_pos hlt] at this; simpa using this
      · rw [if_neg hlt] at this; simp at this
  · intro h e he
    cases hb : Region.binds .any e
    · rfl
    · have hbit : (depM o.after.toList).testBit e.on = true := by
        rw [depM_bit, List.any_eq_true]
        exact ⟨e, by simpa using he, by simp [hb]⟩
      have hmb := and_bit h hbit
      rw [maskArr_get, if_pos (bit_lt hm hmb)]
      simp [hmb]
theorem readyT_ok {ops : Array Oper} {T : List (Nat × Nat × Nat)} (hT : tab ops = T) {n m i : Nat} (hn : ops.size = n) (h : readyT T n m i = true) : (Region.ready .any ops (maskArr n m)).contains i = true := by
  subst hT
  unfold readyT at h
  cases hi : ops[i]? with
  | none =>
    have h0 : (tab ops)[i]? = none := by
      unfold tab; rw [List.getElem?_map, Array.getElem?_toList, hi]; rfl
    rw [h0] at h; cases h
  | some oi =>
    rw [tab_get hi] at h
    simp only [Bool.and_eq_true] at h
    have hlt : m < 2 ^ n := by simpa [Nat.blt_eq] using h.2
    have hin := (Array.getElem?_eq_some_iff.1 hi).1
    rw [List.contains_iff_mem]
    unfold Region.ready
    rw [List.mem_filter]
    exact ⟨List.mem_range.2 hin, by rw [ready_iff hn hlt hi, Bool.and_eq_true]; exact h.1⟩
def onlyGo (m i : Nat) : List (Nat × Nat × Nat) → Nat → Bool
  | [], _ => true
  | (dep, _, _) :: r, j => (j == i || m.testBit j || dep &&& m != dep) && onlyGo m i r (j + 1)
theorem onlyGo_ok {m i : Nat} {l : List (Nat × Nat × Nat)} {j : Nat} (h : onlyGo m i l j = true) {k dep dj lj : Nat} (hk : l[k]? = some (dep, dj, lj)) :
    (j + k == i || m.testBit (j + k) || dep &&& m != dep) = true := by
  induction l generalizing j k with
  | nil => simp at hk
  | cons e r ih =>
    obtain ⟨dep', dj', lj'⟩ := e
    unfold onlyGo at h
    rw [Bool.and_eq_true] at h
    cases k with
    | zero =>
      simp only [List.getElem?_cons_zero, Option.some.injEq, Prod.mk.injEq] at hk
      obtain ⟨rfl, rfl, rfl⟩ := hk
      simpa using h.1
    | succ k =>
      have := ih h.2 (k := k) (by simpa using hk)
      rwa [Nat.add_assoc, Nat.add_comm 1 k] at this
theorem filter_one (n i : Nat) (h : i < n) : (List.range n).filter (fun k => k == i) = [i] := by
  induction n with
  | zero => omega
  | succ n ih =>
    rw [List.range_succ, List.filter_append]
    by_cases e : i = n
    · subst e
      have h0 : (List.range i).filter (fun k => k == i) = [] := by
        rw [List.filter_eq_nil_iff]
        intro k hk
        have := List.mem_range.1 hk
        simp; omega
      rw [h0]; simp
    · rw [ih (by omega)]
      have : (n == i) = false := by simp; omega
      simp [List.filter, this]
theorem onlyT_ok {ops : Array Oper} {T : List (Nat × Nat × Nat)} (hT : tab ops = T) {n m i : Nat} (hn : ops.size = n) (h : readyT T n m i = true) (ho : onlyGo m i T 0 = true) : Region.ready .any ops (maskArr n m) = [i] := by
  have hc := readyT_ok hT hn h
  subst hT
  rw [List.contains_iff_mem] at hc
  unfold Region.ready at hc ⊢
  rw [List.mem_filter] at hc
  have hin := List.mem_range.1 hc.1
  have hlt : m < 2 ^ n := by
    unfold readyT at h
    split at h
    · cases h
    · simp only [Bool.and_eq_true] at h; simpa [Nat.blt_eq] using h.2
  rw [← filter_one ops.size i hin]
  apply List.filter_congr
  intro k hk
  have hkn := List.mem_range.1 hk
  obtain ⟨ok, hok⟩ : ∃ ok, ops[k]? = some ok := ⟨_, Array.getElem?_eq_getElem hkn⟩
  have hg := onlyGo_ok ho (tab_get hok)
  rw [Nat.zero_add] at hg
  by_cases e : k = i
  · subst e
    rw [hc.2]; simp
  · have hf : (k == i) = false := by simpa using e
    rw [hf] at hg ⊢
    rw [ready_iff hn hlt hok]
    simp only [Bool.false_or, Bool.or_eq_true] at hg
    rcases hg with hg | hg
    · rw [hg]; rfl
    · have : (depM ok.after.toList &&& m == depM ok.after.toList) = false := by simpa [bne] using hg
      rw [this, Bool.and_false]
section
variable {P : Program} {ops : Array Oper} {Q : Exit → Act → World → Prop} {S : World → Prop} {oi : Oper} {rest : List Oper} {fuel : Nat} {a : Act} {w : World} {v : Value} {T : List (Nat × Nat × Nat)} {n m : Nat}
/-- What is known of a region, once. -/
def Tabs (ops : Array Oper) (T : List (Nat × Nat × Nat)) (n : Nat) : Prop := tab ops = T ∧ ops.size = n ∧ Region.noSelect ops = true
theorem with_tabs (ht : Tabs ops T n) (h : Tabs ops T n → wpAnyH P .any ops Q S fuel (maskArr n 0) a w) : wpAnyH P .any ops Q S fuel (Array.replicate ops.size false) a w := by
  rw [maskArr_zero, ht.2.1]; exact h ht
theorem size_lt (ht : Tabs ops T n) {i : Nat} (hi : ops.toList.drop i = oi :: rest) : i < n := by
  have := (Array.getElem?_eq_some_iff.1 (op_at hi)).1
  rw [ht.2.1] at this; exact this
theorem tab_on (i m' : Nat) (ht : Tabs ops T n) (hi : ops.toList.drop i = oi :: rest) (hf : freeT T m i = true) (hr : readyT T n m i = true) (hm : m ||| 2 ^ i = m')
    (hQ : ∀ c a w, Q (.panic c) (a.put oi.dst v) w → Q (.panic c) a w) (hw : Region.wanted oi (yielded ops a.tmps) = true) (hy : ∀ w, S w → (execOp a.eval oi).run P w = .ok (.value v) w) (hS : S w)
    (h : wpAnyH P .any ops Q S fuel (maskArr n m') (a.put oi.dst v) w) : wpAnyH P .any ops Q S (fuel + 1) (maskArr n m) a w :=
  take_on i hi ht.2.2 (freeT_ok ht.1 ht.2.1 hf) (readyT_ok ht.1 ht.2.1 hr) hQ hw hy hS (by rw [maskArr_set (size_lt ht hi), hm]; exact h)
theorem tab_off (i m' : Nat) (ht : Tabs ops T n) (hi : ops.toList.drop i = oi :: rest) (hf : freeT T m i = true) (hr : readyT T n m i = true) (hm : m ||| 2 ^ i = m')
    (hQ : ∀ c a w, Q (.panic c) (a.put oi.dst undef) w → Q (.panic c) a w) (hw : Region.wanted oi (yielded ops a.tmps) = false) (hS : S w)
    (h : wpAnyH P .any ops Q S fuel (maskArr n m') (a.put oi.dst undef) w) : wpAnyH P .any ops Q S (fuel + 1) (maskArr n m) a w :=
  take_off i hi ht.2.2 (freeT_ok ht.1 ht.2.1 hf) (readyT_ok ht.1 ht.2.1 hr) hQ hw hS (by rw [maskArr_set (size_lt ht hi), hm]; exact h)
theorem tab_call (i m' : Nat) (ht : Tabs ops T n) (hi : ops.toList.drop i = oi :: rest) (hr : readyT T n m i = true) (ho : onlyGo m i T 0 = true) (hm : m ||| 2 ^ i = m')
    (h : ∀ K' : Act → World → Prop, Shut (∀ a w, S w → (S w → wpAnyH P .any ops Q S fuel (maskArr n m') a w) → K' a w) → if Region.wanted oi (yielded ops a.tmps) = true then Oper.wp P oi a w K' Q else K' (a.put oi.dst undef) w) :
    wpAnyH P .any ops Q S (fuel + 1) (maskArr n m) a w :=
  take_call i hi (onlyT_ok ht.1 ht.2.1 hr ho) (by rw [maskArr_set (size_lt ht hi), hm]; exact h)
/-! One way through a region: its schedule is checked once. -/
/-- (i, true): operation i only reads, and is taken as soon as it may come up; (i, false): it is the only one that may. -/
def schedOk (T : List (Nat × Nat × Nat)) (n : Nat) : Nat → List (Nat × Bool) → Bool
  | m, [] => m == 2 ^ n - 1
  | m, (i, e) :: r => readyT T n m i && ((e && freeT T m i) || (!e && onlyGo m i T 0)) && schedOk T n (m ||| 2 ^ i) r
theorem ready_none {m : Nat} (ht : ops.size = n) (h : (m == 2 ^ n - 1) = true) : Region.ready .any ops (maskArr n m) = [] := by
  rw [beq_iff_eq] at h
  subst h
  unfold Region.ready
  rw [List.filter_eq_nil_iff]
  intro i hi
  have := List.mem_range.1 hi
  rw [maskArr_get, if_pos (by omega), Nat.testBit_two_pow_sub_one]
  simp; omega
/-- What stands in a type, simp leaves alone. -/
def Tag (ops : Array Oper) (Q : Exit → Act → World → Prop) (S : World → Prop) (T : List (Nat × Nat × Nat)) (n : Nat) : Type := Unit
def Lin (P : Program) {ops : Array Oper} {Q : Exit → Act → World → Prop} {S : World → Prop} {T : List (Nat × Nat × Nat)} {n : Nat} (tag : Tag ops Q S T n) (m : Nat) (sched : List (Nat × Bool)) (fuel : Nat) (a : Act) (w : World) : Prop :=
  Tabs ops T n → schedOk T n m sched = true → wpAnyH P .any ops Q S fuel (maskArr n m) a w
theorem to_lin (sched : List (Nat × Bool)) (ht : Tabs ops T n) (hs : schedOk T n 0 sched = true) (h : ∀ tag : Tag ops Q S T n, Lin P tag 0 sched fuel a w) : wpAnyH P .any ops Q S fuel (Array.replicate ops.size false) a w := by
  rw [maskArr_zero, ht.2.1]; exact h () ht hs
variable {tag : Tag ops Q S T n} {i : Nat} {r : List (Nat × Bool)}
theorem lin_on (hi : ops.toList.drop i = oi :: rest) (hQ : ∀ c a w, Q (.panic c) (a.put oi.dst v) w → Q (.panic c) a w) (hw : Region.wanted oi (yielded ops a.tmps) = true) (hy : ∀ w, S w → (execOp a.eval oi).run P w = .ok (.value v) w) (hS : S w)
    (h : Lin P tag (m ||| 2 ^ i) r fuel (a.put oi.dst v) w) : Lin P tag m ((i, true) :: r) (fuel + 1) a w := fun ht hs => by
  simp only [schedOk, Bool.true_and, Bool.not_true, Bool.false_and, Bool.or_false, Bool.and_eq_true] at hs
  exact tab_on i _ ht hi hs.1.2 hs.1.1 rfl hQ hw hy hS (h ht hs.2)
theorem lin_off (hi : ops.toList.drop i = oi :: rest) (hQ : ∀ c a w, Q (.panic c) (a.put oi.dst undef) w → Q (.panic c) a w) (hw : Region.wanted oi (yielded ops a.tmps) = false) (hS : S w)
    (h : Lin P tag (m ||| 2 ^ i) r fuel (a.put oi.dst undef) w) : Lin P tag m ((i, true) :: r) (fuel + 1) a w := fun ht hs => by
  simp only [schedOk, Bool.true_and, Bool.not_true, Bool.false_and, Bool.or_false, Bool.and_eq_true] at hs
  exact tab_off i _ ht hi hs.1.2 hs.1.1 rfl hQ hw hS (h ht hs.2)
theorem lin_call (hi : ops.toList.drop i = oi :: rest) (hw : Region.wanted oi (yielded ops a.tmps) = true)
    (h : ∀ K' : Act → World → Prop, Shut (∀ a w, S w → (S w → Lin P tag (m ||| 2 ^ i) r fuel a w) → K' a w) → Oper.wp P oi a w K' Q) : Lin P tag m ((i, false) :: r) (fuel + 1) a w := fun ht hs => by
  simp only [schedOk, Bool.false_and, Bool.not_false, Bool.true_and, Bool.false_or, Bool.and_eq_true] at hs
  refine tab_call i _ ht hi hs.1.1 hs.1.2 rfl fun K' hK => ?_
  rw [if_pos hw]
  exact h K' (fun a w hS hl => hK.out a w hS fun s => hl s ht hs.2)
theorem lin_skip (hi : ops.toList.drop i = oi :: rest) (hw : Region.wanted oi (yielded ops a.tmps) = false) (hS : S w)
    (h : Lin P tag (m ||| 2 ^ i) r fuel (a.put oi.dst undef) w) : Lin P tag m ((i, false) :: r) (fuel + 1) a w := fun ht hs => by
  simp only [schedOk, Bool.false_and, Bool.not_false, Bool.true_and, Bool.false_or, Bool.and_eq_true] at hs
  refine tab_call i _ ht hi hs.1.1 hs.1.2 rfl fun K' hK => ?_
  rw [if_neg (by rw [hw]; decide)]
  exact hK.out _ _ hS fun s => h ht hs.2
theorem lin_done (h : Q .normal a w) : Lin P tag m [] fuel a w := fun ht hs => wpAnyH_done (ready_none ht.2.1 hs) h _
end
end Go.Proofs.YtbnjaaegbmhopaaGreatDoor
