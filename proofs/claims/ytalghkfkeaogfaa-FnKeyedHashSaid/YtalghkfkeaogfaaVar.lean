/- Varints and lists of them as plain mathematics: the bytes of a number, and what a list of bytes reads as. -/
namespace Go.Proofs.Ytalghkfkeaogfaa

/-- Every entry is a byte. -/
def B8 (l : List Int) : Prop := ∀ x ∈ l, 0 ≤ x ∧ x ≤ 255
theorem B8.nil : B8 [] := fun _ h => by cases h
theorem B8.cons {x : Int} {l : List Int} (h0 : 0 ≤ x) (h1 : x ≤ 255) (h : B8 l) : B8 (x :: l) := by
  intro y hy
  rcases List.mem_cons.1 hy with rfl | hy
  · exact ⟨h0, h1⟩
  · exact h y hy
theorem B8.append {l m : List Int} (h : B8 l) (k : B8 m) : B8 (l ++ m) := by
  intro y hy
  rcases List.mem_append.1 hy with hy | hy
  · exact h y hy
  · exact k y hy
theorem B8.take {l : List Int} (h : B8 l) (n : Nat) : B8 (l.take n) := fun y hy => h y (List.mem_of_mem_take hy)
theorem B8.drop {l : List Int} (h : B8 l) (n : Nat) : B8 (l.drop n) := fun y hy => h y (List.mem_of_mem_drop hy)

/-- The varint of n. -/
def uv (n : Nat) : List Int := if n < 128 then [(n : Int)] else ((n % 128 + 128 : Nat) : Int) :: uv (n / 128)
termination_by n
theorem uv_small {n : Nat} (h : n < 128) : uv n = [(n : Int)] := by rw [uv, if_pos h]
theorem uv_big {n : Nat} (h : ¬ n < 128) : uv n = ((n % 128 + 128 : Nat) : Int) :: uv (n / 128) := by rw [uv, if_neg h]
theorem uv_B8 (n : Nat) : B8 (uv n) := by
  induction n using Nat.strongRecOn with
  | ind n ih =>
    by_cases h : n < 128
    · rw [uv_small h]; exact B8.cons (by omega) (by omega) B8.nil
    · rw [uv_big h]; exact B8.cons (by omega) (by omega) (ih _ (by omega))
theorem uv_pos (n : Nat) : 1 ≤ (uv n).length := by
  by_cases h : n < 128
  · rw [uv_small h]; simp
  · rw [uv_big h]; simp
theorem uv_len (k : Nat) : ∀ n, n < 128 ^ (k + 1) → (uv n).length ≤ k + 1 := by
  induction k with
  | zero => intro n h; rw [uv_small (by simpa using h)]; simp
  | succ k ih =>
    intro n h
    by_cases hn : n < 128
    · rw [uv_small hn]; simp
    · rw [uv_big hn]
      have := ih (n / 128) (by rw [Nat.pow_succ] at h; omega)
      simp only [List.length_cons]; omega
theorem uv_len6 {n : Nat} (h : n ≤ 1000000000000) : (uv n).length ≤ 6 := uv_len 5 n (Nat.lt_of_le_of_lt h (by decide))
/-- What AppendUvarint lays behind its bytes. -/
def enc (n : Int) : List Int := if 0 ≤ n ∧ n ≤ 1000000000000 then uv n.toNat else []
theorem enc_in {n : Nat} (h : n ≤ 1000000000000) : enc (n : Int) = uv n := by unfold enc; rw [if_pos (by omega)]; simp
theorem enc_out {n : Int} (h : ¬ (0 ≤ n ∧ n ≤ 1000000000000)) : enc n = [] := by unfold enc; rw [if_neg h]
theorem enc_B8 (n : Int) : B8 (enc n) := by unfold enc; split; exact uv_B8 _; exact B8.nil
theorem enc_len (n : Int) : (enc n).length ≤ 6 := by
  unfold enc; split
  · exact uv_len6 (by omega)
  · simp

/-- A varint read on: k groups are read, their sum is acc; f groups may come. -/
def rd : Nat → Nat → Nat → List Int → Option (Nat × Nat)
  | 0, _, _, _ => none
  | _ + 1, _, _, [] => none
  | f + 1, k, acc, x :: r =>
    if x.toNat < 128 then (if (x.toNat = 0 ∧ 0 < k) ∨ 1000000000000 < acc + x.toNat % 128 * 128 ^ k then none else some (acc + x.toNat % 128 * 128 ^ k, k + 1))
    else rd f (k + 1) (acc + x.toNat % 128 * 128 ^ k) r
theorem rd_more {f k acc : Nat} {x : Int} {r : List Int} (h : ¬ x.toNat < 128) : rd (f + 1) k acc (x :: r) = rd f (k + 1) (acc + x.toNat % 128 * 128 ^ k) r := by rw [rd, if_neg h]
theorem rd_bad {f k acc : Nat} {x : Int} {r : List Int} (h : x.toNat < 128) (hb : (x.toNat = 0 ∧ 0 < k) ∨ 1000000000000 < acc + x.toNat % 128 * 128 ^ k) : rd (f + 1) k acc (x :: r) = none := by rw [rd, if_pos h, if_pos hb]
theorem rd_good {f k acc : Nat} {x : Int} {r : List Int} (h : x.toNat < 128) (hb : ¬ ((x.toNat = 0 ∧ 0 < k) ∨ 1000000000000 < acc + x.toNat % 128 * 128 ^ k)) :
    rd (f + 1) k acc (x :: r) = some (acc + x.toNat % 128 * 128 ^ k, k + 1) := by rw [rd, if_pos h, if_neg hb]
theorem step_sum (acc n p : Nat) : acc + n % 128 * p + n / 128 * (p * 128) = acc + n * p := by
  have h := Nat.mod_add_div n 128
  have e : n * p = (n % 128 + 128 * (n / 128)) * p := by rw [h]
  rw [Nat.add_mul, Nat.mul_assoc, Nat.mul_comm 128, Nat.mul_assoc] at e
  omega
theorem rd_uv (n : Nat) : ∀ f k acc (r : List Int), (uv n).length ≤ f → acc + n * 128 ^ k ≤ 1000000000000 → (n = 0 → k = 0) → rd f k acc (uv n ++ r) = some (acc + n * 128 ^ k, k + (uv n).length) := by
  induction n using Nat.strongRecOn with
  | ind n ih =>
    intro f k acc r hf hm h0
    have hp := uv_pos n
    obtain ⟨f, rfl⟩ : ∃ g, f = g + 1 := ⟨f - 1, by omega⟩
    by_cases h : n < 128
    · rw [uv_small h]
      show rd (f + 1) k acc ((n : Int) :: r) = _
      have e : n % 128 = n := Nat.mod_eq_of_lt h
      rw [rd_good (by simpa using h) (by simp only [Int.toNat_natCast, e]; omega)]
      simp [e]
    · rw [uv_big h] at hf ⊢
      simp only [List.length_cons] at hf
      have e : ((n % 128 + 128 : Nat) : Int).toNat % 128 = n % 128 := by rw [Int.toNat_natCast]; omega
      have hs := step_sum acc n (128 ^ k)
      rw [show 128 ^ k * 128 = 128 ^ (k + 1) from (Nat.pow_succ ..).symm] at hs
      show rd (f + 1) k acc (((n % 128 + 128 : Nat) : Int) :: (uv (n / 128) ++ r)) = _
      rw [rd_more (by rw [Int.toNat_natCast]; omega), e, ih (n / 128) (by omega) f (k + 1) _ r (by omega) (by omega) (by omega), hs]
      simp only [List.length_cons, Option.some.injEq, Prod.mk.injEq, true_and]; omega
theorem rd_inv : ∀ (f k acc : Nat) (l : List Int), B8 l → ∀ m c, rd f k acc l = some (m, c) →
    ∃ n, m = acc + n * 128 ^ k ∧ (n = 0 → k = 0) ∧ k < c ∧ c - k ≤ l.length ∧ uv n = l.take (c - k) ∧ m ≤ 1000000000000 := by
  intro f
  induction f with
  | zero => intro k acc l _ m c h; simp [rd] at h
  | succ f ih =>
    intro k acc l hl m c h
    match l, hl, h with
    | [], _, h => simp [rd] at h
    | x :: r, hl, h =>
      have hx := hl x (by simp)
      by_cases h1 : x.toNat < 128
      · by_cases h2 : (x.toNat = 0 ∧ 0 < k) ∨ 1000000000000 < acc + x.toNat % 128 * 128 ^ k
        · rw [rd_bad h1 h2] at h; cases h
        · rw [rd_good h1 h2] at h
          have e : x.toNat % 128 = x.toNat := Nat.mod_eq_of_lt h1
          rw [e] at h h2
          simp only [Option.some.injEq, Prod.mk.injEq] at h
          obtain ⟨rfl, rfl⟩ := h
          refine ⟨x.toNat, rfl, by omega, by omega, by simp, ?_, by omega⟩
          rw [uv_small h1]
          have : k + 1 - k = 1 := by omega
          rw [this]
          simp; omega
      · rw [rd_more h1] at h
        obtain ⟨n, h3, h4, h5, h6, h7, h8⟩ := ih _ _ r (fun y hy => hl y (by simp [hy])) m c h
        have hn : n ≠ 0 := fun e => by have := h4 e; omega
        have hq : (x.toNat % 128 + 128 * n) / 128 = n := by omega
        have hr : (x.toNat % 128 + 128 * n) % 128 = x.toNat % 128 := by omega
        have hs := step_sum acc (x.toNat % 128 + 128 * n) (128 ^ k)
        rw [hq, hr, show 128 ^ k * 128 = 128 ^ (k + 1) from (Nat.pow_succ ..).symm] at hs
        refine ⟨x.toNat % 128 + 128 * n, by rw [h3]; exact hs, by omega, by omega, by simp only [List.length_cons]; omega, ?_, h8⟩
        rw [uv_big (by omega), hq, hr, h7]
        have e : c - k = (c - (k + 1)) + 1 := by omega
        rw [e, List.take_succ_cons]
        congr 1
        omega
/-- What is read at an offset. -/
def readV (l : List Int) (off : Int) : Option (Nat × Nat) :=
  if 0 ≤ off ∧ off ≤ l.length then (rd 6 0 0 (l.drop off.toNat)).map fun p => (p.1, off.toNat + p.2) else none
theorem readV_out {l : List Int} {off : Int} (h : ¬ (0 ≤ off ∧ off ≤ l.length)) : readV l off = none := by unfold readV; rw [if_neg h]
theorem readV_at {l : List Int} {k : Nat} (h : k ≤ l.length) : readV l k = (rd 6 0 0 (l.drop k)).map fun p => (p.1, k + p.2) := by unfold readV; rw [if_pos (by omega)]; simp
theorem readV_end (l : List Int) : readV l l.length = none := by rw [readV_at (Nat.le_refl _), List.drop_length]; rfl
theorem readV_inv {l : List Int} (hl : B8 l) {off : Int} {m a : Nat} (h : readV l off = some (m, a)) :
    ∃ k : Nat, off = k ∧ k < a ∧ a ≤ l.length ∧ m ≤ 1000000000000 ∧ uv m = (l.drop k).take (a - k) := by
  by_cases hin : 0 ≤ off ∧ off ≤ l.length
  · obtain ⟨k, rfl⟩ : ∃ k : Nat, off = k := ⟨off.toNat, by omega⟩
    have hk : k ≤ l.length := by omega
    rw [readV_at hk] at h
    simp only [Option.map_eq_some_iff, Prod.mk.injEq, Prod.exists] at h
    obtain ⟨m', c, h1, rfl, rfl⟩ := h
    obtain ⟨n, h2, _, h4, h5, h6, h7⟩ := rd_inv 6 0 0 _ (hl.drop k) m' c h1
    have e : m' = n := by rw [h2]; simp
    subst e
    rw [List.length_drop] at h5
    refine ⟨k, rfl, by omega, by omega, h7, ?_⟩
    rw [h6]; congr 1; omega
  · rw [readV_out hin] at h; cases h
theorem readV_uv (l r : List Int) {n : Nat} (h : n ≤ 1000000000000) : readV (l ++ (uv n ++ r)) l.length = some (n, l.length + (uv n).length) := by
  rw [readV_at (by simp), List.drop_left, rd_uv n 6 0 0 r (uv_len6 h) (by simpa using h) (fun _ => rfl)]
  simp
/-- The bytes of a list of numbers, and a list read back. -/
def encs : List Int → List Int
  | [] => []
  | x :: r => enc x ++ encs r
theorem encs_B8 (l : List Int) : B8 (encs l) := by
  induction l with
  | nil => exact B8.nil
  | cons x r ih => exact (enc_B8 x).append ih
theorem encs_len (l : List Int) : (encs l).length ≤ 6 * l.length := by
  induction l with
  | nil => simp [encs]
  | cons x r ih => have := enc_len x; simp only [encs, List.length_append, List.length_cons]; omega
theorem encs_snoc (l : List Int) (x : Int) : encs (l ++ [x]) = encs l ++ enc x := by
  induction l with
  | nil => simp [encs]
  | cons y r ih => rw [List.cons_append, encs, ih, encs, List.append_assoc]
def decs (l : List Int) : Nat → Nat → Option (List Int × Nat)
  | 0, off => some ([], off)
  | k + 1, off => match readV l off with
    | none => none
    | some (n, a) => (decs l k a).map fun p => ((n : Int) :: p.1, p.2)
theorem decs_none {l : List Int} {k off : Nat} (h : readV l off = none) : decs l (k + 1) off = none := by rw [decs, h]
theorem decs_some {l : List Int} {k off n a : Nat} (h : readV l off = some (n, a)) : decs l (k + 1) off = (decs l k a).map fun p => ((n : Int) :: p.1, p.2) := by rw [decs, h]
theorem decs_len {l : List Int} : ∀ {k off : Nat} {p : List Int × Nat}, decs l k off = some p → p.1.length = k := by
  intro k
  induction k with
  | zero => intro off p h; simp [decs] at h; subst h; rfl
  | succ k ih =>
    intro off p h
    rw [decs] at h
    split at h
    · cases h
    · simp only [Option.map_eq_some_iff] at h
      obtain ⟨q, hq, rfl⟩ := h
      simp [ih hq]
/-- DecodeInts: the list, the offset behind it, whether it could be read. -/
def decV (l : List Int) (off n : Int) : Option (List Int × Nat) := if (0 ≤ n ∧ n ≤ 100) ∧ (0 ≤ off ∧ off ≤ l.length) then decs l n.toNat off.toNat else none
theorem decV_out {l : List Int} {off n : Int} (h : ¬ ((0 ≤ n ∧ n ≤ 100) ∧ (0 ≤ off ∧ off ≤ l.length))) : decV l off n = none := by unfold decV; rw [if_neg h]
theorem decV_in {l : List Int} {k n : Nat} (hn : n ≤ 100) (hk : k ≤ l.length) : decV l k n = decs l n k := by unfold decV; rw [if_pos (by omega)]; simp
/-- ReadBytes. -/
def rbV (l : List Int) (off most : Int) : Option (List Int × Nat) :=
  match readV l off with
  | none => none
  | some (n, a) => if most < n ∨ l.length < a + n then none else some ((l.drop a).take n, a + n)
theorem rbV_none {l : List Int} {off most : Int} (h : readV l off = none) : rbV l off most = none := by rw [rbV, h]
theorem rbV_bad {l : List Int} {off most : Int} {n a : Nat} (h : readV l off = some (n, a)) (hb : most < n ∨ l.length < a + n) : rbV l off most = none := by rw [rbV, h]; simp only; rw [if_pos hb]
theorem rbV_good {l : List Int} {off most : Int} {n a : Nat} (h : readV l off = some (n, a)) (hb : ¬ (most < n ∨ l.length < a + n)) : rbV l off most = some ((l.drop a).take n, a + n) := by rw [rbV, h]; simp only; rw [if_neg hb]
/-- A list of numbers in range is decoded from its encoding. -/
theorem decs_encs (xs : List Int) : ∀ (pre : List Int), (∀ x ∈ xs, 0 ≤ x ∧ x ≤ 1000000000000) → decs (pre ++ encs xs) xs.length pre.length = some (xs, pre.length + (encs xs).length) := by
  induction xs with
  | nil => intro pre _; simp [decs, encs]
  | cons x r ih =>
    intro pre h
    have hx := h x (by simp)
    obtain ⟨n, rfl⟩ : ∃ n : Nat, x = n := ⟨x.toNat, by omega⟩
    have hn : n ≤ 1000000000000 := by omega
    have e : encs ((n : Int) :: r) = uv n ++ encs r := by rw [encs, enc_in hn]
    rw [e]
    have h1 := readV_uv pre (encs r) hn
    have h2 := ih (pre ++ uv n) (fun y hy => h y (by simp [hy]))
    rw [List.append_assoc, List.length_append] at h2
    rw [List.length_cons, decs_some h1, h2]
    simp [Nat.add_assoc]
theorem decs_more (xs : List Int) : ∀ (pre : List Int), (∀ x ∈ xs, 0 ≤ x ∧ x ≤ 1000000000000) → decs (pre ++ encs xs) (xs.length + 1) pre.length = none := by
  induction xs with
  | nil =>
    intro pre _
    have h := readV_end pre
    simp only [encs, List.append_nil]
    exact decs_none h
  | cons x r ih =>
    intro pre h
    have hx := h x (by simp)
    obtain ⟨n, rfl⟩ : ∃ n : Nat, x = n := ⟨x.toNat, by omega⟩
    have hn : n ≤ 1000000000000 := by omega
    have e : encs ((n : Int) :: r) = uv n ++ encs r := by rw [encs, enc_in hn]
    rw [e]
    have h1 := readV_uv pre (encs r) hn
    have h2 := ih (pre ++ uv n) (fun y hy => h y (by simp [hy]))
    rw [List.append_assoc, List.length_append] at h2
    rw [List.length_cons, decs_some h1, h2]
    rfl
end Go.Proofs.Ytalghkfkeaogfaa
