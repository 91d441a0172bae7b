/- The readers of varints, of package impl and of the model. -/
import Derived.Test.YtnjmohpdmboopaaSEnc
namespace Go.Proofs.Ytnjmohpdmboopaa
open Go.RowKit
set_option linter.unusedVariables false

/-- A part of a slice of bytes. -/
def Took (B : Nat) (k : IntKind) (l : List Int) (off m : Nat) (w : World) (e : Ending) (w' : World) : Prop :=
  ∃ A' L, Hid (L = (l.drop off).take m) ∧ L.length = m ∧ e = .returned (.slice A' m m) ∧ Sees w B k A' L ∧ w = w'
theorem take_any (A : Option Addr) (c B off m : Nat) (l : List Int) (w : World) (hs : Sees w B .u8 A l) (hc : l.length ≤ c) (hm : off + m ≤ l.length) (hl : l.length ≤ 4398046511104) :
    Calls Try.prog 48 #[.slice A l.length c, .int .i64 off, .int .i64 m] w (Took B .u8 l off m w) := by
  have HS := Lib.hid hs; clear hs
  go_enter Try.func48, Try.ntmps48
  go_wp2_with fail
  · go_ret
    obtain rfl : m = 0 := by omega
    exact ⟨A, [], Lib.hid (by simp), rfl, rfl, Sees.nil, rfl⟩
  · go_ret
    exact ⟨A.map (·.add off), (l.drop off).take m, Lib.hid rfl, by simp; omega, rfl, HS.out.cut off m _ (fun _ => rfl), rfl⟩
theorem take_one {l : List Int} {j m : Nat} {x : Int} (h : (l.take m)[j]? = some x) : l[j]? = some x ∧ j < m := by
  rw [List.getElem?_take] at h
  split at h
  · exact ⟨h, by assumption⟩
  · cases h
/-- What a reader of varints gives back. -/
def rvV : Option (Nat × Nat) → Value
  | none => .tuple #[.int .i64 0, .int .i64 0, .bool false]
  | some (n, a) => .tuple #[.int .i64 n, .int .i64 a, .bool true]
theorem rv_form (o : Option (Nat × Nat)) : ∃ (n a : Int) (b : Bool), rvV o = .tuple #[.int .i64 n, .int .i64 a, .bool b] := by
  rcases o with _ | ⟨n, a⟩
  · exact ⟨_, _, _, rfl⟩
  · exact ⟨_, _, _, rfl⟩
def RdRel (l : List Int) (k m : Nat) (v i : Value) : Prop :=
  ∃ (j acc : Nat), j ≤ m ∧ i = .int .i64 j ∧ v = .int .i64 acc ∧ acc < 128 ^ j ∧ readV l k = (rd (6 - j) j acc ((l.drop k).drop j)).map fun p => (p.1, k + p.2)
theorem rd_end {l : List Int} {k m acc : Nat} (hm : m = min 6 (l.length - k)) : rd (6 - m) m acc ((l.drop k).drop m) = none := by
  rcases (by omega : m = 6 ∨ m = l.length - k) with h | h
  · rw [h]; rfl
  · have e : (l.drop k).drop m = [] := List.drop_eq_nil_of_le (by rw [List.length_drop]; omega)
    rw [e]
    cases 6 - m <;> rfl
theorem rd_at {l : List Int} {k j acc : Nat} {x : Int} (h : (l.drop k)[j]? = some x) (hj : j < 6) : rd (6 - j) j acc ((l.drop k).drop j) = rd ((5 - j) + 1) j acc (x :: (l.drop k).drop (j + 1)) := by
  have hl := (List.getElem?_eq_some_iff.1 h)
  obtain ⟨hl, hx⟩ := hl
  rw [List.drop_eq_getElem_cons hl, hx, show 6 - j = 5 - j + 1 by omega]
theorem pow128 (j : Nat) : (2 : Int) ^ (j * 7) = ((128 ^ j : Nat) : Int) := by
  rw [Nat.mul_comm, Int.natCast_pow]
  show (2 : Int) ^ (7 * j) = (128 : Int) ^ j
  rw [Int.pow_mul]; rfl
theorem sum_bd {acc y j : Nat} (ha : acc < 128 ^ j) (hj : j ≤ 5) : acc + y % 128 * 128 ^ j < 4398046511104 ∧ acc + y % 128 * 128 ^ j < 128 ^ (j + 1) := by
  have h5 : (128 : Nat) ^ j ≤ 128 ^ 5 := Nat.pow_le_pow_right (by decide) hj
  have h5' : (128 : Nat) ^ 5 = 34359738368 := by decide
  have hx2 : y % 128 * 128 ^ j ≤ 127 * 128 ^ j := Nat.mul_le_mul_right _ (by omega)
  rw [Nat.pow_succ]
  omega
theorem sum_is {acc y j : Nat} (ha : acc < 128 ^ j) (hj : j ≤ 5) : wrap64 ((acc : Int) + wrap64 ((y : Int) % 128 * 2 ^ (j * 7))) = ((acc + y % 128 * 128 ^ j : Nat) : Int) := by
  have hb := sum_bd (y := y) ha hj
  have e : (y : Int) % 128 * 2 ^ (j * 7) = ((y % 128 * 128 ^ j : Nat) : Int) := by rw [pow128]; simp
  rw [e]
  obtain ⟨p, hp⟩ : ∃ p : Nat, p = y % 128 * 128 ^ j := ⟨_, rfl⟩
  rw [← hp] at hb ⊢
  rw [IntWalk.wrap64_in (p : Int) (by omega), IntWalk.wrap64_in ((acc : Int) + p) (by omega)]
  omega
theorem ret_rv {l : List Int} {k : Int} {o : Option (Nat × Nat)} (h : readV l k = o) : Ending.returned (rvV o) = .returned (rvV (readV l k)) := by rw [h]
theorem rd_none {l : List Int} {k j acc y : Nat} (hr : readV l k = (rd (6 - j) j acc ((l.drop k).drop j)).map fun p => (p.1, k + p.2)) (hx : (l.drop k)[j]? = some (y : Int)) (hj : j ≤ 5)
    (h1 : y < 128) (h2 : (y = 0 ∧ 0 < j) ∨ 1000000000000 < acc + y % 128 * 128 ^ j) : readV l k = none := by
  rw [hr, rd_at hx (by omega), rd_bad (by simpa using h1) (by simpa using h2)]; rfl
theorem rd_some {l : List Int} {k j acc y : Nat} (hr : readV l k = (rd (6 - j) j acc ((l.drop k).drop j)).map fun p => (p.1, k + p.2)) (hx : (l.drop k)[j]? = some (y : Int)) (hj : j ≤ 5)
    (h1 : y < 128) (h2 : ¬ ((y = 0 ∧ 0 < j) ∨ 1000000000000 < acc + y % 128 * 128 ^ j)) : readV l k = some (acc + y % 128 * 128 ^ j, k + (j + 1)) := by
  rw [hr, rd_at hx (by omega), rd_good (by simpa using h1) (by simpa using h2)]; simp
theorem rd_next {l : List Int} {k j acc y : Nat} (hr : readV l k = (rd (6 - j) j acc ((l.drop k).drop j)).map fun p => (p.1, k + p.2)) (hx : (l.drop k)[j]? = some (y : Int)) (hj : j ≤ 5)
    (h1 : ¬ y < 128) : readV l k = (rd (6 - (j + 1)) (j + 1) (acc + y % 128 * 128 ^ j) ((l.drop k).drop (j + 1))).map fun p => (p.1, k + p.2) := by
  rw [hr, rd_at hx (by omega), rd_more (by simpa using h1), show 5 - j = 6 - (j + 1) by omega]; simp
theorem rv_yes {n a k j : Nat} (h : a = k + (j + 1)) : Ending.returned (.tuple #[.int .i64 n, .int .i64 ((k : Int) + j + 1), .bool true]) = .returned (rvV (some (n, a))) := by
  have e : (k : Int) + j + 1 = (a : Int) := by omega
  rw [e]; rfl
theorem min_bel (a b m : Int) (w : World) (hm : extV false a b = m) :
    Calls Try.prog 49 #[.int .i64 a, .int .i64 b] w fun e w' => e = .returned (.int .i64 m) ∧ Below w.heap.size w w' := by
  subst hm
  go_enter Try.func49, Try.ntmps49
  go_wp2_with (go_at_call 59; refine (ext_any _ _ b _ _ (by simp [go_sem])).mono ?_; rintro e w' ⟨rfl, rfl⟩)
  go_ret
  exact ⟨rfl, by repeat (first | exact Below.refl _ _ | exact Nat.le_refl _ | apply Below.drew | apply Below.alloc)⟩
set_option maxRecDepth 100000 in
theorem read_in (A : Option Addr) (c k : Nat) (l : List Int) (w : World) (hs : Sees w w.heap.size .u8 A l) (h8 : B8 l) (hc : l.length ≤ c) (hk : k ≤ l.length) (hl : l.length ≤ 4398046511104) :
    Calls Try.prog 15 #[.slice A l.length c, .int .i64 k] w fun e w' => e = .returned (rvV (readV l k)) ∧ Below w.heap.size w w' := by
  have HS := Lib.hid hs; clear hs
  obtain ⟨m, hm⟩ : ∃ m : Nat, m = min 6 (l.length - k) := ⟨_, rfl⟩
  have hM : extV false 6 ((l.length : Int) - k) = m := by unfold extV; simp only [Bool.false_eq_true, if_false]; split <;> omega
  have hm1 : m ≤ 6 := by omega
  have hm2 : k + m ≤ l.length := by omega
  have HM := Lib.hid hM; clear hM
  have Hm := Lib.hid hm; clear hm
  go_enter Try.func15, Try.ntmps15
  go_wp2_with (go_at_call 47; refine (in_is _ _ _ true _ (inB_yes (by omega) (by omega))).mono ?_; rintro e w' ⟨rfl, rfl⟩; refine Hid.out ?_)
  refine Lib.hid ?_
  go_wp2_with fail
  refine (min_bel _ _ _ _ HM.out).mono ?_
  rintro e w1 ⟨rfl, hb1⟩
  go_wp2_with fail
  refine (take_any A c w.heap.size k m l _ (HS.out.below hb1) hc hm2 hl).mono ?_
  rintro e w2 ⟨A2, L, HL, hLn, rfl, hs2, rfl⟩
  have HN := Lib.hid hLn; clear hLn
  have HT := Lib.hid hs2; clear hs2
  have H8 : Hid (B8 l) := Lib.hid h8
  clear h8
  go_wp2_with fail
  go_loop [7, 24] (fun v i => RdRel l k m v i) (fun _ i => m - (intOf i).toNat)
  case atStart => exact ⟨0, 0, Nat.zero_le _, rfl, rfl, by simp, by rw [readV_at hk]; rfl⟩
  case round =>
    obtain ⟨j, acc, hj, rfl, rfl, hacc, hrd⟩ := hrel
    have HRD := Lib.hid hrd; clear hrd
    have HA := Lib.hid hacc; clear hacc
    by_cases hlt : j < m
    · obtain ⟨b, off, x, hA2, hbl, hx, hc⟩ := HT.out.lt (by rw [HN.out]; exact hlt)
      subst hA2
      rw [HL.out] at hx
      obtain ⟨hx, -⟩ := take_one hx
      have hx8 := H8.out.drop k x (List.mem_of_getElem? hx)
      obtain ⟨y, rfl⟩ : ∃ y : Nat, x = y := ⟨x.toNat, by omega⟩
      have HX := Lib.hid hx; clear hx
      have hy : y ≤ 255 := by omega
      clear hx8
      have hj5 : j ≤ 5 := by omega
      obtain ⟨s, hs⟩ : ∃ s, acc + y % 128 * 128 ^ j = s := ⟨_, rfl⟩
      have hsum := sum_is (y := y) HA.out hj5
      have hbd := sum_bd (y := y) HA.out hj5
      rw [hs] at hsum hbd
      have HB := Lib.hid hbd; clear hbd
      have HSM := Lib.hid hs; clear hs
      by_cases hy2 : y < 128
      · by_cases hbad : y = 0 ∧ 0 < j
        · obtain ⟨rfl, hj0⟩ := hbad
          have hn : readV l k = none := rd_none HRD.out HX.out hj5 hy2 (.inl ⟨rfl, hj0⟩)
          have HNo := Lib.hid hn; clear hn hsum
          go_wp2
          all_goals
            go_ret3
            exact ⟨ret_rv HNo.out, hb1⟩
        · by_cases hbig : 1000000000000 < s
          · have hn : readV l k = none := rd_none HRD.out HX.out hj5 hy2 (.inr (by rw [HSM.out]; exact hbig))
            have HNo := Lib.hid hn; clear hn hbad
            go_wp2
            all_goals
              go_ret3
              exact ⟨ret_rv HNo.out, hb1⟩
          · have hn : readV l k = some (s, k + (j + 1)) := by rw [← HSM.out]; exact rd_some HRD.out HX.out hj5 hy2 (by rw [HSM.out]; omega)
            have HNo := Lib.hid hn; clear hn
            rcases (by omega : ¬ 0 < j ∨ 1 ≤ y) with hj0 | hy1
            · clear hbad
              go_wp2
              go_ret3
              exact ⟨(rv_yes rfl).trans (ret_rv HNo.out), hb1⟩
            · clear hbad
              have hyb : ((y : Int) == 0) = false := by simp; omega
              go_wp2
              all_goals
                go_ret3
                exact ⟨(rv_yes rfl).trans (ret_rv HNo.out), hb1⟩
      · go_wp2
        go_round
        case rel => exact ⟨j + 1, s, by omega, by go_num, by rw [hsum], HB.out.2, by rw [← HSM.out]; exact rd_next HRD.out HX.out hj5 hy2⟩
        case measure => simp [intOf]; omega
    · obtain rfl : j = m := by omega
      have hn : readV l k = none := by rw [HRD.out, rd_end Hm.out]; rfl
      have HNo := Lib.hid hn; clear hn
      go_wp2
      go_ret3
      exact ⟨ret_rv HNo.out, hb1⟩
theorem read_any (A : Option Addr) (c : Nat) (l : List Int) (off : Int) (w : World) (hs : Sees w w.heap.size .u8 A l) (h8 : B8 l) (hc : l.length ≤ c) (hl : l.length ≤ 4398046511104) :
    Calls Try.prog 15 #[.slice A l.length c, .int .i64 off] w fun e w' => e = .returned (rvV (readV l off)) ∧ Below w.heap.size w w' := by
  by_cases h : 0 ≤ off ∧ off ≤ l.length
  · obtain ⟨k, rfl⟩ : ∃ k : Nat, off = k := ⟨off.toNat, by omega⟩
    exact read_in A c k l w hs h8 hc (by omega) hl
  · have hn := readV_out h
    have hf : inB off 0 l.length = false := by
      rcases (by omega : off < 0 ∨ (l.length : Int) < off) with h | h
      · exact inB_low h
      · exact inB_high h
    have HF := Lib.hid hf; clear hf
    have HNo := Lib.hid hn; clear hn h hs h8
    go_enter Try.func15, Try.ntmps15
    go_wp2_with (go_at_call 47; refine (in_is _ _ _ false _ HF.out).mono ?_; rintro e w' ⟨rfl, rfl⟩)
    go_ret3
    exact ⟨ret_rv HNo.out, Below.refl _ _⟩
end Go.Proofs.Ytnjmohpdmboopaa
