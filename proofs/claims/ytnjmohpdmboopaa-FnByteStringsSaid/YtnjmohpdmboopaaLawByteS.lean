/- The law FnByteStrings: its walk, for every input. -/
import Derived.Test.YtnjmohpdmboopaaDrawEnc
import Derived.Test.YtnjmohpdmboopaaDecI
namespace Go.Proofs.Ytnjmohpdmboopaa
open Go.RowKit
set_option linter.unusedVariables false

/-- A list of numbers in range, in the law's own loop. -/
def NumsRel (B : Nat) (w : World) (v i : Value) (wr : World) : Prop :=
  ∃ (A : Option Addr) (c : Nat) (L : List Int) (j : Nat), i = .int .i64 j ∧ v = .slice A L.length c ∧ j ≤ 5 ∧ L.length ≤ j ∧ (∀ x ∈ L, 0 ≤ x ∧ x ≤ 1000000000000) ∧ Own wr B 3 .i64 (.slice A L.length c) L ∧ Below w.heap.size w wr ∧ B ≤ wr.heap.size
theorem rb_yes {L D X : List Int} (hX : X = L ++ enc D.length ++ D) (hD : D.length ≤ 1000) : rbV X L.length D.length = some (D, X.length) := by
  have hd : ((D.length : Nat) : Int) ≤ 1000000000000 := by omega
  have e1 : X = L ++ (uv D.length ++ D) := by rw [hX, enc_in (by omega), List.append_assoc]
  have h := readV_uv L D (n := D.length) (by omega)
  rw [← e1] at h
  have hl : X.length = L.length + (uv D.length).length + D.length := by rw [e1]; simp; omega
  rw [rbV_good h (by omega), hl]
  congr 2
  rw [e1, ← List.append_assoc, show L.length + (uv D.length).length = (L ++ uv D.length).length by simp, List.drop_left, List.take_length]
theorem rb_short {L D X : List Int} (hX : X = L ++ enc D.length ++ D) (hD : D.length ≤ 1000) : rbV X L.length ((D.length : Int) - 1) = none := by
  have e1 : X = L ++ (uv D.length ++ D) := by rw [hX, enc_in (by omega), List.append_assoc]
  have h := readV_uv L D (n := D.length) (by omega)
  rw [← e1] at h
  exact rbV_bad h (.inl (by omega))
theorem dec_yes {l E : List Int} (hE : E = encs l) (hl : l.length ≤ 100) (h : ∀ x ∈ l, 0 ≤ x ∧ x ≤ 1000000000000) : decV E 0 l.length = some (l, E.length) := by
  have h1 := decs_encs l [] h
  have h2 := decV_in (l := E) (k := 0) hl (Nat.zero_le _)
  rw [show ((0 : Nat) : Int) = 0 from rfl] at h2
  rw [h2, hE]
  simpa using h1
theorem dec_short {l E : List Int} (hE : E = encs l) (hl : l.length ≤ 99) (h : ∀ x ∈ l, 0 ≤ x ∧ x ≤ 1000000000000) : decV E 0 ((l.length : Int) + 1) = none := by
  have h1 := decs_more l [] h
  have h2 := decV_in (l := E) (k := 0) (n := l.length + 1) (by omega) (Nat.zero_le _)
  rw [show ((0 : Nat) : Int) = 0 from rfl, show ((l.length + 1 : Nat) : Int) = (l.length : Int) + 1 by omega] at h2
  rw [h2, hE]
  simpa using h1
theorem snoc_in {L L' : List Int} {x : Int} (h : ∀ y ∈ L, 0 ≤ y ∧ y ≤ 1000000000000) (h0 : 0 ≤ x) (h1 : x ≤ 1000000000000) (e : L' = L ++ [x]) : ∀ y ∈ L', 0 ≤ y ∧ y ≤ 1000000000000 := by
  subst e
  intro y hy
  rcases List.mem_append.1 hy with hy | hy
  · exact h y hy
  · simp only [List.mem_singleton] at hy; subst hy; exact ⟨h0, h1⟩
theorem prod3 {x y z : Int} (hx0 : 0 ≤ x) (hx1 : x ≤ 255) (hy0 : 0 ≤ y) (hy1 : y ≤ 255) (hz0 : 0 ≤ z) (hz1 : z ≤ 255) : 0 ≤ x * y ∧ x * y ≤ 65025 ∧ 0 ≤ x * y * z ∧ x * y * z ≤ 16581375 := by
  have a0 : 0 ≤ x * y := Int.mul_nonneg hx0 hy0
  have a1 : x * y ≤ 255 * 255 := Int.mul_le_mul hx1 hy1 hy0 (by decide)
  have a2 : x * y ≤ 65025 := by omega
  have b0 : 0 ≤ x * y * z := Int.mul_nonneg a0 hz0
  have b1 : x * y * z ≤ 65025 * 255 := Int.mul_le_mul a2 hz1 hz0 (by decide)
  exact ⟨a0, a2, b0, by omega⟩
set_option maxRecDepth 100000 in
set_option maxHeartbeats 2000000 in
theorem law_byteStrings (a0 : Option Addr) (len0 cap0 : Nat) (z0 : List Int) (w : World) (w0 : IsRow .u8 w a0 len0 cap0 z0) :
    Calls Try.prog 4 #[.slice a0 len0 cap0] w fun e w' => e = .returned (.bool true) ∧ Below w.heap.size w w' := by
  obtain ⟨l, rfl, hs, hmax, hwf⟩ := row_sees w0
  have hcd := code_of_row w0
  have HL8 : Hid (B8 l) := Lib.hid (bytes_wf hwf)
  clear w0 hwf
  have HCD := Lib.hid hcd; clear hcd
  have HS := Lib.hid hs; clear hs
  by_cases hbig : 1048576 < l.length
  · go_enter Try.func4, Try.ntmps4
    go_wp2_with fail
    refine (big_yes a0 _ cap0 _ hbig).mono ?_
    rintro e w0 ⟨rfl, rfl⟩
    go_wp2
    go_ret
    exact ⟨rfl, Below.refl _ _⟩
  · go_enter Try.func4, Try.ntmps4
    go_wp2_with fail
    refine (big_no a0 _ cap0 _ (by omega)).mono ?_
    rintro e w0 ⟨rfl, rfl⟩
    go_wp2_with fail
    refine (drawAppB_any a0 _ cap0 _ _ HCD.out).mono ?_
    rintro e w1 ⟨A1, c1, L, A2, c2, D, h8, hL, h8', hD, rfl, ho1, ho2, hb1⟩
    have H8 : Hid (B8 L) := Lib.hid h8
    have H8' : Hid (B8 D) := Lib.hid h8'
    have HB1 := Lib.hid hb1; have HO1 := Lib.hid ho1; have HO2 := Lib.hid ho2
    clear h8 h8' hb1 ho1 ho2
    have hE := enc_len (D.length : Int)
    go_wp2_with fail
    refine (appB_any A1 A2 c1 c2 L D _ HO1.out.sees HO2.out.sees (by omega) (by omega)).mono ?_
    rintro e w2 ⟨A3, c3, X, HX, rfl, ho3, hb3⟩
    have hXl : X.length ≤ 20 := by rw [HX.out, List.length_append, List.length_append]; omega
    have HX8 : Hid (B8 X) := Lib.hid (by rw [HX.out]; exact (H8.out.append (enc_B8 _)).append H8'.out)
    have HB2 := Lib.hid (HB1.out.trans (hb3.mono HB1.out.size))
    have HO2a := Lib.hid (HO2.out.belowAll hb3)
    have HO3 := Lib.hid ho3
    clear ho3 hb3 HO1 HO2
    go_wp2_with fail
    refine (readB_any A3 c3 X L.length D.length _ HO3.out.sees HX8.out HO3.out.cap (by omega)).mono ?_
    rintro e w3 ⟨A4, c4, D', HD', he, ho4, hb4⟩
    rw [rb_yes HX.out (by omega)] at he
    simp only [rbN, rbB] at he
    subst he
    have hdd : D' = D := by rw [HD'.out, rb_yes HX.out (by omega)]; rfl
    have HDD := Lib.hid hdd; clear hdd HD'
    have hDl : D'.length ≤ 5 := by rw [HDD.out]; exact hD
    have HB3 := Lib.hid (HB2.out.trans (hb4.mono HB2.out.size))
    have HO2b := Lib.hid (HO2a.out.belowAll hb4)
    have HO3a := Lib.hid (HO3.out.belowAll hb4)
    have HO4 := Lib.hid ho4
    clear hb4 ho4 HO2a HO3
    go_wp2_with fail
    refine (readB_any A3 c3 X L.length (D.length - 1) _ HO3a.out.sees HX8.out HO3a.out.cap (by omega)).mono ?_
    rintro e w4 ⟨A5, c5, D2, HD2, he, ho5, hb5⟩
    rw [rb_short HX.out (by omega)] at he
    simp only [rbN, rbB] at he
    subst he
    have HB4 := Lib.hid (HB3.out.trans (hb5.mono HB3.out.size))
    have HO2c := Lib.hid (HO2b.out.belowAll hb5)
    have HO4a := Lib.hid (HO4.out.belowAll hb5)
    clear hb5 ho5 HD2 HO2b HO4 HO3a
    go_wp2_with fail
    refine (sameBytes_yes A4 A2 c4 c2 _ _ D' D _ HO4a.out.sees HO2c.out.sees HDD.out (by omega)).mono ?_
    rintro e w5 ⟨rfl, hb6⟩
    have HB5 := Lib.hid (HB4.out.trans (hb6.mono HB4.out.size))
    have HS5 := Lib.hid (HS.out.below HB5.out)
    have HCD5 := Lib.hid (code_below HCD.out HB5.out)
    clear hb6 HO2c HO4a HB4 HB3 HB2 HB1
    go_wp2_with fail
    have hs5 := HB5.out.size
    go_loopw [12, 13] (fun v i wr => NumsRel w5.heap.size w v i wr) (fun _ i _ => 5 - (intOf i).toNat)
    case atStart => exact ⟨_, 0, [], 0, rfl, rfl, by omega, Nat.le_refl _, (fun _ h => by cases h), Own.lit w5 w5.heap.size 3 .i64 (Nat.le_refl _), HB5.out.alloc HB5.out.size _, by simp⟩
    case round =>
      obtain ⟨A6, c6, N, j, rfl, rfl, hj, hNl, hin, ho, hb, hBw⟩ := hrel
      have HI : Hid (∀ x ∈ N, 0 ≤ x ∧ x ≤ 1000000000000) := Lib.hid hin
      have HO := Lib.hid ho; have HB := Lib.hid hb
      have HSr := Lib.hid (HS.out.below hb)
      clear hin ho hb HS5 HCD5
      go_wp2_with fail
      refine (at_any a0 cap0 _ 0 l _ HSr.out HL8.out (by omega) (by omega) (by omega)).mono ?_
      rintro e w6 ⟨x, hx0, hx1, rfl, rfl⟩
      by_cases hlt : (j : Int) < x % 6
      · have hj4 : j ≤ 4 := by omega
        go_wp2_with fail
        refine (at_any a0 cap0 _ _ l _ HSr.out HL8.out (by omega) (by omega) (by omega)).mono ?_
        rintro e w6 ⟨x1, hp0, hp1, rfl, rfl⟩
        go_wp2_with fail
        refine (at_any a0 cap0 _ _ l _ HSr.out HL8.out (by omega) (by omega) (by omega)).mono ?_
        rintro e w6 ⟨x2, hq0, hq1, rfl, rfl⟩
        obtain ⟨m0, m1, -, -⟩ := prod3 hp0 hp1 hq0 hq1 hp0 hp1
        go_wp2_with fail
        refine (at_any a0 cap0 _ _ l _ HSr.out HL8.out (by omega) (by omega) (by omega)).mono ?_
        rintro e w6 ⟨x3, hr0, hr1, rfl, rfl⟩
        obtain ⟨-, -, m2, m3⟩ := prod3 hp0 hp1 hq0 hq1 hr0 hr1
        have hsz := HB.out.size
        have ho6 := HO.out
        go_wp2_with (at_builtin; refine app64 _ rfl _ _ rfl w5.heap.size _ N rfl (ho6.alloc _) (wr.heap.size + 1) _ 1 _ [_] rfl rfl (sees_new wr .i64 _ 3 _ (by omega)) (by simp; omega) (by simp; omega) ?_; intro A7 c7 N7 w7 hN7 h1 h2 ho7 hb7)
        go_roundw
        case rel => exact ⟨A7, c7, N7, j + 1, by go_num, rfl, by omega, by simp at h1; omega, snoc_in HI.out m2 (by omega) hN7.out, ho7, HB.out.trans (((Below.refl _ _).alloc hsz _).trans (hb7.mono hs5)), Nat.le_trans (by simp; omega) hb7.size⟩
        case measure => simp [intOf]; omega
      · go_wp2_with fail
        refine (encI_any A6 c6 N _ HO.out.sees (by omega)).mono ?_
        rintro e w7 ⟨A7, c7, E, HE, rfl, ho7, hb7⟩
        have hEl : E.length ≤ 30 := by rw [HE.out]; have := encs_len N; omega
        have HE8 : Hid (B8 E) := Lib.hid (by rw [HE.out]; exact encs_B8 N)
        have HB7 := Lib.hid (HB.out.trans (hb7.mono HB.out.size))
        have HO7 := Lib.hid (HO.out.belowAll hb7)
        have HOE := Lib.hid ho7
        clear ho7 hb7 HO HB
        go_wp2_with fail
        refine (dec_any A7 c7 E 0 N.length _ HOE.out.sees HE8.out HOE.out.cap (by omega)).mono ?_
        rintro e w8 ⟨A8, c8, N8, HN8, he, ho8, hb8⟩
        rw [dec_yes HE.out (by omega) HI.out] at he
        simp only [rbN, rbB] at he
        subst he
        have hnn : N8 = N := by rw [HN8.out, dec_yes HE.out (by omega) HI.out]; rfl
        have HNN := Lib.hid hnn; clear hnn HN8
        have hn8 : N8.length ≤ 5 := by rw [HNN.out]; omega
        have HB8 := Lib.hid (HB7.out.trans (hb8.mono HB7.out.size))
        have HO8 := Lib.hid (HO7.out.belowAll hb8)
        have HOE8 := Lib.hid (HOE.out.belowAll hb8)
        have HON := Lib.hid ho8
        clear ho8 hb8 HO7 HOE
        go_wp2_with fail
        refine (dec_any A7 c7 E 0 (N.length + 1) _ HOE8.out.sees HE8.out HOE8.out.cap (by omega)).mono ?_
        rintro e w9 ⟨A9, c9, N9, HN9, he, ho9, hb9⟩
        rw [dec_short HE.out (by omega) HI.out] at he
        simp only [rbN, rbB] at he
        subst he
        have HB9 := Lib.hid (HB8.out.trans (hb9.mono HB8.out.size))
        have HO9 := Lib.hid (HO8.out.belowAll hb9)
        have HON9 := Lib.hid (HON.out.belowAll hb9)
        clear ho9 hb9 HO8 HON
        go_wp2_with fail
        refine (sameInts_yes A8 A6 c8 c6 _ _ N8 N _ HON9.out.sees HO9.out.sees HNN.out (by omega)).mono ?_
        rintro e w10 ⟨rfl, hb10⟩
        go_wp2
        go_ret
        exact ⟨rfl, HB9.out.trans (hb10.mono HB9.out.size)⟩
end Go.Proofs.Ytnjmohpdmboopaa
