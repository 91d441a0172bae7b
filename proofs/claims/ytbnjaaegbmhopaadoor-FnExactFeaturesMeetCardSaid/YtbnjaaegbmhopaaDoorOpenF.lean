/- A feature, and a slice of features, as arguments of a law. -/
import Derived.Test.YtbnjaaegbmhopaaDoorOpenPts
import Derived.Test.YtbnjaaegbmhopaaDoorFeatZ
import Derived.ChangeArms
import Derived.ChangeSame
import Derived.ShutString
namespace Go.Proofs.YtbnjaaegbmhopaaDoor
open Go.ChangeShapes Go.WideShapes Go.ChangeAt Go.RowKit Go.Joins
set_option linter.unusedVariables false
set_option maxRecDepth 100000

section
variable {H : Type} {enc : TypeId × Value → H} {W : World} {base b0 : Nat} {spare : Nat → Bool} {held : Bool} {n : Nat} {cs : List Value} {y : DataW H × List MemPlace}
theorem trod_pts (h : DataW.trod enc Tryd.prog W base spare held n 22 cs = some y) :
    ∃ (a : Option Addr) (len cap : Nat) (l : List (Int × Int)), cs = [.slice a len cap] ∧ ShowsP W a len l ∧ len ≤ cap ∧ (cap : Int) ≤ 9223372036854775807 := by
  rcases DataW.trod_slice Tryd.underlying22 h with ⟨hcs, -⟩ | ⟨ad, len, cap, elems, rest, m, -, hcs, -, hb, hl, hm, hlen, hel, -, -⟩
  · exact ⟨none, 0, 0, [], hcs, ⟨rfl, SeesE.nil, by simp⟩, Nat.le_refl _, by decide⟩
  · obtain ⟨b, off, spot⟩ := ad
    have each : ∀ i, i < len → ∃ x : Int × Int, W.cell? ((⟨b, off, spot⟩ : Addr).add (i * 2)) = some (.int .i64 x.1) ∧ W.cell? (((⟨b, off, spot⟩ : Addr).add (i * 2)).add 1) = some (.int .i64 x.2) := by
      intro i hi
      obtain ⟨y, hy⟩ : ∃ y, elems[i]? = some y := ⟨_, List.getElem?_eq_getElem (by omega)⟩
      have h1 := hel i hi
      rw [hy, cellsPt, Option.bind_eq_some_iff] at h1
      obtain ⟨cs, hcs, ht⟩ := h1
      obtain ⟨a, b, rfl⟩ := trod_pt ht
      have h2 := (World.cells?_some hcs).2.2
      exact ⟨(a, b), by have := h2 0 (by omega); simpa [Addr.add] using this, by have := h2 1 (by omega); simpa using this⟩
    have hf2 : ∀ i : Nat, ∃ x : Int × Int, i < len → W.cell? ((⟨b, off, spot⟩ : Addr).add (i * 2)) = some (.int .i64 x.1) ∧ W.cell? (((⟨b, off, spot⟩ : Addr).add (i * 2)).add 1) = some (.int .i64 x.2) := fun i => by
      by_cases hi : i < len
      · obtain ⟨x, hx⟩ := each i hi; exact ⟨x, fun _ => hx⟩
      · exact ⟨(0, 0), fun h => absurd h hi⟩
    let f : Nat → Int × Int := fun i => Classical.choose (hf2 i)
    have hff : ∀ i, i < len → W.cell? ((⟨b, off, spot⟩ : Addr).add (i * 2)) = some (.int .i64 (f i).1) ∧ W.cell? (((⟨b, off, spot⟩ : Addr).add (i * 2)).add 1) = some (.int .i64 (f i).2) := fun i => Classical.choose_spec (hf2 i)
    clear_value f
    refine ⟨_, _, _, (List.range len).map f, hcs, ⟨by simp, fun j x hj => ?_, by unfold maxLen at hm; simp; omega⟩, hl, by unfold maxLen at hm; omega⟩
    simp only [List.getElem?_map, Option.map_eq_some_iff] at hj
    obtain ⟨i, hi, rfl⟩ := hj
    have hil : i < len := by have := List.mem_of_getElem? hi; simpa using this
    obtain rfl : i = j := by
      have := (List.getElem?_eq_some_iff.1 hi).2
      simpa using this.symm
    have hspot : spot = none := by
      have h0 := (hff 0 (by omega)).1
      simpa [Addr.add] using World.cell?_spot h0
    subst hspot
    obtain ⟨g0, g1⟩ := hff i hil
    rw [add_none] at g0 g1
    rw [add_none] at g1
    refine ⟨b, off, rfl, World.block_lt_of_cell? W _ g0, fun k u hu => ?_⟩
    match k, hu with
    | 0, hu => simp [encPoint] at hu; subst hu; exact g0
    | 1, hu => simp [encPoint] at hu; subst hu; exact g1
    | k + 2, hu => simp [encPoint] at hu
theorem trod_struct5 {P : Program} {t : TypeId} {f0 f1 f2 f3 f4 : Field} {fuel : Nat} {x : DataW H × List MemPlace} (ht : P.underlying t = some (.struct #[f0, f1, f2, f3, f4])) (h : DataW.trod enc P W base spare held fuel t cs = some x) :
    ∃ y0 y1 y2 y3 y4 m, cs.length = P.cellsOf t ∧ DataW.trod enc P W base spare held m f0.type ((cs.drop f0.offset).take (P.cellsOf f0.type)) = some y0 ∧ DataW.trod enc P W base spare held m f1.type ((cs.drop f1.offset).take (P.cellsOf f1.type)) = some y1 ∧
      DataW.trod enc P W base spare held m f2.type ((cs.drop f2.offset).take (P.cellsOf f2.type)) = some y2 ∧ DataW.trod enc P W base spare held m f3.type ((cs.drop f3.offset).take (P.cellsOf f3.type)) = some y3 ∧ DataW.trod enc P W base spare held m f4.type ((cs.drop f4.offset).take (P.cellsOf f4.type)) = some y4 := by
  obtain ⟨xs, m, _, rfl, hl, hlen, hf⟩ := DataW.trod_struct ht h
  match xs, hlen with
  | [y0, y1, y2, y3, y4], _ => exact ⟨y0, y1, y2, y3, y4, m, hl, by simpa using hf 0 f0 rfl, by simpa using hf 1 f1 rfl, by simpa using hf 2 f2 rfl, by simpa using hf 3 f3 rfl, by simpa using hf 4 f4 rfl⟩
theorem szOfFeature : Tryd.prog.cellsOf 42 = 5 := by kernel_rfl
theorem szOfInt : Tryd.prog.cellsOf 3 = 1 := by kernel_rfl
theorem szOfString : Tryd.prog.cellsOf 9 = 1 := by kernel_rfl
theorem szOfPts : Tryd.prog.cellsOf 22 = 1 := by kernel_rfl
theorem trod_feat (h : DataW.trod enc Tryd.prog W base spare held n 42 cs = some y) :
    ∃ (a k r : Int) (s : ByteArray) (A : Option Addr) (m c : Nat) (ps : List (Int × Int)), cs = [.int .i64 a, .int .i64 k, .int .i64 r, .string s, .slice A m c] ∧ s.size ≤ maxLen ∧ ShowsP W A m ps ∧ m ≤ c ∧ (c : Int) ≤ 9223372036854775807 := by
  obtain ⟨y0, y1, y2, y3, y4, m, hlen, h0, h1, h2, h3, h4⟩ := trod_struct5 Tryd.underlying42 h
  rw [szOfFeature] at hlen
  obtain ⟨c0, c1, c2, c3, c4, rfl⟩ : ∃ c0 c1 c2 c3 c4, cs = [c0, c1, c2, c3, c4] := by
    match cs, hlen with
    | [c0, c1, c2, c3, c4], _ => exact ⟨c0, c1, c2, c3, c4, rfl⟩
  simp [szOfInt, szOfString, szOfPts] at h0 h1 h2 h3 h4
  obtain ⟨a, e0, -, -⟩ := DataW.trod_int Tryd.underlying3 h0
  obtain ⟨k, e1, -, -⟩ := DataW.trod_int Tryd.underlying3 h1
  obtain ⟨r, e2, -, -⟩ := DataW.trod_int Tryd.underlying3 h2
  obtain ⟨s, e3, -, hs⟩ := DataW.trod_string Tryd.underlying9 h3
  obtain ⟨A, len, cap, l, e4, hl, hc, hm⟩ := trod_pts h4
  simp at e0 e1 e2 e3 e4
  subst e0 e1 e2 e3 e4
  exact ⟨a, k, r, s, A, len, cap, l, rfl, hs, hl, hc, hm⟩
end
/-- A feature as an argument. -/
def ShowsFt (w : World) (s : ByteArray) (A : Option Addr) (m c : Nat) (ps : List (Int × Int)) : Prop := s.size ≤ maxLen ∧ ShowsP w A m ps ∧ m ≤ c ∧ (c : Int) ≤ 9223372036854775807
theorem open_feat {H : Type} {enc : TypeId × Value → H} {W : World} {base b0 : Nat} {spare : Nat → Bool} {held : Bool} {r : Reach} {v : Value} {d : DataW H} {p : List MemPlace}
    (hv : Value.okWide Tryd.prog W r b0 42 v) (h : DataW.Trod enc Tryd.prog W base spare held 42 v d p) :
    ∃ (a k rk : Int) (s : ByteArray) (A : Option Addr) (m c : Nat) (ps : List (Int × Int)), v = FtV a k rk s A m c ∧ ShowsFt W s A m c ps := by
  obtain ⟨cs, rfl, hsz⟩ := okWide_struct Tryd.underlying42 hv
  obtain ⟨fuel, hf⟩ := h
  obtain ⟨a, k, rk, s, A, m, c, ps, e, h1, h2, h3, h4⟩ := trod_feat hf
  refine ⟨a, k, rk, s, A, m, c, ps, ?_, h1, h2, h3, h4⟩
  simp only [Value.cells] at e
  have : cs = #[.int .i64 a, .int .i64 k, .int .i64 rk, .string s, .slice A m c] := by
    apply Array.toList_inj.1
    simpa using e
  rw [this]
end Go.Proofs.YtbnjaaegbmhopaaDoor
