/- A slice of structs (without memory of their own) as an argument of a law: opened to a list. -/
import Derived.Test.YtnlnmllpalcicaaEl
import Derived.WalkKit
import Derived.ProofKit
import Derived.OpenShut
import Derived.ChangeArms
import Derived.ChangeSame
import Derived.Deep.Strs
import Derived.Lib.SmallJoins
import Derived.WideShapes
namespace Go.Proofs.Ytnlnmllpalcicaa
open Go.ChangeShapes Go.WideShapes Go.ChangeAt Go.RowKit Go.Joins
set_option linter.unusedVariables false
set_option maxRecDepth 100000

/-- A slice argument that shows l. -/
def ShowsE {α : Type} (n : Nat) (enc : α → List Value) (w : World) (a : Option Addr) (len cap : Nat) (l : List α) : Prop := len = l.length ∧ SeesE n enc w w.heap.size a l ∧ l.length ≤ cap ∧ (cap : Int) ≤ 9223372036854775807
theorem ShowsE.big {α : Type} {n : Nat} {enc : α → List Value} {w : World} {a : Option Addr} {len cap : Nat} {l : List α} (h : ShowsE n enc w a len cap l) : l.length ≤ 9223372036854775807 := by
  have h1 := h.2.2.1; have h2 := h.2.2.2; omega
theorem open_sliceE {P : Program} {α : Type} [Inhabited α] {n : Nat} {enc : α → List Value} (hE : IsEl n enc) {H : Type} {encH : TypeId × Value → H} {W : World} {base b0 : Nat} {spare : Nat → Bool} {held : Bool} {r : Reach} {v : Value} {d : DataW H} {p : List MemPlace}
    (T e : TypeId) (hT : P.underlying T = some (.slice e)) (hsz : P.cellsOf e = n)
    (hels : ∀ m cs y, DataW.trod encH P W base spare held m e cs = some y → ∃ x : α, cs = enc x)
    (hv : Value.okWide P W r b0 T v) (h : DataW.Trod encH P W base spare held T v d p) :
    ∃ (a : Option Addr) (len cap : Nat) (l : List α), v = .slice a len cap ∧ ShowsE n enc W a len cap l := by
  obtain ⟨a, len, cap, rfl⟩ := okWide_slice hT hv
  obtain ⟨fuel, hf⟩ := h
  rcases DataW.trod_slice hT hf with ⟨hcs, -⟩ | ⟨ad, l', c', elems, rest, m, -, hcs, -, hb, hl, hm, hlen, hel, -, -⟩
  · simp [Value.cells] at hcs
    obtain ⟨rfl, rfl, rfl⟩ := hcs
    exact ⟨none, 0, 0, [], rfl, rfl, SeesE.nil, by simp, by decide⟩
  · simp [Value.cells] at hcs
    obtain ⟨rfl, rfl, rfl⟩ := hcs
    obtain ⟨b, off, spot⟩ := ad
    have each : ∀ i, i < len → ∃ x : α, ∀ k u, (enc x)[k]? = some u → W.cell? (((⟨b, off, spot⟩ : Addr).add (i * n)).add k) = some u := by
      intro i hi
      obtain ⟨y, hy⟩ : ∃ y, elems[i]? = some y := ⟨_, List.getElem?_eq_getElem (by omega)⟩
      have h1 := hel i hi
      rw [hy, hsz, Option.bind_eq_some_iff] at h1
      obtain ⟨cs, hcs, ht⟩ := h1
      obtain ⟨x, rfl⟩ := hels _ _ _ ht
      have h2 := (World.cells?_some hcs).2.2
      refine ⟨x, fun k u hu => ?_⟩
      have hk : k < n := by have := (List.getElem?_eq_some_iff.1 hu).1; rw [(hE.2 x).1] at this; exact this
      have h3 := h2 k hk
      rw [h3]
      exact hu
    have hf2 : ∀ i : Nat, ∃ x : α, i < len → ∀ k u, (enc x)[k]? = some u → W.cell? (((⟨b, off, spot⟩ : Addr).add (i * n)).add k) = some u := fun i => by
      by_cases hi : i < len
      · obtain ⟨x, hx⟩ := each i hi; exact ⟨x, fun _ => hx⟩
      · exact ⟨default, fun h => absurd h hi⟩
    let f : Nat → α := fun i => Classical.choose (hf2 i)
    have hff : ∀ i, i < len → ∀ k u, (enc (f i))[k]? = some u → W.cell? (((⟨b, off, spot⟩ : Addr).add (i * n)).add k) = some u := fun i => Classical.choose_spec (hf2 i)
    clear_value f
    refine ⟨_, _, _, (List.range len).map f, rfl, by simp, fun j x hj => ?_, by simpa using hl, by unfold maxLen at hm; omega⟩
    simp only [List.getElem?_map, Option.map_eq_some_iff] at hj
    obtain ⟨i, hi, rfl⟩ := hj
    have hil : i < len := by have := List.mem_of_getElem? hi; simpa using this
    obtain rfl : i = j := by
      have := (List.getElem?_eq_some_iff.1 hi).2
      simpa using this.symm
    have hpos : 0 < n := hE.1
    obtain ⟨u0, hu0⟩ : ∃ u, (enc (f 0))[0]? = some u := ⟨_, List.getElem?_eq_getElem (by rw [(hE.2 _).1]; exact hpos)⟩
    obtain ⟨u1, hu1⟩ : ∃ u, (enc (f i))[0]? = some u := ⟨_, List.getElem?_eq_getElem (by rw [(hE.2 _).1]; exact hpos)⟩
    have hspot : spot = none := by
      have h0 := hff 0 (by omega) 0 _ hu0
      simpa [Addr.add] using World.cell?_spot h0
    subst hspot
    refine ⟨b, off, rfl, ?_, fun k u hu => ?_⟩
    · have h0 := hff i hil 0 _ hu1
      rw [add_none, add_none] at h0
      exact World.block_lt_of_cell? W _ h0
    · have h0 := hff i hil k u hu
      rw [add_none, add_none] at h0
      exact h0
end Go.Proofs.Ytnlnmllpalcicaa
