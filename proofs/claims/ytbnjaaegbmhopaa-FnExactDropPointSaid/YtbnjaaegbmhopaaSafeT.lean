/- Lines that never cross: CanDrop and MeetsAll of the model. -/
import Derived.Test.YtbnjaaegbmhopaaSafeS
import Derived.Test.YtbnjaaegbmhopaaLineS3
import Derived.Test.YtbnjaaegbmhopaaLs
import Derived.Deep.DeepCutAuto
namespace Go.Proofs.Ytbnjaaegbmhopaa
open Go.ChangeShapes Go.WideShapes Go.ChangeAt Go.RowKit
set_option linter.unusedVariables false

theorem noMt_take {d l : List (Int × Int)} {O : List (List (Int × Int))} {j : Nat} {p : List (Int × Int)} (h : O[j]? = some p) : noMtB d l (O.take (j + 1)) = (noMtB d l (O.take j) && decide (mtL d p ≤ mtL l p)) := by
  unfold noMtB
  rw [takeLs h, List.all_append]
  simp
theorem noMt_stop {d l : List (Int × Int)} {O : List (List (Int × Int))} {j : Nat} {p : List (Int × Int)} (h : O[j]? = some p) (hn : ¬ mtL d p ≤ mtL l p) : noMtB d l O = false := by
  unfold noMtB
  rw [List.all_eq_false]
  exact ⟨p, List.mem_of_getElem? h, by simpa using hn⟩
theorem mts_take {l : List (Int × Int)} {O : List (List (Int × Int))} {j : Nat} {p : List (Int × Int)} (h : O[j]? = some p) : mtsV l (O.take (j + 1)) = mtsV l (O.take j) ++ [mtL l p] := by
  unfold mtsV
  rw [takeLs h, List.map_append]; rfl
theorem mtsV_len (l : List (Int × Int)) (O : List (List (Int × Int))) : (mtsV l O).length = O.length := by simp [mtsV]
end Go.Proofs.Ytbnjaaegbmhopaa
