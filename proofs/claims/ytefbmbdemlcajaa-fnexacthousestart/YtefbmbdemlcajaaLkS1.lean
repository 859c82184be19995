/- The specification's small functions on holds. -/
import Derived.Test.YtefbmbdemlcajaaHd
import Derived.Deep.QuietTactic
import Derived.BigQuiet
namespace Go.Proofs.Ytefbmbdemlcajaa
open Go.RowKit

theorem Try.infoHd : (Try.prog.info? 78).map (fun i => (i.zero, i.size, i.bytes)) = some (some (.agg #[.int .i64 0, .int .i64 0, .bool false, .bool false]), 4, 24) := by kernel_rfl

theorem atL_found {hs : List Hd} {s : Int} {k : Nat} (hk : k < hs.length) (h : (hs.getD k Hd.z).stamp = s) (hn : ∀ j, j < k → (hs.getD j Hd.z).stamp ≠ s) : atL hs s = k := by
  have : hs.findIdx? (fun h => h.stamp == s) = some k := by
    rw [List.findIdx?_eq_some_iff_getElem]
    refine ⟨hk, by simpa [List.getD, hk] using h, fun j hj => ?_⟩
    have := hn j hj
    simpa [List.getD, show j < hs.length by omega] using this
  simp [atL, this]

theorem atL_none {hs : List Hd} {s : Int} (hn : ∀ j, j < hs.length → (hs.getD j Hd.z).stamp ≠ s) : atL hs s = -1 := by
  have : hs.findIdx? (fun h => h.stamp == s) = none := by
    rw [List.findIdx?_eq_none_iff]
    intro x hx
    obtain ⟨i, hi, rfl⟩ := List.getElem_of_mem hx
    have := hn i hi
    simpa [List.getD, hi] using this
  simp [atL, this]

theorem without_take {hs : List Hd} {s t : Int} {k : Nat} (h : k < hs.length) : withoutL (hs.take (k + 1)) s t = withoutL (hs.take k) s t ++ (if keepB s t (hs.getD k Hd.z) = true then [hs.getD k Hd.z] else []) := by
  unfold withoutL
  rw [List.take_succ_eq_append_getElem h, List.filter_append]
  have e : hs.getD k Hd.z = hs[k] := by simp [List.getD, h]
  rw [e]
  cases hp : keepB s t hs[k] <;> simp [hp]

end Go.Proofs.Ytefbmbdemlcajaa
