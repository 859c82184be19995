/- Pairs put into pairs: what comes of it, and the specification's answer. -/
import Derived.Test.YtmikdkdgpomiaaaDoorForm2
namespace Go.Proofs.YtmikdkdgpomiaaaDoor
open Go.RowKit

/-- The last value that pairs give a key, n if none does. -/
def lastP (n : Int) (ps : List Pr) (k : Int) : Int := ps.foldl (fun n p => if p.key = k then p.val else n) n
def putVal (a b : List Pr) (k : Int) : Int := lastP (getP a k) b k
def putOne (a b : List Pr) (k : Nat) : List Pr := if putVal a b k = 0 then [] else [⟨k, putVal a b k⟩]
/-- What is put, of the first m keys. -/
def putTo (a b : List Pr) : Nat → List Pr
  | 0 => []
  | m + 1 => putTo a b m ++ putOne a b m
def putP (a b : List Pr) : List Pr := if (inForm a && inForm b) = true then putTo a b 32 else []

theorem putTo_length (a b : List Pr) (m : Nat) : (putTo a b m).length ≤ m := by
  induction m with
  | zero => simp [putTo]
  | succ m ih =>
    have : (putOne a b m).length ≤ 1 := by unfold putOne; split <;> simp
    simp only [putTo, List.length_append]; omega

theorem lastP_step {n : Int} {ps : List Pr} {k : Int} {j : Nat} (hj : j < ps.length) : lastP n (ps.take (j + 1)) k = if (ps.getD j Pr.z).key = k then (ps.getD j Pr.z).val else lastP n (ps.take j) k := by
  rw [take_succ_getD ps Pr.z j hj]; simp only [lastP, List.foldl_append, List.foldl_cons, List.foldl_nil]

theorem Tryd.infoPr2 : (Tryd.prog.info? 199).map (fun i => (i.zero, i.size, i.bytes)) = some (some (.agg #[.int .i64 0, .int .i64 0]), 2, 16) := by kernel_rfl

end Go.Proofs.YtmikdkdgpomiaaaDoor
