/- All Args of a program are no more than what the law lets by. -/
import Derived.Test.YtmnkomgdcebniaaGreatSyp
namespace Go.Proofs.YtmnkomgdcebniaaGreat
theorem Sy.flat_of {y : Sy} (h : y.bulk ≤ 1048576) : ∀ u ∈ y.units, (flat u.prog.nodes).length ≤ 1048576 := by
 intro u hu
 have h1 := bulkOf_mem Unt.bulk hu
 have h2 := bulkN_flat u.prog.nodes
 unfold Sy.bulk at h
 have h3 : u.bulk = bulkN u.prog.nodes := rfl
 omega
end Go.Proofs.YtmnkomgdcebniaaGreat
