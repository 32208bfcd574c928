/-
  A row whose program can start goroutines elsewhere: what a call of one goroutine returns (own work).
-/
import Derived.Conc.LeavingOf
import Derived.Leaving
import Derived.Test.YtkfoelkkllpmdaaOpen
namespace Go.Proofs.Ytkfoelkkllpmdaa
theorem leaving_of_handed {a : Assume} {C : Checked} {os : Os} {f : FuncId} {r : Reach} {Pre : World → Array Value → Prop} {Post : World → Array Value → Value → World → Prop} (h : ReturnsInHanded a C os f r Pre Post) : ReturnsInLeavingWide a C os f r Pre Post :=
  fun e => ReturnsInOpen.mono (fun _ _ _ x => ⟨x.2.1, onlyLeaving_of_quiet x.1, x.2.2⟩) (fun _ x => x) (h e)
end Go.Proofs.Ytkfoelkkllpmdaa
