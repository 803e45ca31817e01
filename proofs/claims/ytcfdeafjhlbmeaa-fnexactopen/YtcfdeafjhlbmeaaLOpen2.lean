/-
  THE LAW OF Open over a premise of the program's side alone.
-/
import Derived.Test.YtcfdeafjhlbmeaaLOpen
import Derived.Test.YtcfdeafjhlbmeaaV1
import Derived.Test.YtcfdeafjhlbmeaaGMC
namespace Go.Proofs.Ytcfdeafjhlbmeaa
open Go.RowKit

theorem law_Open1 (x : WorldD) (d : WorldA) (w : World) (hv : WorldIn w 0 x d)
    (HIMPL : x.wt ≤ 1048576 → ∀ d1 W, WorldIn W 0 x d1 → Calls Try.prog 17 #[x.v d1] W fun e w' => ∃ a c, e = .returned (.slice a x.openP.length c) ∧ IS w' W.heap.size a x.openP.length c (fun i => x.openP.getD i 0) ∧ Below W.heap.size W w') :
    Calls Try.prog 4 #[x.v d] w fun e w' => e = .returned (.bool true) ∧ Below w.heap.size w w' := by
  have hb : x.wt ≤ 1048576 → x.nBodies ≤ 1048576 := fun h => by unfold WorldD.wt at h; omega
  refine law_Open x x.openP.length (fun i => x.openP.getD i 0) d w hv (fun hw d1 W h1 => (specOpen x d1 W h1 (hb hw)).mono fun e w' ⟨v, he, ho, _, hbl⟩ => ?_) HIMPL (fun hw => x.m1_le hw) (fun hw => ?_)
  · obtain ⟨a, c, rfl, hi⟩ := ho.form
    exact ⟨a, c, he, hi, hbl⟩
  · have h1 := openTo_len x x.nBodies
    have h2 := hb hw
    show (x.openTo x.nBodies).length ≤ _
    omega
end Go.Proofs.Ytcfdeafjhlbmeaa
