/-
  HOW MANY MARKS: bounded by how heavy.
-/
import Derived.Test.YtcfdeafjhlbmeaaGKWorld
import Derived.Test.YtcfdeafjhlbmeaaGMU
namespace Go.Proofs.Ytcfdeafjhlbmeaa
open Go.RowKit

theorem FrameD.mc_le (x : FrameD) : x.mc ≤ 3 + x.wt := by unfold FrameD.mc FrameD.wt; omega
theorem BodyD.mc_le (x : BodyD) : x.mc ≤ 7 + 4 * x.wt := by
  have h1 := sumTo_lin (fun i => (x.xFrames i).mc) (fun i => (x.xFrames i).wt) 3 1 x.nFrames (fun i _ => by have := (x.xFrames i).mc_le; omega)
  unfold BodyD.mc BodyD.wt
  omega
theorem ChanD.mc_le (x : ChanD) : x.mc ≤ 2 + 4 * x.wt := by
  have h1 := sumTo_lin (fun i => (x.xTakes i).mc) (fun i => (x.xTakes i).wt) 4 0 x.nTakes (fun i _ => by show 4 ≤ _; omega)
  have h2 := sumTo_lin (fun i => (x.xGives i).mc) (fun i => (x.xGives i).wt) 4 0 x.nGives (fun i _ => by show 4 ≤ _; omega)
  unfold ChanD.mc ChanD.wt
  omega
theorem WorldD.m1_le (x : WorldD) (h : x.wt ≤ 1048576) : x.m1 ≤ 3000000000 := by
  have h1 := sumTo_lin (fun i => (x.xUnits i).mc) (fun i => (x.xUnits i).wt) 3 7 x.nUnits (fun i _ => (x.xUnits i).mc_le)
  have h2 := sumTo_lin (fun i => (x.xBodies i).mc) (fun i => (x.xBodies i).wt) 7 4 x.nBodies (fun i _ => (x.xBodies i).mc_le)
  have h3 := sumTo_lin (fun i => (x.xChans i).mc) (fun i => (x.xChans i).wt) 2 4 x.nChans (fun i _ => (x.xChans i).mc_le)
  unfold WorldD.wt at h
  unfold WorldD.m1
  omega
end Go.Proofs.Ytcfdeafjhlbmeaa
