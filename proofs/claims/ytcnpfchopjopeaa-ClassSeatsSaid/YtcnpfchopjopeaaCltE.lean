/- What layer 13's laws stand on. -/
import Derived.Test.YtcnpfchopjopeaaCltD
import Derived.Test.YtcnpfchopjopeaaClsS
import Derived.Test.YtcnpfchopjopeaaClsO
import Derived.Test.YtcnpfchopjopeaaClsM
import Derived.Test.YtcnpfchopjopeaaClsK
namespace Go.Proofs.Ytcnpfchopjopeaa
open Go.RowKit
open Whn (Gr Wh)

theorem fewB_len {x : Cl} (h : fewB x = true) : x.t.length ≤ 20 ∧ x.l.length ≤ 20 ∧ x.p.length ≤ 20 := by
  unfold fewB at h
  simp only [Bool.and_eq_true, decide_eq_true_iff] at h
  omega
end Go.Proofs.Ytcnpfchopjopeaa
