/- Definitions, and small facts of them, out of what follows. The document's own answers for layer 17 (problem): rules, Check, Right. -/
import Derived.Test.YtgmgccepmalahaaGreatPqH
import Derived.Test.YtgmgccepmalahaaGreatPqI
import Derived.Test.YtgmgccepmalahaaGreatPqG
import Derived.Test.YtgmgccepmalahaaGreatPqC
import Derived.Test.YtgmgccepmalahaaGreatPqE
namespace Go.Proofs.YtgmgccepmalahaaGreat
open Go.RowKit
open Whn (Gr Wh)

def badR (n : Int) (l : List Rl) (i : Nat) : Bool := decide (i = 60) || !(ruleB n (l.getD i ⟨0, [], 0, 0, false, 0⟩))
def frl17 (n : Int) (l : List Rl) : Int := match (List.range l.length).find? (badR n l) with | some i => (i : Int) | none => -1
theorem frl17_some {n : Int} {l : List Rl} {i : Nat} (hi : i < l.length) (h : badR n l i = true) (hb : ∀ j, j < i → badR n l j = false) : frl17 n l = (i : Int) := by
  unfold frl17; rw [find_range hi h hb]
theorem frl17_none {n : Int} {l : List Rl} (hb : ∀ j, j < l.length → badR n l j = false) : frl17 n l = -1 := by
  unfold frl17
  rw [List.find?_eq_none.2 (fun j hj => by rw [hb j (List.mem_range.1 hj)]; decide)]
def rmI (p : Pb) : Int := fst17 (p.rm.map (·.n)) (p.rm.map (rmRight p.g)) 24
def psI (p : Pb) : Int := fst17 (p.ps.map (·.n)) (p.ps.map fun y => rmRight p.g (rmOf y)) 24
def clI (p : Pb) : Int := fst17 (p.cl.map (·.n)) (p.cl.map (clRight p.g (p.rm.length : Nat) (p.ps.length : Nat) (p.cl.length : Nat))) 40
def csI (p : Pb) : Int := fst17 (p.cs.map (·.n)) (p.cs.map (csRight (p.cl.length : Nat))) 16
def stI (p : Pb) : Int := fst17 (p.st.map (·.n)) (p.st.map (stB (p.cs.length : Nat))) 200
def rlI (p : Pb) : Int := frl17 (p.cl.length : Nat) p.rl
def chkG (nk rg : Bool) (i0 : Int) (wk : Bool) (n i1 i2 i3 i4 i5 : Int) (wt : Bool) : Int × Int :=
  if nk = false then (18, 0) else if rg = false then (10, 0) else if 0 ≤ i0 then (11, i0) else if wk = false then (11, n) else if 0 ≤ i1 then (12, i1) else if 0 ≤ i2 then (13, i2) else
  if 0 ≤ i3 then (14, i3) else if 0 ≤ i4 then (15, i4) else if 0 ≤ i5 then (16, i5) else if wt = false then (17, 0) else (0, 0)
/-- what is wrong first, and its number -/
def chk (p : Pb) : Int × Int := chkG (nameOk p.n) (Whn.rgrid p.g) (rmI p) (rwOk (p.rm.length : Nat) p.wk) (p.rm.length : Nat) (psI p) (clI p) (csI p) (stI p) (rlI p) (wtB [p.w0, p.w1, p.w2, p.w3])
/-- not too great -/
def PbFew (x : PbA) : Prop := x.rm.length ≤ 1000 ∧ x.wk.length ≤ 1000 ∧ x.ps.length ≤ 1000 ∧ x.cl.length ≤ 1000 ∧ x.cs.length ≤ 1000 ∧ x.st.length ≤ 1000 ∧ x.rl.length ≤ 1000
/-- may a problem be? -/
def pbR (p : Pb) : Bool := decide ((chk p).1 = 0)
end Go.Proofs.YtgmgccepmalahaaGreat
