/- The laws' own classes for layer 14 (course). -/
import Derived.Test.YtgkplcipplpobaaCrsF
namespace Go.Proofs.Ytgkplcipplpobaa
open Go.RowKit
open Whn (Gr Wh)

def clO (o : Int) : ClA := ⟨⟨[], 0, 0, [], [], [], o⟩, ⟨none, 0, none, 0, none, 0⟩⟩
/-- the classes of the chapter's example -/
def exC : List ClA := [clO (-1), clO (-1), clO 0, clO 1]
/-- hands out a row of classes -/
def CkRet (l : List ClA) (w : World) (e : Ending) (w' : World) : Prop := ∃ A c, e = .returned (.slice A l.length c) ∧ Es enC w' w'.heap.size A l ∧ l.length ≤ c ∧ Below w.heap.size w w'
theorem ob_rdC {X : World} {g : Nat} {xs : List Value} {t : TypeId} (h : Ob X g xs t) : Rd X X.heap.size (some ⟨g, 0, none⟩) xs := fun _ => ⟨_, rfl, h.lt, fun k v hk => by
  have := h.cell hk
  rcases Nat.eq_zero_or_pos k with rfl | hp
  · exact this
  · rw [show ((⟨g, 0, none⟩ : Addr).add k) = ⟨g, k, none⟩ by unfold Addr.add; simp; omega]
    exact this⟩
set_option maxRecDepth 20000 in
set_option maxHeartbeats 4000000 in
theorem l_classes (w : World) : Calls Try.prog 28 #[] w (CkRet exC w) := by
  go_enter Try.func28, Try.ntmps28
  go_wp2_with fail
  go_ret
  refine ⟨some ⟨w.heap.size, 0, none⟩, 4, rfl, ?_, Nat.le_refl _, below_alloc w _⟩
  exact ob_rdC (Ob.new w (ecells enC exC) 63)
end Go.Proofs.Ytgkplcipplpobaa
