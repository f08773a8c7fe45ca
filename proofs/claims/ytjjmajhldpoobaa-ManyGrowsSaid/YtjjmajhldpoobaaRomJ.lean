/- Parts of rows of times, and rows of times as the sources of an append (layer 11). -/
import Derived.Test.YtjjmajhldpoobaaRomA
import Derived.Test.YtjjmajhldpoobaaRowN
namespace Go.Proofs.Ytjjmajhldpoobaa
open Go.RowKit
open Whn (Gr Wh)

theorem wcells_take (m : List Wh) (k : Nat) : (wcells m).take (k * 4) = wcells (m.take k) := by
  induction m generalizing k with
  | nil => simp [wcells]
  | cons p r ih =>
    cases k with
    | zero => simp [wcells]
    | succ k => rw [show (k + 1) * 4 = k * 4 + 1 + 1 + 1 + 1 by omega, wcells_cons, List.take_succ_cons, List.take_succ_cons, List.take_succ_cons, List.take_succ_cons, ih, List.take_succ_cons, wcells_cons]
theorem wcells_drop (m : List Wh) (k : Nat) : (wcells m).drop (k * 4) = wcells (m.drop k) := by
  induction m generalizing k with
  | nil => simp [wcells]
  | cons p r ih =>
    cases k with
    | zero => simp
    | succ k => rw [show (k + 1) * 4 = k * 4 + 1 + 1 + 1 + 1 by omega, wcells_cons, List.drop_succ_cons, List.drop_succ_cons, List.drop_succ_cons, List.drop_succ_cons, ih, List.drop_succ_cons]
theorem wcells_one (m : List Wh) : ∀ u ∈ wcells m, u.oneCell' = true := by
  induction m with
  | nil => intro u hu; cases hu
  | cons p r ih =>
    intro u hu
    rw [wcells_cons] at hu
    rcases List.mem_cons.1 hu with rfl | hu
    · rfl
    rcases List.mem_cons.1 hu with rfl | hu
    · rfl
    rcases List.mem_cons.1 hu with rfl | hu
    · rfl
    rcases List.mem_cons.1 hu with rfl | hu
    · rfl
    exact ih u hu
theorem src_whs {P : Program} (w : World) {e' tx : TypeId} (hk : P.underlying tx = some (.slice e')) {B : Nat} {A : Option Addr} {n c : Nat} {m : List Wh} (hn : m.length = n) (h : Whs w B A m) : Src P 4 tx (.slice A n c) n (wcells m) w := by
  by_cases hl : m = []
  · subst hl
    obtain rfl : n = 0 := hn.symm
    cases A with
    | none => exact Src.ofNil w hk c
    | some a => exact Src.ofSlice w hk a 0 c [] rfl (fun j u hu => by cases hu) (fun u hu => by cases hu)
  · obtain ⟨ad, rfl, _, hc⟩ := h (wcells_ne hl)
    exact Src.ofSlice w hk ad n c (wcells m) (by rw [wcells_len, hn]) hc (wcells_one m)
theorem Whs.take {w : World} {B : Nat} {A : Option Addr} {m : List Wh} (h : Whs w B A m) (k : Nat) : Whs w B A (m.take k) := by
  intro hn
  have hne : wcells m ≠ [] := by intro e; apply hn; rw [← wcells_take, e, List.take_nil]
  obtain ⟨ad, e, hb, hc⟩ := h hne
  refine ⟨ad, e, hb, fun j v hj => hc j v ?_⟩
  rw [← wcells_take, List.getElem?_take] at hj
  split at hj
  · exact hj
  · cases hj
theorem Whs.drop {w : World} {B : Nat} {A : Option Addr} {m : List Wh} (h : Whs w B A m) (k : Nat) {A' : Option Addr} (hA : k < m.length → A' = A.map (fun x => x.add (k * 4))) : Whs w B A' (m.drop k) := by
  intro hn
  have hne : wcells m ≠ [] := by intro e; apply hn; rw [← wcells_drop, e, List.drop_nil]
  have hA := hA (by
    rcases Nat.lt_or_ge k m.length with h | h
    · exact h
    · exact absurd (by rw [List.drop_eq_nil_of_le h]; rfl) hn)
  subst hA
  obtain ⟨ad, rfl, hb, hcl⟩ := h hne
  refine ⟨ad.add (k * 4), rfl, by rw [add_block]; exact hb, fun j v hj => ?_⟩
  rw [← wcells_drop, List.getElem?_drop] at hj
  rw [Addr.add_add]
  exact hcl _ _ hj
theorem Try.info_when : (Try.prog.info? 48).map (fun i => (i.zero, i.size, i.bytes)) = some (some (.agg #[.int .u32 0, .int .u8 0, .int .i64 0, .int .i64 0]), 4, 24) := by kernel_rfl
/-- a row of times of the call's own, as a caller is told of it -/
def WhRet (ls : List Wh) (w : World) (e : Ending) (w' : World) : Prop := ∃ A c, e = .returned (.slice A ls.length c) ∧ Whs w' w'.heap.size A ls ∧ ls.length ≤ c ∧ Below w.heap.size w w'
end Go.Proofs.Ytjjmajhldpoobaa
