/- A room is shut for a time just if one of its moments is not open (layer 11). -/
import Derived.Test.YteldcaebbmaemaaRomZ
namespace Go.Proofs.Yteldcaebbmaemaa
open Go.RowKit
open Whn (Gr Wh)

theorem mem_opn {g : Gr} {l : List Wh} {N : Nat} (m : Int) : m ∈ opn g l N ↔ (0 ≤ m ∧ m < N) ∧ free g l m = true := by
  unfold opn
  rw [List.mem_filter, List.mem_map]
  constructor
  · rintro ⟨⟨k, hk, rfl⟩, h⟩
    exact ⟨⟨by omega, by have := List.mem_range.1 hk; omega⟩, h⟩
  · rintro ⟨⟨h1, h2⟩, h⟩
    exact ⟨⟨m.toNat, List.mem_range.2 (by omega), by omega⟩, h⟩
theorem shut_all {g : Gr} {l : List Wh} {x : Wh} (hl : l.all (Whn.right g) = true) (hx : Whn.right g x = true) :
    (l.any fun y => Whn.meet y x) = !(decide (∀ m ∈ Whn.moments g x, m ∈ opn g l (Whn.all g).toNat)) := by
  have ha := (Whn.all_le g).1
  have hin : ∀ {m : Int}, Whn.isM g m = true ↔ 0 ≤ m ∧ m < ((Whn.all g).toNat : Int) := fun {m} => by
    unfold Whn.isM
    rw [decide_eq_true_iff]
    omega
  rw [Bool.eq_iff_iff, List.any_eq_true, Bool.not_eq_true', decide_eq_false_iff_not]
  constructor
  · rintro ⟨y, hy, hm⟩ hall
    have hyr := List.all_eq_true.1 hl y hy
    rw [Whn.shared_meet hyr hx, decide_eq_true_iff] at hm
    obtain ⟨m, hmm⟩ := List.exists_mem_of_length_pos hm
    obtain ⟨h1, h2⟩ := (Whn.mem_shared _ _ _).1 hmm
    have h3 := ((mem_opn m).1 (hall m h2)).2
    have h4 := ((Whn.mem_moments hyr m).1 h1).2
    unfold free at h3
    rw [Bool.not_eq_true', List.any_eq_false] at h3
    exact h3 y hy h4
  · intro hn
    by_cases h : ∃ m, m ∈ Whn.moments g x ∧ m ∉ opn g l (Whn.all g).toNat
    · obtain ⟨m, h1, h2⟩ := h
      have hM := ((Whn.mem_moments hx m).1 h1).1
      have hf : free g l m = false := by
        cases hf : free g l m with
        | false => rfl
        | true => exact absurd ((mem_opn m).2 ⟨hin.1 hM, hf⟩) h2
      unfold free at hf
      rw [Bool.not_eq_false', List.any_eq_true] at hf
      obtain ⟨y, hy, hon⟩ := hf
      have hyr := List.all_eq_true.1 hl y hy
      refine ⟨y, hy, ?_⟩
      rw [Whn.shared_meet hyr hx, decide_eq_true_iff]
      exact List.length_pos_of_mem ((Whn.mem_shared _ _ _).2 ⟨(Whn.mem_moments hyr m).2 ⟨hM, hon⟩, h1⟩)
    · exact absurd (fun m hm => Classical.byContradiction fun hh => h ⟨m, hm, hh⟩) hn
/-- are all of the first ones there? -/
def allT (ms op : List Int) (i : Nat) : Bool := decide (∀ m ∈ ms.take i, m ∈ op)
def inT (op : List Int) (x : Int) (k : Nat) : Bool := decide (x ∈ op.take k)
theorem allT_succ {ms op : List Int} {i : Nat} {x : Int} (h : ms[i]? = some x) : allT ms op (i + 1) = (allT ms op i && inT op x op.length) := by
  unfold allT inT
  rw [List.take_length, List.take_add_one, h, Bool.eq_iff_iff, Bool.and_eq_true, decide_eq_true_iff, decide_eq_true_iff, decide_eq_true_iff]
  simp only [List.mem_append, Option.toList_some, List.mem_singleton]
  exact ⟨fun hh => ⟨fun m hm => hh m (.inl hm), hh x (.inr rfl)⟩, fun hh m hm => hm.elim (hh.1 m) (fun e => by subst e; exact hh.2)⟩
theorem inT_succ {op : List Int} {x y : Int} {k : Nat} (h : op[k]? = some y) : inT op x (k + 1) = (inT op x k || (y == x)) := by
  unfold inT
  rw [List.take_add_one, h, Bool.eq_iff_iff, Bool.or_eq_true]
  simp only [decide_eq_true_iff, List.mem_append, Option.toList_some, List.mem_singleton, beq_iff_eq]
  exact ⟨fun hh => hh.elim .inl (fun e => .inr e.symm), fun hh => hh.elim .inl (fun e => .inr e.symm)⟩
theorem its_at {w : World} {B : Nat} {ad : Addr} {l : List Int} (h : Its w B (some ad) l) {k : Nat} {x : Int} (hx : l[k]? = some x) : w.cell? (ad.add k) = some (.int .i64 x) := by
  obtain ⟨ad', e, _, hc⟩ := h (by intro e; rw [List.map_eq_nil_iff] at e; subst e; simp at hx)
  injection e with e
  subst e
  exact hc k _ (by rw [List.getElem?_map, hx]; rfl)
end Go.Proofs.Yteldcaebbmaemaa
