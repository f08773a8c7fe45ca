/- Definitions, and small facts of them, out of what follows. The document's own answers for layer 17 (problem): Plans. -/
import Derived.Test.YtgmgccepmalahaaGreatPqJ
import Derived.Test.YtgmgccepmalahaaGreatPqD
namespace Go.Proofs.YtgmgccepmalahaaGreat
open Go.RowKit
open Whn (Gr Wh)

/-- how many plans the first classes have, but most -/
def plF (l : List Cl) (most : Int) : Nat → Int
  | 0 => 1
  | i + 1 => if most / (((seats (l.getD i ⟨[], 0, 0, [], [], [], 0⟩)).length : Nat) : Int) < plF l most i then most else plF l most i * (((seats (l.getD i ⟨[], 0, 0, [], [], [], 0⟩)).length : Nat) : Int)
def plV (p : Pb) (most : Int) : Int := if pbR p = false ∨ most < 1 then 0 else plF p.cl most p.cl.length
theorem find_none_range {p : Nat → Bool} {n : Nat} (h : (List.range n).find? p = none) : ∀ j, j < n → p j = false := fun j hj => by
  have := List.find?_eq_none.1 h j (List.mem_range.2 hj)
  simpa using this
theorem fst17_neg {ns : List (List UInt8)} {rs : List Bool} {most : Int} (h : fst17 ns rs most < 0) : ∀ j, j < ns.length → badAt ns rs most j = false := by
  unfold fst17 at h
  split at h
  · omega
  · rename_i h2; exact find_none_range h2
theorem chkG_ok {nk rg : Bool} {i0 : Int} {wk : Bool} {n i1 i2 i3 i4 i5 : Int} {wt : Bool} (h : (chkG nk rg i0 wk n i1 i2 i3 i4 i5 wt).1 = 0) : nk = true ∧ rg = true ∧ i0 < 0 ∧ wk = true ∧ i1 < 0 ∧ i2 < 0 ∧ i3 < 0 ∧ i4 < 0 ∧ i5 < 0 ∧ wt = true := by
  unfold chkG at h
  by_cases a : nk = false
  · rw [if_pos a] at h
    exact absurd h (by simp)
  rw [if_neg a] at h
  by_cases b : rg = false
  · rw [if_pos b] at h
    exact absurd h (by simp)
  rw [if_neg b] at h
  by_cases c : 0 ≤ i0
  · rw [if_pos c] at h
    exact absurd h (by simp)
  rw [if_neg c] at h
  by_cases d : wk = false
  · rw [if_pos d] at h
    exact absurd h (by simp)
  rw [if_neg d] at h
  by_cases e : 0 ≤ i1
  · rw [if_pos e] at h
    exact absurd h (by simp)
  rw [if_neg e] at h
  by_cases f : 0 ≤ i2
  · rw [if_pos f] at h
    exact absurd h (by simp)
  rw [if_neg f] at h
  by_cases g : 0 ≤ i3
  · rw [if_pos g] at h
    exact absurd h (by simp)
  rw [if_neg g] at h
  by_cases k : 0 ≤ i4
  · rw [if_pos k] at h
    exact absurd h (by simp)
  rw [if_neg k] at h
  by_cases l : 0 ≤ i5
  · rw [if_pos l] at h
    exact absurd h (by simp)
  rw [if_neg l] at h
  by_cases m : wt = false
  · rw [if_pos m] at h
    exact absurd h (by simp)
  rw [if_neg m] at h
  exact ⟨by simpa using a, by simpa using b, by omega, by simpa using d, by omega, by omega, by omega, by omega, by omega, by simpa using m⟩
/-- each class of a problem that may be, may be -/
theorem cl_right {p : Pb} (h : pbR p = true) {i : Nat} {y : Cl} (hy : p.cl[i]? = some y) : clRight p.g (p.rm.length : Nat) (p.ps.length : Nat) (p.cl.length : Nat) y = true := by
  unfold pbR at h
  rw [decide_eq_true_iff] at h
  unfold chk at h
  have h2 := (chkG_ok h).2.2.2.2.2.1
  unfold clI at h2
  obtain ⟨hi, e⟩ := List.getElem?_eq_some_iff.1 hy
  have := fst17_neg h2 i (by rw [List.length_map]; exact hi)
  unfold badAt at this
  rw [Bool.or_eq_false_iff, Bool.or_eq_false_iff] at this
  have h3 := this.2.1
  rw [List.getD_eq_getElem?_getD, List.getElem?_map, hy] at h3
  simpa using h3
theorem cl_small {g : Gr} {rn pn cn : Int} {x : Cl} (h : clRight g rn pn cn x = true) : 1 ≤ x.t.length ∧ x.t.length ≤ 16 ∧ x.l.length ≤ 12 := by
  unfold clRight at h
  simp only [Bool.and_eq_true] at h
  obtain ⟨⟨⟨⟨_, ht⟩, hp⟩, _⟩, _⟩ := h
  unfold timesB at ht
  unfold placesB at hp
  simp only [Bool.and_eq_true, decide_eq_true_iff] at ht hp
  omega
theorem seats_pos {g : Gr} {rn pn cn : Int} {x : Cl} (h : clRight g rn pn cn x = true) : 1 ≤ (seats x).length ∧ (seats x).length ≤ 192 := by
  obtain ⟨h1, h2, h3⟩ := cl_small h
  rw [seats_len]
  constructor
  · exact Nat.mul_pos h1 (by omega)
  · exact Nat.le_trans (Nat.mul_le_mul h2 (show max 1 x.l.length ≤ 12 by omega)) (by decide)
theorem plF_bnd {l : List Cl} {most : Int} (hm : 1 ≤ most) (hk : ∀ (i : Nat) (y : Cl), l[i]? = some y → 1 ≤ (seats y).length) : ∀ i, i ≤ l.length → 1 ≤ plF l most i ∧ plF l most i ≤ most := by
  intro i
  induction i with
  | zero => intro _; exact ⟨Int.le_refl _, hm⟩
  | succ i ih =>
    intro hi
    have h1 := ih (by omega)
    have hy : l[i]? = some l[i] := List.getElem?_eq_getElem (by omega)
    have hk1 := hk i _ hy
    have e : plF l most (i + 1) = (if most / (((seats l[i]).length : Nat) : Int) < plF l most i then most else plF l most i * (((seats l[i]).length : Nat) : Int)) := by
      rw [plF, List.getD_eq_getElem?_getD, hy]; rfl
    rw [e]
    clear e
    generalize hkk : (((seats l[i]).length : Nat) : Int) = k at *
    have hk0 : 1 ≤ k := by omega
    split
    · exact ⟨hm, Int.le_refl _⟩
    · rename_i hle
      have h2 : plF l most i * k ≤ most := Int.le_trans (Int.mul_le_mul_of_nonneg_right (by omega) (by omega)) (Int.ediv_mul_le most (by omega))
      have h3 : 1 * 1 ≤ plF l most i * k := Int.mul_le_mul h1.1 hk0 (by omega) (by omega)
      exact ⟨by omega, h2⟩
end Go.Proofs.YtgmgccepmalahaaGreat
