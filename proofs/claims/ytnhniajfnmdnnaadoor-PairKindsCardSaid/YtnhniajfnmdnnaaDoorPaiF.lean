/- The document's own answers for layer 15 (pair): Kind. -/
import Derived.Test.YtnhniajfnmdnnaaDoorPaiE
namespace Go.Proofs.YtnhniajfnmdnnaaDoor
open Go.RowKit
open Whn (Gr Wh)

/-- the first of the kinds whose name it is -/
def kdN (s : List UInt8) : Option Nat := (List.range 24).find? fun j => decide (nmB ((j : Int) + 1) = s)
def kdV (s : List UInt8) : Value := if s = [] then .tuple #[.int .i64 0, .bool false] else match kdN s with
  | some j => .tuple #[.int .i64 ((j : Int) + 1), .bool true]
  | none => .tuple #[.int .i64 0, .bool false]
theorem kd_some {s : List UInt8} {j : Nat} (hs : s ≠ []) (hj : j < 24) (hno : ∀ i : Nat, i < j → ¬ nmB ((i : Int) + 1) = s) (h : nmB ((j : Int) + 1) = s) : kdV s = .tuple #[.int .i64 ((j : Int) + 1), .bool true] := by
  have e : kdN s = some j := by
    unfold kdN
    rw [List.find?_eq_some_iff_getElem]
    exact ⟨decide_eq_true h, j, by rw [List.length_range]; exact hj, by rw [List.getElem_range], fun i hi => by
      rw [List.getElem_range]
      simpa using hno i hi⟩
  unfold kdV
  rw [if_neg hs, e]
theorem kd_none {s : List UInt8} (hno : ∀ i : Nat, i < 24 → ¬ nmB ((i : Int) + 1) = s) : kdV s = .tuple #[.int .i64 0, .bool false] := by
  have e : kdN s = none := by
    unfold kdN
    rw [List.find?_eq_none]
    intro i hi
    simpa using hno i (List.mem_range.1 hi)
  unfold kdV
  rw [e]
  split <;> rfl
set_option maxRecDepth 20000 in
set_option maxHeartbeats 2000000 in
theorem r_Kind (s : List UInt8) (w : World) : Calls Tryd.prog 20 #[txt s] w (Did (kdV s) w) := by
  have HN := hid (fun k X => r_NameK k X)
  by_cases hs : s = []
  · subst hs
    have Hr := hid (show kdV [] = .tuple #[.int .i64 0, .bool false] from rfl)
    have q0 : (bs []).toList.isEmpty = true := by rw [list_of, bs_data]; rfl
    generalize kdV [] = q at *
    go_enter Tryd.func20, Tryd.ntmps20
    go_wp2_with fail
    go_loopw [4] (fun i wr => ∃ (j : Nat), i = .int .i64 ((j : Int) + 1) ∧ j ≤ 24 ∧ w = wr) (fun i _ => 25 - (intOf i).toNat)
    case atStart => exact ⟨0, rfl, Nat.zero_le _, rfl⟩
    case round =>
      obtain ⟨j, rfl, hj, rfl⟩ := hrel
      by_cases hlt : j < 24
      · have b1 : (j : Int) + 1 ≤ 24 := by omega
        go_wp2_with fail
        exact ⟨⟨j + 1, by go_num, by omega, trivial⟩, by simp [intOf]; omega⟩
      · have b1 : ¬ (j : Int) + 1 ≤ 24 := by omega
        go_wp2_with fail
        go_ret2
        exact Did.mk Hr.out.symm (Below.refl _ _)
  · have Hsm := hid (fun j hj hno h => kd_some (s := s) (j := j) hs hj hno h)
    have Hnn := hid (fun hno => kd_none (s := s) hno)
    have q0 : (bs s).toList.isEmpty = false := by
      rw [list_of, bs_data]
      cases s with
      | nil => exact absurd rfl hs
      | cons a r => rfl
    generalize kdV s = q at *
    clear hs
    go_enter Tryd.func20, Tryd.ntmps20
    go_wp2_with fail
    go_loopw [4] (fun i wr => ∃ (j : Nat), i = .int .i64 ((j : Int) + 1) ∧ j ≤ 24 ∧ Hid (Below w.heap.size w wr) ∧ Hid (∀ i : Nat, i < j → ¬ nmB ((i : Int) + 1) = s)) (fun i _ => 25 - (intOf i).toNat)
    case atStart => exact ⟨0, rfl, Nat.zero_le _, hid (Below.refl _ _), hid (fun i hi => absurd hi (Nat.not_lt_zero i))⟩
    case round =>
      obtain ⟨j, rfl, hj, HB, hno⟩ := hrel
      by_cases hlt : j < 24
      · have b1 : (j : Int) + 1 ≤ 24 := by omega
        have HN1 := hid (fun X => HN.out ((j : Int) + 1) X)
        have Hs1 := hid (fun h => Hsm.out j hlt hno.out h)
        have Hn1 := hid (fun (h : ¬ nmB ((j : Int) + 1) = s) => show ∀ i : Nat, i < j + 1 → ¬ nmB ((i : Int) + 1) = s from fun i hi => by
          rcases Nat.lt_or_ge i j with h' | h'
          · exact hno.out i h'
          · obtain rfl : i = j := by omega
            exact h)
        obtain ⟨nm, hnm⟩ : ∃ nm, nmB ((j : Int) + 1) = nm := ⟨_, rfl⟩
        rw [hnm] at Hs1 Hn1
        have HN2 : Hid (∀ X, Calls Tryd.prog 24 #[.int .i64 ((j : Int) + 1)] X (Did (txt nm) X)) := hid (fun X => by have := HN1.out X; rwa [hnm] at this)
        clear HN HN1 hnm hno Hsm Hnn
        go_wp2_with fail
        refine (HN2.out _).mono ?_
        rintro e Y ⟨rfl, bz⟩
        have HB2 := hid (HB.out.trans (bz.mono HB.out.size))
        by_cases hR : nm = s
        · have q3 : ((bs nm).toList == (bs s).toList) = true := by rw [list_of, list_of, bs_data, bs_data, beq_iff_eq]; exact hR
          have Hres := hid (Hs1.out hR)
          clear hR Hs1 Hn1 bz
          go_wp2_with fail
          go_ret2
          exact Did.mk Hres.out.symm HB2.out
        · have q3 : ((bs nm).toList == (bs s).toList) = false := by rw [list_of, list_of, bs_data, bs_data, beq_eq_false_iff_ne]; exact hR
          have Hn2 := hid (Hn1.out hR)
          clear hR Hs1 Hn1 bz
          go_wp2_with fail
          exact ⟨⟨j + 1, by go_num, by omega, HB2, Hn2⟩, by simp [intOf]; omega⟩
      · have b1 : ¬ (j : Int) + 1 ≤ 24 := by omega
        have Hres := hid (Hnn.out (fun i hi => hno.out i (by omega)))
        clear HN Hsm Hnn hno
        go_wp2_with fail
        go_ret2
        exact Did.mk Hres.out.symm HB.out
end Go.Proofs.YtnhniajfnmdnnaaDoor
