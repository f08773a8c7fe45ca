/- The document's own answers for layer 13 (class): Rising. The document's own answers for layer 13 (class): cost, Seat, Whole, Cost, Spot. The document's own answers for layer 13 (class): places. The document's own answers for layer 13 (class): times. The document's own answers for layer 13 (class): Right. The document's own answers for layer 13 (class): Same. -/
import Derived.Test.YtgmgccepmalahaaGreatPqA
import Derived.Handy
import Derived.Test.YtgmgccepmalahaaGreatWh2
import Derived.Test.YtgmgccepmalahaaGreatPqB
namespace Go.Proofs.YtgmgccepmalahaaGreat
open Go.RowKit
open Whn (Gr Wh)

def okR (l : List Int) (e : Int) (i : Nat) : Bool := decide (0 ≤ l.getD i 0) && decide (l.getD i 0 < e) && (decide (i = 0) || decide (l.getD (i - 1) 0 < l.getD i 0))
def risingB (l : List Int) (e : Int) : Bool := (List.range l.length).all (okR l e)
theorem risingB_yes {l : List Int} {e : Int} (h : ∀ i, i < l.length → okR l e i = true) : risingB l e = true := by
  unfold risingB
  rw [List.all_eq_true]
  exact fun i hi => h i (List.mem_range.1 hi)
theorem risingB_no {l : List Int} {e : Int} {i : Nat} (hi : i < l.length) (h : okR l e i = false) : risingB l e = false := by
  unfold risingB
  rw [List.all_eq_false]
  exact ⟨i, List.mem_range.2 hi, by rw [h]; simp⟩
theorem getD_of {l : List Int} {i : Nat} {a : Int} (h : l[i]? = some a) : l.getD i 0 = a := by rw [List.getD_eq_getElem?_getD, h]; rfl
set_option maxRecDepth 20000 in
set_option maxHeartbeats 4000000 in
theorem r_Rising (A : Option Addr) (c : Nat) (l : List Int) (hm : l.length ≤ maxLen) (e : Int) (w : World) (h : Its w w.heap.size A l) : Calls Tryz.prog 33 #[.slice A l.length c, .int .i64 e] w (Did (.bool (risingB l e)) w) := by
  unfold maxLen at hm
  have H := hid h
  have Hyes := hid (fun h => risingB_yes (l := l) (e := e) h)
  have Hno := hid (fun i hi h => risingB_no (l := l) (e := e) (i := i) hi h)
  generalize risingB l e = rr at *
  clear h
  go_enter Tryz.func33, Tryz.ntmps33
  go_wp2_with fail
  go_loopw [5] (fun i wr => ∃ (k : Nat), i = .int .i64 k ∧ k ≤ l.length ∧ Hid (Below w.heap.size w wr) ∧ Hid (∀ i, i < k → okR l e i = true)) (fun i _ => l.length - (intOf i).toNat)
  case atStart => exact ⟨0, rfl, Nat.zero_le _, hid (Below.refl _ _), hid (fun i hi => absurd hi (Nat.not_lt_zero i))⟩
  case round =>
    obtain ⟨k, rfl, hk, KB, hsame⟩ := hrel
    by_cases hlt : k < l.length
    · obtain ⟨ad, a, rfl, hadb, ha, hca⟩ := Its.get H.out hlt
      have b1 : (0 : Int) ≤ (k : Int) := by omega
      have b2 : (k : Int) < l.length := by omega
      have hba : (ad.add k).block < w.heap.size := by rw [add_block]; exact hadb
      have Hnext := hid (fun (h : okR l e k = true) => show ∀ i, i < k + 1 → okR l e i = true from fun i hi => by
        rcases Nat.lt_or_ge i k with h' | h'
        · exact hsame.out i h'
        · obtain rfl : i = k := by omega
          exact h)
      have Hbad := hid (fun (h : okR l e k = false) => Hno.out k hlt h)
      have Hok := hid (show okR l e k = (decide (0 ≤ a) && decide (a < e) && (decide (k = 0) || decide (l.getD (k - 1) 0 < a))) by unfold okR; rw [getD_of ha.out])
      clear Hyes Hno hsame
      go_wp2_with fail
      by_cases c1 : a < 0
      · clear Hnext
        refine wp_region_held_drew (S := fun X => Below w.heap.size w X) (by kernel_rfl) KB.out.drew (fun hHeld => ?_)
        refine takeH 0 12 (.slice (some ad) l.length c) rfl rfl (by kernel_rfl) (by kernel_rfl) (by kernel_rfl) (fun _ _ _ h => h) (by kernel_rfl) (fun X hX => by clear hX; first | rfl | go_simp) hHeld ?_
        simp only [Act.put, List.setIfInBounds_toArray, List.set_cons_zero, List.set_cons_succ]
        refine takeH 1 13 (.int .i64 (k : Int)) rfl rfl (by kernel_rfl) (by kernel_rfl) (by kernel_rfl) (fun _ _ _ h => h) (by kernel_rfl) (fun X hX => by clear hX; first | rfl | go_simp) hHeld ?_
        simp only [Act.put, List.setIfInBounds_toArray, List.set_cons_zero, List.set_cons_succ]
        refine takeH 2 14 (.pointer (some (ad.add k))) rfl rfl (by kernel_rfl) (by kernel_rfl) (by kernel_rfl) (fun _ _ _ h => h) (by kernel_rfl) (fun X hX => by clear hX; first | rfl | go_simp) hHeld ?_
        simp only [Act.put, List.setIfInBounds_toArray, List.set_cons_zero, List.set_cons_succ]
        refine takeH 3 15 (.int .i64 a) rfl rfl (by kernel_rfl) (by kernel_rfl) (by kernel_rfl) (fun _ _ _ h => h) (by kernel_rfl) (fun X hX => by have q := (hX.cell (p := ad.add k) hba).trans hca; clear hX; go_simp) hHeld ?_
        simp only [Act.put, List.setIfInBounds_toArray, List.set_cons_zero, List.set_cons_succ]
        refine takeH 4 16 (.bool true) rfl rfl (by kernel_rfl) (by kernel_rfl) (by kernel_rfl) (fun _ _ _ h => h) (by kernel_rfl) (fun X hX => by clear hX; first | rfl | go_simp) hHeld ?_
        simp only [Act.put, List.setIfInBounds_toArray, List.set_cons_zero, List.set_cons_succ]
        refine takeH 5 17 (.bool true) rfl rfl (by kernel_rfl) (by kernel_rfl) (by kernel_rfl) (fun _ _ _ h => h) (by kernel_rfl) (fun X hX => by clear hX; first | rfl | go_simp) hHeld ?_
        simp only [Act.put, List.setIfInBounds_toArray, List.set_cons_zero, List.set_cons_succ]
        refine skipH 6 18 rfl rfl (by kernel_rfl) (by kernel_rfl) (by kernel_rfl) (fun _ _ _ h => h) (by kernel_rfl) hHeld ?_
        simp only [Act.put, List.setIfInBounds_toArray, List.set_cons_zero, List.set_cons_succ]
        refine skipH 7 19 rfl rfl (by kernel_rfl) (by kernel_rfl) (by kernel_rfl) (fun _ _ _ h => h) (by kernel_rfl) hHeld ?_
        simp only [Act.put, List.setIfInBounds_toArray, List.set_cons_zero, List.set_cons_succ]
        refine skipH 8 20 rfl rfl (by kernel_rfl) (by kernel_rfl) (by kernel_rfl) (fun _ _ _ h => h) (by kernel_rfl) hHeld ?_
        simp only [Act.put, List.setIfInBounds_toArray, List.set_cons_zero, List.set_cons_succ]
        refine skipH 9 21 rfl rfl (by kernel_rfl) (by kernel_rfl) (by kernel_rfl) (fun _ _ _ h => h) (by kernel_rfl) hHeld ?_
        simp only [Act.put, List.setIfInBounds_toArray, List.set_cons_zero, List.set_cons_succ]
        refine skipH 10 22 rfl rfl (by kernel_rfl) (by kernel_rfl) (by kernel_rfl) (fun _ _ _ h => h) (by kernel_rfl) hHeld ?_
        simp only [Act.put, List.setIfInBounds_toArray, List.set_cons_zero, List.set_cons_succ]
        refine skipH 11 23 rfl rfl (by kernel_rfl) (by kernel_rfl) (by kernel_rfl) (fun _ _ _ h => h) (by kernel_rfl) hHeld ?_
        simp only [Act.put, List.setIfInBounds_toArray, List.set_cons_zero, List.set_cons_succ]
        refine takeH 12 24 (.bool true) rfl rfl (by kernel_rfl) (by kernel_rfl) (by kernel_rfl) (fun _ _ _ h => h) (by kernel_rfl) (fun X hX => by clear hX; first | rfl | go_simp) hHeld ?_
        simp only [Act.put, List.setIfInBounds_toArray, List.set_cons_zero, List.set_cons_succ]
        refine takeH 13 25 (.bool true) rfl rfl (by kernel_rfl) (by kernel_rfl) (by kernel_rfl) (fun _ _ _ h => h) (by kernel_rfl) (fun X hX => by clear hX; first | rfl | go_simp) hHeld ?_
        simp only [Act.put, List.setIfInBounds_toArray, List.set_cons_zero, List.set_cons_succ]
        refine skipH 14 26 rfl rfl (by kernel_rfl) (by kernel_rfl) (by kernel_rfl) (fun _ _ _ h => h) (by kernel_rfl) hHeld ?_
        simp only [Act.put, List.setIfInBounds_toArray, List.set_cons_zero, List.set_cons_succ]
        refine skipH 15 27 rfl rfl (by kernel_rfl) (by kernel_rfl) (by kernel_rfl) (fun _ _ _ h => h) (by kernel_rfl) hHeld ?_
        simp only [Act.put, List.setIfInBounds_toArray, List.set_cons_zero, List.set_cons_succ]
        refine skipH 16 28 rfl rfl (by kernel_rfl) (by kernel_rfl) (by kernel_rfl) (fun _ _ _ h => h) (by kernel_rfl) hHeld ?_
        simp only [Act.put, List.setIfInBounds_toArray, List.set_cons_zero, List.set_cons_succ]
        refine skipH 17 29 rfl rfl (by kernel_rfl) (by kernel_rfl) (by kernel_rfl) (fun _ _ _ h => h) (by kernel_rfl) hHeld ?_
        simp only [Act.put, List.setIfInBounds_toArray, List.set_cons_zero, List.set_cons_succ]
        refine skipH 18 30 rfl rfl (by kernel_rfl) (by kernel_rfl) (by kernel_rfl) (fun _ _ _ h => h) (by kernel_rfl) hHeld ?_
        simp only [Act.put, List.setIfInBounds_toArray, List.set_cons_zero, List.set_cons_succ]
        refine skipH 19 31 rfl rfl (by kernel_rfl) (by kernel_rfl) (by kernel_rfl) (fun _ _ _ h => h) (by kernel_rfl) hHeld ?_
        simp only [Act.put, List.setIfInBounds_toArray, List.set_cons_zero, List.set_cons_succ]
        refine skipH 20 32 rfl rfl (by kernel_rfl) (by kernel_rfl) (by kernel_rfl) (fun _ _ _ h => h) (by kernel_rfl) hHeld ?_
        simp only [Act.put, List.setIfInBounds_toArray, List.set_cons_zero, List.set_cons_succ]
        refine skipH 21 33 rfl rfl (by kernel_rfl) (by kernel_rfl) (by kernel_rfl) (fun _ _ _ h => h) (by kernel_rfl) hHeld ?_
        simp only [Act.put, List.setIfInBounds_toArray, List.set_cons_zero, List.set_cons_succ]
        refine skipH 22 34 rfl rfl (by kernel_rfl) (by kernel_rfl) (by kernel_rfl) (fun _ _ _ h => h) (by kernel_rfl) hHeld ?_
        simp only [Act.put, List.setIfInBounds_toArray, List.set_cons_zero, List.set_cons_succ]
        refine skipH 23 35 rfl rfl (by kernel_rfl) (by kernel_rfl) (by kernel_rfl) (fun _ _ _ h => h) (by kernel_rfl) hHeld ?_
        simp only [Act.put, List.setIfInBounds_toArray, List.set_cons_zero, List.set_cons_succ]
        refine skipH 24 36 rfl rfl (by kernel_rfl) (by kernel_rfl) (by kernel_rfl) (fun _ _ _ h => h) (by kernel_rfl) hHeld ?_
        simp only [Act.put, List.setIfInBounds_toArray, List.set_cons_zero, List.set_cons_succ]
        refine skipH 25 37 rfl rfl (by kernel_rfl) (by kernel_rfl) (by kernel_rfl) (fun _ _ _ h => h) (by kernel_rfl) hHeld ?_
        simp only [Act.put, List.setIfInBounds_toArray, List.set_cons_zero, List.set_cons_succ]
        refine skipH 26 38 rfl rfl (by kernel_rfl) (by kernel_rfl) (by kernel_rfl) (fun _ _ _ h => h) (by kernel_rfl) hHeld ?_
        simp only [Act.put, List.setIfInBounds_toArray, List.set_cons_zero, List.set_cons_succ]
        refine skipH 27 39 rfl rfl (by kernel_rfl) (by kernel_rfl) (by kernel_rfl) (fun _ _ _ h => h) (by kernel_rfl) hHeld ?_
        simp only [Act.put, List.setIfInBounds_toArray, List.set_cons_zero, List.set_cons_succ]
        refine takeH 28 40 (.bool true) rfl rfl (by kernel_rfl) (by kernel_rfl) (by kernel_rfl) (fun _ _ _ h => h) (by kernel_rfl) (fun X hX => by clear hX; first | rfl | go_simp) hHeld ?_
        simp only [Act.put, List.setIfInBounds_toArray, List.set_cons_zero, List.set_cons_succ]
        refine wpAnyH_done (by kernel_rfl) ?_ _
        go_wp2_with fail
        go_ret
        exact Did.mk (by rw [Hbad.out (by rw [Hok.out]; simp only [Bool.and_eq_false_iff, Bool.or_eq_false_iff, decide_eq_false_iff_not]; omega)]; rfl) KB.out.drew
      · by_cases c2 : e ≤ a
        · clear Hnext
          refine wp_region_held_drew (S := fun X => Below w.heap.size w X) (by kernel_rfl) KB.out.drew (fun hHeld => ?_)
          refine takeH 0 12 (.slice (some ad) l.length c) rfl rfl (by kernel_rfl) (by kernel_rfl) (by kernel_rfl) (fun _ _ _ h => h) (by kernel_rfl) (fun X hX => by clear hX; first | rfl | go_simp) hHeld ?_
          simp only [Act.put, List.setIfInBounds_toArray, List.set_cons_zero, List.set_cons_succ]
          refine takeH 1 13 (.int .i64 (k : Int)) rfl rfl (by kernel_rfl) (by kernel_rfl) (by kernel_rfl) (fun _ _ _ h => h) (by kernel_rfl) (fun X hX => by clear hX; first | rfl | go_simp) hHeld ?_
          simp only [Act.put, List.setIfInBounds_toArray, List.set_cons_zero, List.set_cons_succ]
          refine takeH 2 14 (.pointer (some (ad.add k))) rfl rfl (by kernel_rfl) (by kernel_rfl) (by kernel_rfl) (fun _ _ _ h => h) (by kernel_rfl) (fun X hX => by clear hX; first | rfl | go_simp) hHeld ?_
          simp only [Act.put, List.setIfInBounds_toArray, List.set_cons_zero, List.set_cons_succ]
          refine takeH 3 15 (.int .i64 a) rfl rfl (by kernel_rfl) (by kernel_rfl) (by kernel_rfl) (fun _ _ _ h => h) (by kernel_rfl) (fun X hX => by have q := (hX.cell (p := ad.add k) hba).trans hca; clear hX; go_simp) hHeld ?_
          simp only [Act.put, List.setIfInBounds_toArray, List.set_cons_zero, List.set_cons_succ]
          refine takeH 4 16 (.bool false) rfl rfl (by kernel_rfl) (by kernel_rfl) (by kernel_rfl) (fun _ _ _ h => h) (by kernel_rfl) (fun X hX => by clear hX; first | rfl | go_simp) hHeld ?_
          simp only [Act.put, List.setIfInBounds_toArray, List.set_cons_zero, List.set_cons_succ]
          refine takeH 5 17 (.bool false) rfl rfl (by kernel_rfl) (by kernel_rfl) (by kernel_rfl) (fun _ _ _ h => h) (by kernel_rfl) (fun X hX => by clear hX; first | rfl | go_simp) hHeld ?_
          simp only [Act.put, List.setIfInBounds_toArray, List.set_cons_zero, List.set_cons_succ]
          refine takeH 6 18 (.slice (some ad) l.length c) rfl rfl (by kernel_rfl) (by kernel_rfl) (by kernel_rfl) (fun _ _ _ h => h) (by kernel_rfl) (fun X hX => by clear hX; first | rfl | go_simp) hHeld ?_
          simp only [Act.put, List.setIfInBounds_toArray, List.set_cons_zero, List.set_cons_succ]
          refine takeH 7 19 (.int .i64 (k : Int)) rfl rfl (by kernel_rfl) (by kernel_rfl) (by kernel_rfl) (fun _ _ _ h => h) (by kernel_rfl) (fun X hX => by clear hX; first | rfl | go_simp) hHeld ?_
          simp only [Act.put, List.setIfInBounds_toArray, List.set_cons_zero, List.set_cons_succ]
          refine takeH 8 20 (.pointer (some (ad.add k))) rfl rfl (by kernel_rfl) (by kernel_rfl) (by kernel_rfl) (fun _ _ _ h => h) (by kernel_rfl) (fun X hX => by clear hX; first | rfl | go_simp) hHeld ?_
          simp only [Act.put, List.setIfInBounds_toArray, List.set_cons_zero, List.set_cons_succ]
          refine takeH 9 21 (.int .i64 a) rfl rfl (by kernel_rfl) (by kernel_rfl) (by kernel_rfl) (fun _ _ _ h => h) (by kernel_rfl) (fun X hX => by have q := (hX.cell (p := ad.add k) hba).trans hca; clear hX; go_simp) hHeld ?_
          simp only [Act.put, List.setIfInBounds_toArray, List.set_cons_zero, List.set_cons_succ]
          refine takeH 10 22 (.int .i64 e) rfl rfl (by kernel_rfl) (by kernel_rfl) (by kernel_rfl) (fun _ _ _ h => h) (by kernel_rfl) (fun X hX => by clear hX; first | rfl | go_simp) hHeld ?_
          simp only [Act.put, List.setIfInBounds_toArray, List.set_cons_zero, List.set_cons_succ]
          refine takeH 11 23 (.bool true) rfl rfl (by kernel_rfl) (by kernel_rfl) (by kernel_rfl) (fun _ _ _ h => h) (by kernel_rfl) (fun X hX => by clear hX; first | rfl | go_simp) hHeld ?_
          simp only [Act.put, List.setIfInBounds_toArray, List.set_cons_zero, List.set_cons_succ]
          refine takeH 12 24 (.bool true) rfl rfl (by kernel_rfl) (by kernel_rfl) (by kernel_rfl) (fun _ _ _ h => h) (by kernel_rfl) (fun X hX => by clear hX; first | rfl | go_simp) hHeld ?_
          simp only [Act.put, List.setIfInBounds_toArray, List.set_cons_zero, List.set_cons_succ]
          refine takeH 13 25 (.bool true) rfl rfl (by kernel_rfl) (by kernel_rfl) (by kernel_rfl) (fun _ _ _ h => h) (by kernel_rfl) (fun X hX => by clear hX; first | rfl | go_simp) hHeld ?_
          simp only [Act.put, List.setIfInBounds_toArray, List.set_cons_zero, List.set_cons_succ]
          refine skipH 14 26 rfl rfl (by kernel_rfl) (by kernel_rfl) (by kernel_rfl) (fun _ _ _ h => h) (by kernel_rfl) hHeld ?_
          simp only [Act.put, List.setIfInBounds_toArray, List.set_cons_zero, List.set_cons_succ]
          refine skipH 15 27 rfl rfl (by kernel_rfl) (by kernel_rfl) (by kernel_rfl) (fun _ _ _ h => h) (by kernel_rfl) hHeld ?_
          simp only [Act.put, List.setIfInBounds_toArray, List.set_cons_zero, List.set_cons_succ]
          refine skipH 16 28 rfl rfl (by kernel_rfl) (by kernel_rfl) (by kernel_rfl) (fun _ _ _ h => h) (by kernel_rfl) hHeld ?_
          simp only [Act.put, List.setIfInBounds_toArray, List.set_cons_zero, List.set_cons_succ]
          refine skipH 17 29 rfl rfl (by kernel_rfl) (by kernel_rfl) (by kernel_rfl) (fun _ _ _ h => h) (by kernel_rfl) hHeld ?_
          simp only [Act.put, List.setIfInBounds_toArray, List.set_cons_zero, List.set_cons_succ]
          refine skipH 18 30 rfl rfl (by kernel_rfl) (by kernel_rfl) (by kernel_rfl) (fun _ _ _ h => h) (by kernel_rfl) hHeld ?_
          simp only [Act.put, List.setIfInBounds_toArray, List.set_cons_zero, List.set_cons_succ]
          refine skipH 19 31 rfl rfl (by kernel_rfl) (by kernel_rfl) (by kernel_rfl) (fun _ _ _ h => h) (by kernel_rfl) hHeld ?_
          simp only [Act.put, List.setIfInBounds_toArray, List.set_cons_zero, List.set_cons_succ]
          refine skipH 20 32 rfl rfl (by kernel_rfl) (by kernel_rfl) (by kernel_rfl) (fun _ _ _ h => h) (by kernel_rfl) hHeld ?_
          simp only [Act.put, List.setIfInBounds_toArray, List.set_cons_zero, List.set_cons_succ]
          refine skipH 21 33 rfl rfl (by kernel_rfl) (by kernel_rfl) (by kernel_rfl) (fun _ _ _ h => h) (by kernel_rfl) hHeld ?_
          simp only [Act.put, List.setIfInBounds_toArray, List.set_cons_zero, List.set_cons_succ]
          refine skipH 22 34 rfl rfl (by kernel_rfl) (by kernel_rfl) (by kernel_rfl) (fun _ _ _ h => h) (by kernel_rfl) hHeld ?_
          simp only [Act.put, List.setIfInBounds_toArray, List.set_cons_zero, List.set_cons_succ]
          refine skipH 23 35 rfl rfl (by kernel_rfl) (by kernel_rfl) (by kernel_rfl) (fun _ _ _ h => h) (by kernel_rfl) hHeld ?_
          simp only [Act.put, List.setIfInBounds_toArray, List.set_cons_zero, List.set_cons_succ]
          refine skipH 24 36 rfl rfl (by kernel_rfl) (by kernel_rfl) (by kernel_rfl) (fun _ _ _ h => h) (by kernel_rfl) hHeld ?_
          simp only [Act.put, List.setIfInBounds_toArray, List.set_cons_zero, List.set_cons_succ]
          refine skipH 25 37 rfl rfl (by kernel_rfl) (by kernel_rfl) (by kernel_rfl) (fun _ _ _ h => h) (by kernel_rfl) hHeld ?_
          simp only [Act.put, List.setIfInBounds_toArray, List.set_cons_zero, List.set_cons_succ]
          refine skipH 26 38 rfl rfl (by kernel_rfl) (by kernel_rfl) (by kernel_rfl) (fun _ _ _ h => h) (by kernel_rfl) hHeld ?_
          simp only [Act.put, List.setIfInBounds_toArray, List.set_cons_zero, List.set_cons_succ]
          refine skipH 27 39 rfl rfl (by kernel_rfl) (by kernel_rfl) (by kernel_rfl) (fun _ _ _ h => h) (by kernel_rfl) hHeld ?_
          simp only [Act.put, List.setIfInBounds_toArray, List.set_cons_zero, List.set_cons_succ]
          refine takeH 28 40 (.bool true) rfl rfl (by kernel_rfl) (by kernel_rfl) (by kernel_rfl) (fun _ _ _ h => h) (by kernel_rfl) (fun X hX => by clear hX; first | rfl | go_simp) hHeld ?_
          simp only [Act.put, List.setIfInBounds_toArray, List.set_cons_zero, List.set_cons_succ]
          refine wpAnyH_done (by kernel_rfl) ?_ _
          go_wp2_with fail
          go_ret
          exact Did.mk (by rw [Hbad.out (by rw [Hok.out]; simp only [Bool.and_eq_false_iff, Bool.or_eq_false_iff, decide_eq_false_iff_not]; omega)]; rfl) KB.out.drew
        · by_cases c3 : k = 0
          · have c4 : ¬ (0 : Int) < (k : Int) := by omega
            have C3 := hid c3
            clear Hbad c3
            refine wp_region_held_drew (S := fun X => Below w.heap.size w X) (by kernel_rfl) KB.out.drew (fun hHeld => ?_)
            refine takeH 0 12 (.slice (some ad) l.length c) rfl rfl (by kernel_rfl) (by kernel_rfl) (by kernel_rfl) (fun _ _ _ h => h) (by kernel_rfl) (fun X hX => by clear hX; first | rfl | go_simp) hHeld ?_
            simp only [Act.put, List.setIfInBounds_toArray, List.set_cons_zero, List.set_cons_succ]
            refine takeH 1 13 (.int .i64 (k : Int)) rfl rfl (by kernel_rfl) (by kernel_rfl) (by kernel_rfl) (fun _ _ _ h => h) (by kernel_rfl) (fun X hX => by clear hX; first | rfl | go_simp) hHeld ?_
            simp only [Act.put, List.setIfInBounds_toArray, List.set_cons_zero, List.set_cons_succ]
            refine takeH 2 14 (.pointer (some (ad.add k))) rfl rfl (by kernel_rfl) (by kernel_rfl) (by kernel_rfl) (fun _ _ _ h => h) (by kernel_rfl) (fun X hX => by clear hX; first | rfl | go_simp) hHeld ?_
            simp only [Act.put, List.setIfInBounds_toArray, List.set_cons_zero, List.set_cons_succ]
            refine takeH 3 15 (.int .i64 a) rfl rfl (by kernel_rfl) (by kernel_rfl) (by kernel_rfl) (fun _ _ _ h => h) (by kernel_rfl) (fun X hX => by have q := (hX.cell (p := ad.add k) hba).trans hca; clear hX; go_simp) hHeld ?_
            simp only [Act.put, List.setIfInBounds_toArray, List.set_cons_zero, List.set_cons_succ]
            refine takeH 4 16 (.bool false) rfl rfl (by kernel_rfl) (by kernel_rfl) (by kernel_rfl) (fun _ _ _ h => h) (by kernel_rfl) (fun X hX => by clear hX; first | rfl | go_simp) hHeld ?_
            simp only [Act.put, List.setIfInBounds_toArray, List.set_cons_zero, List.set_cons_succ]
            refine takeH 5 17 (.bool false) rfl rfl (by kernel_rfl) (by kernel_rfl) (by kernel_rfl) (fun _ _ _ h => h) (by kernel_rfl) (fun X hX => by clear hX; first | rfl | go_simp) hHeld ?_
            simp only [Act.put, List.setIfInBounds_toArray, List.set_cons_zero, List.set_cons_succ]
            refine takeH 6 18 (.slice (some ad) l.length c) rfl rfl (by kernel_rfl) (by kernel_rfl) (by kernel_rfl) (fun _ _ _ h => h) (by kernel_rfl) (fun X hX => by clear hX; first | rfl | go_simp) hHeld ?_
            simp only [Act.put, List.setIfInBounds_toArray, List.set_cons_zero, List.set_cons_succ]
            refine takeH 7 19 (.int .i64 (k : Int)) rfl rfl (by kernel_rfl) (by kernel_rfl) (by kernel_rfl) (fun _ _ _ h => h) (by kernel_rfl) (fun X hX => by clear hX; first | rfl | go_simp) hHeld ?_
            simp only [Act.put, List.setIfInBounds_toArray, List.set_cons_zero, List.set_cons_succ]
            refine takeH 8 20 (.pointer (some (ad.add k))) rfl rfl (by kernel_rfl) (by kernel_rfl) (by kernel_rfl) (fun _ _ _ h => h) (by kernel_rfl) (fun X hX => by clear hX; first | rfl | go_simp) hHeld ?_
            simp only [Act.put, List.setIfInBounds_toArray, List.set_cons_zero, List.set_cons_succ]
            refine takeH 9 21 (.int .i64 a) rfl rfl (by kernel_rfl) (by kernel_rfl) (by kernel_rfl) (fun _ _ _ h => h) (by kernel_rfl) (fun X hX => by have q := (hX.cell (p := ad.add k) hba).trans hca; clear hX; go_simp) hHeld ?_
            simp only [Act.put, List.setIfInBounds_toArray, List.set_cons_zero, List.set_cons_succ]
            refine takeH 10 22 (.int .i64 e) rfl rfl (by kernel_rfl) (by kernel_rfl) (by kernel_rfl) (fun _ _ _ h => h) (by kernel_rfl) (fun X hX => by clear hX; first | rfl | go_simp) hHeld ?_
            simp only [Act.put, List.setIfInBounds_toArray, List.set_cons_zero, List.set_cons_succ]
            refine takeH 11 23 (.bool false) rfl rfl (by kernel_rfl) (by kernel_rfl) (by kernel_rfl) (fun _ _ _ h => h) (by kernel_rfl) (fun X hX => by clear hX; first | rfl | go_simp) hHeld ?_
            simp only [Act.put, List.setIfInBounds_toArray, List.set_cons_zero, List.set_cons_succ]
            refine takeH 12 24 (.bool false) rfl rfl (by kernel_rfl) (by kernel_rfl) (by kernel_rfl) (fun _ _ _ h => h) (by kernel_rfl) (fun X hX => by clear hX; first | rfl | go_simp) hHeld ?_
            simp only [Act.put, List.setIfInBounds_toArray, List.set_cons_zero, List.set_cons_succ]
            refine takeH 13 25 (.bool false) rfl rfl (by kernel_rfl) (by kernel_rfl) (by kernel_rfl) (fun _ _ _ h => h) (by kernel_rfl) (fun X hX => by clear hX; first | rfl | go_simp) hHeld ?_
            simp only [Act.put, List.setIfInBounds_toArray, List.set_cons_zero, List.set_cons_succ]
            refine takeH 14 26 (.int .i64 (k : Int)) rfl rfl (by kernel_rfl) (by kernel_rfl) (by kernel_rfl) (fun _ _ _ h => h) (by kernel_rfl) (fun X hX => by clear hX; first | rfl | go_simp) hHeld ?_
            simp only [Act.put, List.setIfInBounds_toArray, List.set_cons_zero, List.set_cons_succ]
            refine takeH 15 27 (.bool false) rfl rfl (by kernel_rfl) (by kernel_rfl) (by kernel_rfl) (fun _ _ _ h => h) (by kernel_rfl) (fun X hX => by clear hX; go_simp; exact C3.out) hHeld ?_
            simp only [Act.put, List.setIfInBounds_toArray, List.set_cons_zero, List.set_cons_succ]
            refine takeH 16 28 (.bool false) rfl rfl (by kernel_rfl) (by kernel_rfl) (by kernel_rfl) (fun _ _ _ h => h) (by kernel_rfl) (fun X hX => by clear hX; first | rfl | go_simp) hHeld ?_
            simp only [Act.put, List.setIfInBounds_toArray, List.set_cons_zero, List.set_cons_succ]
            refine skipH 17 29 rfl rfl (by kernel_rfl) (by kernel_rfl) (by kernel_rfl) (fun _ _ _ h => h) (by kernel_rfl) hHeld ?_
            simp only [Act.put, List.setIfInBounds_toArray, List.set_cons_zero, List.set_cons_succ]
            refine skipH 18 30 rfl rfl (by kernel_rfl) (by kernel_rfl) (by kernel_rfl) (fun _ _ _ h => h) (by kernel_rfl) hHeld ?_
            simp only [Act.put, List.setIfInBounds_toArray, List.set_cons_zero, List.set_cons_succ]
            refine skipH 19 31 rfl rfl (by kernel_rfl) (by kernel_rfl) (by kernel_rfl) (fun _ _ _ h => h) (by kernel_rfl) hHeld ?_
            simp only [Act.put, List.setIfInBounds_toArray, List.set_cons_zero, List.set_cons_succ]
            refine skipH 20 32 rfl rfl (by kernel_rfl) (by kernel_rfl) (by kernel_rfl) (fun _ _ _ h => h) (by kernel_rfl) hHeld ?_
            simp only [Act.put, List.setIfInBounds_toArray, List.set_cons_zero, List.set_cons_succ]
            refine skipH 21 33 rfl rfl (by kernel_rfl) (by kernel_rfl) (by kernel_rfl) (fun _ _ _ h => h) (by kernel_rfl) hHeld ?_
            simp only [Act.put, List.setIfInBounds_toArray, List.set_cons_zero, List.set_cons_succ]
            refine skipH 22 34 rfl rfl (by kernel_rfl) (by kernel_rfl) (by kernel_rfl) (fun _ _ _ h => h) (by kernel_rfl) hHeld ?_
            simp only [Act.put, List.setIfInBounds_toArray, List.set_cons_zero, List.set_cons_succ]
            refine skipH 23 35 rfl rfl (by kernel_rfl) (by kernel_rfl) (by kernel_rfl) (fun _ _ _ h => h) (by kernel_rfl) hHeld ?_
            simp only [Act.put, List.setIfInBounds_toArray, List.set_cons_zero, List.set_cons_succ]
            refine skipH 24 36 rfl rfl (by kernel_rfl) (by kernel_rfl) (by kernel_rfl) (fun _ _ _ h => h) (by kernel_rfl) hHeld ?_
            simp only [Act.put, List.setIfInBounds_toArray, List.set_cons_zero, List.set_cons_succ]
            refine skipH 25 37 rfl rfl (by kernel_rfl) (by kernel_rfl) (by kernel_rfl) (fun _ _ _ h => h) (by kernel_rfl) hHeld ?_
            simp only [Act.put, List.setIfInBounds_toArray, List.set_cons_zero, List.set_cons_succ]
            refine skipH 26 38 rfl rfl (by kernel_rfl) (by kernel_rfl) (by kernel_rfl) (fun _ _ _ h => h) (by kernel_rfl) hHeld ?_
            simp only [Act.put, List.setIfInBounds_toArray, List.set_cons_zero, List.set_cons_succ]
            refine takeH 27 39 (.bool false) rfl rfl (by kernel_rfl) (by kernel_rfl) (by kernel_rfl) (fun _ _ _ h => h) (by kernel_rfl) (fun X hX => by clear hX; first | rfl | go_simp) hHeld ?_
            simp only [Act.put, List.setIfInBounds_toArray, List.set_cons_zero, List.set_cons_succ]
            refine takeH 28 40 (.bool false) rfl rfl (by kernel_rfl) (by kernel_rfl) (by kernel_rfl) (fun _ _ _ h => h) (by kernel_rfl) (fun X hX => by clear hX; first | rfl | go_simp) hHeld ?_
            simp only [Act.put, List.setIfInBounds_toArray, List.set_cons_zero, List.set_cons_succ]
            refine wpAnyH_done (by kernel_rfl) ?_ _
            go_wp2_with fail
            exact ⟨⟨k + 1, by go_num, by omega, hid KB.out.drew, hid (Hnext.out (by have c3 := C3.out; rw [Hok.out]; simp only [Bool.and_eq_true, Bool.or_eq_true, decide_eq_true_iff]; omega))⟩, by simp [intOf]; omega⟩
          · have hk1 := hid (show IntKind.i64.wrap ((k : Int) - 1) = ((k - 1 : Nat) : Int) by rw [IntWalk.i64_in _ (by omega)]; omega)
            have hbk : k - 1 < l.length := by omega
            obtain ⟨ad', b, hae, _, hb, hcb⟩ := Its.get H.out hbk
            injection hae with hae
            subst hae
            have hbb : (ad.add (k - 1)).block < w.heap.size := by rw [add_block]; exact hadb
            have c4 : (0 : Int) < (k : Int) := by omega
            have b3 : (0 : Int) ≤ ((k - 1 : Nat) : Int) := by omega
            have b4 : ((k - 1 : Nat) : Int) < l.length := by omega
            rw [getD_of hb.out] at Hok
            by_cases c5 : a ≤ b
            · clear Hnext
              refine wp_region_held_drew (S := fun X => Below w.heap.size w X) (by kernel_rfl) KB.out.drew (fun hHeld => ?_)
              refine takeH 0 12 (.slice (some ad) l.length c) rfl rfl (by kernel_rfl) (by kernel_rfl) (by kernel_rfl) (fun _ _ _ h => h) (by kernel_rfl) (fun X hX => by clear hX; first | rfl | go_simp) hHeld ?_
              simp only [Act.put, List.setIfInBounds_toArray, List.set_cons_zero, List.set_cons_succ]
              refine takeH 1 13 (.int .i64 (k : Int)) rfl rfl (by kernel_rfl) (by kernel_rfl) (by kernel_rfl) (fun _ _ _ h => h) (by kernel_rfl) (fun X hX => by clear hX; first | rfl | go_simp) hHeld ?_
              simp only [Act.put, List.setIfInBounds_toArray, List.set_cons_zero, List.set_cons_succ]
              refine takeH 2 14 (.pointer (some (ad.add k))) rfl rfl (by kernel_rfl) (by kernel_rfl) (by kernel_rfl) (fun _ _ _ h => h) (by kernel_rfl) (fun X hX => by clear hX; first | rfl | go_simp) hHeld ?_
              simp only [Act.put, List.setIfInBounds_toArray, List.set_cons_zero, List.set_cons_succ]
              refine takeH 3 15 (.int .i64 a) rfl rfl (by kernel_rfl) (by kernel_rfl) (by kernel_rfl) (fun _ _ _ h => h) (by kernel_rfl) (fun X hX => by have q := (hX.cell (p := ad.add k) hba).trans hca; clear hX; go_simp) hHeld ?_
              simp only [Act.put, List.setIfInBounds_toArray, List.set_cons_zero, List.set_cons_succ]
              refine takeH 4 16 (.bool false) rfl rfl (by kernel_rfl) (by kernel_rfl) (by kernel_rfl) (fun _ _ _ h => h) (by kernel_rfl) (fun X hX => by clear hX; first | rfl | go_simp) hHeld ?_
              simp only [Act.put, List.setIfInBounds_toArray, List.set_cons_zero, List.set_cons_succ]
              refine takeH 5 17 (.bool false) rfl rfl (by kernel_rfl) (by kernel_rfl) (by kernel_rfl) (fun _ _ _ h => h) (by kernel_rfl) (fun X hX => by clear hX; first | rfl | go_simp) hHeld ?_
              simp only [Act.put, List.setIfInBounds_toArray, List.set_cons_zero, List.set_cons_succ]
              refine takeH 6 18 (.slice (some ad) l.length c) rfl rfl (by kernel_rfl) (by kernel_rfl) (by kernel_rfl) (fun _ _ _ h => h) (by kernel_rfl) (fun X hX => by clear hX; first | rfl | go_simp) hHeld ?_
              simp only [Act.put, List.setIfInBounds_toArray, List.set_cons_zero, List.set_cons_succ]
              refine takeH 7 19 (.int .i64 (k : Int)) rfl rfl (by kernel_rfl) (by kernel_rfl) (by kernel_rfl) (fun _ _ _ h => h) (by kernel_rfl) (fun X hX => by clear hX; first | rfl | go_simp) hHeld ?_
              simp only [Act.put, List.setIfInBounds_toArray, List.set_cons_zero, List.set_cons_succ]
              refine takeH 8 20 (.pointer (some (ad.add k))) rfl rfl (by kernel_rfl) (by kernel_rfl) (by kernel_rfl) (fun _ _ _ h => h) (by kernel_rfl) (fun X hX => by clear hX; first | rfl | go_simp) hHeld ?_
              simp only [Act.put, List.setIfInBounds_toArray, List.set_cons_zero, List.set_cons_succ]
              refine takeH 9 21 (.int .i64 a) rfl rfl (by kernel_rfl) (by kernel_rfl) (by kernel_rfl) (fun _ _ _ h => h) (by kernel_rfl) (fun X hX => by have q := (hX.cell (p := ad.add k) hba).trans hca; clear hX; go_simp) hHeld ?_
              simp only [Act.put, List.setIfInBounds_toArray, List.set_cons_zero, List.set_cons_succ]
              refine takeH 10 22 (.int .i64 e) rfl rfl (by kernel_rfl) (by kernel_rfl) (by kernel_rfl) (fun _ _ _ h => h) (by kernel_rfl) (fun X hX => by clear hX; first | rfl | go_simp) hHeld ?_
              simp only [Act.put, List.setIfInBounds_toArray, List.set_cons_zero, List.set_cons_succ]
              refine takeH 11 23 (.bool false) rfl rfl (by kernel_rfl) (by kernel_rfl) (by kernel_rfl) (fun _ _ _ h => h) (by kernel_rfl) (fun X hX => by clear hX; first | rfl | go_simp) hHeld ?_
              simp only [Act.put, List.setIfInBounds_toArray, List.set_cons_zero, List.set_cons_succ]
              refine takeH 12 24 (.bool false) rfl rfl (by kernel_rfl) (by kernel_rfl) (by kernel_rfl) (fun _ _ _ h => h) (by kernel_rfl) (fun X hX => by clear hX; first | rfl | go_simp) hHeld ?_
              simp only [Act.put, List.setIfInBounds_toArray, List.set_cons_zero, List.set_cons_succ]
              refine takeH 13 25 (.bool false) rfl rfl (by kernel_rfl) (by kernel_rfl) (by kernel_rfl) (fun _ _ _ h => h) (by kernel_rfl) (fun X hX => by clear hX; first | rfl | go_simp) hHeld ?_
              simp only [Act.put, List.setIfInBounds_toArray, List.set_cons_zero, List.set_cons_succ]
              refine takeH 14 26 (.int .i64 (k : Int)) rfl rfl (by kernel_rfl) (by kernel_rfl) (by kernel_rfl) (fun _ _ _ h => h) (by kernel_rfl) (fun X hX => by clear hX; first | rfl | go_simp) hHeld ?_
              simp only [Act.put, List.setIfInBounds_toArray, List.set_cons_zero, List.set_cons_succ]
              refine takeH 15 27 (.bool true) rfl rfl (by kernel_rfl) (by kernel_rfl) (by kernel_rfl) (fun _ _ _ h => h) (by kernel_rfl) (fun X hX => by clear hX; go_simp; omega) hHeld ?_
              simp only [Act.put, List.setIfInBounds_toArray, List.set_cons_zero, List.set_cons_succ]
              refine takeH 16 28 (.bool true) rfl rfl (by kernel_rfl) (by kernel_rfl) (by kernel_rfl) (fun _ _ _ h => h) (by kernel_rfl) (fun X hX => by clear hX; first | rfl | go_simp) hHeld ?_
              simp only [Act.put, List.setIfInBounds_toArray, List.set_cons_zero, List.set_cons_succ]
              refine takeH 17 29 (.slice (some ad) l.length c) rfl rfl (by kernel_rfl) (by kernel_rfl) (by kernel_rfl) (fun _ _ _ h => h) (by kernel_rfl) (fun X hX => by clear hX; first | rfl | go_simp) hHeld ?_
              simp only [Act.put, List.setIfInBounds_toArray, List.set_cons_zero, List.set_cons_succ]
              refine takeH 18 30 (.int .i64 (k : Int)) rfl rfl (by kernel_rfl) (by kernel_rfl) (by kernel_rfl) (fun _ _ _ h => h) (by kernel_rfl) (fun X hX => by clear hX; first | rfl | go_simp) hHeld ?_
              simp only [Act.put, List.setIfInBounds_toArray, List.set_cons_zero, List.set_cons_succ]
              refine takeH 19 31 (.pointer (some (ad.add k))) rfl rfl (by kernel_rfl) (by kernel_rfl) (by kernel_rfl) (fun _ _ _ h => h) (by kernel_rfl) (fun X hX => by clear hX; first | rfl | go_simp) hHeld ?_
              simp only [Act.put, List.setIfInBounds_toArray, List.set_cons_zero, List.set_cons_succ]
              refine takeH 20 32 (.int .i64 a) rfl rfl (by kernel_rfl) (by kernel_rfl) (by kernel_rfl) (fun _ _ _ h => h) (by kernel_rfl) (fun X hX => by have q := (hX.cell (p := ad.add k) hba).trans hca; clear hX; go_simp) hHeld ?_
              simp only [Act.put, List.setIfInBounds_toArray, List.set_cons_zero, List.set_cons_succ]
              refine takeH 21 33 (.slice (some ad) l.length c) rfl rfl (by kernel_rfl) (by kernel_rfl) (by kernel_rfl) (fun _ _ _ h => h) (by kernel_rfl) (fun X hX => by clear hX; first | rfl | go_simp) hHeld ?_
              simp only [Act.put, List.setIfInBounds_toArray, List.set_cons_zero, List.set_cons_succ]
              refine takeH 22 34 (.int .i64 (k : Int)) rfl rfl (by kernel_rfl) (by kernel_rfl) (by kernel_rfl) (fun _ _ _ h => h) (by kernel_rfl) (fun X hX => by clear hX; first | rfl | go_simp) hHeld ?_
              simp only [Act.put, List.setIfInBounds_toArray, List.set_cons_zero, List.set_cons_succ]
              refine takeH 23 35 (.int .i64 ((k - 1 : Nat) : Int)) rfl rfl (by kernel_rfl) (by kernel_rfl) (by kernel_rfl) (fun _ _ _ h => h) (by kernel_rfl) (fun X hX => by clear hX; go_simp; exact hk1.out) hHeld ?_
              simp only [Act.put, List.setIfInBounds_toArray, List.set_cons_zero, List.set_cons_succ]
              refine takeH 24 36 (.pointer (some (ad.add (k - 1)))) rfl rfl (by kernel_rfl) (by kernel_rfl) (by kernel_rfl) (fun _ _ _ h => h) (by kernel_rfl) (fun X hX => by clear hX; go_simp) hHeld ?_
              simp only [Act.put, List.setIfInBounds_toArray, List.set_cons_zero, List.set_cons_succ]
              refine takeH 25 37 (.int .i64 b) rfl rfl (by kernel_rfl) (by kernel_rfl) (by kernel_rfl) (fun _ _ _ h => h) (by kernel_rfl) (fun X hX => by have q := (hX.cell (p := ad.add (k - 1)) hbb).trans hcb; clear hX; go_simp) hHeld ?_
              simp only [Act.put, List.setIfInBounds_toArray, List.set_cons_zero, List.set_cons_succ]
              refine takeH 26 38 (.bool true) rfl rfl (by kernel_rfl) (by kernel_rfl) (by kernel_rfl) (fun _ _ _ h => h) (by kernel_rfl) (fun X hX => by clear hX; first | rfl | go_simp) hHeld ?_
              simp only [Act.put, List.setIfInBounds_toArray, List.set_cons_zero, List.set_cons_succ]
              refine takeH 27 39 (.bool true) rfl rfl (by kernel_rfl) (by kernel_rfl) (by kernel_rfl) (fun _ _ _ h => h) (by kernel_rfl) (fun X hX => by clear hX; first | rfl | go_simp) hHeld ?_
              simp only [Act.put, List.setIfInBounds_toArray, List.set_cons_zero, List.set_cons_succ]
              refine takeH 28 40 (.bool true) rfl rfl (by kernel_rfl) (by kernel_rfl) (by kernel_rfl) (fun _ _ _ h => h) (by kernel_rfl) (fun X hX => by clear hX; first | rfl | go_simp) hHeld ?_
              simp only [Act.put, List.setIfInBounds_toArray, List.set_cons_zero, List.set_cons_succ]
              refine wpAnyH_done (by kernel_rfl) ?_ _
              go_wp2_with fail
              go_ret
              exact Did.mk (by rw [Hbad.out (by rw [Hok.out]; simp only [Bool.and_eq_false_iff, Bool.or_eq_false_iff, decide_eq_false_iff_not]; omega)]; rfl) KB.out.drew
            · clear Hbad
              refine wp_region_held_drew (S := fun X => Below w.heap.size w X) (by kernel_rfl) KB.out.drew (fun hHeld => ?_)
              refine takeH 0 12 (.slice (some ad) l.length c) rfl rfl (by kernel_rfl) (by kernel_rfl) (by kernel_rfl) (fun _ _ _ h => h) (by kernel_rfl) (fun X hX => by clear hX; first | rfl | go_simp) hHeld ?_
              simp only [Act.put, List.setIfInBounds_toArray, List.set_cons_zero, List.set_cons_succ]
              refine takeH 1 13 (.int .i64 (k : Int)) rfl rfl (by kernel_rfl) (by kernel_rfl) (by kernel_rfl) (fun _ _ _ h => h) (by kernel_rfl) (fun X hX => by clear hX; first | rfl | go_simp) hHeld ?_
              simp only [Act.put, List.setIfInBounds_toArray, List.set_cons_zero, List.set_cons_succ]
              refine takeH 2 14 (.pointer (some (ad.add k))) rfl rfl (by kernel_rfl) (by kernel_rfl) (by kernel_rfl) (fun _ _ _ h => h) (by kernel_rfl) (fun X hX => by clear hX; first | rfl | go_simp) hHeld ?_
              simp only [Act.put, List.setIfInBounds_toArray, List.set_cons_zero, List.set_cons_succ]
              refine takeH 3 15 (.int .i64 a) rfl rfl (by kernel_rfl) (by kernel_rfl) (by kernel_rfl) (fun _ _ _ h => h) (by kernel_rfl) (fun X hX => by have q := (hX.cell (p := ad.add k) hba).trans hca; clear hX; go_simp) hHeld ?_
              simp only [Act.put, List.setIfInBounds_toArray, List.set_cons_zero, List.set_cons_succ]
              refine takeH 4 16 (.bool false) rfl rfl (by kernel_rfl) (by kernel_rfl) (by kernel_rfl) (fun _ _ _ h => h) (by kernel_rfl) (fun X hX => by clear hX; first | rfl | go_simp) hHeld ?_
              simp only [Act.put, List.setIfInBounds_toArray, List.set_cons_zero, List.set_cons_succ]
              refine takeH 5 17 (.bool false) rfl rfl (by kernel_rfl) (by kernel_rfl) (by kernel_rfl) (fun _ _ _ h => h) (by kernel_rfl) (fun X hX => by clear hX; first | rfl | go_simp) hHeld ?_
              simp only [Act.put, List.setIfInBounds_toArray, List.set_cons_zero, List.set_cons_succ]
              refine takeH 6 18 (.slice (some ad) l.length c) rfl rfl (by kernel_rfl) (by kernel_rfl) (by kernel_rfl) (fun _ _ _ h => h) (by kernel_rfl) (fun X hX => by clear hX; first | rfl | go_simp) hHeld ?_
              simp only [Act.put, List.setIfInBounds_toArray, List.set_cons_zero, List.set_cons_succ]
              refine takeH 7 19 (.int .i64 (k : Int)) rfl rfl (by kernel_rfl) (by kernel_rfl) (by kernel_rfl) (fun _ _ _ h => h) (by kernel_rfl) (fun X hX => by clear hX; first | rfl | go_simp) hHeld ?_
              simp only [Act.put, List.setIfInBounds_toArray, List.set_cons_zero, List.set_cons_succ]
              refine takeH 8 20 (.pointer (some (ad.add k))) rfl rfl (by kernel_rfl) (by kernel_rfl) (by kernel_rfl) (fun _ _ _ h => h) (by kernel_rfl) (fun X hX => by clear hX; first | rfl | go_simp) hHeld ?_
              simp only [Act.put, List.setIfInBounds_toArray, List.set_cons_zero, List.set_cons_succ]
              refine takeH 9 21 (.int .i64 a) rfl rfl (by kernel_rfl) (by kernel_rfl) (by kernel_rfl) (fun _ _ _ h => h) (by kernel_rfl) (fun X hX => by have q := (hX.cell (p := ad.add k) hba).trans hca; clear hX; go_simp) hHeld ?_
              simp only [Act.put, List.setIfInBounds_toArray, List.set_cons_zero, List.set_cons_succ]
              refine takeH 10 22 (.int .i64 e) rfl rfl (by kernel_rfl) (by kernel_rfl) (by kernel_rfl) (fun _ _ _ h => h) (by kernel_rfl) (fun X hX => by clear hX; first | rfl | go_simp) hHeld ?_
              simp only [Act.put, List.setIfInBounds_toArray, List.set_cons_zero, List.set_cons_succ]
              refine takeH 11 23 (.bool false) rfl rfl (by kernel_rfl) (by kernel_rfl) (by kernel_rfl) (fun _ _ _ h => h) (by kernel_rfl) (fun X hX => by clear hX; first | rfl | go_simp) hHeld ?_
              simp only [Act.put, List.setIfInBounds_toArray, List.set_cons_zero, List.set_cons_succ]
              refine takeH 12 24 (.bool false) rfl rfl (by kernel_rfl) (by kernel_rfl) (by kernel_rfl) (fun _ _ _ h => h) (by kernel_rfl) (fun X hX => by clear hX; first | rfl | go_simp) hHeld ?_
              simp only [Act.put, List.setIfInBounds_toArray, List.set_cons_zero, List.set_cons_succ]
              refine takeH 13 25 (.bool false) rfl rfl (by kernel_rfl) (by kernel_rfl) (by kernel_rfl) (fun _ _ _ h => h) (by kernel_rfl) (fun X hX => by clear hX; first | rfl | go_simp) hHeld ?_
              simp only [Act.put, List.setIfInBounds_toArray, List.set_cons_zero, List.set_cons_succ]
              refine takeH 14 26 (.int .i64 (k : Int)) rfl rfl (by kernel_rfl) (by kernel_rfl) (by kernel_rfl) (fun _ _ _ h => h) (by kernel_rfl) (fun X hX => by clear hX; first | rfl | go_simp) hHeld ?_
              simp only [Act.put, List.setIfInBounds_toArray, List.set_cons_zero, List.set_cons_succ]
              refine takeH 15 27 (.bool true) rfl rfl (by kernel_rfl) (by kernel_rfl) (by kernel_rfl) (fun _ _ _ h => h) (by kernel_rfl) (fun X hX => by clear hX; go_simp; omega) hHeld ?_
              simp only [Act.put, List.setIfInBounds_toArray, List.set_cons_zero, List.set_cons_succ]
              refine takeH 16 28 (.bool true) rfl rfl (by kernel_rfl) (by kernel_rfl) (by kernel_rfl) (fun _ _ _ h => h) (by kernel_rfl) (fun X hX => by clear hX; first | rfl | go_simp) hHeld ?_
              simp only [Act.put, List.setIfInBounds_toArray, List.set_cons_zero, List.set_cons_succ]
              refine takeH 17 29 (.slice (some ad) l.length c) rfl rfl (by kernel_rfl) (by kernel_rfl) (by kernel_rfl) (fun _ _ _ h => h) (by kernel_rfl) (fun X hX => by clear hX; first | rfl | go_simp) hHeld ?_
              simp only [Act.put, List.setIfInBounds_toArray, List.set_cons_zero, List.set_cons_succ]
              refine takeH 18 30 (.int .i64 (k : Int)) rfl rfl (by kernel_rfl) (by kernel_rfl) (by kernel_rfl) (fun _ _ _ h => h) (by kernel_rfl) (fun X hX => by clear hX; first | rfl | go_simp) hHeld ?_
              simp only [Act.put, List.setIfInBounds_toArray, List.set_cons_zero, List.set_cons_succ]
              refine takeH 19 31 (.pointer (some (ad.add k))) rfl rfl (by kernel_rfl) (by kernel_rfl) (by kernel_rfl) (fun _ _ _ h => h) (by kernel_rfl) (fun X hX => by clear hX; first | rfl | go_simp) hHeld ?_
              simp only [Act.put, List.setIfInBounds_toArray, List.set_cons_zero, List.set_cons_succ]
              refine takeH 20 32 (.int .i64 a) rfl rfl (by kernel_rfl) (by kernel_rfl) (by kernel_rfl) (fun _ _ _ h => h) (by kernel_rfl) (fun X hX => by have q := (hX.cell (p := ad.add k) hba).trans hca; clear hX; go_simp) hHeld ?_
              simp only [Act.put, List.setIfInBounds_toArray, List.set_cons_zero, List.set_cons_succ]
              refine takeH 21 33 (.slice (some ad) l.length c) rfl rfl (by kernel_rfl) (by kernel_rfl) (by kernel_rfl) (fun _ _ _ h => h) (by kernel_rfl) (fun X hX => by clear hX; first | rfl | go_simp) hHeld ?_
              simp only [Act.put, List.setIfInBounds_toArray, List.set_cons_zero, List.set_cons_succ]
              refine takeH 22 34 (.int .i64 (k : Int)) rfl rfl (by kernel_rfl) (by kernel_rfl) (by kernel_rfl) (fun _ _ _ h => h) (by kernel_rfl) (fun X hX => by clear hX; first | rfl | go_simp) hHeld ?_
              simp only [Act.put, List.setIfInBounds_toArray, List.set_cons_zero, List.set_cons_succ]
              refine takeH 23 35 (.int .i64 ((k - 1 : Nat) : Int)) rfl rfl (by kernel_rfl) (by kernel_rfl) (by kernel_rfl) (fun _ _ _ h => h) (by kernel_rfl) (fun X hX => by clear hX; go_simp; exact hk1.out) hHeld ?_
              simp only [Act.put, List.setIfInBounds_toArray, List.set_cons_zero, List.set_cons_succ]
              refine takeH 24 36 (.pointer (some (ad.add (k - 1)))) rfl rfl (by kernel_rfl) (by kernel_rfl) (by kernel_rfl) (fun _ _ _ h => h) (by kernel_rfl) (fun X hX => by clear hX; go_simp) hHeld ?_
              simp only [Act.put, List.setIfInBounds_toArray, List.set_cons_zero, List.set_cons_succ]
              refine takeH 25 37 (.int .i64 b) rfl rfl (by kernel_rfl) (by kernel_rfl) (by kernel_rfl) (fun _ _ _ h => h) (by kernel_rfl) (fun X hX => by have q := (hX.cell (p := ad.add (k - 1)) hbb).trans hcb; clear hX; go_simp) hHeld ?_
              simp only [Act.put, List.setIfInBounds_toArray, List.set_cons_zero, List.set_cons_succ]
              refine takeH 26 38 (.bool false) rfl rfl (by kernel_rfl) (by kernel_rfl) (by kernel_rfl) (fun _ _ _ h => h) (by kernel_rfl) (fun X hX => by clear hX; first | rfl | go_simp) hHeld ?_
              simp only [Act.put, List.setIfInBounds_toArray, List.set_cons_zero, List.set_cons_succ]
              refine takeH 27 39 (.bool false) rfl rfl (by kernel_rfl) (by kernel_rfl) (by kernel_rfl) (fun _ _ _ h => h) (by kernel_rfl) (fun X hX => by clear hX; first | rfl | go_simp) hHeld ?_
              simp only [Act.put, List.setIfInBounds_toArray, List.set_cons_zero, List.set_cons_succ]
              refine takeH 28 40 (.bool false) rfl rfl (by kernel_rfl) (by kernel_rfl) (by kernel_rfl) (fun _ _ _ h => h) (by kernel_rfl) (fun X hX => by clear hX; first | rfl | go_simp) hHeld ?_
              simp only [Act.put, List.setIfInBounds_toArray, List.set_cons_zero, List.set_cons_succ]
              refine wpAnyH_done (by kernel_rfl) ?_ _
              go_wp2_with fail
              exact ⟨⟨k + 1, by go_num, by omega, hid KB.out.drew, hid (Hnext.out (by rw [Hok.out]; simp only [Bool.and_eq_true, Bool.or_eq_true, decide_eq_true_iff]; omega))⟩, by simp [intOf]; omega⟩
    · have Hr := hid (Hyes.out (fun i hi => hsame.out i (by omega)))
      have b2 : ¬ (k : Int) < l.length := by omega
      clear Hyes Hno hsame
      go_wp2_with fail
      go_ret
      exact Did.mk (by rw [Hr.out]; rfl) KB.out
end Go.Proofs.YtgmgccepmalahaaGreat
namespace Go.Proofs.YtgmgccepmalahaaGreat
open Go.RowKit
open Whn (Gr Wh)

structure Se where
  t : Int
  p : Int
abbrev sv (s : Se) : Value := .agg #[.int .i64 s.t, .int .i64 s.p]
abbrev sc (s : Se) : List Value := [.int .i64 s.t, .int .i64 s.p]
def Sok (s : Se) : Prop := I64 s.t ∧ I64 s.p
theorem Mem.se {w X : World} {l : Obs} (h : Mem w X l) {B : Nat} {s : Se} {t : TypeId} (hm : (B, sc s, t) ∈ l) : X.cell? ⟨B, 0, none⟩ = some (.int .i64 s.t) ∧ X.cell? ⟨B, 1, none⟩ = some (.int .i64 s.p) := ⟨h.cell hm rfl, h.cell hm rfl⟩
def seatB (x : Cl) (s : Se) : Bool := decide (-1 ≤ s.t) && decide (s.t < (x.t.length : Nat)) && decide (-1 ≤ s.p) && decide (s.p < (x.l.length : Nat))
def wholeB (x : Cl) (s : Se) : Bool := seatB x s && (s.t != -1) && ((s.p != -1) || ((x.l.length : Int) == 0))
def costB (n : Int) : Bool := decide (0 ≤ n) && decide (n ≤ 1000)
theorem seatB_iff (x : Cl) (s : Se) : seatB x s = true ↔ -1 ≤ s.t ∧ s.t < (x.t.length : Nat) ∧ -1 ≤ s.p ∧ s.p < (x.l.length : Nat) := by
  unfold seatB
  simp only [Bool.and_eq_true, decide_eq_true_iff, and_assoc]
set_option maxRecDepth 4000 in
theorem r_cost (n : Int) (w : World) : Calls Tryz.prog 214 #[.int .i64 n] w (fun e w' => e = .returned (.bool (costB n)) ∧ w = w') := by
  have Hr := hid (show costB n = (decide (0 ≤ n) && decide (n ≤ 1000)) from rfl)
  by_cases h1 : 0 ≤ n
  · rw [decide_eq_true h1, Bool.true_and] at Hr
    go_enter Tryz.func214, Tryz.ntmps214
    go_wp2_with fail
    go_ret
    exact ⟨by rw [Hr.out]; rfl, rfl⟩
  · rw [decide_eq_false h1, Bool.false_and] at Hr
    go_enter Tryz.func214, Tryz.ntmps214
    go_wp2_with fail
    go_ret
    exact ⟨by rw [Hr.out]; rfl, rfl⟩
set_option maxRecDepth 8000 in
set_option maxHeartbeats 2000000 in
theorem r_Seat (x : Cl) (r : Cw) (s : Se) (w : World) : Calls Tryz.prog 194 #[cv x r, sv s] w (Did (.bool (seatB x s)) w) := by
  have Hr := hid (show seatB x s = (decide (-1 ≤ s.t) && decide (s.t < (x.t.length : Nat)) && decide (-1 ≤ s.p) && decide (s.p < (x.l.length : Nat))) from rfl)
  generalize seatB x s = q at *
  obtain ⟨B, W, hB, hW, K, z0⟩ := (Mem.nil w).one (ccl x r) 62
  obtain ⟨D, V, hD, hV, K1, z1⟩ := K.out.one (sc s) 175
  clear K z0 z1
  obtain ⟨_, _, _, _, e4, e5, _⟩ := K1.out.cl (B := B) (x := x) (r := r) (t := 62) (by simp)
  obtain ⟨d0, d1⟩ := K1.out.se (B := D) (s := s) (t := 175) (by simp)
  by_cases h1 : -1 ≤ s.t
  · by_cases h2 : s.t < (x.t.length : Nat)
    · by_cases h3 : -1 ≤ s.p
      · by_cases h4 : s.p < (x.l.length : Nat)
        · rw [decide_eq_true h1, decide_eq_true h2, decide_eq_true h3, decide_eq_true h4] at Hr
          go_enter Tryz.func194, Tryz.ntmps194
          go_wp2_with fail
          go_ret
          exact Did.mk (by rw [Hr.out]; rfl) K1.out.2
        · rw [decide_eq_true h1, decide_eq_true h2, decide_eq_true h3, decide_eq_false h4] at Hr
          go_enter Tryz.func194, Tryz.ntmps194
          go_wp2_with fail
          go_ret
          exact Did.mk (by rw [Hr.out]; rfl) K1.out.2
      · rw [decide_eq_true h1, decide_eq_true h2, decide_eq_false h3] at Hr
        go_enter Tryz.func194, Tryz.ntmps194
        go_wp2_with fail
        go_ret
        exact Did.mk (by rw [Hr.out]; rfl) K1.out.2
    · rw [decide_eq_true h1, decide_eq_false h2] at Hr
      go_enter Tryz.func194, Tryz.ntmps194
      go_wp2_with fail
      go_ret
      exact Did.mk (by rw [Hr.out]; rfl) K1.out.2
  · rw [decide_eq_false h1] at Hr
    go_enter Tryz.func194, Tryz.ntmps194
    go_wp2_with fail
    go_ret
    exact Did.mk (by rw [Hr.out]; rfl) K1.out.2
set_option maxRecDepth 8000 in
set_option maxHeartbeats 2000000 in
theorem r_Whole (x : Cl) (r : Cw) (s : Se) (w : World) : Calls Tryz.prog 163 #[cv x r, sv s] w (Did (.bool (wholeB x s)) w) := by
  have HS := hid (fun X => r_Seat x r s X)
  have Hr := hid (show wholeB x s = (seatB x s && (s.t != -1) && ((s.p != -1) || ((x.l.length : Int) == 0))) from rfl)
  generalize wholeB x s = q at *
  generalize seatB x s = se at *
  obtain ⟨B, W, hB, hW, K, z0⟩ := (Mem.nil w).one (ccl x r) 62
  obtain ⟨D, V, hD, hV, K1, z1⟩ := K.out.one (sc s) 175
  clear K z0 z1
  obtain ⟨e0, e1, e2, e3, e4, e5, e6⟩ := K1.out.cl (B := B) (x := x) (r := r) (t := 62) (by simp)
  obtain ⟨d0, d1⟩ := K1.out.se (B := D) (s := s) (t := 175) (by simp)
  go_enter Tryz.func163, Tryz.ntmps163
  go_wp2_with fail
  refine (HS.out _).mono ?_
  rintro e Y1 ⟨rfl, b1⟩
  have K2 := hid (K1.out.next b1)
  clear e0 e1 e2 e3 e4 e5 e6 d0 d1 b1 K1
  obtain ⟨_, _, _, _, e4, e5, _⟩ := K2.out.cl (B := B) (x := x) (r := r) (t := 62) (by simp)
  obtain ⟨d0, d1⟩ := K2.out.se (B := D) (s := s) (t := 175) (by simp)
  cases se with
  | false =>
    go_wp2_with fail
    go_ret
    exact Did.mk (by rw [Hr.out]; rfl) K2.out.2
  | true =>
    cases h1 : s.t != -1 with
    | false =>
      rw [h1] at Hr
      go_wp2_with fail
      go_ret
      exact Did.mk (by rw [Hr.out]; rfl) K2.out.2
    | true =>
      rw [h1] at Hr
      cases h2 : s.p != -1 with
      | true =>
        rw [h2] at Hr
        go_wp2_with fail
        go_ret
        exact Did.mk (by rw [Hr.out]; rfl) K2.out.2
      | false =>
        rw [h2] at Hr
        go_wp2_with fail
        go_ret
        exact Did.mk (by rw [Hr.out]; rfl) K2.out.2
def costT (x : Cl) (s : Se) : Int := if seatB x s && decide (0 ≤ s.t) then (x.t.getD s.t.toNat ⟨⟨0, 0, 0, 0⟩, 0⟩).c else 0
def costP (x : Cl) (s : Se) : Int := if seatB x s && decide (0 ≤ s.p) then (x.l.getD s.p.toNat ⟨0, 0⟩).c else 0
/-- the cells of a time in a class's row -/
theorem tm_cell {w : World} {B : Nat} {A : Option Addr} {l : List Tm} (h : Es enT w B A l) {i : Int} (h0 : 0 ≤ i) (h1 : i < (l.length : Nat)) :
    ∃ ad k y, i = ((k : Nat) : Int) ∧ A = some ad ∧ Hid (l.getD i.toNat ⟨⟨0, 0, 0, 0⟩, 0⟩ = y) ∧ Hid (l[k]? = some y) ∧ k < l.length ∧
      w.cell? (ad.add (k * 5)) = some (.int .u32 (y.w.w : Int)) ∧ w.cell? ⟨(ad.add (k * 5)).block, (ad.add (k * 5)).off + 1, none⟩ = some (.int .u8 (y.w.d : Int)) ∧ w.cell? ⟨(ad.add (k * 5)).block, (ad.add (k * 5)).off + 2, none⟩ = some (.int .i64 y.w.s) ∧
      w.cell? ⟨(ad.add (k * 5)).block, (ad.add (k * 5)).off + 3, none⟩ = some (.int .i64 y.w.l) ∧ w.cell? ⟨(ad.add (k * 5)).block, (ad.add (k * 5)).off + 4, none⟩ = some (.int .i64 y.c) := by
  obtain ⟨k, rfl⟩ := Int.eq_ofNat_of_zero_le h0
  have hk : k < l.length := by omega
  obtain ⟨ad, y, hA, _, hy, _, hc⟩ := Es.get enT_len (by decide) h hk
  have c0 := hc 0 _ rfl
  have c1 := hc 1 _ rfl
  have c2 := hc 2 _ rfl
  have c3 := hc 3 _ rfl
  have c4 := hc 4 _ rfl
  rw [Nat.add_zero] at c0
  rw [add_add _ _ _ (by omega)] at c1 c2 c3 c4
  exact ⟨ad, k, y, rfl, hA, by rw [Int.toNat_natCast, List.getD_eq_getElem?_getD, hy.out]; exact hid rfl, hy, hk, c0, c1, c2, c3, c4⟩
theorem pl_cell {w : World} {B : Nat} {A : Option Addr} {l : List Pl} (h : Es enP w B A l) {i : Int} (h0 : 0 ≤ i) (h1 : i < (l.length : Nat)) :
    ∃ ad k y, i = ((k : Nat) : Int) ∧ A = some ad ∧ Hid (l.getD i.toNat ⟨0, 0⟩ = y) ∧ Hid (l[k]? = some y) ∧ k < l.length ∧
      w.cell? (ad.add (k * 2)) = some (.int .i64 y.r) ∧ w.cell? ⟨(ad.add (k * 2)).block, (ad.add (k * 2)).off + 1, none⟩ = some (.int .i64 y.c) := by
  obtain ⟨k, rfl⟩ := Int.eq_ofNat_of_zero_le h0
  have hk : k < l.length := by omega
  obtain ⟨ad, y, hA, _, hy, _, hc⟩ := Es.get enP_len (by decide) h hk
  have c0 := hc 0 _ rfl
  have c1 := hc 1 _ rfl
  rw [Nat.add_zero] at c0
  rw [add_add _ _ _ (by omega)] at c1
  exact ⟨ad, k, y, rfl, hA, by rw [Int.toNat_natCast, List.getD_eq_getElem?_getD, hy.out]; exact hid rfl, hy, hk, c0, c1⟩
end Go.Proofs.YtgmgccepmalahaaGreat
namespace Go.Proofs.YtgmgccepmalahaaGreat
open Go.RowKit
open Whn (Gr Wh)

def plAt (l : List Pl) (i : Nat) : Pl := l.getD i ⟨0, 0⟩
def freshP (l : List Pl) (i k : Nat) : Bool := (List.range k).all fun m => !((plAt l m).r == (plAt l i).r)
def okPl (n : Int) (l : List Pl) (i : Nat) : Bool := decide (0 ≤ (plAt l i).r) && decide ((plAt l i).r < n) && costB (plAt l i).c && freshP l i i
def placesB (n : Int) (l : List Pl) : Bool := (List.range l.length).all (okPl n l) && decide ((l.length : Int) ≤ 12)
theorem plAt_of {l : List Pl} {i : Nat} {y : Pl} (h : l[i]? = some y) : plAt l i = y := by unfold plAt; rw [List.getD_eq_getElem?_getD, h]; rfl
theorem freshP_succ (l : List Pl) (i k : Nat) : freshP l i (k + 1) = (freshP l i k && !((plAt l k).r == (plAt l i).r)) := by
  unfold freshP
  rw [List.range_succ, List.all_append, List.all_cons, List.all_nil, Bool.and_true]
theorem freshP_no {l : List Pl} {i k m : Nat} (hm : m < k) (h : ((plAt l m).r == (plAt l i).r) = true) : freshP l i k = false := by
  unfold freshP
  rw [List.all_eq_false]
  exact ⟨m, List.mem_range.2 hm, by rw [h]; simp⟩
theorem placesB_yes {n : Int} {l : List Pl} (h : ∀ i, i < l.length → okPl n l i = true) : placesB n l = decide ((l.length : Int) ≤ 12) := by
  unfold placesB
  rw [List.all_eq_true.2 (fun i hi => h i (List.mem_range.1 hi)), Bool.true_and]
theorem placesB_no {n : Int} {l : List Pl} {i : Nat} (hi : i < l.length) (h : okPl n l i = false) : placesB n l = false := by
  unfold placesB
  rw [List.all_eq_false.2 ⟨i, List.mem_range.2 hi, by rw [h]; simp⟩, Bool.false_and]
set_option maxRecDepth 20000 in
set_option maxHeartbeats 4000000 in
theorem r_places (n : Int) (A : Option Addr) (c : Nat) (l : List Pl) (hm : l.length ≤ maxLen) (w : World) (h : Es enP w w.heap.size A l) : Calls Tryz.prog 190 #[.int .i64 n, .slice A l.length c] w (Did (.bool (placesB n l)) w) := by
  unfold maxLen at hm
  have H := hid h
  have HC := hid (fun n X => r_cost n X)
  have Hyes := hid (fun h => placesB_yes (n := n) (l := l) h)
  have Hno := hid (fun i hi h => placesB_no (n := n) (l := l) (i := i) hi h)
  generalize placesB n l = rr at *
  clear h
  go_enter Tryz.func190, Tryz.ntmps190
  go_wp2_with fail
  go_loopw [5] (fun i wr => ∃ (k : Nat), i = .int .i64 k ∧ k ≤ l.length ∧ Hid (Below w.heap.size w wr) ∧ Hid (∀ i, i < k → okPl n l i = true)) (fun i _ => l.length - (intOf i).toNat)
  case atStart => exact ⟨0, rfl, Nat.zero_le _, hid (Below.refl _ _), hid (fun i hi => absurd hi (Nat.not_lt_zero i))⟩
  case round =>
    obtain ⟨k, rfl, hk, KB, hsame⟩ := hrel
    by_cases hlt : k < l.length
    · obtain ⟨ad, y, rfl, hadb, hy, _, hcell⟩ := Es.get enP_len (by decide) H.out hlt
      have b1 : (0 : Int) ≤ (k : Int) := by omega
      have b2 : (k : Int) < l.length := by omega
      have hbk : (ad.add (k * 2)).block < w.heap.size := by rw [add_block]; exact hadb
      have hcr : w.cell? (ad.add (k * 2)) = some (.int .i64 y.r) := by have := hcell 0 _ rfl; rwa [Nat.add_zero] at this
      have hcc : w.cell? ⟨(ad.add (k * 2)).block, (ad.add (k * 2)).off + 1, none⟩ = some (.int .i64 y.c) := by have := hcell 1 _ rfl; rwa [add_add _ _ _ (by omega)] at this
      have d0 := (KB.out.cell hbk).trans hcr
      have d1 := (KB.out.cell (p := ⟨(ad.add (k * 2)).block, (ad.add (k * 2)).off + 1, none⟩) hbk).trans hcc
      have Hnext := hid (fun (h : okPl n l k = true) => show ∀ i, i < k + 1 → okPl n l i = true from fun i hi => by
        rcases Nat.lt_or_ge i k with h' | h'
        · exact hsame.out i h'
        · obtain rfl : i = k := by omega
          exact h)
      have Hbad := hid (fun (h : okPl n l k = false) => Hno.out k hlt h)
      have Hok := hid (show okPl n l k = (decide (0 ≤ y.r) && decide (y.r < n) && costB y.c && freshP l k k) by unfold okPl; rw [plAt_of hy.out])
      have HC1 := hid (fun X => HC.out y.c X)
      clear hcell hsame
      by_cases c1 : y.r < 0
      · have c1' : ¬ 0 ≤ y.r := by omega
        have hb := hid (Hbad.out (by rw [Hok.out, decide_eq_false c1']; simp))
        clear Hyes Hno Hbad Hnext Hok
        go_wp2_with fail
        go_ret
        exact Did.mk (by rw [hb.out]; rfl) KB.out
      · by_cases c2 : n ≤ y.r
        · have c2' : ¬ y.r < n := by omega
          have hb := hid (Hbad.out (by rw [Hok.out, decide_eq_false c2']; simp))
          clear Hyes Hno Hbad Hnext Hok
          go_wp2_with fail
          go_ret
          exact Did.mk (by rw [hb.out]; rfl) KB.out
        · rw [decide_eq_true (show 0 ≤ y.r by omega), decide_eq_true (show y.r < n by omega), Bool.true_and, Bool.true_and] at Hok
          cases hcb : costB y.c with
          | false =>
            have hb := hid (Hbad.out (by rw [Hok.out, hcb, Bool.false_and]))
            rw [hcb] at HC1
            clear Hyes Hno Hbad Hnext Hok hcb
            go_wp2_with fail
            refine (HC1.out _).mono ?_
            rintro e Y1 ⟨rfl, rfl⟩
            go_wp2_with fail
            go_ret
            exact Did.mk (by rw [hb.out]; rfl) KB.out
          | true =>
            rw [hcb, Bool.true_and] at Hok
            rw [hcb] at HC1
            have Hno1 := hid (fun m (hm : m < k) (h : ((plAt l m).r == y.r) = true) => Hbad.out (by rw [Hok.out]; exact freshP_no hm (by rw [plAt_of hy.out]; exact h)))
            have Hfs := hid (fun m => freshP_succ l k m)
            have Hf0 := hid (show freshP l k 0 = true from rfl)
            clear Hbad hcb
            go_wp2_with fail
            refine (HC1.out _).mono ?_
            rintro e Y1 ⟨rfl, rfl⟩
            go_wp2_with fail
            go_loopw [6] (fun i wr2 => ∃ (m : Nat), i = .int .i64 m ∧ m ≤ k ∧ Hid (Below w.heap.size w wr2) ∧ Hid (freshP l k m = true)) (fun i _ => k - (intOf i).toNat)
            case atStart => exact ⟨0, rfl, Nat.zero_le _, KB, Hf0⟩
            case round =>
              clear d0 d1
              obtain ⟨m, rfl, hmk, KB2, hfr⟩ := hrel
              by_cases hml : m < k
              · obtain ⟨ad', z, hae, _, hz, _, hcell2⟩ := Es.get enP_len (by decide) H.out (show m < l.length by omega)
                injection hae with hae
                subst hae
                have hbm : (ad.add (m * 2)).block < w.heap.size := by rw [add_block]; exact hadb
                have hcm : w.cell? (ad.add (m * 2)) = some (.int .i64 z.r) := by have := hcell2 0 _ rfl; rwa [Nat.add_zero] at this
                have b3 : (0 : Int) ≤ (m : Int) := by omega
                have b4 : (m : Int) < l.length := by omega
                have b5 : (m : Int) < (k : Int) := by omega
                clear hcell2
                cases hzy : z.r == y.r with
                | true =>
                  have hb := hid (Hno1.out m hml (by rw [plAt_of hz.out]; exact hzy))
                  clear Hyes Hno Hnext Hok Hno1 Hfs Hf0
                  go_wp2_with fail
                  refine wp_region_held_drew (S := fun X => Below w.heap.size w X) (by kernel_rfl) KB2.out.drew (fun hHeld => ?_)
                  refine takeH 0 42 (.slice (some ad) l.length c) rfl rfl (by kernel_rfl) (by kernel_rfl) (by kernel_rfl) (fun _ _ _ h => h) (by kernel_rfl) (fun X hX => by clear hX; first | rfl | go_simp) hHeld ?_
                  simp only [Act.put, List.setIfInBounds_toArray, List.set_cons_zero, List.set_cons_succ]
                  refine takeH 1 43 (.int .i64 (m : Int)) rfl rfl (by kernel_rfl) (by kernel_rfl) (by kernel_rfl) (fun _ _ _ h => h) (by kernel_rfl) (fun X hX => by clear hX; first | rfl | go_simp) hHeld ?_
                  simp only [Act.put, List.setIfInBounds_toArray, List.set_cons_zero, List.set_cons_succ]
                  refine takeH 2 44 (.pointer (some (ad.add (m * 2)))) rfl rfl (by kernel_rfl) (by kernel_rfl) (by kernel_rfl) (fun _ _ _ h => h) (by kernel_rfl) (fun X hX => by clear hX; first | rfl | go_simp) hHeld ?_
                  simp only [Act.put, List.setIfInBounds_toArray, List.set_cons_zero, List.set_cons_succ]
                  refine takeH 3 45 (.pointer (some (ad.add (m * 2)))) rfl rfl (by kernel_rfl) (by kernel_rfl) (by kernel_rfl) (fun _ _ _ h => h) (by kernel_rfl) (fun X hX => by clear hX; first | rfl | go_simp) hHeld ?_
                  simp only [Act.put, List.setIfInBounds_toArray, List.set_cons_zero, List.set_cons_succ]
                  refine takeH 4 46 (.int .i64 z.r) rfl rfl (by kernel_rfl) (by kernel_rfl) (by kernel_rfl) (fun _ _ _ h => h) (by kernel_rfl) (fun X hX => by have q := (hX.cell (p := ad.add (m * 2)) hbm).trans hcm; clear hX; go_simp) hHeld ?_
                  simp only [Act.put, List.setIfInBounds_toArray, List.set_cons_zero, List.set_cons_succ]
                  refine takeH 5 47 (.slice (some ad) l.length c) rfl rfl (by kernel_rfl) (by kernel_rfl) (by kernel_rfl) (fun _ _ _ h => h) (by kernel_rfl) (fun X hX => by clear hX; first | rfl | go_simp) hHeld ?_
                  simp only [Act.put, List.setIfInBounds_toArray, List.set_cons_zero, List.set_cons_succ]
                  refine takeH 6 48 (.int .i64 (k : Int)) rfl rfl (by kernel_rfl) (by kernel_rfl) (by kernel_rfl) (fun _ _ _ h => h) (by kernel_rfl) (fun X hX => by clear hX; first | rfl | go_simp) hHeld ?_
                  simp only [Act.put, List.setIfInBounds_toArray, List.set_cons_zero, List.set_cons_succ]
                  refine takeH 7 49 (.pointer (some (ad.add (k * 2)))) rfl rfl (by kernel_rfl) (by kernel_rfl) (by kernel_rfl) (fun _ _ _ h => h) (by kernel_rfl) (fun X hX => by clear hX; first | rfl | go_simp) hHeld ?_
                  simp only [Act.put, List.setIfInBounds_toArray, List.set_cons_zero, List.set_cons_succ]
                  refine takeH 8 50 (.pointer (some (ad.add (k * 2)))) rfl rfl (by kernel_rfl) (by kernel_rfl) (by kernel_rfl) (fun _ _ _ h => h) (by kernel_rfl) (fun X hX => by clear hX; first | rfl | go_simp) hHeld ?_
                  simp only [Act.put, List.setIfInBounds_toArray, List.set_cons_zero, List.set_cons_succ]
                  refine takeH 9 51 (.int .i64 y.r) rfl rfl (by kernel_rfl) (by kernel_rfl) (by kernel_rfl) (fun _ _ _ h => h) (by kernel_rfl) (fun X hX => by have q := (hX.cell (p := ad.add (k * 2)) hbk).trans hcr; clear hX; go_simp) hHeld ?_
                  simp only [Act.put, List.setIfInBounds_toArray, List.set_cons_zero, List.set_cons_succ]
                  refine takeH 10 52 (.bool true) rfl rfl (by kernel_rfl) (by kernel_rfl) (by kernel_rfl) (fun _ _ _ h => h) (by kernel_rfl) (fun X hX => by clear hX; first | rfl | go_simp) hHeld ?_
                  simp only [Act.put, List.setIfInBounds_toArray, List.set_cons_zero, List.set_cons_succ]
                  refine wpAnyH_done (by kernel_rfl) ?_ _
                  go_wp2_with fail
                  go_ret
                  exact Did.mk (by rw [hb.out]; rfl) KB2.out.drew
                | false =>
                  have hn := hid (show freshP l k (m + 1) = true by rw [Hfs.out m, hfr.out, plAt_of hz.out, plAt_of hy.out, hzy]; rfl)
                  clear Hyes Hno Hnext Hok Hno1 Hfs Hf0
                  go_wp2_with fail
                  refine wp_region_held_drew (S := fun X => Below w.heap.size w X) (by kernel_rfl) KB2.out.drew (fun hHeld => ?_)
                  refine takeH 0 42 (.slice (some ad) l.length c) rfl rfl (by kernel_rfl) (by kernel_rfl) (by kernel_rfl) (fun _ _ _ h => h) (by kernel_rfl) (fun X hX => by clear hX; first | rfl | go_simp) hHeld ?_
                  simp only [Act.put, List.setIfInBounds_toArray, List.set_cons_zero, List.set_cons_succ]
                  refine takeH 1 43 (.int .i64 (m : Int)) rfl rfl (by kernel_rfl) (by kernel_rfl) (by kernel_rfl) (fun _ _ _ h => h) (by kernel_rfl) (fun X hX => by clear hX; first | rfl | go_simp) hHeld ?_
                  simp only [Act.put, List.setIfInBounds_toArray, List.set_cons_zero, List.set_cons_succ]
                  refine takeH 2 44 (.pointer (some (ad.add (m * 2)))) rfl rfl (by kernel_rfl) (by kernel_rfl) (by kernel_rfl) (fun _ _ _ h => h) (by kernel_rfl) (fun X hX => by clear hX; first | rfl | go_simp) hHeld ?_
                  simp only [Act.put, List.setIfInBounds_toArray, List.set_cons_zero, List.set_cons_succ]
                  refine takeH 3 45 (.pointer (some (ad.add (m * 2)))) rfl rfl (by kernel_rfl) (by kernel_rfl) (by kernel_rfl) (fun _ _ _ h => h) (by kernel_rfl) (fun X hX => by clear hX; first | rfl | go_simp) hHeld ?_
                  simp only [Act.put, List.setIfInBounds_toArray, List.set_cons_zero, List.set_cons_succ]
                  refine takeH 4 46 (.int .i64 z.r) rfl rfl (by kernel_rfl) (by kernel_rfl) (by kernel_rfl) (fun _ _ _ h => h) (by kernel_rfl) (fun X hX => by have q := (hX.cell (p := ad.add (m * 2)) hbm).trans hcm; clear hX; go_simp) hHeld ?_
                  simp only [Act.put, List.setIfInBounds_toArray, List.set_cons_zero, List.set_cons_succ]
                  refine takeH 5 47 (.slice (some ad) l.length c) rfl rfl (by kernel_rfl) (by kernel_rfl) (by kernel_rfl) (fun _ _ _ h => h) (by kernel_rfl) (fun X hX => by clear hX; first | rfl | go_simp) hHeld ?_
                  simp only [Act.put, List.setIfInBounds_toArray, List.set_cons_zero, List.set_cons_succ]
                  refine takeH 6 48 (.int .i64 (k : Int)) rfl rfl (by kernel_rfl) (by kernel_rfl) (by kernel_rfl) (fun _ _ _ h => h) (by kernel_rfl) (fun X hX => by clear hX; first | rfl | go_simp) hHeld ?_
                  simp only [Act.put, List.setIfInBounds_toArray, List.set_cons_zero, List.set_cons_succ]
                  refine takeH 7 49 (.pointer (some (ad.add (k * 2)))) rfl rfl (by kernel_rfl) (by kernel_rfl) (by kernel_rfl) (fun _ _ _ h => h) (by kernel_rfl) (fun X hX => by clear hX; first | rfl | go_simp) hHeld ?_
                  simp only [Act.put, List.setIfInBounds_toArray, List.set_cons_zero, List.set_cons_succ]
                  refine takeH 8 50 (.pointer (some (ad.add (k * 2)))) rfl rfl (by kernel_rfl) (by kernel_rfl) (by kernel_rfl) (fun _ _ _ h => h) (by kernel_rfl) (fun X hX => by clear hX; first | rfl | go_simp) hHeld ?_
                  simp only [Act.put, List.setIfInBounds_toArray, List.set_cons_zero, List.set_cons_succ]
                  refine takeH 9 51 (.int .i64 y.r) rfl rfl (by kernel_rfl) (by kernel_rfl) (by kernel_rfl) (fun _ _ _ h => h) (by kernel_rfl) (fun X hX => by have q := (hX.cell (p := ad.add (k * 2)) hbk).trans hcr; clear hX; go_simp) hHeld ?_
                  simp only [Act.put, List.setIfInBounds_toArray, List.set_cons_zero, List.set_cons_succ]
                  refine takeH 10 52 (.bool false) rfl rfl (by kernel_rfl) (by kernel_rfl) (by kernel_rfl) (fun _ _ _ h => h) (by kernel_rfl) (fun X hX => by clear hX; first | rfl | go_simp) hHeld ?_
                  simp only [Act.put, List.setIfInBounds_toArray, List.set_cons_zero, List.set_cons_succ]
                  refine wpAnyH_done (by kernel_rfl) ?_ _
                  go_wp2_with fail
                  exact ⟨⟨m + 1, by go_num, by omega, hid KB2.out.drew, hn⟩, by simp [intOf]; omega⟩
              · obtain rfl : m = k := by omega
                have b5 : ¬ ((m : Nat) : Int) < (m : Int) := by omega
                have hn := hid (Hnext.out (by rw [Hok.out]; exact hfr.out))
                clear Hyes Hno Hnext Hok Hno1 Hfs Hf0
                go_wp2_with fail
                exact ⟨⟨m + 1, by go_num, by omega, KB2, hn⟩, by simp [intOf]; omega⟩
    · have Hr := hid (Hyes.out (fun i hi => hsame.out i (by omega)))
      have b2 : ¬ (k : Int) < l.length := by omega
      clear Hyes Hno hsame
      go_wp2_with fail
      go_ret
      exact Did.mk (by rw [Hr.out]; rfl) KB.out
end Go.Proofs.YtgmgccepmalahaaGreat
namespace Go.Proofs.YtgmgccepmalahaaGreat
open Go.RowKit
open Whn (Gr Wh)

def tmAt (l : List Tm) (i : Nat) : Tm := l.getD i ⟨⟨0, 0, 0, 0⟩, 0⟩
def freshT (l : List Tm) (i k : Nat) : Bool := (List.range k).all fun m => !(whEq (tmAt l m).w (tmAt l i).w)
def okTm (g : Gr) (l : List Tm) (i : Nat) : Bool := Whn.right g (tmAt l i).w && costB (tmAt l i).c && freshT l i i
def timesB (g : Gr) (l : List Tm) : Bool := (List.range l.length).all (okTm g l) && (decide ((1 : Int) ≤ (l.length : Int)) && decide ((l.length : Int) ≤ 16))
theorem tmAt_of {l : List Tm} {i : Nat} {y : Tm} (h : l[i]? = some y) : tmAt l i = y := by unfold tmAt; rw [List.getD_eq_getElem?_getD, h]; rfl
theorem freshT_succ (l : List Tm) (i k : Nat) : freshT l i (k + 1) = (freshT l i k && !(whEq (tmAt l k).w (tmAt l i).w)) := by
  unfold freshT
  rw [List.range_succ, List.all_append, List.all_cons, List.all_nil, Bool.and_true]
theorem freshT_no {l : List Tm} {i k m : Nat} (hm : m < k) (h : whEq (tmAt l m).w (tmAt l i).w = true) : freshT l i k = false := by
  unfold freshT
  rw [List.all_eq_false]
  exact ⟨m, List.mem_range.2 hm, by rw [h]; simp⟩
theorem timesB_yes {g : Gr} {l : List Tm} (h : ∀ i, i < l.length → okTm g l i = true) : timesB g l = (decide ((1 : Int) ≤ (l.length : Int)) && decide ((l.length : Int) ≤ 16)) := by
  unfold timesB
  rw [List.all_eq_true.2 (fun i hi => h i (List.mem_range.1 hi)), Bool.true_and]
theorem timesB_no {g : Gr} {l : List Tm} {i : Nat} (hi : i < l.length) (h : okTm g l i = false) : timesB g l = false := by
  unfold timesB
  rw [List.all_eq_false.2 ⟨i, List.mem_range.2 hi, by rw [h]; simp⟩, Bool.false_and]
set_option maxRecDepth 20000 in
set_option maxHeartbeats 4000000 in
theorem r_times (g : Gr) (A : Option Addr) (c : Nat) (l : List Tm) (hm : l.length ≤ maxLen) (hok : ∀ y ∈ l, Wok y.w) (w : World) (h : Es enT w w.heap.size A l) : Calls Tryz.prog 189 #[gv g, .slice A l.length c] w (Did (.bool (timesB g l)) w) := by
  unfold maxLen at hm
  have H := hid h
  have HO := hid hok
  have HC := hid (fun n X => r_cost n X)
  have HRt := hid (fun y hy X => r_Right g y hy X)
  have Hyes := hid (fun h => timesB_yes (g := g) (l := l) h)
  have Hno := hid (fun i hi h => timesB_no (g := g) (l := l) (i := i) hi h)
  generalize timesB g l = rr at *
  clear h hok
  obtain ⟨G, V, hG, hV, K, z0⟩ := (Mem.nil w).one (gc g) 23
  clear z0
  go_enter Tryz.func189, Tryz.ntmps189
  go_wp2_with fail
  go_loopw [5] (fun i wr => ∃ (k : Nat), i = .int .i64 k ∧ k ≤ l.length ∧ Hid (Mem w wr [(G, gc g, 23)]) ∧ Hid (∀ i, i < k → okTm g l i = true)) (fun i _ => l.length - (intOf i).toNat)
  case atStart => exact ⟨0, rfl, Nat.zero_le _, K, hid (fun i hi => absurd hi (Nat.not_lt_zero i))⟩
  case round =>
    clear K
    obtain ⟨k, rfl, hk, KB, hsame⟩ := hrel
    by_cases hlt : k < l.length
    · obtain ⟨ad, y, rfl, hadb, hy, hyl, hcell⟩ := Es.get enT_len (by decide) H.out hlt
      have b1 : (0 : Int) ≤ (k : Int) := by omega
      have b2 : (k : Int) < l.length := by omega
      have hbk : (ad.add (k * 5)).block < w.heap.size := by rw [add_block]; exact hadb
      have hc0 : w.cell? (ad.add (k * 5)) = some (.int .u32 (y.w.w : Int)) := by have := hcell 0 _ rfl; rwa [Nat.add_zero] at this
      have hc1 : w.cell? ⟨(ad.add (k * 5)).block, (ad.add (k * 5)).off + 1, none⟩ = some (.int .u8 (y.w.d : Int)) := by have := hcell 1 _ rfl; rwa [add_add _ _ _ (by omega)] at this
      have hc2 : w.cell? ⟨(ad.add (k * 5)).block, (ad.add (k * 5)).off + 2, none⟩ = some (.int .i64 y.w.s) := by have := hcell 2 _ rfl; rwa [add_add _ _ _ (by omega)] at this
      have hc3 : w.cell? ⟨(ad.add (k * 5)).block, (ad.add (k * 5)).off + 3, none⟩ = some (.int .i64 y.w.l) := by have := hcell 3 _ rfl; rwa [add_add _ _ _ (by omega)] at this
      have hc4 : w.cell? ⟨(ad.add (k * 5)).block, (ad.add (k * 5)).off + 4, none⟩ = some (.int .i64 y.c) := by have := hcell 4 _ rfl; rwa [add_add _ _ _ (by omega)] at this
      have Hnext := hid (fun (h : okTm g l k = true) => show ∀ i, i < k + 1 → okTm g l i = true from fun i hi => by
        rcases Nat.lt_or_ge i k with h' | h'
        · exact hsame.out i h'
        · obtain rfl : i = k := by omega
          exact h)
      have Hbad := hid (fun (h : okTm g l k = false) => Hno.out k hlt h)
      have Hok := hid (show okTm g l k = (Whn.right g y.w && costB y.c && freshT l k k) by unfold okTm; rw [tmAt_of hy.out])
      have HC1 := hid (fun X => HC.out y.c X)
      have HRt1 := hid (fun X => HRt.out y.w (HO.out y hyl) X)
      clear hcell hsame
      cases hrt : Whn.right g y.w with
      | false =>
        have hb := hid (Hbad.out (by rw [Hok.out, hrt]; simp))
        rw [hrt] at HRt1
        clear Hyes Hno Hbad Hnext Hok hrt
        go_wp2_with fail
        refine wp_region_held_drew (S := fun X => Mem w X [(G, gc g, 23)]) (by kernel_rfl) KB.out.drew (fun hHeld => ?_)
        refine takeH 0 13 (gv g) rfl rfl (by kernel_rfl) (by kernel_rfl) (by kernel_rfl) (fun _ _ _ h => h) (by kernel_rfl) (fun X hX => by obtain ⟨q0, q1, q2⟩ := hX.gr (B := G) (g := g) (by simp); clear hX; go_simp) hHeld ?_
        simp only [Act.put, List.setIfInBounds_toArray, List.set_cons_zero, List.set_cons_succ]
        refine takeH 1 14 (.slice (some ad) l.length c) rfl rfl (by kernel_rfl) (by kernel_rfl) (by kernel_rfl) (fun _ _ _ h => h) (by kernel_rfl) (fun X hX => by clear hX; first | rfl | go_simp) hHeld ?_
        simp only [Act.put, List.setIfInBounds_toArray, List.set_cons_zero, List.set_cons_succ]
        refine takeH 2 15 (.int .i64 (k : Int)) rfl rfl (by kernel_rfl) (by kernel_rfl) (by kernel_rfl) (fun _ _ _ h => h) (by kernel_rfl) (fun X hX => by clear hX; first | rfl | go_simp) hHeld ?_
        simp only [Act.put, List.setIfInBounds_toArray, List.set_cons_zero, List.set_cons_succ]
        refine takeH 3 16 (.pointer (some (ad.add (k * 5)))) rfl rfl (by kernel_rfl) (by kernel_rfl) (by kernel_rfl) (fun _ _ _ h => h) (by kernel_rfl) (fun X hX => by clear hX; first | rfl | go_simp) hHeld ?_
        simp only [Act.put, List.setIfInBounds_toArray, List.set_cons_zero, List.set_cons_succ]
        refine takeH 4 17 (.pointer (some (ad.add (k * 5)))) rfl rfl (by kernel_rfl) (by kernel_rfl) (by kernel_rfl) (fun _ _ _ h => h) (by kernel_rfl) (fun X hX => by clear hX; first | rfl | go_simp) hHeld ?_
        simp only [Act.put, List.setIfInBounds_toArray, List.set_cons_zero, List.set_cons_succ]
        refine takeH 5 18 (wv y.w) rfl rfl (by kernel_rfl) (by kernel_rfl) (by kernel_rfl) (fun _ _ _ h => h) (by kernel_rfl) (fun X hX => by have q0 := (hX.2.cell (p := ad.add (k * 5)) hbk).trans hc0; have q1 := (hX.2.cell (p := ⟨(ad.add (k * 5)).block, (ad.add (k * 5)).off + 1, none⟩) hbk).trans hc1; have q2 := (hX.2.cell (p := ⟨(ad.add (k * 5)).block, (ad.add (k * 5)).off + 2, none⟩) hbk).trans hc2; have q3 := (hX.2.cell (p := ⟨(ad.add (k * 5)).block, (ad.add (k * 5)).off + 3, none⟩) hbk).trans hc3; clear hX; go_simp) hHeld ?_
        simp only [Act.put, List.setIfInBounds_toArray, List.set_cons_zero, List.set_cons_succ]
        refine wpAnyH_ready (rs := [6]) (by kernel_rfl) (by simp) ?_
        refine AllReadyH.cons rfl (fun KK hK => ?_) AllReadyH.nil
        simp only [List.getElem_toArray, List.getElem_cons_succ, List.getElem_cons_zero]
        go_simp
        refine (HRt1.out _).mono ?_
        rintro e Z1 ⟨rfl, b9⟩
        have K9 := KB.out.drew.next b9
        refine hK.out _ _ K9 (fun hHeld => ?_)
        clear hK KK
        try simp only [Act.put, List.setIfInBounds_toArray, List.set_cons_zero, List.set_cons_succ]
        refine takeH 7 20 (.bool true) rfl rfl (by kernel_rfl) (by kernel_rfl) (by kernel_rfl) (fun _ _ _ h => h) (by kernel_rfl) (fun X hX => by clear hX; first | rfl | go_simp) hHeld ?_
        simp only [Act.put, List.setIfInBounds_toArray, List.set_cons_zero, List.set_cons_succ]
        refine takeH 8 21 (.bool true) rfl rfl (by kernel_rfl) (by kernel_rfl) (by kernel_rfl) (fun _ _ _ h => h) (by kernel_rfl) (fun X hX => by clear hX; first | rfl | go_simp) hHeld ?_
        simp only [Act.put, List.setIfInBounds_toArray, List.set_cons_zero, List.set_cons_succ]
        refine skipH 9 22 rfl rfl (by kernel_rfl) (by kernel_rfl) (by kernel_rfl) (fun _ _ _ h => h) (by kernel_rfl) hHeld ?_
        simp only [Act.put, List.setIfInBounds_toArray, List.set_cons_zero, List.set_cons_succ]
        refine skipH 10 23 rfl rfl (by kernel_rfl) (by kernel_rfl) (by kernel_rfl) (fun _ _ _ h => h) (by kernel_rfl) hHeld ?_
        simp only [Act.put, List.setIfInBounds_toArray, List.set_cons_zero, List.set_cons_succ]
        refine skipH 11 24 rfl rfl (by kernel_rfl) (by kernel_rfl) (by kernel_rfl) (fun _ _ _ h => h) (by kernel_rfl) hHeld ?_
        simp only [Act.put, List.setIfInBounds_toArray, List.set_cons_zero, List.set_cons_succ]
        refine skipH 12 25 rfl rfl (by kernel_rfl) (by kernel_rfl) (by kernel_rfl) (fun _ _ _ h => h) (by kernel_rfl) hHeld ?_
        simp only [Act.put, List.setIfInBounds_toArray, List.set_cons_zero, List.set_cons_succ]
        refine skipH 13 26 rfl rfl (by kernel_rfl) (by kernel_rfl) (by kernel_rfl) (fun _ _ _ h => h) (by kernel_rfl) hHeld ?_
        simp only [Act.put, List.setIfInBounds_toArray, List.set_cons_zero, List.set_cons_succ]
        refine skipH 14 27 rfl rfl (by kernel_rfl) (by kernel_rfl) (by kernel_rfl) (fun _ _ _ h => h) (by kernel_rfl) hHeld ?_
        simp only [Act.put, List.setIfInBounds_toArray, List.set_cons_zero, List.set_cons_succ]
        refine skipH 15 28 rfl rfl (by kernel_rfl) (by kernel_rfl) (by kernel_rfl) (fun _ _ _ h => h) (by kernel_rfl) hHeld ?_
        simp only [Act.put, List.setIfInBounds_toArray, List.set_cons_zero, List.set_cons_succ]
        refine takeH 16 29 (.bool true) rfl rfl (by kernel_rfl) (by kernel_rfl) (by kernel_rfl) (fun _ _ _ h => h) (by kernel_rfl) (fun X hX => by clear hX; first | rfl | go_simp) hHeld ?_
        simp only [Act.put, List.setIfInBounds_toArray, List.set_cons_zero, List.set_cons_succ]
        refine wpAnyH_done (by kernel_rfl) ?_ _
        go_wp2_with fail
        go_ret
        exact Did.mk (by rw [hb.out]; rfl) K9.2
      | true =>
        rw [hrt, Bool.true_and] at Hok
        rw [hrt] at HRt1
        cases hcb : costB y.c with
        | false =>
          have hb := hid (Hbad.out (by rw [Hok.out, hcb, Bool.false_and]))
          rw [hcb] at HC1
          clear Hyes Hno Hbad Hnext Hok hcb hrt
          go_wp2_with fail
          refine wp_region_held_drew (S := fun X => Mem w X [(G, gc g, 23)]) (by kernel_rfl) KB.out.drew (fun hHeld => ?_)
          refine takeH 0 13 (gv g) rfl rfl (by kernel_rfl) (by kernel_rfl) (by kernel_rfl) (fun _ _ _ h => h) (by kernel_rfl) (fun X hX => by obtain ⟨q0, q1, q2⟩ := hX.gr (B := G) (g := g) (by simp); clear hX; go_simp) hHeld ?_
          simp only [Act.put, List.setIfInBounds_toArray, List.set_cons_zero, List.set_cons_succ]
          refine takeH 1 14 (.slice (some ad) l.length c) rfl rfl (by kernel_rfl) (by kernel_rfl) (by kernel_rfl) (fun _ _ _ h => h) (by kernel_rfl) (fun X hX => by clear hX; first | rfl | go_simp) hHeld ?_
          simp only [Act.put, List.setIfInBounds_toArray, List.set_cons_zero, List.set_cons_succ]
          refine takeH 2 15 (.int .i64 (k : Int)) rfl rfl (by kernel_rfl) (by kernel_rfl) (by kernel_rfl) (fun _ _ _ h => h) (by kernel_rfl) (fun X hX => by clear hX; first | rfl | go_simp) hHeld ?_
          simp only [Act.put, List.setIfInBounds_toArray, List.set_cons_zero, List.set_cons_succ]
          refine takeH 3 16 (.pointer (some (ad.add (k * 5)))) rfl rfl (by kernel_rfl) (by kernel_rfl) (by kernel_rfl) (fun _ _ _ h => h) (by kernel_rfl) (fun X hX => by clear hX; first | rfl | go_simp) hHeld ?_
          simp only [Act.put, List.setIfInBounds_toArray, List.set_cons_zero, List.set_cons_succ]
          refine takeH 4 17 (.pointer (some (ad.add (k * 5)))) rfl rfl (by kernel_rfl) (by kernel_rfl) (by kernel_rfl) (fun _ _ _ h => h) (by kernel_rfl) (fun X hX => by clear hX; first | rfl | go_simp) hHeld ?_
          simp only [Act.put, List.setIfInBounds_toArray, List.set_cons_zero, List.set_cons_succ]
          refine takeH 5 18 (wv y.w) rfl rfl (by kernel_rfl) (by kernel_rfl) (by kernel_rfl) (fun _ _ _ h => h) (by kernel_rfl) (fun X hX => by have q0 := (hX.2.cell (p := ad.add (k * 5)) hbk).trans hc0; have q1 := (hX.2.cell (p := ⟨(ad.add (k * 5)).block, (ad.add (k * 5)).off + 1, none⟩) hbk).trans hc1; have q2 := (hX.2.cell (p := ⟨(ad.add (k * 5)).block, (ad.add (k * 5)).off + 2, none⟩) hbk).trans hc2; have q3 := (hX.2.cell (p := ⟨(ad.add (k * 5)).block, (ad.add (k * 5)).off + 3, none⟩) hbk).trans hc3; clear hX; go_simp) hHeld ?_
          simp only [Act.put, List.setIfInBounds_toArray, List.set_cons_zero, List.set_cons_succ]
          refine wpAnyH_ready (rs := [6]) (by kernel_rfl) (by simp) ?_
          refine AllReadyH.cons rfl (fun KK hK => ?_) AllReadyH.nil
          simp only [List.getElem_toArray, List.getElem_cons_succ, List.getElem_cons_zero]
          go_simp
          refine (HRt1.out _).mono ?_
          rintro e Z1 ⟨rfl, b9⟩
          have K9 := KB.out.drew.next b9
          refine hK.out _ _ K9 (fun hHeld => ?_)
          clear hK KK
          try simp only [Act.put, List.setIfInBounds_toArray, List.set_cons_zero, List.set_cons_succ]
          refine takeH 7 20 (.bool false) rfl rfl (by kernel_rfl) (by kernel_rfl) (by kernel_rfl) (fun _ _ _ h => h) (by kernel_rfl) (fun X hX => by clear hX; first | rfl | go_simp) hHeld ?_
          simp only [Act.put, List.setIfInBounds_toArray, List.set_cons_zero, List.set_cons_succ]
          refine takeH 8 21 (.bool false) rfl rfl (by kernel_rfl) (by kernel_rfl) (by kernel_rfl) (fun _ _ _ h => h) (by kernel_rfl) (fun X hX => by clear hX; first | rfl | go_simp) hHeld ?_
          simp only [Act.put, List.setIfInBounds_toArray, List.set_cons_zero, List.set_cons_succ]
          refine takeH 9 22 (.slice (some ad) l.length c) rfl rfl (by kernel_rfl) (by kernel_rfl) (by kernel_rfl) (fun _ _ _ h => h) (by kernel_rfl) (fun X hX => by clear hX; first | rfl | go_simp) hHeld ?_
          simp only [Act.put, List.setIfInBounds_toArray, List.set_cons_zero, List.set_cons_succ]
          refine takeH 10 23 (.int .i64 (k : Int)) rfl rfl (by kernel_rfl) (by kernel_rfl) (by kernel_rfl) (fun _ _ _ h => h) (by kernel_rfl) (fun X hX => by clear hX; first | rfl | go_simp) hHeld ?_
          simp only [Act.put, List.setIfInBounds_toArray, List.set_cons_zero, List.set_cons_succ]
          refine takeH 11 24 (.pointer (some (ad.add (k * 5)))) rfl rfl (by kernel_rfl) (by kernel_rfl) (by kernel_rfl) (fun _ _ _ h => h) (by kernel_rfl) (fun X hX => by clear hX; first | rfl | go_simp) hHeld ?_
          simp only [Act.put, List.setIfInBounds_toArray, List.set_cons_zero, List.set_cons_succ]
          refine takeH 12 25 (.pointer (some ⟨(ad.add (k * 5)).block, (ad.add (k * 5)).off + 4, none⟩)) rfl rfl (by kernel_rfl) (by kernel_rfl) (by kernel_rfl) (fun _ _ _ h => h) (by kernel_rfl) (fun X hX => by clear hX; first | rfl | go_simp) hHeld ?_
          simp only [Act.put, List.setIfInBounds_toArray, List.set_cons_zero, List.set_cons_succ]
          refine takeH 13 26 (.int .i64 y.c) rfl rfl (by kernel_rfl) (by kernel_rfl) (by kernel_rfl) (fun _ _ _ h => h) (by kernel_rfl) (fun X hX => by have q := (hX.2.cell (p := ⟨(ad.add (k * 5)).block, (ad.add (k * 5)).off + 4, none⟩) hbk).trans hc4; clear hX; go_simp) hHeld ?_
          simp only [Act.put, List.setIfInBounds_toArray, List.set_cons_zero, List.set_cons_succ]
          refine wpAnyH_ready (rs := [14]) (by kernel_rfl) (by simp) ?_
          refine AllReadyH.cons rfl (fun KK hK => ?_) AllReadyH.nil
          simp only [List.getElem_toArray, List.getElem_cons_succ, List.getElem_cons_zero]
          go_simp
          refine (HC1.out _).mono ?_
          rintro e Z2 ⟨rfl, rfl⟩
          refine hK.out _ _ K9 (fun hHeld => ?_)
          clear hK KK
          try simp only [Act.put, List.setIfInBounds_toArray, List.set_cons_zero, List.set_cons_succ]
          refine takeH 15 28 (.bool true) rfl rfl (by kernel_rfl) (by kernel_rfl) (by kernel_rfl) (fun _ _ _ h => h) (by kernel_rfl) (fun X hX => by clear hX; first | rfl | go_simp) hHeld ?_
          simp only [Act.put, List.setIfInBounds_toArray, List.set_cons_zero, List.set_cons_succ]
          refine takeH 16 29 (.bool true) rfl rfl (by kernel_rfl) (by kernel_rfl) (by kernel_rfl) (fun _ _ _ h => h) (by kernel_rfl) (fun X hX => by clear hX; first | rfl | go_simp) hHeld ?_
          simp only [Act.put, List.setIfInBounds_toArray, List.set_cons_zero, List.set_cons_succ]
          refine wpAnyH_done (by kernel_rfl) ?_ _
          go_wp2_with fail
          go_ret
          exact Did.mk (by rw [hb.out]; rfl) K9.2
        | true =>
          rw [hcb, Bool.true_and] at Hok
          rw [hcb] at HC1
          have Hno1 := hid (fun m (hm : m < k) (h : whEq (tmAt l m).w y.w = true) => Hbad.out (by rw [Hok.out]; exact freshT_no hm (by rw [tmAt_of hy.out]; exact h)))
          have Hfs := hid (fun m => freshT_succ l k m)
          have Hf0 := hid (show freshT l k 0 = true from rfl)
          clear Hbad hcb hrt
          go_wp2_with fail
          refine wp_region_held_drew (S := fun X => Mem w X [(G, gc g, 23)]) (by kernel_rfl) KB.out.drew (fun hHeld => ?_)
          refine takeH 0 13 (gv g) rfl rfl (by kernel_rfl) (by kernel_rfl) (by kernel_rfl) (fun _ _ _ h => h) (by kernel_rfl) (fun X hX => by obtain ⟨q0, q1, q2⟩ := hX.gr (B := G) (g := g) (by simp); clear hX; go_simp) hHeld ?_
          simp only [Act.put, List.setIfInBounds_toArray, List.set_cons_zero, List.set_cons_succ]
          refine takeH 1 14 (.slice (some ad) l.length c) rfl rfl (by kernel_rfl) (by kernel_rfl) (by kernel_rfl) (fun _ _ _ h => h) (by kernel_rfl) (fun X hX => by clear hX; first | rfl | go_simp) hHeld ?_
          simp only [Act.put, List.setIfInBounds_toArray, List.set_cons_zero, List.set_cons_succ]
          refine takeH 2 15 (.int .i64 (k : Int)) rfl rfl (by kernel_rfl) (by kernel_rfl) (by kernel_rfl) (fun _ _ _ h => h) (by kernel_rfl) (fun X hX => by clear hX; first | rfl | go_simp) hHeld ?_
          simp only [Act.put, List.setIfInBounds_toArray, List.set_cons_zero, List.set_cons_succ]
          refine takeH 3 16 (.pointer (some (ad.add (k * 5)))) rfl rfl (by kernel_rfl) (by kernel_rfl) (by kernel_rfl) (fun _ _ _ h => h) (by kernel_rfl) (fun X hX => by clear hX; first | rfl | go_simp) hHeld ?_
          simp only [Act.put, List.setIfInBounds_toArray, List.set_cons_zero, List.set_cons_succ]
          refine takeH 4 17 (.pointer (some (ad.add (k * 5)))) rfl rfl (by kernel_rfl) (by kernel_rfl) (by kernel_rfl) (fun _ _ _ h => h) (by kernel_rfl) (fun X hX => by clear hX; first | rfl | go_simp) hHeld ?_
          simp only [Act.put, List.setIfInBounds_toArray, List.set_cons_zero, List.set_cons_succ]
          refine takeH 5 18 (wv y.w) rfl rfl (by kernel_rfl) (by kernel_rfl) (by kernel_rfl) (fun _ _ _ h => h) (by kernel_rfl) (fun X hX => by have q0 := (hX.2.cell (p := ad.add (k * 5)) hbk).trans hc0; have q1 := (hX.2.cell (p := ⟨(ad.add (k * 5)).block, (ad.add (k * 5)).off + 1, none⟩) hbk).trans hc1; have q2 := (hX.2.cell (p := ⟨(ad.add (k * 5)).block, (ad.add (k * 5)).off + 2, none⟩) hbk).trans hc2; have q3 := (hX.2.cell (p := ⟨(ad.add (k * 5)).block, (ad.add (k * 5)).off + 3, none⟩) hbk).trans hc3; clear hX; go_simp) hHeld ?_
          simp only [Act.put, List.setIfInBounds_toArray, List.set_cons_zero, List.set_cons_succ]
          refine wpAnyH_ready (rs := [6]) (by kernel_rfl) (by simp) ?_
          refine AllReadyH.cons rfl (fun KK hK => ?_) AllReadyH.nil
          simp only [List.getElem_toArray, List.getElem_cons_succ, List.getElem_cons_zero]
          go_simp
          refine (HRt1.out _).mono ?_
          rintro e Z1 ⟨rfl, b9⟩
          have K9 := KB.out.drew.next b9
          refine hK.out _ _ K9 (fun hHeld => ?_)
          clear hK KK
          try simp only [Act.put, List.setIfInBounds_toArray, List.set_cons_zero, List.set_cons_succ]
          refine takeH 7 20 (.bool false) rfl rfl (by kernel_rfl) (by kernel_rfl) (by kernel_rfl) (fun _ _ _ h => h) (by kernel_rfl) (fun X hX => by clear hX; first | rfl | go_simp) hHeld ?_
          simp only [Act.put, List.setIfInBounds_toArray, List.set_cons_zero, List.set_cons_succ]
          refine takeH 8 21 (.bool false) rfl rfl (by kernel_rfl) (by kernel_rfl) (by kernel_rfl) (fun _ _ _ h => h) (by kernel_rfl) (fun X hX => by clear hX; first | rfl | go_simp) hHeld ?_
          simp only [Act.put, List.setIfInBounds_toArray, List.set_cons_zero, List.set_cons_succ]
          refine takeH 9 22 (.slice (some ad) l.length c) rfl rfl (by kernel_rfl) (by kernel_rfl) (by kernel_rfl) (fun _ _ _ h => h) (by kernel_rfl) (fun X hX => by clear hX; first | rfl | go_simp) hHeld ?_
          simp only [Act.put, List.setIfInBounds_toArray, List.set_cons_zero, List.set_cons_succ]
          refine takeH 10 23 (.int .i64 (k : Int)) rfl rfl (by kernel_rfl) (by kernel_rfl) (by kernel_rfl) (fun _ _ _ h => h) (by kernel_rfl) (fun X hX => by clear hX; first | rfl | go_simp) hHeld ?_
          simp only [Act.put, List.setIfInBounds_toArray, List.set_cons_zero, List.set_cons_succ]
          refine takeH 11 24 (.pointer (some (ad.add (k * 5)))) rfl rfl (by kernel_rfl) (by kernel_rfl) (by kernel_rfl) (fun _ _ _ h => h) (by kernel_rfl) (fun X hX => by clear hX; first | rfl | go_simp) hHeld ?_
          simp only [Act.put, List.setIfInBounds_toArray, List.set_cons_zero, List.set_cons_succ]
          refine takeH 12 25 (.pointer (some ⟨(ad.add (k * 5)).block, (ad.add (k * 5)).off + 4, none⟩)) rfl rfl (by kernel_rfl) (by kernel_rfl) (by kernel_rfl) (fun _ _ _ h => h) (by kernel_rfl) (fun X hX => by clear hX; first | rfl | go_simp) hHeld ?_
          simp only [Act.put, List.setIfInBounds_toArray, List.set_cons_zero, List.set_cons_succ]
          refine takeH 13 26 (.int .i64 y.c) rfl rfl (by kernel_rfl) (by kernel_rfl) (by kernel_rfl) (fun _ _ _ h => h) (by kernel_rfl) (fun X hX => by have q := (hX.2.cell (p := ⟨(ad.add (k * 5)).block, (ad.add (k * 5)).off + 4, none⟩) hbk).trans hc4; clear hX; go_simp) hHeld ?_
          simp only [Act.put, List.setIfInBounds_toArray, List.set_cons_zero, List.set_cons_succ]
          refine wpAnyH_ready (rs := [14]) (by kernel_rfl) (by simp) ?_
          refine AllReadyH.cons rfl (fun KK hK => ?_) AllReadyH.nil
          simp only [List.getElem_toArray, List.getElem_cons_succ, List.getElem_cons_zero]
          go_simp
          refine (HC1.out _).mono ?_
          rintro e Z2 ⟨rfl, rfl⟩
          refine hK.out _ _ K9 (fun hHeld => ?_)
          clear hK KK
          try simp only [Act.put, List.setIfInBounds_toArray, List.set_cons_zero, List.set_cons_succ]
          refine takeH 15 28 (.bool false) rfl rfl (by kernel_rfl) (by kernel_rfl) (by kernel_rfl) (fun _ _ _ h => h) (by kernel_rfl) (fun X hX => by clear hX; first | rfl | go_simp) hHeld ?_
          simp only [Act.put, List.setIfInBounds_toArray, List.set_cons_zero, List.set_cons_succ]
          refine takeH 16 29 (.bool false) rfl rfl (by kernel_rfl) (by kernel_rfl) (by kernel_rfl) (fun _ _ _ h => h) (by kernel_rfl) (fun X hX => by clear hX; first | rfl | go_simp) hHeld ?_
          simp only [Act.put, List.setIfInBounds_toArray, List.set_cons_zero, List.set_cons_succ]
          refine wpAnyH_done (by kernel_rfl) ?_ _
          have KC := hid K9
          clear hHeld K9 b9 KB
          go_wp2_with fail
          go_loopw [6] (fun i wr2 => ∃ (m : Nat), i = .int .i64 m ∧ m ≤ k ∧ Hid (Mem w wr2 [(G, gc g, 23)]) ∧ Hid (freshT l k m = true)) (fun i _ => k - (intOf i).toNat)
          case atStart => exact ⟨0, rfl, Nat.zero_le _, KC, Hf0⟩
          case round =>
            clear KC
            obtain ⟨m, rfl, hmk, KB2, hfr⟩ := hrel
            by_cases hml : m < k
            · obtain ⟨ad', z, hae, _, hz, _, hcell2⟩ := Es.get enT_len (by decide) H.out (show m < l.length by omega)
              injection hae with hae
              subst hae
              have hbm : (ad.add (m * 5)).block < w.heap.size := by rw [add_block]; exact hadb
              have hm0 : w.cell? (ad.add (m * 5)) = some (.int .u32 (z.w.w : Int)) := by have := hcell2 0 _ rfl; rwa [Nat.add_zero] at this
              have hm1 : w.cell? ⟨(ad.add (m * 5)).block, (ad.add (m * 5)).off + 1, none⟩ = some (.int .u8 (z.w.d : Int)) := by have := hcell2 1 _ rfl; rwa [add_add _ _ _ (by omega)] at this
              have hm2 : w.cell? ⟨(ad.add (m * 5)).block, (ad.add (m * 5)).off + 2, none⟩ = some (.int .i64 z.w.s) := by have := hcell2 2 _ rfl; rwa [add_add _ _ _ (by omega)] at this
              have hm3 : w.cell? ⟨(ad.add (m * 5)).block, (ad.add (m * 5)).off + 3, none⟩ = some (.int .i64 z.w.l) := by have := hcell2 3 _ rfl; rwa [add_add _ _ _ (by omega)] at this
              have b3 : (0 : Int) ≤ (m : Int) := by omega
              have b4 : (m : Int) < l.length := by omega
              have b5 : (m : Int) < (k : Int) := by omega
              clear hcell2
              cases hzy : whEq z.w y.w with
              | true =>
                have hb := hid (Hno1.out m hml (by rw [tmAt_of hz.out]; exact hzy))
                clear Hyes Hno Hnext Hok Hno1 Hfs Hf0
                go_wp2_with fail
                refine wp_region_held_drew (S := fun X => Mem w X [(G, gc g, 23)]) (by kernel_rfl) KB2.out.drew (fun hHeld => ?_)
                refine takeH 0 35 (.slice (some ad) l.length c) rfl rfl (by kernel_rfl) (by kernel_rfl) (by kernel_rfl) (fun _ _ _ h => h) (by kernel_rfl) (fun X hX => by clear hX; first | rfl | go_simp) hHeld ?_
                simp only [Act.put, List.setIfInBounds_toArray, List.set_cons_zero, List.set_cons_succ]
                refine takeH 1 36 (.int .i64 (m : Int)) rfl rfl (by kernel_rfl) (by kernel_rfl) (by kernel_rfl) (fun _ _ _ h => h) (by kernel_rfl) (fun X hX => by clear hX; first | rfl | go_simp) hHeld ?_
                simp only [Act.put, List.setIfInBounds_toArray, List.set_cons_zero, List.set_cons_succ]
                refine takeH 2 37 (.pointer (some (ad.add (m * 5)))) rfl rfl (by kernel_rfl) (by kernel_rfl) (by kernel_rfl) (fun _ _ _ h => h) (by kernel_rfl) (fun X hX => by clear hX; first | rfl | go_simp) hHeld ?_
                simp only [Act.put, List.setIfInBounds_toArray, List.set_cons_zero, List.set_cons_succ]
                refine takeH 3 38 (.pointer (some (ad.add (m * 5)))) rfl rfl (by kernel_rfl) (by kernel_rfl) (by kernel_rfl) (fun _ _ _ h => h) (by kernel_rfl) (fun X hX => by clear hX; first | rfl | go_simp) hHeld ?_
                simp only [Act.put, List.setIfInBounds_toArray, List.set_cons_zero, List.set_cons_succ]
                refine takeH 4 39 (wv z.w) rfl rfl (by kernel_rfl) (by kernel_rfl) (by kernel_rfl) (fun _ _ _ h => h) (by kernel_rfl) (fun X hX => by have q0 := (hX.2.cell (p := ad.add (m * 5)) hbm).trans hm0; have q1 := (hX.2.cell (p := ⟨(ad.add (m * 5)).block, (ad.add (m * 5)).off + 1, none⟩) hbm).trans hm1; have q2 := (hX.2.cell (p := ⟨(ad.add (m * 5)).block, (ad.add (m * 5)).off + 2, none⟩) hbm).trans hm2; have q3 := (hX.2.cell (p := ⟨(ad.add (m * 5)).block, (ad.add (m * 5)).off + 3, none⟩) hbm).trans hm3; clear hX; go_simp) hHeld ?_
                simp only [Act.put, List.setIfInBounds_toArray, List.set_cons_zero, List.set_cons_succ]
                refine takeH 5 40 (.slice (some ad) l.length c) rfl rfl (by kernel_rfl) (by kernel_rfl) (by kernel_rfl) (fun _ _ _ h => h) (by kernel_rfl) (fun X hX => by clear hX; first | rfl | go_simp) hHeld ?_
                simp only [Act.put, List.setIfInBounds_toArray, List.set_cons_zero, List.set_cons_succ]
                refine takeH 6 41 (.int .i64 (k : Int)) rfl rfl (by kernel_rfl) (by kernel_rfl) (by kernel_rfl) (fun _ _ _ h => h) (by kernel_rfl) (fun X hX => by clear hX; first | rfl | go_simp) hHeld ?_
                simp only [Act.put, List.setIfInBounds_toArray, List.set_cons_zero, List.set_cons_succ]
                refine takeH 7 42 (.pointer (some (ad.add (k * 5)))) rfl rfl (by kernel_rfl) (by kernel_rfl) (by kernel_rfl) (fun _ _ _ h => h) (by kernel_rfl) (fun X hX => by clear hX; first | rfl | go_simp) hHeld ?_
                simp only [Act.put, List.setIfInBounds_toArray, List.set_cons_zero, List.set_cons_succ]
                refine takeH 8 43 (.pointer (some (ad.add (k * 5)))) rfl rfl (by kernel_rfl) (by kernel_rfl) (by kernel_rfl) (fun _ _ _ h => h) (by kernel_rfl) (fun X hX => by clear hX; first | rfl | go_simp) hHeld ?_
                simp only [Act.put, List.setIfInBounds_toArray, List.set_cons_zero, List.set_cons_succ]
                refine takeH 9 44 (wv y.w) rfl rfl (by kernel_rfl) (by kernel_rfl) (by kernel_rfl) (fun _ _ _ h => h) (by kernel_rfl) (fun X hX => by have q0 := (hX.2.cell (p := ad.add (k * 5)) hbk).trans hc0; have q1 := (hX.2.cell (p := ⟨(ad.add (k * 5)).block, (ad.add (k * 5)).off + 1, none⟩) hbk).trans hc1; have q2 := (hX.2.cell (p := ⟨(ad.add (k * 5)).block, (ad.add (k * 5)).off + 2, none⟩) hbk).trans hc2; have q3 := (hX.2.cell (p := ⟨(ad.add (k * 5)).block, (ad.add (k * 5)).off + 3, none⟩) hbk).trans hc3; clear hX; go_simp) hHeld ?_
                simp only [Act.put, List.setIfInBounds_toArray, List.set_cons_zero, List.set_cons_succ]
                refine takeH 10 45 (.bool true) rfl rfl (by kernel_rfl) (by kernel_rfl) (by kernel_rfl) (fun _ _ _ h => h) (by kernel_rfl) (fun X hX => by clear hX; have q := fun W => wh_eql z.w y.w W; rw [hzy] at q; go_simp) hHeld ?_
                simp only [Act.put, List.setIfInBounds_toArray, List.set_cons_zero, List.set_cons_succ]
                refine wpAnyH_done (by kernel_rfl) ?_ _
                go_wp2_with fail
                go_ret
                exact Did.mk (by rw [hb.out]; rfl) KB2.out.drew.2
              | false =>
                have hn := hid (show freshT l k (m + 1) = true by rw [Hfs.out m, hfr.out, tmAt_of hz.out, tmAt_of hy.out, hzy]; rfl)
                clear Hyes Hno Hnext Hok Hno1 Hfs Hf0
                go_wp2_with fail
                refine wp_region_held_drew (S := fun X => Mem w X [(G, gc g, 23)]) (by kernel_rfl) KB2.out.drew (fun hHeld => ?_)
                refine takeH 0 35 (.slice (some ad) l.length c) rfl rfl (by kernel_rfl) (by kernel_rfl) (by kernel_rfl) (fun _ _ _ h => h) (by kernel_rfl) (fun X hX => by clear hX; first | rfl | go_simp) hHeld ?_
                simp only [Act.put, List.setIfInBounds_toArray, List.set_cons_zero, List.set_cons_succ]
                refine takeH 1 36 (.int .i64 (m : Int)) rfl rfl (by kernel_rfl) (by kernel_rfl) (by kernel_rfl) (fun _ _ _ h => h) (by kernel_rfl) (fun X hX => by clear hX; first | rfl | go_simp) hHeld ?_
                simp only [Act.put, List.setIfInBounds_toArray, List.set_cons_zero, List.set_cons_succ]
                refine takeH 2 37 (.pointer (some (ad.add (m * 5)))) rfl rfl (by kernel_rfl) (by kernel_rfl) (by kernel_rfl) (fun _ _ _ h => h) (by kernel_rfl) (fun X hX => by clear hX; first | rfl | go_simp) hHeld ?_
                simp only [Act.put, List.setIfInBounds_toArray, List.set_cons_zero, List.set_cons_succ]
                refine takeH 3 38 (.pointer (some (ad.add (m * 5)))) rfl rfl (by kernel_rfl) (by kernel_rfl) (by kernel_rfl) (fun _ _ _ h => h) (by kernel_rfl) (fun X hX => by clear hX; first | rfl | go_simp) hHeld ?_
                simp only [Act.put, List.setIfInBounds_toArray, List.set_cons_zero, List.set_cons_succ]
                refine takeH 4 39 (wv z.w) rfl rfl (by kernel_rfl) (by kernel_rfl) (by kernel_rfl) (fun _ _ _ h => h) (by kernel_rfl) (fun X hX => by have q0 := (hX.2.cell (p := ad.add (m * 5)) hbm).trans hm0; have q1 := (hX.2.cell (p := ⟨(ad.add (m * 5)).block, (ad.add (m * 5)).off + 1, none⟩) hbm).trans hm1; have q2 := (hX.2.cell (p := ⟨(ad.add (m * 5)).block, (ad.add (m * 5)).off + 2, none⟩) hbm).trans hm2; have q3 := (hX.2.cell (p := ⟨(ad.add (m * 5)).block, (ad.add (m * 5)).off + 3, none⟩) hbm).trans hm3; clear hX; go_simp) hHeld ?_
                simp only [Act.put, List.setIfInBounds_toArray, List.set_cons_zero, List.set_cons_succ]
                refine takeH 5 40 (.slice (some ad) l.length c) rfl rfl (by kernel_rfl) (by kernel_rfl) (by kernel_rfl) (fun _ _ _ h => h) (by kernel_rfl) (fun X hX => by clear hX; first | rfl | go_simp) hHeld ?_
                simp only [Act.put, List.setIfInBounds_toArray, List.set_cons_zero, List.set_cons_succ]
                refine takeH 6 41 (.int .i64 (k : Int)) rfl rfl (by kernel_rfl) (by kernel_rfl) (by kernel_rfl) (fun _ _ _ h => h) (by kernel_rfl) (fun X hX => by clear hX; first | rfl | go_simp) hHeld ?_
                simp only [Act.put, List.setIfInBounds_toArray, List.set_cons_zero, List.set_cons_succ]
                refine takeH 7 42 (.pointer (some (ad.add (k * 5)))) rfl rfl (by kernel_rfl) (by kernel_rfl) (by kernel_rfl) (fun _ _ _ h => h) (by kernel_rfl) (fun X hX => by clear hX; first | rfl | go_simp) hHeld ?_
                simp only [Act.put, List.setIfInBounds_toArray, List.set_cons_zero, List.set_cons_succ]
                refine takeH 8 43 (.pointer (some (ad.add (k * 5)))) rfl rfl (by kernel_rfl) (by kernel_rfl) (by kernel_rfl) (fun _ _ _ h => h) (by kernel_rfl) (fun X hX => by clear hX; first | rfl | go_simp) hHeld ?_
                simp only [Act.put, List.setIfInBounds_toArray, List.set_cons_zero, List.set_cons_succ]
                refine takeH 9 44 (wv y.w) rfl rfl (by kernel_rfl) (by kernel_rfl) (by kernel_rfl) (fun _ _ _ h => h) (by kernel_rfl) (fun X hX => by have q0 := (hX.2.cell (p := ad.add (k * 5)) hbk).trans hc0; have q1 := (hX.2.cell (p := ⟨(ad.add (k * 5)).block, (ad.add (k * 5)).off + 1, none⟩) hbk).trans hc1; have q2 := (hX.2.cell (p := ⟨(ad.add (k * 5)).block, (ad.add (k * 5)).off + 2, none⟩) hbk).trans hc2; have q3 := (hX.2.cell (p := ⟨(ad.add (k * 5)).block, (ad.add (k * 5)).off + 3, none⟩) hbk).trans hc3; clear hX; go_simp) hHeld ?_
                simp only [Act.put, List.setIfInBounds_toArray, List.set_cons_zero, List.set_cons_succ]
                refine takeH 10 45 (.bool false) rfl rfl (by kernel_rfl) (by kernel_rfl) (by kernel_rfl) (fun _ _ _ h => h) (by kernel_rfl) (fun X hX => by clear hX; have q := fun W => wh_eql z.w y.w W; rw [hzy] at q; go_simp) hHeld ?_
                simp only [Act.put, List.setIfInBounds_toArray, List.set_cons_zero, List.set_cons_succ]
                refine wpAnyH_done (by kernel_rfl) ?_ _
                go_wp2_with fail
                exact ⟨⟨m + 1, by go_num, by omega, hid KB2.out.drew, hn⟩, by simp [intOf]; omega⟩
            · obtain rfl : m = k := by omega
              have b5 : ¬ ((m : Nat) : Int) < (m : Int) := by omega
              have hn := hid (Hnext.out (by rw [Hok.out]; exact hfr.out))
              clear Hyes Hno Hnext Hok Hno1 Hfs Hf0
              go_wp2_with fail
              exact ⟨⟨m + 1, by go_num, by omega, KB2, hn⟩, by simp [intOf]; omega⟩
    · have Hr := hid (Hyes.out (fun i hi => hsame.out i (by omega)))
      have b2 : ¬ (k : Int) < l.length := by omega
      clear Hyes Hno hsame
      by_cases c1 : (1 : Int) ≤ (l.length : Int)
      · rw [decide_eq_true c1, Bool.true_and] at Hr
        go_wp2_with fail
        go_ret
        exact Did.mk (by rw [Hr.out]; rfl) KB.out.2
      · rw [decide_eq_false c1, Bool.false_and] at Hr
        go_wp2_with fail
        go_ret
        exact Did.mk (by rw [Hr.out]; rfl) KB.out.2
end Go.Proofs.YtgmgccepmalahaaGreat
namespace Go.Proofs.YtgmgccepmalahaaGreat
open Go.RowKit
open Whn (Gr Wh)

def clRight (g : Gr) (rn pn cn : Int) (x : Cl) : Bool := Whn.rgrid g && nameOk x.n && decide (0 ≤ x.s) && decide (x.s ≤ 10000) && decide ((x.p.length : Int) ≤ 4) && risingB x.p pn && timesB g x.t && placesB rn x.l && decide (-1 ≤ x.o) && decide (x.o < cn)
set_option maxRecDepth 20000 in
set_option maxHeartbeats 4000000 in
theorem r_RightC (g : Gr) (rn pn cn : Int) (x : Cl) (r : Cw) (hok : Cok x) (hl : Clc x r) (w : World) (h : Clw w w.heap.size x r) : Calls Tryz.prog 143 #[gv g, .int .i64 rn, .int .i64 pn, .int .i64 cn, cv x r] w (Did (.bool (clRight g rn pn cn x)) w) := by
  have H := hid h
  have HG := hid (fun X => r_RightGrid g X)
  have HN := hid (fun X => r_Name (bs x.n) X)
  rw [bs_data] at HN
  have HR := hid (fun X h => r_Rising r.a r.ac x.p (Nat.le_trans hl.1.1 hl.1.2) pn X h)
  have HT := hid (fun X h => r_times g r.b r.bc x.t (Nat.le_trans hl.2.1.1 hl.2.1.2) (fun y hy => (hok.2.2.2.2.1 y hy).1) X h)
  have HP := hid (fun X h => r_places rn r.c r.cc x.l (Nat.le_trans hl.2.2.1 hl.2.2.2) X h)
  have Hr := hid (show clRight g rn pn cn x = (Whn.rgrid g && nameOk x.n && decide (0 ≤ x.s) && decide (x.s ≤ 10000) && decide ((x.p.length : Int) ≤ 4) && risingB x.p pn && timesB g x.t && placesB rn x.l && decide (-1 ≤ x.o) && decide (x.o < cn)) from rfl)
  generalize clRight g rn pn cn x = q at *
  generalize Whn.rgrid g = gg at *
  generalize nameOk x.n = nn at *
  generalize risingB x.p pn = rb at *
  generalize timesB g x.t = tb at *
  generalize placesB rn x.l = pb at *
  clear h hok hl
  obtain ⟨G, W, hG, hW, K, z0⟩ := (Mem.nil w).one (gc g) 23
  obtain ⟨B, V, hB, hV, K1, z1⟩ := K.out.one (ccl x r) 62
  clear K z0 z1
  obtain ⟨e0, e1, e2, e3, e4, e5, e6⟩ := K1.out.cl (B := B) (x := x) (r := r) (t := 62) (by simp)
  obtain ⟨g0, g1, g2⟩ := K1.out.gr (B := G) (g := g) (by simp)
  go_enter Tryz.func143, Tryz.ntmps143
  go_wp2_with fail
  refine (HG.out _).mono ?_
  rintro e Y1 ⟨rfl, b1⟩
  have K11 := hid (K1.out.next b1)
  clear e0 e1 e2 e3 e4 e5 e6 g0 g1 g2 b1 K1
  obtain ⟨e0, e1, e2, e3, e4, e5, e6⟩ := K11.out.cl (B := B) (x := x) (r := r) (t := 62) (by simp)
  obtain ⟨g0, g1, g2⟩ := K11.out.gr (B := G) (g := g) (by simp)
  cases gg with
  | false =>
    go_wp2_with fail
    go_ret
    exact Did.mk (by rw [Hr.out]; rfl) K11.out.2
  | true =>
    go_wp2_with fail
    refine (HN.out _).mono ?_
    rintro e Y2 ⟨rfl, rfl⟩
    cases nn with
    | false =>
      go_wp2_with fail
      go_ret
      exact Did.mk (by rw [Hr.out]; rfl) K11.out.2
    | true =>
      by_cases c3 : 0 ≤ x.s
      · rw [decide_eq_true c3] at Hr
        by_cases c4 : x.s ≤ 10000
        · rw [decide_eq_true c4] at Hr
          by_cases c5 : (x.p.length : Int) ≤ 4
          · rw [decide_eq_true c5] at Hr
            go_wp2_with fail
            refine (HR.out _ ((H.out.1.below K11.out.2 (Nat.le_refl _)).more K11.out.2.size)).mono ?_
            rintro e Y3 ⟨rfl, b3⟩
            have K13 := hid (K11.out.next b3)
            clear e0 e1 e2 e3 e4 e5 e6 g0 g1 g2 b3 K11
            obtain ⟨e0, e1, e2, e3, e4, e5, e6⟩ := K13.out.cl (B := B) (x := x) (r := r) (t := 62) (by simp)
            obtain ⟨g0, g1, g2⟩ := K13.out.gr (B := G) (g := g) (by simp)
            cases rb with
            | false =>
              go_wp2_with fail
              go_ret
              exact Did.mk (by rw [Hr.out]; rfl) K13.out.2
            | true =>
              go_wp2_with fail
              refine (HT.out _ ((H.out.2.1.below K13.out.2 (Nat.le_refl _)).more K13.out.2.size)).mono ?_
              rintro e Y4 ⟨rfl, b4⟩
              have K14 := hid (K13.out.next b4)
              clear e0 e1 e2 e3 e4 e5 e6 g0 g1 g2 b4 K13
              obtain ⟨e0, e1, e2, e3, e4, e5, e6⟩ := K14.out.cl (B := B) (x := x) (r := r) (t := 62) (by simp)
              obtain ⟨g0, g1, g2⟩ := K14.out.gr (B := G) (g := g) (by simp)
              cases tb with
              | false =>
                go_wp2_with fail
                go_ret
                exact Did.mk (by rw [Hr.out]; rfl) K14.out.2
              | true =>
                go_wp2_with fail
                refine (HP.out _ ((H.out.2.2.below K14.out.2 (Nat.le_refl _)).more K14.out.2.size)).mono ?_
                rintro e Y5 ⟨rfl, b5⟩
                have K15 := hid (K14.out.next b5)
                clear e0 e1 e2 e3 e4 e5 e6 g0 g1 g2 b5 K14
                obtain ⟨e0, e1, e2, e3, e4, e5, e6⟩ := K15.out.cl (B := B) (x := x) (r := r) (t := 62) (by simp)
                obtain ⟨g0, g1, g2⟩ := K15.out.gr (B := G) (g := g) (by simp)
                cases pb with
                | false =>
                  go_wp2_with fail
                  go_ret
                  exact Did.mk (by rw [Hr.out]; rfl) K15.out.2
                | true =>
                  by_cases c9 : -1 ≤ x.o
                  · rw [decide_eq_true c9] at Hr
                    go_wp2_with fail
                    go_ret
                    exact Did.mk (by rw [Hr.out]; rfl) K15.out.2
                  · rw [decide_eq_false c9] at Hr
                    go_wp2_with fail
                    go_ret
                    exact Did.mk (by rw [Hr.out]; rfl) K15.out.2
          · rw [decide_eq_false c5] at Hr
            go_wp2_with fail
            go_ret
            exact Did.mk (by rw [Hr.out]; rfl) K11.out.2
        · rw [decide_eq_false c4] at Hr
          go_wp2_with fail
          go_ret
          exact Did.mk (by rw [Hr.out]; rfl) K11.out.2
      · rw [decide_eq_false c3] at Hr
        go_wp2_with fail
        go_ret
        exact Did.mk (by rw [Hr.out]; rfl) K11.out.2
end Go.Proofs.YtgmgccepmalahaaGreat
namespace Go.Proofs.YtgmgccepmalahaaGreat
open Go.RowKit
open Whn (Gr Wh)

deriving instance DecidableEq for Tm
deriving instance DecidableEq for Pl
deriving instance DecidableEq for Cl
abbrev tmv (x : Tm) : Value := .agg #[.int .u32 (x.w.w : Int), .int .u8 (x.w.d : Int), .int .i64 x.w.s, .int .i64 x.w.l, .int .i64 x.c]
abbrev plv (x : Pl) : Value := .agg #[.int .i64 x.r, .int .i64 x.c]
theorem tm_neq (x y : Tm) (w : World) : (binOp .neq 122 (tmv x) (tmv y)).run Tryz.prog w = .ok (.bool (!decide (x = y))) w := by
  obtain ⟨⟨a, b, c, d⟩, e⟩ := x
  obtain ⟨⟨a', b', c', d'⟩, e'⟩ := y
  go_simp
  have h1 : ((a : Int) = (a' : Int)) = (a = a') := propext ⟨fun h => by omega, fun h => by omega⟩
  have h2 : ((b : Int) = (b' : Int)) = (b = b') := propext ⟨fun h => by omega, fun h => by omega⟩
  simp only [h1, h2]
  by_cases a1 : a = a'
  · by_cases a2 : b = b'
    · by_cases a3 : c = c'
      · by_cases a4 : d = d'
        · by_cases a5 : e = e'
          · simp [a1, a2, a3, a4, a5]
          · simp [a1, a2, a3, a4, a5]
        · simp [a1, a2, a3, a4]
      · simp [a1, a2, a3]
    · simp [a1, a2]
  · simp [a1]
theorem pl_neq (x y : Pl) (w : World) : (binOp .neq 124 (plv x) (plv y)).run Tryz.prog w = .ok (.bool (!decide (x = y))) w := by
  obtain ⟨a, b⟩ := x
  obtain ⟨a', b'⟩ := y
  go_simp
  by_cases a1 : a = a'
  · by_cases a2 : b = b'
    · simp [a1, a2]
    · simp [a1, a2]
  · simp [a1]
set_option maxHeartbeats 1000000 in
theorem r_Ints (A A' : Option Addr) (n n' c c' : Nat) (ls ms : List Int) (hn : ls.length = n) (hn' : ms.length = n') (w : World) (B B' : Nat) (h : Its w B A ls) (h' : Its w B' A' ms) (hm : ls.length ≤ maxLen) :
    Calls Tryz.prog 34 #[.slice A n c, .slice A' n' c'] w (Did (.bool (decide (ls = ms))) w) := by
  unfold maxLen at hm
  subst hn
  by_cases hlen : ls.length = n'
  · have H := hid h
    have H' := hid h'
    clear h h'
    subst hlen
    have Hn := hid hn'
    clear hn'
    go_enter Tryz.func34, Tryz.ntmps34
    go_wp2
    go_loopw [5] (fun i wr => ∃ (k m : Nat), i = .int .i64 k ∧ k ≤ ls.length ∧ wr = w.drewN m ∧ Hid (ls.take k = ms.take k)) (fun i _ => ls.length - (intOf i).toNat)
    case atStart => exact ⟨0, 0, rfl, Nat.zero_le _, rfl, rfl⟩
    case round =>
      obtain ⟨k, m, rfl, hk, rfl, hsame⟩ := hrel
      by_cases hlt : k < ls.length
      · have hlt' : k < ms.length := by rw [Hn.out]; exact hlt
        obtain ⟨ad, x, rfl, _, hx, hc⟩ := Its.get H.out hlt
        obtain ⟨ad', y, rfl, _, hy, hc'⟩ := Its.get H'.out hlt'
        have b1 : (0 : Int) ≤ (k : Int) := by omega
        have b2 : (k : Int) < ls.length := by omega
        by_cases hxy : x = y
        · have hxy' : (x != y) = false := by rw [hxy]; exact bne_self_eq_false y
          have Hxy := hid hxy
          clear hxy
          go_wp2_with fail
          go_quiet (fail)
          go_wp2_with fail
          refine ⟨⟨k + 1, _, by go_num, by omega, rfl, ?_⟩, by simp [intOf]; omega⟩
          show ls.take (k + 1) = ms.take (k + 1)
          rw [List.take_add_one, List.take_add_one, hsame.out, hx.out, hy.out, Hxy.out]
        · have hxy' : (x != y) = true := by rw [bne_iff_ne]; exact hxy
          have Hxy := hid hxy
          clear hxy
          go_wp2_with fail
          go_quiet (fail)
          go_wp2_with fail
          go_ret
          refine Did.mk (congrArg Value.bool ?_) (below_drewN (below_drewN (Below.refl _ _) _) _)
          symm
          rw [decide_eq_false_iff_not]
          intro e
          apply Hxy.out
          have e1 : ls[k]? = ms[k]? := by rw [e]
          rw [hx.out, hy.out] at e1
          injection e1
      · go_wp2_with fail
        go_ret
        refine Did.mk (congrArg Value.bool ?_) (below_drewN (Below.refl _ _) _)
        symm
        rw [decide_eq_true_iff]
        have e := hsame.out
        rwa [List.take_of_length_le (by omega), List.take_of_length_le (by rw [Hn.out]; omega)] at e
  · subst hn'
    have hne : ((ls.length : Int) != (ms.length : Int)) = true := by rw [bne_iff_ne]; omega
    have hres := hid (show decide (ls = ms) = false by rw [decide_eq_false_iff_not]; intro e; exact hlen (by rw [e]))
    go_enter Tryz.func34, Tryz.ntmps34
    go_wp2
    go_ret
    exact Did.mk (congrArg Value.bool hres.out.symm) (Below.refl _ _)
def clEq (x y : Cl) : Bool := decide (x.n = y.n) && decide (x.s = y.s) && decide (x.g = y.g) && decide (x.o = y.o) && decide (x.p = y.p) && decide (x.t.length = y.t.length) && decide (x.l.length = y.l.length) && decide (x.t = y.t) && decide (x.l = y.l)
theorem clEq_iff (x y : Cl) : clEq x y = true ↔ x = y := by
  unfold clEq
  obtain ⟨a, b, c, d, e, f, g⟩ := x
  obtain ⟨a', b', c', d', e', f', g'⟩ := y
  simp only [Bool.and_eq_true, decide_eq_true_iff, Cl.mk.injEq]
  constructor
  · rintro ⟨⟨⟨⟨⟨⟨⟨⟨h1, h2⟩, h3⟩, h4⟩, h5⟩, _⟩, _⟩, h6⟩, h7⟩
    exact ⟨h1, h2, h3, h5, h6, h7, h4⟩
  · rintro ⟨h1, h2, h3, h4, h5, h6, h7⟩
    exact ⟨⟨⟨⟨⟨⟨⟨⟨h1, h2⟩, h3⟩, h7⟩, h4⟩, congrArg List.length h5⟩, congrArg List.length h6⟩, h5⟩, h6⟩
theorem takes_all {α : Type} {l m : List α} {k : Nat} (h : l.take k = m.take k) (h1 : l.length ≤ k) (h2 : l.length = m.length) : l = m := by
  rwa [List.take_of_length_le h1, List.take_of_length_le (by omega)] at h
theorem takes_ne {α : Type} {l m : List α} {k : Nat} {x y : α} (hx : l[k]? = some x) (hy : m[k]? = some y) (h : x ≠ y) : ¬ l = m := fun e => by
  rw [e, hy] at hx
  exact h (Option.some.inj hx).symm
set_option maxRecDepth 20000 in
set_option maxHeartbeats 4000000 in
theorem r_SameC (x y : Cl) (r s : Cw) (hl : Clc x r) (w : World) (h : Clw w w.heap.size x r) (h2 : Clw w w.heap.size y s) :
    Calls Tryz.prog 100 #[cv x r, cv y s] w (Did (.bool (clEq x y)) w) := by
  have HI := hid (fun X (h : Its X X.heap.size r.a x.p) (h2 : Its X X.heap.size s.a y.p) => r_Ints r.a s.a x.p.length y.p.length r.ac s.ac x.p y.p rfl rfl X _ _ h h2 (Nat.le_trans hl.1.1 hl.1.2))
  have H := hid h
  have H2 := hid h2
  have Hr := hid (show clEq x y = (decide (x.n = y.n) && decide (x.s = y.s) && decide (x.g = y.g) && decide (x.o = y.o) && decide (x.p = y.p) && decide (x.t.length = y.t.length) && decide (x.l.length = y.l.length) && decide (x.t = y.t) && decide (x.l = y.l)) from rfl)
  have m1 : x.t.length ≤ maxLen := Nat.le_trans hl.2.1.1 hl.2.1.2
  have m2 : x.l.length ≤ maxLen := Nat.le_trans hl.2.2.1 hl.2.2.2
  unfold maxLen at m1 m2
  clear h h2 hl
  obtain ⟨P, W, hP, hW, K, hb0⟩ := (Mem.nil w).one (ccl x r) 62
  obtain ⟨R, V, hR, hV, K1, hb1⟩ := K.out.one (ccl y s) 62
  clear K hb0 hb1
  obtain ⟨e0, e1, e2, e3, e4, e5, e6⟩ := K1.out.cl (B := P) (x := x) (r := r) (t := 62) (by simp)
  obtain ⟨f0, f1, f2, f3, f4, f5, f6⟩ := K1.out.cl (B := R) (x := y) (r := s) (t := 62) (by simp)
  generalize decide (x.p = y.p) = ip at *
  generalize clEq x y = q at *
  go_enter Tryz.func100, Tryz.ntmps100
  by_cases c1 : x.n = y.n
  · have q1 : ((bs x.n).toList == (bs y.n).toList) = true := by rw [c1]; simp
    rw [decide_eq_true c1, Bool.true_and] at Hr
    clear c1
    by_cases c2 : x.s = y.s
    · have q2 : (x.s != y.s) = false := by rw [c2]; exact bne_self_eq_false _
      rw [decide_eq_true c2, Bool.true_and] at Hr
      clear c2
      by_cases c3 : x.g = y.g
      · have q3 : ((x.g : Int) != (y.g : Int)) = false := by rw [c3]; exact bne_self_eq_false _
        rw [decide_eq_true c3, Bool.true_and] at Hr
        clear c3
        by_cases c4 : x.o = y.o
        · have q4 : (x.o != y.o) = false := by rw [c4]; exact bne_self_eq_false _
          rw [decide_eq_true c4, Bool.true_and] at Hr
          clear c4
          go_wp2_with fail
          refine (HI.out _ ((H.out.1.below K1.out.2 (Nat.le_refl _)).more K1.out.2.size) ((H2.out.1.below K1.out.2 (Nat.le_refl _)).more K1.out.2.size)).mono ?_
          rintro e Y1 ⟨rfl, b1⟩
          have K2 := hid (K1.out.next b1)
          clear b1 K1 e0 e1 e2 e3 e4 e5 e6 f0 f1 f2 f3 f4 f5 f6 q1 q2 q3 q4
          obtain ⟨e0, e1, e2, e3, e4, e5, e6⟩ := K2.out.cl (B := P) (x := x) (r := r) (t := 62) (by simp)
          obtain ⟨f0, f1, f2, f3, f4, f5, f6⟩ := K2.out.cl (B := R) (x := y) (r := s) (t := 62) (by simp)
          cases ip with
          | false =>
            go_wp2_with fail
            go_ret
            exact Did.mk (by rw [Hr.out]; rfl) K2.out.2
          | true =>
            rw [Bool.true_and] at Hr
            by_cases c5 : x.t.length = y.t.length
            · have q5 : ((x.t.length : Int) != (y.t.length : Int)) = false := by rw [c5]; exact bne_self_eq_false _
              rw [decide_eq_true c5, Bool.true_and] at Hr
              by_cases c6 : x.l.length = y.l.length
              · have q6 : ((x.l.length : Int) != (y.l.length : Int)) = false := by rw [c6]; exact bne_self_eq_false _
                rw [decide_eq_true c6, Bool.true_and] at Hr
                have C5 := hid c5
                have C6 := hid c6
                clear c5 c6
                go_wp2_with fail
                clear q5 q6
                have K3 := hid (show Mem w Y1 [(R, ccl y s, 62), (P, ccl x r, 62)] from K2.out)
                clear K2 e0 e1 e2 e3 e4 e5 e6 f0 f1 f2 f3 f4 f5 f6
                go_loopw [5] (fun i wr => ∃ (k : Nat), i = .int .i64 k ∧ k ≤ x.t.length ∧ Hid (Mem w wr [(R, ccl y s, 62), (P, ccl x r, 62)]) ∧ Hid (x.t.take k = y.t.take k)) (fun i _ => x.t.length - (intOf i).toNat)
                case atStart => exact ⟨0, rfl, Nat.zero_le _, K3, hid rfl⟩
                case round =>
                  clear K3
                  obtain ⟨k, rfl, hk, KB, hsame⟩ := hrel
                  obtain ⟨e0, e1, e2, e3, e4, e5, e6⟩ := KB.out.cl (B := P) (x := x) (r := r) (t := 62) (by simp)
                  obtain ⟨f0, f1, f2, f3, f4, f5, f6⟩ := KB.out.cl (B := R) (x := y) (r := s) (t := 62) (by simp)
                  by_cases hlt : k < x.t.length
                  · have b1 : (0 : Int) ≤ (k : Int) := by omega
                    have b2 : (k : Int) < x.t.length := by omega
                    have b3 : (k : Int) < y.t.length := by have := C5.out; omega
                    obtain ⟨ad, a, hae, hadb, ha, _, hcell⟩ := Es.get enT_len (by decide) H.out.2.1 hlt
                    obtain ⟨ae, b, haf, haeb, hb, _, hdell⟩ := Es.get enT_len (by decide) H2.out.2.1 (show k < y.t.length by omega)
                    have hbc : (ad.add (k * 5)).block < w.heap.size := by rw [add_block]; exact hadb
                    have c0 : w.cell? (ad.add (k * 5)) = some (.int .u32 ((a.w.w : Nat) : Int)) := by have := hcell 0 _ rfl; rwa [Nat.add_zero] at this
                    have c1 : w.cell? ⟨(ad.add (k * 5)).block, (ad.add (k * 5)).off + 1, none⟩ = some (.int .u8 ((a.w.d : Nat) : Int)) := by have := hcell 1 _ rfl; rwa [add_add _ _ _ (by omega)] at this
                    have c2 : w.cell? ⟨(ad.add (k * 5)).block, (ad.add (k * 5)).off + 2, none⟩ = some (.int .i64 a.w.s) := by have := hcell 2 _ rfl; rwa [add_add _ _ _ (by omega)] at this
                    have c3 : w.cell? ⟨(ad.add (k * 5)).block, (ad.add (k * 5)).off + 3, none⟩ = some (.int .i64 a.w.l) := by have := hcell 3 _ rfl; rwa [add_add _ _ _ (by omega)] at this
                    have c4 : w.cell? ⟨(ad.add (k * 5)).block, (ad.add (k * 5)).off + 4, none⟩ = some (.int .i64 a.c) := by have := hcell 4 _ rfl; rwa [add_add _ _ _ (by omega)] at this
                    have hbd : (ae.add (k * 5)).block < w.heap.size := by rw [add_block]; exact haeb
                    have d0 : w.cell? (ae.add (k * 5)) = some (.int .u32 ((b.w.w : Nat) : Int)) := by have := hdell 0 _ rfl; rwa [Nat.add_zero] at this
                    have d1 : w.cell? ⟨(ae.add (k * 5)).block, (ae.add (k * 5)).off + 1, none⟩ = some (.int .u8 ((b.w.d : Nat) : Int)) := by have := hdell 1 _ rfl; rwa [add_add _ _ _ (by omega)] at this
                    have d2 : w.cell? ⟨(ae.add (k * 5)).block, (ae.add (k * 5)).off + 2, none⟩ = some (.int .i64 b.w.s) := by have := hdell 2 _ rfl; rwa [add_add _ _ _ (by omega)] at this
                    have d3 : w.cell? ⟨(ae.add (k * 5)).block, (ae.add (k * 5)).off + 3, none⟩ = some (.int .i64 b.w.l) := by have := hdell 3 _ rfl; rwa [add_add _ _ _ (by omega)] at this
                    have d4 : w.cell? ⟨(ae.add (k * 5)).block, (ae.add (k * 5)).off + 4, none⟩ = some (.int .i64 b.c) := by have := hdell 4 _ rfl; rwa [add_add _ _ _ (by omega)] at this
                    clear hcell hdell
                    go_wp2_with fail
                    refine wp_region_held_drew (S := fun X => Mem w X [(R, ccl y s, 62), (P, ccl x r, 62)]) (by kernel_rfl) KB.out.drew (fun hHeld => ?_)
                    refine takeH 0 66 (.pointer (some ⟨P, 4, none⟩)) rfl rfl (by kernel_rfl) (by kernel_rfl) (by kernel_rfl) (fun _ _ _ h => h) (by kernel_rfl) (fun X hX => by clear hX; first | rfl | go_simp) hHeld ?_
                    simp only [Act.put, List.setIfInBounds_toArray, List.set_cons_zero, List.set_cons_succ]
                    refine takeH 1 67 (.slice (some ad) x.t.length r.bc) rfl rfl (by kernel_rfl) (by kernel_rfl) (by kernel_rfl) (fun _ _ _ h => h) (by kernel_rfl) (fun X hX => by obtain ⟨q0, q1, q2, q3, q4, q5, q6⟩ := hX.cl (B := P) (x := x) (r := r) (t := 62) (by simp); rw [hae] at q4; clear hX; go_simp) hHeld ?_
                    simp only [Act.put, List.setIfInBounds_toArray, List.set_cons_zero, List.set_cons_succ]
                    refine takeH 2 68 (.int .i64 (k : Int)) rfl rfl (by kernel_rfl) (by kernel_rfl) (by kernel_rfl) (fun _ _ _ h => h) (by kernel_rfl) (fun X hX => by clear hX; first | rfl | go_simp) hHeld ?_
                    simp only [Act.put, List.setIfInBounds_toArray, List.set_cons_zero, List.set_cons_succ]
                    refine takeH 3 69 (.pointer (some (ad.add (k * 5)))) rfl rfl (by kernel_rfl) (by kernel_rfl) (by kernel_rfl) (fun _ _ _ h => h) (by kernel_rfl) (fun X hX => by clear hX; first | rfl | go_simp) hHeld ?_
                    simp only [Act.put, List.setIfInBounds_toArray, List.set_cons_zero, List.set_cons_succ]
                    refine takeH 4 70 (tmv a) rfl rfl (by kernel_rfl) (by kernel_rfl) (by kernel_rfl) (fun _ _ _ h => h) (by kernel_rfl) (fun X hX => by have qc0 := (hX.2.cell (p := ad.add (k * 5)) hbc).trans c0; have qc1 := (hX.2.cell (p := ⟨(ad.add (k * 5)).block, (ad.add (k * 5)).off + 1, none⟩) hbc).trans c1; have qc2 := (hX.2.cell (p := ⟨(ad.add (k * 5)).block, (ad.add (k * 5)).off + 2, none⟩) hbc).trans c2; have qc3 := (hX.2.cell (p := ⟨(ad.add (k * 5)).block, (ad.add (k * 5)).off + 3, none⟩) hbc).trans c3; have qc4 := (hX.2.cell (p := ⟨(ad.add (k * 5)).block, (ad.add (k * 5)).off + 4, none⟩) hbc).trans c4; clear hX; go_simp) hHeld ?_
                    simp only [Act.put, List.setIfInBounds_toArray, List.set_cons_zero, List.set_cons_succ]
                    refine takeH 5 71 (.pointer (some ⟨R, 4, none⟩)) rfl rfl (by kernel_rfl) (by kernel_rfl) (by kernel_rfl) (fun _ _ _ h => h) (by kernel_rfl) (fun X hX => by clear hX; first | rfl | go_simp) hHeld ?_
                    simp only [Act.put, List.setIfInBounds_toArray, List.set_cons_zero, List.set_cons_succ]
                    refine takeH 6 72 (.slice (some ae) y.t.length s.bc) rfl rfl (by kernel_rfl) (by kernel_rfl) (by kernel_rfl) (fun _ _ _ h => h) (by kernel_rfl) (fun X hX => by obtain ⟨q0, q1, q2, q3, q4, q5, q6⟩ := hX.cl (B := R) (x := y) (r := s) (t := 62) (by simp); rw [haf] at q4; clear hX; go_simp) hHeld ?_
                    simp only [Act.put, List.setIfInBounds_toArray, List.set_cons_zero, List.set_cons_succ]
                    refine takeH 7 73 (.int .i64 (k : Int)) rfl rfl (by kernel_rfl) (by kernel_rfl) (by kernel_rfl) (fun _ _ _ h => h) (by kernel_rfl) (fun X hX => by clear hX; first | rfl | go_simp) hHeld ?_
                    simp only [Act.put, List.setIfInBounds_toArray, List.set_cons_zero, List.set_cons_succ]
                    refine takeH 8 74 (.pointer (some (ae.add (k * 5)))) rfl rfl (by kernel_rfl) (by kernel_rfl) (by kernel_rfl) (fun _ _ _ h => h) (by kernel_rfl) (fun X hX => by clear hX; first | rfl | go_simp) hHeld ?_
                    simp only [Act.put, List.setIfInBounds_toArray, List.set_cons_zero, List.set_cons_succ]
                    refine takeH 9 75 (tmv b) rfl rfl (by kernel_rfl) (by kernel_rfl) (by kernel_rfl) (fun _ _ _ h => h) (by kernel_rfl) (fun X hX => by have qd0 := (hX.2.cell (p := ae.add (k * 5)) hbd).trans d0; have qd1 := (hX.2.cell (p := ⟨(ae.add (k * 5)).block, (ae.add (k * 5)).off + 1, none⟩) hbd).trans d1; have qd2 := (hX.2.cell (p := ⟨(ae.add (k * 5)).block, (ae.add (k * 5)).off + 2, none⟩) hbd).trans d2; have qd3 := (hX.2.cell (p := ⟨(ae.add (k * 5)).block, (ae.add (k * 5)).off + 3, none⟩) hbd).trans d3; have qd4 := (hX.2.cell (p := ⟨(ae.add (k * 5)).block, (ae.add (k * 5)).off + 4, none⟩) hbd).trans d4; clear hX; go_simp) hHeld ?_
                    simp only [Act.put, List.setIfInBounds_toArray, List.set_cons_zero, List.set_cons_succ]
                    refine takeH 10 76 (.bool (!decide (a = b))) rfl rfl (by kernel_rfl) (by kernel_rfl) (by kernel_rfl) (fun _ _ _ h => h) (by kernel_rfl) (fun X hX => by clear hX; have q := fun W => tm_neq a b W; go_simp) hHeld ?_
                    simp only [Act.put, List.setIfInBounds_toArray, List.set_cons_zero, List.set_cons_succ]
                    refine wpAnyH_done (by kernel_rfl) ?_ _
                    cases hR : decide (a = b) with
                    | true =>
                      have hab := of_decide_eq_true hR
                      have hn := hid (show x.t.take (k + 1) = y.t.take (k + 1) by rw [List.take_add_one, List.take_add_one, hsame.out, ha.out, hb.out, hab])
                      clear hab hsame
                      go_wp2_with fail
                      exact ⟨⟨k + 1, by go_num, by omega, hid KB.out.drew, hn⟩, by simp [intOf]; omega⟩
                    | false =>
                      rw [decide_eq_false (takes_ne ha.out hb.out (of_decide_eq_false hR)), Bool.false_and] at Hr
                      go_wp2_with fail
                      go_ret
                      exact Did.mk (by rw [Hr.out]; rfl) KB.out.drew.2
                  · have hT := takes_all hsame.out (by omega) C5.out
                    rw [decide_eq_true hT, Bool.true_and] at Hr
                    clear hT hsame
                    have b2 : ¬ (k : Int) < x.t.length := by omega
                    go_wp2_with fail
                    have K4 := hid (show Mem w wr [(R, ccl y s, 62), (P, ccl x r, 62)] from KB.out)
                    clear KB e0 e1 e2 e3 e4 e5 e6 f0 f1 f2 f3 f4 f5 f6 b2 hlt hk
                    go_loopw [6] (fun i wr => ∃ (k : Nat), i = .int .i64 k ∧ k ≤ x.l.length ∧ Hid (Mem w wr [(R, ccl y s, 62), (P, ccl x r, 62)]) ∧ Hid (x.l.take k = y.l.take k)) (fun i _ => x.l.length - (intOf i).toNat)
                    case atStart => exact ⟨0, rfl, Nat.zero_le _, K4, hid rfl⟩
                    case round =>
                      clear K4
                      obtain ⟨k, rfl, hk, KD, hsame⟩ := hrel
                      obtain ⟨e0, e1, e2, e3, e4, e5, e6⟩ := KD.out.cl (B := P) (x := x) (r := r) (t := 62) (by simp)
                      obtain ⟨f0, f1, f2, f3, f4, f5, f6⟩ := KD.out.cl (B := R) (x := y) (r := s) (t := 62) (by simp)
                      by_cases hlt : k < x.l.length
                      · have b1 : (0 : Int) ≤ (k : Int) := by omega
                        have b2 : (k : Int) < x.l.length := by omega
                        have b3 : (k : Int) < y.l.length := by have := C6.out; omega
                        obtain ⟨ad, a, hae, hadb, ha, _, hcell⟩ := Es.get enP_len (by decide) H.out.2.2 hlt
                        obtain ⟨ae, b, haf, haeb, hb, _, hdell⟩ := Es.get enP_len (by decide) H2.out.2.2 (show k < y.l.length by omega)
                        have hbc : (ad.add (k * 2)).block < w.heap.size := by rw [add_block]; exact hadb
                        have c0 : w.cell? (ad.add (k * 2)) = some (.int .i64 a.r) := by have := hcell 0 _ rfl; rwa [Nat.add_zero] at this
                        have c1 : w.cell? ⟨(ad.add (k * 2)).block, (ad.add (k * 2)).off + 1, none⟩ = some (.int .i64 a.c) := by have := hcell 1 _ rfl; rwa [add_add _ _ _ (by omega)] at this
                        have hbd : (ae.add (k * 2)).block < w.heap.size := by rw [add_block]; exact haeb
                        have d0 : w.cell? (ae.add (k * 2)) = some (.int .i64 b.r) := by have := hdell 0 _ rfl; rwa [Nat.add_zero] at this
                        have d1 : w.cell? ⟨(ae.add (k * 2)).block, (ae.add (k * 2)).off + 1, none⟩ = some (.int .i64 b.c) := by have := hdell 1 _ rfl; rwa [add_add _ _ _ (by omega)] at this
                        clear hcell hdell
                        go_wp2_with fail
                        refine wp_region_held_drew (S := fun X => Mem w X [(R, ccl y s, 62), (P, ccl x r, 62)]) (by kernel_rfl) KD.out.drew (fun hHeld => ?_)
                        refine takeH 0 84 (.pointer (some ⟨P, 5, none⟩)) rfl rfl (by kernel_rfl) (by kernel_rfl) (by kernel_rfl) (fun _ _ _ h => h) (by kernel_rfl) (fun X hX => by clear hX; first | rfl | go_simp) hHeld ?_
                        simp only [Act.put, List.setIfInBounds_toArray, List.set_cons_zero, List.set_cons_succ]
                        refine takeH 1 85 (.slice (some ad) x.l.length r.cc) rfl rfl (by kernel_rfl) (by kernel_rfl) (by kernel_rfl) (fun _ _ _ h => h) (by kernel_rfl) (fun X hX => by obtain ⟨q0, q1, q2, q3, q4, q5, q6⟩ := hX.cl (B := P) (x := x) (r := r) (t := 62) (by simp); rw [hae] at q5; clear hX; go_simp) hHeld ?_
                        simp only [Act.put, List.setIfInBounds_toArray, List.set_cons_zero, List.set_cons_succ]
                        refine takeH 2 86 (.int .i64 (k : Int)) rfl rfl (by kernel_rfl) (by kernel_rfl) (by kernel_rfl) (fun _ _ _ h => h) (by kernel_rfl) (fun X hX => by clear hX; first | rfl | go_simp) hHeld ?_
                        simp only [Act.put, List.setIfInBounds_toArray, List.set_cons_zero, List.set_cons_succ]
                        refine takeH 3 87 (.pointer (some (ad.add (k * 2)))) rfl rfl (by kernel_rfl) (by kernel_rfl) (by kernel_rfl) (fun _ _ _ h => h) (by kernel_rfl) (fun X hX => by clear hX; first | rfl | go_simp) hHeld ?_
                        simp only [Act.put, List.setIfInBounds_toArray, List.set_cons_zero, List.set_cons_succ]
                        refine takeH 4 88 (plv a) rfl rfl (by kernel_rfl) (by kernel_rfl) (by kernel_rfl) (fun _ _ _ h => h) (by kernel_rfl) (fun X hX => by have qc0 := (hX.2.cell (p := ad.add (k * 2)) hbc).trans c0; have qc1 := (hX.2.cell (p := ⟨(ad.add (k * 2)).block, (ad.add (k * 2)).off + 1, none⟩) hbc).trans c1; clear hX; go_simp) hHeld ?_
                        simp only [Act.put, List.setIfInBounds_toArray, List.set_cons_zero, List.set_cons_succ]
                        refine takeH 5 89 (.pointer (some ⟨R, 5, none⟩)) rfl rfl (by kernel_rfl) (by kernel_rfl) (by kernel_rfl) (fun _ _ _ h => h) (by kernel_rfl) (fun X hX => by clear hX; first | rfl | go_simp) hHeld ?_
                        simp only [Act.put, List.setIfInBounds_toArray, List.set_cons_zero, List.set_cons_succ]
                        refine takeH 6 90 (.slice (some ae) y.l.length s.cc) rfl rfl (by kernel_rfl) (by kernel_rfl) (by kernel_rfl) (fun _ _ _ h => h) (by kernel_rfl) (fun X hX => by obtain ⟨q0, q1, q2, q3, q4, q5, q6⟩ := hX.cl (B := R) (x := y) (r := s) (t := 62) (by simp); rw [haf] at q5; clear hX; go_simp) hHeld ?_
                        simp only [Act.put, List.setIfInBounds_toArray, List.set_cons_zero, List.set_cons_succ]
                        refine takeH 7 91 (.int .i64 (k : Int)) rfl rfl (by kernel_rfl) (by kernel_rfl) (by kernel_rfl) (fun _ _ _ h => h) (by kernel_rfl) (fun X hX => by clear hX; first | rfl | go_simp) hHeld ?_
                        simp only [Act.put, List.setIfInBounds_toArray, List.set_cons_zero, List.set_cons_succ]
                        refine takeH 8 92 (.pointer (some (ae.add (k * 2)))) rfl rfl (by kernel_rfl) (by kernel_rfl) (by kernel_rfl) (fun _ _ _ h => h) (by kernel_rfl) (fun X hX => by clear hX; first | rfl | go_simp) hHeld ?_
                        simp only [Act.put, List.setIfInBounds_toArray, List.set_cons_zero, List.set_cons_succ]
                        refine takeH 9 93 (plv b) rfl rfl (by kernel_rfl) (by kernel_rfl) (by kernel_rfl) (fun _ _ _ h => h) (by kernel_rfl) (fun X hX => by have qd0 := (hX.2.cell (p := ae.add (k * 2)) hbd).trans d0; have qd1 := (hX.2.cell (p := ⟨(ae.add (k * 2)).block, (ae.add (k * 2)).off + 1, none⟩) hbd).trans d1; clear hX; go_simp) hHeld ?_
                        simp only [Act.put, List.setIfInBounds_toArray, List.set_cons_zero, List.set_cons_succ]
                        refine takeH 10 94 (.bool (!decide (a = b))) rfl rfl (by kernel_rfl) (by kernel_rfl) (by kernel_rfl) (fun _ _ _ h => h) (by kernel_rfl) (fun X hX => by clear hX; have q := fun W => pl_neq a b W; go_simp) hHeld ?_
                        simp only [Act.put, List.setIfInBounds_toArray, List.set_cons_zero, List.set_cons_succ]
                        refine wpAnyH_done (by kernel_rfl) ?_ _
                        cases hR : decide (a = b) with
                        | true =>
                          have hab := of_decide_eq_true hR
                          have hn := hid (show x.l.take (k + 1) = y.l.take (k + 1) by rw [List.take_add_one, List.take_add_one, hsame.out, ha.out, hb.out, hab])
                          clear hab hsame
                          go_wp2_with fail
                          exact ⟨⟨k + 1, by go_num, by omega, hid KD.out.drew, hn⟩, by simp [intOf]; omega⟩
                        | false =>
                          rw [decide_eq_false (takes_ne ha.out hb.out (of_decide_eq_false hR))] at Hr
                          go_wp2_with fail
                          go_ret
                          exact Did.mk (by rw [Hr.out]; rfl) KD.out.drew.2
                      · have hT := takes_all hsame.out (by omega) C6.out
                        rw [decide_eq_true hT] at Hr
                        clear hT hsame
                        have b2 : ¬ (k : Int) < x.l.length := by omega
                        go_wp2_with fail
                        go_ret
                        exact Did.mk (by rw [Hr.out]; rfl) KD.out.2
              · have q6 : ((x.l.length : Int) != (y.l.length : Int)) = true := by rw [bne_iff_ne]; omega
                rw [decide_eq_false c6, Bool.false_and] at Hr
                clear c6
                go_wp2_with fail
                go_ret
                exact Did.mk (by rw [Hr.out]; rfl) K2.out.2
            · have q5 : ((x.t.length : Int) != (y.t.length : Int)) = true := by rw [bne_iff_ne]; omega
              rw [decide_eq_false c5, Bool.false_and] at Hr
              clear c5
              go_wp2_with fail
              go_ret
              exact Did.mk (by rw [Hr.out]; rfl) K2.out.2
        · have q4 : (x.o != y.o) = true := by rw [bne_iff_ne]; exact c4
          rw [decide_eq_false c4] at Hr
          clear c4
          go_wp2_with fail
          go_ret
          exact Did.mk (by rw [Hr.out]; rfl) K1.out.2
      · have q3 : ((x.g : Int) != (y.g : Int)) = true := by rw [bne_iff_ne]; omega
        rw [decide_eq_false c3] at Hr
        clear c3
        go_wp2_with fail
        go_ret
        exact Did.mk (by rw [Hr.out]; rfl) K1.out.2
    · have q2 : (x.s != y.s) = true := by rw [bne_iff_ne]; exact c2
      rw [decide_eq_false c2] at Hr
      clear c2
      go_wp2_with fail
      go_ret
      exact Did.mk (by rw [Hr.out]; rfl) K1.out.2
  · have q1 : ((bs x.n).toList == (bs y.n).toList) = false := by rw [list_of, list_of, bs_data, bs_data, beq_eq_false_iff_ne]; exact c1
    rw [decide_eq_false c1] at Hr
    clear c1
    go_wp2_with fail
    go_ret
    exact Did.mk (by rw [Hr.out]; rfl) K1.out.2
end Go.Proofs.YtgmgccepmalahaaGreat
