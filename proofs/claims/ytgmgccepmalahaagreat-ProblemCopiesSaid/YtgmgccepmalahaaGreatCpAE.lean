/- What the proof of ProblemCopies stands on, part 5. -/
import Derived.Handy
import Derived.Deep.AppendSrc
import Derived.Test.YtgmgccepmalahaaGreatCpAB
import Derived.Test.YtgmgccepmalahaaGreatCpAC
import Derived.Test.YtgmgccepmalahaaGreatCpAD
namespace Go.Proofs.YtgmgccepmalahaaGreat
open Go.RowKit
open Whn (Gr Wh)
def okR (l : List Int) (e : Int) (i : Nat) : Bool := decide (0 ≤ l.getD i 0) && decide (l.getD i 0 < e) && (decide (i = 0) || decide (l.getD (i - 1) 0 < l.getD i 0))
def risingB (l : List Int) (e : Int) : Bool := (List.range l.length).all (okR l e)
theorem risingB_yes {l : List Int} {e : Int} (h : ∀ i, i < l.length → okR l e i = true) : risingB l e = true := by
 unfold risingB
 rw [List.all_eq_true]
 exact fun i hi => h i (List.mem_range.1 hi)
theorem risingB_no {l : List Int} {e : Int} {i : Nat} (hi : i < l.length) (h : okR l e i = false) : risingB l e = false := by
 unfold risingB
 rw [List.all_eq_false]
 exact ⟨i, List.mem_range.2 hi, by rw [h]; simp⟩
theorem getD_of {l : List Int} {i : Nat} {a : Int} (h : l[i]? = some a) : l.getD i 0 = a := by rw [List.getD_eq_getElem?_getD, h]; rfl
set_option maxRecDepth 20000 in
set_option maxHeartbeats 4000000 in
theorem r_Rising (A : Option Addr) (c : Nat) (l : List Int) (hm : l.length ≤ maxLen) (e : Int) (w : World) (h : Its w w.heap.size A l) : Calls Tryz.prog 33 #[.slice A l.length c, .int .i64 e] w (Did (.bool (risingB l e)) w) := by
 unfold maxLen at hm
 have H := hid h
 have Hyes := hid (fun h => risingB_yes (l := l) (e := e) h)
 have Hno := hid (fun i hi h => risingB_no (l := l) (e := e) (i := i) hi h)
 generalize risingB l e = rr at *
 clear h
 go_enter Tryz.func33, Tryz.ntmps33
 go_wp2_with fail
 go_loopw [5] (fun i wr => ∃ (k : Nat), i = .int .i64 k ∧ k ≤ l.length ∧ Hid (Below w.heap.size w wr) ∧ Hid (∀ i, i < k → okR l e i = true)) (fun i _ => l.length - (intOf i).toNat)
 case atStart => exact ⟨0, rfl, Nat.zero_le _, hid (Below.refl _ _), hid (fun i hi => absurd hi (Nat.not_lt_zero i))⟩
 case round =>
  obtain ⟨k, rfl, hk, KB, hsame⟩ := hrel
  by_cases hlt : k < l.length
  · obtain ⟨ad, a, rfl, hadb, ha, hca⟩ := Its.get H.out hlt
    have b1 : (0 : Int) ≤ (k : Int) := by omega
    have b2 : (k : Int) < l.length := by omega
    have hba : (ad.add k).block < w.heap.size := by rw [add_block]; exact hadb
    have Hnext := hid (fun (h : okR l e k = true) => show ∀ i, i < k + 1 → okR l e i = true from fun i hi => by
     rcases Nat.lt_or_ge i k with h' | h'
     · exact hsame.out i h'
     · obtain rfl : i = k := by omega
       exact h)
    have Hbad := hid (fun (h : okR l e k = false) => Hno.out k hlt h)
    have Hok := hid (show okR l e k = (decide (0 ≤ a) && decide (a < e) && (decide (k = 0) || decide (l.getD (k - 1) 0 < a))) by unfold okR; rw [getD_of ha.out])
    clear Hyes Hno hsame
    go_wp2_with fail
    by_cases c1 : a < 0
    · clear Hnext
      refine wp_region_held_drew (S := fun X => Below w.heap.size w X) (by kernel_rfl) KB.out.drew (fun hHeld => ?_)
      refine tkD 0 12 (.slice (some ad) l.length c) rfl rfl hHeld ?_
      simp only [pt, List.set]
      refine tkD 1 13 (.int .i64 (k : Int)) rfl rfl hHeld ?_
      simp only [pt, List.set]
      refine tkD 2 14 (.pointer (some (ad.add k))) rfl rfl hHeld ?_
      simp only [pt, List.set]
      refine tkH 3 15 (.int .i64 a) rfl rfl (fun X hX => by have q := (hX.cell (p := ad.add k) hba).trans hca; clear hX; go_simp) hHeld ?_
      simp only [pt, List.set]
      refine tkD 4 16 (.bool true) rfl rfl hHeld ?_
      simp only [pt, List.set]
      refine tkD 5 17 (.bool true) rfl rfl hHeld ?_
      simp only [pt, List.set]
      refine skD 6 18 rfl rfl hHeld ?_
      simp only [pt, List.set]
      refine skD 7 19 rfl rfl hHeld ?_
      simp only [pt, List.set]
      refine skD 8 20 rfl rfl hHeld ?_
      simp only [pt, List.set]
      refine skD 9 21 rfl rfl hHeld ?_
      simp only [pt, List.set]
      refine skD 10 22 rfl rfl hHeld ?_
      simp only [pt, List.set]
      refine skD 11 23 rfl rfl hHeld ?_
      simp only [pt, List.set]
      refine tkD 12 24 (.bool true) rfl rfl hHeld ?_
      simp only [pt, List.set]
      refine tkD 13 25 (.bool true) rfl rfl hHeld ?_
      simp only [pt, List.set]
      refine skD 14 26 rfl rfl hHeld ?_
      simp only [pt, List.set]
      refine skD 15 27 rfl rfl hHeld ?_
      simp only [pt, List.set]
      refine skD 16 28 rfl rfl hHeld ?_
      simp only [pt, List.set]
      refine skD 17 29 rfl rfl hHeld ?_
      simp only [pt, List.set]
      refine skD 18 30 rfl rfl hHeld ?_
      simp only [pt, List.set]
      refine skD 19 31 rfl rfl hHeld ?_
      simp only [pt, List.set]
      refine skD 20 32 rfl rfl hHeld ?_
      simp only [pt, List.set]
      refine skD 21 33 rfl rfl hHeld ?_
      simp only [pt, List.set]
      refine skD 22 34 rfl rfl hHeld ?_
      simp only [pt, List.set]
      refine skD 23 35 rfl rfl hHeld ?_
      simp only [pt, List.set]
      refine skD 24 36 rfl rfl hHeld ?_
      simp only [pt, List.set]
      refine skD 25 37 rfl rfl hHeld ?_
      simp only [pt, List.set]
      refine skD 26 38 rfl rfl hHeld ?_
      simp only [pt, List.set]
      refine skD 27 39 rfl rfl hHeld ?_
      simp only [pt, List.set]
      refine tkD 28 40 (.bool true) rfl rfl hHeld ?_
      simp only [pt, List.set]
      refine wpAnyH_done (by kernel_rfl) ?_ _
      go_wp2_with fail
      go_ret
      exact Did.mk (by rw [Hbad.out (by rw [Hok.out]; simp only [Bool.and_eq_false_iff, Bool.or_eq_false_iff, decide_eq_false_iff_not]; omega)]; rfl) KB.out.drew
    · by_cases c2 : e ≤ a
      · clear Hnext
        refine wp_region_held_drew (S := fun X => Below w.heap.size w X) (by kernel_rfl) KB.out.drew (fun hHeld => ?_)
        refine tkD 0 12 (.slice (some ad) l.length c) rfl rfl hHeld ?_
        simp only [pt, List.set]
        refine tkD 1 13 (.int .i64 (k : Int)) rfl rfl hHeld ?_
        simp only [pt, List.set]
        refine tkD 2 14 (.pointer (some (ad.add k))) rfl rfl hHeld ?_
        simp only [pt, List.set]
        refine tkH 3 15 (.int .i64 a) rfl rfl (fun X hX => by have q := (hX.cell (p := ad.add k) hba).trans hca; clear hX; go_simp) hHeld ?_
        simp only [pt, List.set]
        refine tkD 4 16 (.bool false) rfl rfl hHeld ?_
        simp only [pt, List.set]
        refine tkD 5 17 (.bool false) rfl rfl hHeld ?_
        simp only [pt, List.set]
        refine tkD 6 18 (.slice (some ad) l.length c) rfl rfl hHeld ?_
        simp only [pt, List.set]
        refine tkD 7 19 (.int .i64 (k : Int)) rfl rfl hHeld ?_
        simp only [pt, List.set]
        refine tkD 8 20 (.pointer (some (ad.add k))) rfl rfl hHeld ?_
        simp only [pt, List.set]
        refine tkH 9 21 (.int .i64 a) rfl rfl (fun X hX => by have q := (hX.cell (p := ad.add k) hba).trans hca; clear hX; go_simp) hHeld ?_
        simp only [pt, List.set]
        refine tkD 10 22 (.int .i64 e) rfl rfl hHeld ?_
        simp only [pt, List.set]
        refine tkD 11 23 (.bool true) rfl rfl hHeld ?_
        simp only [pt, List.set]
        refine tkD 12 24 (.bool true) rfl rfl hHeld ?_
        simp only [pt, List.set]
        refine tkD 13 25 (.bool true) rfl rfl hHeld ?_
        simp only [pt, List.set]
        refine skD 14 26 rfl rfl hHeld ?_
        simp only [pt, List.set]
        refine skD 15 27 rfl rfl hHeld ?_
        simp only [pt, List.set]
        refine skD 16 28 rfl rfl hHeld ?_
        simp only [pt, List.set]
        refine skD 17 29 rfl rfl hHeld ?_
        simp only [pt, List.set]
        refine skD 18 30 rfl rfl hHeld ?_
        simp only [pt, List.set]
        refine skD 19 31 rfl rfl hHeld ?_
        simp only [pt, List.set]
        refine skD 20 32 rfl rfl hHeld ?_
        simp only [pt, List.set]
        refine skD 21 33 rfl rfl hHeld ?_
        simp only [pt, List.set]
        refine skD 22 34 rfl rfl hHeld ?_
        simp only [pt, List.set]
        refine skD 23 35 rfl rfl hHeld ?_
        simp only [pt, List.set]
        refine skD 24 36 rfl rfl hHeld ?_
        simp only [pt, List.set]
        refine skD 25 37 rfl rfl hHeld ?_
        simp only [pt, List.set]
        refine skD 26 38 rfl rfl hHeld ?_
        simp only [pt, List.set]
        refine skD 27 39 rfl rfl hHeld ?_
        simp only [pt, List.set]
        refine tkD 28 40 (.bool true) rfl rfl hHeld ?_
        simp only [pt, List.set]
        refine wpAnyH_done (by kernel_rfl) ?_ _
        go_wp2_with fail
        go_ret
        exact Did.mk (by rw [Hbad.out (by rw [Hok.out]; simp only [Bool.and_eq_false_iff, Bool.or_eq_false_iff, decide_eq_false_iff_not]; omega)]; rfl) KB.out.drew
      · by_cases c3 : k = 0
        · have c4 : ¬ (0 : Int) < (k : Int) := by omega
          have C3 := hid c3
          clear Hbad c3
          refine wp_region_held_drew (S := fun X => Below w.heap.size w X) (by kernel_rfl) KB.out.drew (fun hHeld => ?_)
          refine tkD 0 12 (.slice (some ad) l.length c) rfl rfl hHeld ?_
          simp only [pt, List.set]
          refine tkD 1 13 (.int .i64 (k : Int)) rfl rfl hHeld ?_
          simp only [pt, List.set]
          refine tkD 2 14 (.pointer (some (ad.add k))) rfl rfl hHeld ?_
          simp only [pt, List.set]
          refine tkH 3 15 (.int .i64 a) rfl rfl (fun X hX => by have q := (hX.cell (p := ad.add k) hba).trans hca; clear hX; go_simp) hHeld ?_
          simp only [pt, List.set]
          refine tkD 4 16 (.bool false) rfl rfl hHeld ?_
          simp only [pt, List.set]
          refine tkD 5 17 (.bool false) rfl rfl hHeld ?_
          simp only [pt, List.set]
          refine tkD 6 18 (.slice (some ad) l.length c) rfl rfl hHeld ?_
          simp only [pt, List.set]
          refine tkD 7 19 (.int .i64 (k : Int)) rfl rfl hHeld ?_
          simp only [pt, List.set]
          refine tkD 8 20 (.pointer (some (ad.add k))) rfl rfl hHeld ?_
          simp only [pt, List.set]
          refine tkH 9 21 (.int .i64 a) rfl rfl (fun X hX => by have q := (hX.cell (p := ad.add k) hba).trans hca; clear hX; go_simp) hHeld ?_
          simp only [pt, List.set]
          refine tkD 10 22 (.int .i64 e) rfl rfl hHeld ?_
          simp only [pt, List.set]
          refine tkD 11 23 (.bool false) rfl rfl hHeld ?_
          simp only [pt, List.set]
          refine tkD 12 24 (.bool false) rfl rfl hHeld ?_
          simp only [pt, List.set]
          refine tkD 13 25 (.bool false) rfl rfl hHeld ?_
          simp only [pt, List.set]
          refine tkD 14 26 (.int .i64 (k : Int)) rfl rfl hHeld ?_
          simp only [pt, List.set]
          refine tkH 15 27 (.bool false) rfl rfl (fun X hX => by clear hX; go_simp; exact C3.out) hHeld ?_
          simp only [pt, List.set]
          refine tkD 16 28 (.bool false) rfl rfl hHeld ?_
          simp only [pt, List.set]
          refine skD 17 29 rfl rfl hHeld ?_
          simp only [pt, List.set]
          refine skD 18 30 rfl rfl hHeld ?_
          simp only [pt, List.set]
          refine skD 19 31 rfl rfl hHeld ?_
          simp only [pt, List.set]
          refine skD 20 32 rfl rfl hHeld ?_
          simp only [pt, List.set]
          refine skD 21 33 rfl rfl hHeld ?_
          simp only [pt, List.set]
          refine skD 22 34 rfl rfl hHeld ?_
          simp only [pt, List.set]
          refine skD 23 35 rfl rfl hHeld ?_
          simp only [pt, List.set]
          refine skD 24 36 rfl rfl hHeld ?_
          simp only [pt, List.set]
          refine skD 25 37 rfl rfl hHeld ?_
          simp only [pt, List.set]
          refine skD 26 38 rfl rfl hHeld ?_
          simp only [pt, List.set]
          refine tkD 27 39 (.bool false) rfl rfl hHeld ?_
          simp only [pt, List.set]
          refine tkD 28 40 (.bool false) rfl rfl hHeld ?_
          simp only [pt, List.set]
          refine wpAnyH_done (by kernel_rfl) ?_ _
          go_wp2_with fail
          exact ⟨⟨k + 1, by go_num, by omega, hid KB.out.drew, hid (Hnext.out (by have c3 := C3.out; rw [Hok.out]; simp only [Bool.and_eq_true, Bool.or_eq_true, decide_eq_true_iff]; omega))⟩, by simp [intOf]; omega⟩
        · have hk1 := hid (show IntKind.i64.wrap ((k : Int) - 1) = ((k - 1 : Nat) : Int) by rw [IntWalk.i64_in _ (by omega)]; omega)
          have hbk : k - 1 < l.length := by omega
          obtain ⟨ad', b, hae, _, hb, hcb⟩ := Its.get H.out hbk
          injection hae with hae
          subst hae
          have hbb : (ad.add (k - 1)).block < w.heap.size := by rw [add_block]; exact hadb
          have c4 : (0 : Int) < (k : Int) := by omega
          have b3 : (0 : Int) ≤ ((k - 1 : Nat) : Int) := by omega
          have b4 : ((k - 1 : Nat) : Int) < l.length := by omega
          rw [getD_of hb.out] at Hok
          by_cases c5 : a ≤ b
          · clear Hnext
            refine wp_region_held_drew (S := fun X => Below w.heap.size w X) (by kernel_rfl) KB.out.drew (fun hHeld => ?_)
            refine tkD 0 12 (.slice (some ad) l.length c) rfl rfl hHeld ?_
            simp only [pt, List.set]
            refine tkD 1 13 (.int .i64 (k : Int)) rfl rfl hHeld ?_
            simp only [pt, List.set]
            refine tkD 2 14 (.pointer (some (ad.add k))) rfl rfl hHeld ?_
            simp only [pt, List.set]
            refine tkH 3 15 (.int .i64 a) rfl rfl (fun X hX => by have q := (hX.cell (p := ad.add k) hba).trans hca; clear hX; go_simp) hHeld ?_
            simp only [pt, List.set]
            refine tkD 4 16 (.bool false) rfl rfl hHeld ?_
            simp only [pt, List.set]
            refine tkD 5 17 (.bool false) rfl rfl hHeld ?_
            simp only [pt, List.set]
            refine tkD 6 18 (.slice (some ad) l.length c) rfl rfl hHeld ?_
            simp only [pt, List.set]
            refine tkD 7 19 (.int .i64 (k : Int)) rfl rfl hHeld ?_
            simp only [pt, List.set]
            refine tkD 8 20 (.pointer (some (ad.add k))) rfl rfl hHeld ?_
            simp only [pt, List.set]
            refine tkH 9 21 (.int .i64 a) rfl rfl (fun X hX => by have q := (hX.cell (p := ad.add k) hba).trans hca; clear hX; go_simp) hHeld ?_
            simp only [pt, List.set]
            refine tkD 10 22 (.int .i64 e) rfl rfl hHeld ?_
            simp only [pt, List.set]
            refine tkD 11 23 (.bool false) rfl rfl hHeld ?_
            simp only [pt, List.set]
            refine tkD 12 24 (.bool false) rfl rfl hHeld ?_
            simp only [pt, List.set]
            refine tkD 13 25 (.bool false) rfl rfl hHeld ?_
            simp only [pt, List.set]
            refine tkD 14 26 (.int .i64 (k : Int)) rfl rfl hHeld ?_
            simp only [pt, List.set]
            refine tkH 15 27 (.bool true) rfl rfl (fun X hX => by clear hX; go_simp; omega) hHeld ?_
            simp only [pt, List.set]
            refine tkD 16 28 (.bool true) rfl rfl hHeld ?_
            simp only [pt, List.set]
            refine tkD 17 29 (.slice (some ad) l.length c) rfl rfl hHeld ?_
            simp only [pt, List.set]
            refine tkD 18 30 (.int .i64 (k : Int)) rfl rfl hHeld ?_
            simp only [pt, List.set]
            refine tkD 19 31 (.pointer (some (ad.add k))) rfl rfl hHeld ?_
            simp only [pt, List.set]
            refine tkH 20 32 (.int .i64 a) rfl rfl (fun X hX => by have q := (hX.cell (p := ad.add k) hba).trans hca; clear hX; go_simp) hHeld ?_
            simp only [pt, List.set]
            refine tkD 21 33 (.slice (some ad) l.length c) rfl rfl hHeld ?_
            simp only [pt, List.set]
            refine tkD 22 34 (.int .i64 (k : Int)) rfl rfl hHeld ?_
            simp only [pt, List.set]
            refine tkH 23 35 (.int .i64 ((k - 1 : Nat) : Int)) rfl rfl (fun X hX => by clear hX; go_simp; exact hk1.out) hHeld ?_
            simp only [pt, List.set]
            refine tkH 24 36 (.pointer (some (ad.add (k - 1)))) rfl rfl (fun X hX => by clear hX; go_simp) hHeld ?_
            simp only [pt, List.set]
            refine tkH 25 37 (.int .i64 b) rfl rfl (fun X hX => by have q := (hX.cell (p := ad.add (k - 1)) hbb).trans hcb; clear hX; go_simp) hHeld ?_
            simp only [pt, List.set]
            refine tkD 26 38 (.bool true) rfl rfl hHeld ?_
            simp only [pt, List.set]
            refine tkD 27 39 (.bool true) rfl rfl hHeld ?_
            simp only [pt, List.set]
            refine tkD 28 40 (.bool true) rfl rfl hHeld ?_
            simp only [pt, List.set]
            refine wpAnyH_done (by kernel_rfl) ?_ _
            go_wp2_with fail
            go_ret
            exact Did.mk (by rw [Hbad.out (by rw [Hok.out]; simp only [Bool.and_eq_false_iff, Bool.or_eq_false_iff, decide_eq_false_iff_not]; omega)]; rfl) KB.out.drew
          · clear Hbad
            refine wp_region_held_drew (S := fun X => Below w.heap.size w X) (by kernel_rfl) KB.out.drew (fun hHeld => ?_)
            refine tkD 0 12 (.slice (some ad) l.length c) rfl rfl hHeld ?_
            simp only [pt, List.set]
            refine tkD 1 13 (.int .i64 (k : Int)) rfl rfl hHeld ?_
            simp only [pt, List.set]
            refine tkD 2 14 (.pointer (some (ad.add k))) rfl rfl hHeld ?_
            simp only [pt, List.set]
            refine tkH 3 15 (.int .i64 a) rfl rfl (fun X hX => by have q := (hX.cell (p := ad.add k) hba).trans hca; clear hX; go_simp) hHeld ?_
            simp only [pt, List.set]
            refine tkD 4 16 (.bool false) rfl rfl hHeld ?_
            simp only [pt, List.set]
            refine tkD 5 17 (.bool false) rfl rfl hHeld ?_
            simp only [pt, List.set]
            refine tkD 6 18 (.slice (some ad) l.length c) rfl rfl hHeld ?_
            simp only [pt, List.set]
            refine tkD 7 19 (.int .i64 (k : Int)) rfl rfl hHeld ?_
            simp only [pt, List.set]
            refine tkD 8 20 (.pointer (some (ad.add k))) rfl rfl hHeld ?_
            simp only [pt, List.set]
            refine tkH 9 21 (.int .i64 a) rfl rfl (fun X hX => by have q := (hX.cell (p := ad.add k) hba).trans hca; clear hX; go_simp) hHeld ?_
            simp only [pt, List.set]
            refine tkD 10 22 (.int .i64 e) rfl rfl hHeld ?_
            simp only [pt, List.set]
            refine tkD 11 23 (.bool false) rfl rfl hHeld ?_
            simp only [pt, List.set]
            refine tkD 12 24 (.bool false) rfl rfl hHeld ?_
            simp only [pt, List.set]
            refine tkD 13 25 (.bool false) rfl rfl hHeld ?_
            simp only [pt, List.set]
            refine tkD 14 26 (.int .i64 (k : Int)) rfl rfl hHeld ?_
            simp only [pt, List.set]
            refine tkH 15 27 (.bool true) rfl rfl (fun X hX => by clear hX; go_simp; omega) hHeld ?_
            simp only [pt, List.set]
            refine tkD 16 28 (.bool true) rfl rfl hHeld ?_
            simp only [pt, List.set]
            refine tkD 17 29 (.slice (some ad) l.length c) rfl rfl hHeld ?_
            simp only [pt, List.set]
            refine tkD 18 30 (.int .i64 (k : Int)) rfl rfl hHeld ?_
            simp only [pt, List.set]
            refine tkD 19 31 (.pointer (some (ad.add k))) rfl rfl hHeld ?_
            simp only [pt, List.set]
            refine tkH 20 32 (.int .i64 a) rfl rfl (fun X hX => by have q := (hX.cell (p := ad.add k) hba).trans hca; clear hX; go_simp) hHeld ?_
            simp only [pt, List.set]
            refine tkD 21 33 (.slice (some ad) l.length c) rfl rfl hHeld ?_
            simp only [pt, List.set]
            refine tkD 22 34 (.int .i64 (k : Int)) rfl rfl hHeld ?_
            simp only [pt, List.set]
            refine tkH 23 35 (.int .i64 ((k - 1 : Nat) : Int)) rfl rfl (fun X hX => by clear hX; go_simp; exact hk1.out) hHeld ?_
            simp only [pt, List.set]
            refine tkH 24 36 (.pointer (some (ad.add (k - 1)))) rfl rfl (fun X hX => by clear hX; go_simp) hHeld ?_
            simp only [pt, List.set]
            refine tkH 25 37 (.int .i64 b) rfl rfl (fun X hX => by have q := (hX.cell (p := ad.add (k - 1)) hbb).trans hcb; clear hX; go_simp) hHeld ?_
            simp only [pt, List.set]
            refine tkD 26 38 (.bool false) rfl rfl hHeld ?_
            simp only [pt, List.set]
            refine tkD 27 39 (.bool false) rfl rfl hHeld ?_
            simp only [pt, List.set]
            refine tkD 28 40 (.bool false) rfl rfl hHeld ?_
            simp only [pt, List.set]
            refine wpAnyH_done (by kernel_rfl) ?_ _
            go_wp2_with fail
            exact ⟨⟨k + 1, by go_num, by omega, hid KB.out.drew, hid (Hnext.out (by rw [Hok.out]; simp only [Bool.and_eq_true, Bool.or_eq_true, decide_eq_true_iff]; omega))⟩, by simp [intOf]; omega⟩
  · have Hr := hid (Hyes.out (fun i hi => hsame.out i (by omega)))
    have b2 : ¬ (k : Int) < l.length := by omega
    clear Hyes Hno hsame
    go_wp2_with fail
    go_ret
    exact Did.mk (by rw [Hr.out]; rfl) KB.out
end Go.Proofs.YtgmgccepmalahaaGreat
namespace Go.Proofs.YtgmgccepmalahaaGreat
open Go.RowKit
open Whn (Gr Wh)
structure Se where
 t : Int
 p : Int
abbrev sv (s : Se) : Value := .agg #[.int .i64 s.t, .int .i64 s.p]
def seatB (x : Cl) (s : Se) : Bool := decide (-1 ≤ s.t) && decide (s.t < (x.t.length : Nat)) && decide (-1 ≤ s.p) && decide (s.p < (x.l.length : Nat))
def wholeB (x : Cl) (s : Se) : Bool := seatB x s && (s.t != -1) && ((s.p != -1) || ((x.l.length : Int) == 0))
def costB (n : Int) : Bool := decide (0 ≤ n) && decide (n ≤ 1000)
end Go.Proofs.YtgmgccepmalahaaGreat
namespace Go.Proofs.YtgmgccepmalahaaGreat
open Go.RowKit
open Whn (Gr Wh)
def plAt (l : List Pl) (i : Nat) : Pl := l.getD i ⟨0, 0⟩
def freshP (l : List Pl) (i k : Nat) : Bool := (List.range k).all fun m => !((plAt l m).r == (plAt l i).r)
def okPl (n : Int) (l : List Pl) (i : Nat) : Bool := decide (0 ≤ (plAt l i).r) && decide ((plAt l i).r < n) && costB (plAt l i).c && freshP l i i
def placesB (n : Int) (l : List Pl) : Bool := (List.range l.length).all (okPl n l) && decide ((l.length : Int) ≤ 12)
theorem plAt_of {l : List Pl} {i : Nat} {y : Pl} (h : l[i]? = some y) : plAt l i = y := by unfold plAt; rw [List.getD_eq_getElem?_getD, h]; rfl
theorem placesB_yes {n : Int} {l : List Pl} (h : ∀ i, i < l.length → okPl n l i = true) : placesB n l = decide ((l.length : Int) ≤ 12) := by
 unfold placesB
 rw [List.all_eq_true.2 (fun i hi => h i (List.mem_range.1 hi)), Bool.true_and]
theorem placesB_no {n : Int} {l : List Pl} {i : Nat} (hi : i < l.length) (h : okPl n l i = false) : placesB n l = false := by
 unfold placesB
 rw [List.all_eq_false.2 ⟨i, List.mem_range.2 hi, by rw [h]; simp⟩, Bool.false_and]
end Go.Proofs.YtgmgccepmalahaaGreat
namespace Go.Proofs.YtgmgccepmalahaaGreat
open Go.RowKit
open Whn (Gr Wh)
def tmAt (l : List Tm) (i : Nat) : Tm := l.getD i ⟨⟨0, 0, 0, 0⟩, 0⟩
def freshT (l : List Tm) (i k : Nat) : Bool := (List.range k).all fun m => !(whEq (tmAt l m).w (tmAt l i).w)
def okTm (g : Gr) (l : List Tm) (i : Nat) : Bool := Whn.right g (tmAt l i).w && costB (tmAt l i).c && freshT l i i
def timesB (g : Gr) (l : List Tm) : Bool := (List.range l.length).all (okTm g l) && (decide ((1 : Int) ≤ (l.length : Int)) && decide ((l.length : Int) ≤ 16))
theorem tmAt_of {l : List Tm} {i : Nat} {y : Tm} (h : l[i]? = some y) : tmAt l i = y := by unfold tmAt; rw [List.getD_eq_getElem?_getD, h]; rfl
theorem timesB_yes {g : Gr} {l : List Tm} (h : ∀ i, i < l.length → okTm g l i = true) : timesB g l = (decide ((1 : Int) ≤ (l.length : Int)) && decide ((l.length : Int) ≤ 16)) := by
 unfold timesB
 rw [List.all_eq_true.2 (fun i hi => h i (List.mem_range.1 hi)), Bool.true_and]
theorem timesB_no {g : Gr} {l : List Tm} {i : Nat} (hi : i < l.length) (h : okTm g l i = false) : timesB g l = false := by
 unfold timesB
 rw [List.all_eq_false.2 ⟨i, List.mem_range.2 hi, by rw [h]; simp⟩, Bool.false_and]
end Go.Proofs.YtgmgccepmalahaaGreat
namespace Go.Proofs.YtgmgccepmalahaaGreat
open Go.RowKit
open Whn (Gr Wh)
def clRight (g : Gr) (rn pn cn : Int) (x : Cl) : Bool := Whn.rgrid g && nameOk x.n && decide (0 ≤ x.s) && decide (x.s ≤ 10000) && decide ((x.p.length : Int) ≤ 4) && risingB x.p pn && timesB g x.t && placesB rn x.l && decide (-1 ≤ x.o) && decide (x.o < cn)
end Go.Proofs.YtgmgccepmalahaaGreat
namespace Go.Proofs.YtgmgccepmalahaaGreat
open Go.RowKit
open Whn (Gr Wh)
deriving instance DecidableEq for Tm
deriving instance DecidableEq for Pl
deriving instance DecidableEq for Cl
abbrev tmv (x : Tm) : Value := .agg #[.int .u32 (x.w.w : Int), .int .u8 (x.w.d : Int), .int .i64 x.w.s, .int .i64 x.w.l, .int .i64 x.c]
abbrev plv (x : Pl) : Value := .agg #[.int .i64 x.r, .int .i64 x.c]
theorem tm_neq (x y : Tm) (w : World) : (binOp .neq 122 (tmv x) (tmv y)).run Tryz.prog w = .ok (.bool (!decide (x = y))) w := by
 obtain ⟨⟨a, b, c, d⟩, e⟩ := x
 obtain ⟨⟨a', b', c', d'⟩, e'⟩ := y
 go_simp
 have h1 : ((a : Int) = (a' : Int)) = (a = a') := propext ⟨fun h => by omega, fun h => by omega⟩
 have h2 : ((b : Int) = (b' : Int)) = (b = b') := propext ⟨fun h => by omega, fun h => by omega⟩
 simp only [h1, h2]
 by_cases a1 : a = a'
 · by_cases a2 : b = b'
   · by_cases a3 : c = c'
     · by_cases a4 : d = d'
       · by_cases a5 : e = e'
         · simp [a1, a2, a3, a4, a5]
         · simp [a1, a2, a3, a4, a5]
       · simp [a1, a2, a3, a4]
     · simp [a1, a2, a3]
   · simp [a1, a2]
 · simp [a1]
theorem pl_neq (x y : Pl) (w : World) : (binOp .neq 124 (plv x) (plv y)).run Tryz.prog w = .ok (.bool (!decide (x = y))) w := by
 obtain ⟨a, b⟩ := x
 obtain ⟨a', b'⟩ := y
 go_simp
 by_cases a1 : a = a'
 · by_cases a2 : b = b'
   · simp [a1, a2]
   · simp [a1, a2]
 · simp [a1]
set_option maxHeartbeats 1000000 in
theorem r_Ints (A A' : Option Addr) (n n' c c' : Nat) (ls ms : List Int) (hn : ls.length = n) (hn' : ms.length = n') (w : World) (B B' : Nat) (h : Its w B A ls) (h' : Its w B' A' ms) (hm : ls.length ≤ maxLen) :
 Calls Tryz.prog 34 #[.slice A n c, .slice A' n' c'] w (Did (.bool (decide (ls = ms))) w) := by
 unfold maxLen at hm
 subst hn
 by_cases hlen : ls.length = n'
 · have H := hid h
   have H' := hid h'
   clear h h'
   subst hlen
   have Hn := hid hn'
   clear hn'
   go_enter Tryz.func34, Tryz.ntmps34
   go_wp2
   go_loopw [5] (fun i wr => ∃ (k m : Nat), i = .int .i64 k ∧ k ≤ ls.length ∧ wr = w.drewN m ∧ Hid (ls.take k = ms.take k)) (fun i _ => ls.length - (intOf i).toNat)
   case atStart => exact ⟨0, 0, rfl, Nat.zero_le _, rfl, rfl⟩
   case round =>
    obtain ⟨k, m, rfl, hk, rfl, hsame⟩ := hrel
    by_cases hlt : k < ls.length
    · have hlt' : k < ms.length := by rw [Hn.out]; exact hlt
      obtain ⟨ad, x, rfl, _, hx, hc⟩ := Its.get H.out hlt
      obtain ⟨ad', y, rfl, _, hy, hc'⟩ := Its.get H'.out hlt'
      have b1 : (0 : Int) ≤ (k : Int) := by omega
      have b2 : (k : Int) < ls.length := by omega
      by_cases hxy : x = y
      · have hxy' : (x != y) = false := by rw [hxy]; exact bne_self_eq_false y
        have Hxy := hid hxy
        clear hxy
        go_wp2_with fail
        go_quiet (fail)
        go_wp2_with fail
        refine ⟨⟨k + 1, _, by go_num, by omega, rfl, ?_⟩, by simp [intOf]; omega⟩
        show ls.take (k + 1) = ms.take (k + 1)
        rw [List.take_add_one, List.take_add_one, hsame.out, hx.out, hy.out, Hxy.out]
      · have hxy' : (x != y) = true := by rw [bne_iff_ne]; exact hxy
        have Hxy := hid hxy
        clear hxy
        go_wp2_with fail
        go_quiet (fail)
        go_wp2_with fail
        go_ret
        refine Did.mk (congrArg Value.bool ?_) (below_drewN (below_drewN (Below.refl _ _) _) _)
        symm
        rw [decide_eq_false_iff_not]
        intro e
        apply Hxy.out
        have e1 : ls[k]? = ms[k]? := by rw [e]
        rw [hx.out, hy.out] at e1
        injection e1
    · go_wp2_with fail
      go_ret
      refine Did.mk (congrArg Value.bool ?_) (below_drewN (Below.refl _ _) _)
      symm
      rw [decide_eq_true_iff]
      have e := hsame.out
      rwa [List.take_of_length_le (by omega), List.take_of_length_le (by rw [Hn.out]; omega)] at e
 · subst hn'
   have hne : ((ls.length : Int) != (ms.length : Int)) = true := by rw [bne_iff_ne]; omega
   have hres := hid (show decide (ls = ms) = false by rw [decide_eq_false_iff_not]; intro e; exact hlen (by rw [e]))
   go_enter Tryz.func34, Tryz.ntmps34
   go_wp2
   go_ret
   exact Did.mk (congrArg Value.bool hres.out.symm) (Below.refl _ _)
def clEq (x y : Cl) : Bool := decide (x.n = y.n) && decide (x.s = y.s) && decide (x.g = y.g) && decide (x.o = y.o) && decide (x.p = y.p) && decide (x.t.length = y.t.length) && decide (x.l.length = y.l.length) && decide (x.t = y.t) && decide (x.l = y.l)
theorem clEq_iff (x y : Cl) : clEq x y = true ↔ x = y := by
 unfold clEq
 obtain ⟨a, b, c, d, e, f, g⟩ := x
 obtain ⟨a', b', c', d', e', f', g'⟩ := y
 simp only [Bool.and_eq_true, decide_eq_true_iff, Cl.mk.injEq]
 constructor
 · rintro ⟨⟨⟨⟨⟨⟨⟨⟨h1, h2⟩, h3⟩, h4⟩, h5⟩, _⟩, _⟩, h6⟩, h7⟩
   exact ⟨h1, h2, h3, h5, h6, h7, h4⟩
 · rintro ⟨h1, h2, h3, h4, h5, h6, h7⟩
   exact ⟨⟨⟨⟨⟨⟨⟨⟨h1, h2⟩, h3⟩, h7⟩, h4⟩, congrArg List.length h5⟩, congrArg List.length h6⟩, h5⟩, h6⟩
theorem takes_all {α : Type} {l m : List α} {k : Nat} (h : l.take k = m.take k) (h1 : l.length ≤ k) (h2 : l.length = m.length) : l = m := by
 rwa [List.take_of_length_le h1, List.take_of_length_le (by omega)] at h
theorem takes_ne {α : Type} {l m : List α} {k : Nat} {x y : α} (hx : l[k]? = some x) (hy : m[k]? = some y) (h : x ≠ y) : ¬ l = m := fun e => by
 rw [e, hy] at hx
 exact h (Option.some.inj hx).symm
set_option maxRecDepth 20000 in
set_option maxHeartbeats 4000000 in
theorem r_SameC (x y : Cl) (r s : Cw) (hl : Clc x r) (w : World) (h : Clw w w.heap.size x r) (h2 : Clw w w.heap.size y s) :
 Calls Tryz.prog 100 #[cv x r, cv y s] w (Did (.bool (clEq x y)) w) := by
 have HI := hid (fun X (h : Its X X.heap.size r.a x.p) (h2 : Its X X.heap.size s.a y.p) => r_Ints r.a s.a x.p.length y.p.length r.ac s.ac x.p y.p rfl rfl X _ _ h h2 (Nat.le_trans hl.1.1 hl.1.2))
 have H := hid h
 have H2 := hid h2
 have Hr := hid (show clEq x y = (decide (x.n = y.n) && decide (x.s = y.s) && decide (x.g = y.g) && decide (x.o = y.o) && decide (x.p = y.p) && decide (x.t.length = y.t.length) && decide (x.l.length = y.l.length) && decide (x.t = y.t) && decide (x.l = y.l)) from rfl)
 have m1 : x.t.length ≤ maxLen := Nat.le_trans hl.2.1.1 hl.2.1.2
 have m2 : x.l.length ≤ maxLen := Nat.le_trans hl.2.2.1 hl.2.2.2
 unfold maxLen at m1 m2
 clear h h2 hl
 obtain ⟨P, W, hP, hW, K, hb0⟩ := (Mem.nil w).one (ccl x r) 62
 obtain ⟨R, V, hR, hV, K1, hb1⟩ := K.out.one (ccl y s) 62
 clear K hb0 hb1
 obtain ⟨e0, e1, e2, e3, e4, e5, e6⟩ := K1.out.cl (B := P) (x := x) (r := r) (t := 62) (by simp)
 obtain ⟨f0, f1, f2, f3, f4, f5, f6⟩ := K1.out.cl (B := R) (x := y) (r := s) (t := 62) (by simp)
 generalize decide (x.p = y.p) = ip at *
 generalize clEq x y = q at *
 go_enter Tryz.func100, Tryz.ntmps100
 by_cases c1 : x.n = y.n
 · have q1 : ((bs x.n).toList == (bs y.n).toList) = true := by rw [c1]; simp
   rw [decide_eq_true c1, Bool.true_and] at Hr
   clear c1
   by_cases c2 : x.s = y.s
   · have q2 : (x.s != y.s) = false := by rw [c2]; exact bne_self_eq_false _
     rw [decide_eq_true c2, Bool.true_and] at Hr
     clear c2
     by_cases c3 : x.g = y.g
     · have q3 : ((x.g : Int) != (y.g : Int)) = false := by rw [c3]; exact bne_self_eq_false _
       rw [decide_eq_true c3, Bool.true_and] at Hr
       clear c3
       by_cases c4 : x.o = y.o
       · have q4 : (x.o != y.o) = false := by rw [c4]; exact bne_self_eq_false _
         rw [decide_eq_true c4, Bool.true_and] at Hr
         clear c4
         go_wp2_with fail
         refine (HI.out _ ((H.out.1.below K1.out.2 (Nat.le_refl _)).more K1.out.2.size) ((H2.out.1.below K1.out.2 (Nat.le_refl _)).more K1.out.2.size)).mono ?_
         rintro e Y1 ⟨rfl, b1⟩
         have K2 := hid (K1.out.next b1)
         clear b1 K1 e0 e1 e2 e3 e4 e5 e6 f0 f1 f2 f3 f4 f5 f6 q1 q2 q3 q4
         obtain ⟨e0, e1, e2, e3, e4, e5, e6⟩ := K2.out.cl (B := P) (x := x) (r := r) (t := 62) (by simp)
         obtain ⟨f0, f1, f2, f3, f4, f5, f6⟩ := K2.out.cl (B := R) (x := y) (r := s) (t := 62) (by simp)
         cases ip with
         | false =>
          go_wp2_with fail
          go_ret
          exact Did.mk (by rw [Hr.out]; rfl) K2.out.2
         | true =>
          rw [Bool.true_and] at Hr
          by_cases c5 : x.t.length = y.t.length
          · have q5 : ((x.t.length : Int) != (y.t.length : Int)) = false := by rw [c5]; exact bne_self_eq_false _
            rw [decide_eq_true c5, Bool.true_and] at Hr
            by_cases c6 : x.l.length = y.l.length
            · have q6 : ((x.l.length : Int) != (y.l.length : Int)) = false := by rw [c6]; exact bne_self_eq_false _
              rw [decide_eq_true c6, Bool.true_and] at Hr
              have C5 := hid c5
              have C6 := hid c6
              clear c5 c6
              go_wp2_with fail
              clear q5 q6
              have K3 := hid (show Mem w Y1 [(R, ccl y s, 62), (P, ccl x r, 62)] from K2.out)
              clear K2 e0 e1 e2 e3 e4 e5 e6 f0 f1 f2 f3 f4 f5 f6
              go_loopw [5] (fun i wr => ∃ (k : Nat), i = .int .i64 k ∧ k ≤ x.t.length ∧ Hid (Mem w wr [(R, ccl y s, 62), (P, ccl x r, 62)]) ∧ Hid (x.t.take k = y.t.take k)) (fun i _ => x.t.length - (intOf i).toNat)
              case atStart => exact ⟨0, rfl, Nat.zero_le _, K3, hid rfl⟩
              case round =>
               clear K3
               obtain ⟨k, rfl, hk, KB, hsame⟩ := hrel
               obtain ⟨e0, e1, e2, e3, e4, e5, e6⟩ := KB.out.cl (B := P) (x := x) (r := r) (t := 62) (by simp)
               obtain ⟨f0, f1, f2, f3, f4, f5, f6⟩ := KB.out.cl (B := R) (x := y) (r := s) (t := 62) (by simp)
               by_cases hlt : k < x.t.length
               · have b1 : (0 : Int) ≤ (k : Int) := by omega
                 have b2 : (k : Int) < x.t.length := by omega
                 have b3 : (k : Int) < y.t.length := by have := C5.out; omega
                 obtain ⟨ad, a, hae, hadb, ha, _, hcell⟩ := Es.get enT_len (by decide) H.out.2.1 hlt
                 obtain ⟨ae, b, haf, haeb, hb, _, hdell⟩ := Es.get enT_len (by decide) H2.out.2.1 (show k < y.t.length by omega)
                 have hbc : (ad.add (k * 5)).block < w.heap.size := by rw [add_block]; exact hadb
                 have c0 : w.cell? (ad.add (k * 5)) = some (.int .u32 ((a.w.w : Nat) : Int)) := by have := hcell 0 _ rfl; rwa [Nat.add_zero] at this
                 have c1 : w.cell? ⟨(ad.add (k * 5)).block, (ad.add (k * 5)).off + 1, none⟩ = some (.int .u8 ((a.w.d : Nat) : Int)) := by have := hcell 1 _ rfl; rwa [add_add _ _ _ (by omega)] at this
                 have c2 : w.cell? ⟨(ad.add (k * 5)).block, (ad.add (k * 5)).off + 2, none⟩ = some (.int .i64 a.w.s) := by have := hcell 2 _ rfl; rwa [add_add _ _ _ (by omega)] at this
                 have c3 : w.cell? ⟨(ad.add (k * 5)).block, (ad.add (k * 5)).off + 3, none⟩ = some (.int .i64 a.w.l) := by have := hcell 3 _ rfl; rwa [add_add _ _ _ (by omega)] at this
                 have c4 : w.cell? ⟨(ad.add (k * 5)).block, (ad.add (k * 5)).off + 4, none⟩ = some (.int .i64 a.c) := by have := hcell 4 _ rfl; rwa [add_add _ _ _ (by omega)] at this
                 have hbd : (ae.add (k * 5)).block < w.heap.size := by rw [add_block]; exact haeb
                 have d0 : w.cell? (ae.add (k * 5)) = some (.int .u32 ((b.w.w : Nat) : Int)) := by have := hdell 0 _ rfl; rwa [Nat.add_zero] at this
                 have d1 : w.cell? ⟨(ae.add (k * 5)).block, (ae.add (k * 5)).off + 1, none⟩ = some (.int .u8 ((b.w.d : Nat) : Int)) := by have := hdell 1 _ rfl; rwa [add_add _ _ _ (by omega)] at this
                 have d2 : w.cell? ⟨(ae.add (k * 5)).block, (ae.add (k * 5)).off + 2, none⟩ = some (.int .i64 b.w.s) := by have := hdell 2 _ rfl; rwa [add_add _ _ _ (by omega)] at this
                 have d3 : w.cell? ⟨(ae.add (k * 5)).block, (ae.add (k * 5)).off + 3, none⟩ = some (.int .i64 b.w.l) := by have := hdell 3 _ rfl; rwa [add_add _ _ _ (by omega)] at this
                 have d4 : w.cell? ⟨(ae.add (k * 5)).block, (ae.add (k * 5)).off + 4, none⟩ = some (.int .i64 b.c) := by have := hdell 4 _ rfl; rwa [add_add _ _ _ (by omega)] at this
                 clear hcell hdell
                 go_wp2_with fail
                 refine wp_region_held_drew (S := fun X => Mem w X [(R, ccl y s, 62), (P, ccl x r, 62)]) (by kernel_rfl) KB.out.drew (fun hHeld => ?_)
                 refine tkD 0 66 (.pointer (some ⟨P, 4, none⟩)) rfl rfl hHeld ?_
                 simp only [pt, List.set]
                 refine tkH 1 67 (.slice (some ad) x.t.length r.bc) rfl rfl (fun X hX => by obtain ⟨q0, q1, q2, q3, q4, q5, q6⟩ := hX.cl (B := P) (x := x) (r := r) (t := 62) (by simp); rw [hae] at q4; clear hX; go_simp) hHeld ?_
                 simp only [pt, List.set]
                 refine tkD 2 68 (.int .i64 (k : Int)) rfl rfl hHeld ?_
                 simp only [pt, List.set]
                 refine tkD 3 69 (.pointer (some (ad.add (k * 5)))) rfl rfl hHeld ?_
                 simp only [pt, List.set]
                 refine tkH 4 70 (tmv a) rfl rfl (fun X hX => by have qc0 := (hX.2.cell (p := ad.add (k * 5)) hbc).trans c0; have qc1 := (hX.2.cell (p := ⟨(ad.add (k * 5)).block, (ad.add (k * 5)).off + 1, none⟩) hbc).trans c1; have qc2 := (hX.2.cell (p := ⟨(ad.add (k * 5)).block, (ad.add (k * 5)).off + 2, none⟩) hbc).trans c2; have qc3 := (hX.2.cell (p := ⟨(ad.add (k * 5)).block, (ad.add (k * 5)).off + 3, none⟩) hbc).trans c3; have qc4 := (hX.2.cell (p := ⟨(ad.add (k * 5)).block, (ad.add (k * 5)).off + 4, none⟩) hbc).trans c4; clear hX; go_simp) hHeld ?_
                 simp only [pt, List.set]
                 refine tkD 5 71 (.pointer (some ⟨R, 4, none⟩)) rfl rfl hHeld ?_
                 simp only [pt, List.set]
                 refine tkH 6 72 (.slice (some ae) y.t.length s.bc) rfl rfl (fun X hX => by obtain ⟨q0, q1, q2, q3, q4, q5, q6⟩ := hX.cl (B := R) (x := y) (r := s) (t := 62) (by simp); rw [haf] at q4; clear hX; go_simp) hHeld ?_
                 simp only [pt, List.set]
                 refine tkD 7 73 (.int .i64 (k : Int)) rfl rfl hHeld ?_
                 simp only [pt, List.set]
                 refine tkD 8 74 (.pointer (some (ae.add (k * 5)))) rfl rfl hHeld ?_
                 simp only [pt, List.set]
                 refine tkH 9 75 (tmv b) rfl rfl (fun X hX => by have qd0 := (hX.2.cell (p := ae.add (k * 5)) hbd).trans d0; have qd1 := (hX.2.cell (p := ⟨(ae.add (k * 5)).block, (ae.add (k * 5)).off + 1, none⟩) hbd).trans d1; have qd2 := (hX.2.cell (p := ⟨(ae.add (k * 5)).block, (ae.add (k * 5)).off + 2, none⟩) hbd).trans d2; have qd3 := (hX.2.cell (p := ⟨(ae.add (k * 5)).block, (ae.add (k * 5)).off + 3, none⟩) hbd).trans d3; have qd4 := (hX.2.cell (p := ⟨(ae.add (k * 5)).block, (ae.add (k * 5)).off + 4, none⟩) hbd).trans d4; clear hX; go_simp) hHeld ?_
                 simp only [pt, List.set]
                 refine tkH 10 76 (.bool (!decide (a = b))) rfl rfl (fun X hX => by clear hX; have q := fun W => tm_neq a b W; go_simp) hHeld ?_
                 simp only [pt, List.set]
                 refine wpAnyH_done (by kernel_rfl) ?_ _
                 cases hR : decide (a = b) with
                 | true =>
                  have hab := of_decide_eq_true hR
                  have hn := hid (show x.t.take (k + 1) = y.t.take (k + 1) by rw [List.take_add_one, List.take_add_one, hsame.out, ha.out, hb.out, hab])
                  clear hab hsame
                  go_wp2_with fail
                  exact ⟨⟨k + 1, by go_num, by omega, hid KB.out.drew, hn⟩, by simp [intOf]; omega⟩
                 | false =>
                  rw [decide_eq_false (takes_ne ha.out hb.out (of_decide_eq_false hR)), Bool.false_and] at Hr
                  go_wp2_with fail
                  go_ret
                  exact Did.mk (by rw [Hr.out]; rfl) KB.out.drew.2
               · have hT := takes_all hsame.out (by omega) C5.out
                 rw [decide_eq_true hT, Bool.true_and] at Hr
                 clear hT hsame
                 have b2 : ¬ (k : Int) < x.t.length := by omega
                 go_wp2_with fail
                 have K4 := hid (show Mem w wr [(R, ccl y s, 62), (P, ccl x r, 62)] from KB.out)
                 clear KB e0 e1 e2 e3 e4 e5 e6 f0 f1 f2 f3 f4 f5 f6 b2 hlt hk
                 go_loopw [6] (fun i wr => ∃ (k : Nat), i = .int .i64 k ∧ k ≤ x.l.length ∧ Hid (Mem w wr [(R, ccl y s, 62), (P, ccl x r, 62)]) ∧ Hid (x.l.take k = y.l.take k)) (fun i _ => x.l.length - (intOf i).toNat)
                 case atStart => exact ⟨0, rfl, Nat.zero_le _, K4, hid rfl⟩
                 case round =>
                  clear K4
                  obtain ⟨k, rfl, hk, KD, hsame⟩ := hrel
                  obtain ⟨e0, e1, e2, e3, e4, e5, e6⟩ := KD.out.cl (B := P) (x := x) (r := r) (t := 62) (by simp)
                  obtain ⟨f0, f1, f2, f3, f4, f5, f6⟩ := KD.out.cl (B := R) (x := y) (r := s) (t := 62) (by simp)
                  by_cases hlt : k < x.l.length
                  · have b1 : (0 : Int) ≤ (k : Int) := by omega
                    have b2 : (k : Int) < x.l.length := by omega
                    have b3 : (k : Int) < y.l.length := by have := C6.out; omega
                    obtain ⟨ad, a, hae, hadb, ha, _, hcell⟩ := Es.get enP_len (by decide) H.out.2.2 hlt
                    obtain ⟨ae, b, haf, haeb, hb, _, hdell⟩ := Es.get enP_len (by decide) H2.out.2.2 (show k < y.l.length by omega)
                    have hbc : (ad.add (k * 2)).block < w.heap.size := by rw [add_block]; exact hadb
                    have c0 : w.cell? (ad.add (k * 2)) = some (.int .i64 a.r) := by have := hcell 0 _ rfl; rwa [Nat.add_zero] at this
                    have c1 : w.cell? ⟨(ad.add (k * 2)).block, (ad.add (k * 2)).off + 1, none⟩ = some (.int .i64 a.c) := by have := hcell 1 _ rfl; rwa [add_add _ _ _ (by omega)] at this
                    have hbd : (ae.add (k * 2)).block < w.heap.size := by rw [add_block]; exact haeb
                    have d0 : w.cell? (ae.add (k * 2)) = some (.int .i64 b.r) := by have := hdell 0 _ rfl; rwa [Nat.add_zero] at this
                    have d1 : w.cell? ⟨(ae.add (k * 2)).block, (ae.add (k * 2)).off + 1, none⟩ = some (.int .i64 b.c) := by have := hdell 1 _ rfl; rwa [add_add _ _ _ (by omega)] at this
                    clear hcell hdell
                    go_wp2_with fail
                    refine wp_region_held_drew (S := fun X => Mem w X [(R, ccl y s, 62), (P, ccl x r, 62)]) (by kernel_rfl) KD.out.drew (fun hHeld => ?_)
                    refine tkD 0 84 (.pointer (some ⟨P, 5, none⟩)) rfl rfl hHeld ?_
                    simp only [pt, List.set]
                    refine tkH 1 85 (.slice (some ad) x.l.length r.cc) rfl rfl (fun X hX => by obtain ⟨q0, q1, q2, q3, q4, q5, q6⟩ := hX.cl (B := P) (x := x) (r := r) (t := 62) (by simp); rw [hae] at q5; clear hX; go_simp) hHeld ?_
                    simp only [pt, List.set]
                    refine tkD 2 86 (.int .i64 (k : Int)) rfl rfl hHeld ?_
                    simp only [pt, List.set]
                    refine tkD 3 87 (.pointer (some (ad.add (k * 2)))) rfl rfl hHeld ?_
                    simp only [pt, List.set]
                    refine tkH 4 88 (plv a) rfl rfl (fun X hX => by have qc0 := (hX.2.cell (p := ad.add (k * 2)) hbc).trans c0; have qc1 := (hX.2.cell (p := ⟨(ad.add (k * 2)).block, (ad.add (k * 2)).off + 1, none⟩) hbc).trans c1; clear hX; go_simp) hHeld ?_
                    simp only [pt, List.set]
                    refine tkD 5 89 (.pointer (some ⟨R, 5, none⟩)) rfl rfl hHeld ?_
                    simp only [pt, List.set]
                    refine tkH 6 90 (.slice (some ae) y.l.length s.cc) rfl rfl (fun X hX => by obtain ⟨q0, q1, q2, q3, q4, q5, q6⟩ := hX.cl (B := R) (x := y) (r := s) (t := 62) (by simp); rw [haf] at q5; clear hX; go_simp) hHeld ?_
                    simp only [pt, List.set]
                    refine tkD 7 91 (.int .i64 (k : Int)) rfl rfl hHeld ?_
                    simp only [pt, List.set]
                    refine tkD 8 92 (.pointer (some (ae.add (k * 2)))) rfl rfl hHeld ?_
                    simp only [pt, List.set]
                    refine tkH 9 93 (plv b) rfl rfl (fun X hX => by have qd0 := (hX.2.cell (p := ae.add (k * 2)) hbd).trans d0; have qd1 := (hX.2.cell (p := ⟨(ae.add (k * 2)).block, (ae.add (k * 2)).off + 1, none⟩) hbd).trans d1; clear hX; go_simp) hHeld ?_
                    simp only [pt, List.set]
                    refine tkH 10 94 (.bool (!decide (a = b))) rfl rfl (fun X hX => by clear hX; have q := fun W => pl_neq a b W; go_simp) hHeld ?_
                    simp only [pt, List.set]
                    refine wpAnyH_done (by kernel_rfl) ?_ _
                    cases hR : decide (a = b) with
                    | true =>
                     have hab := of_decide_eq_true hR
                     have hn := hid (show x.l.take (k + 1) = y.l.take (k + 1) by rw [List.take_add_one, List.take_add_one, hsame.out, ha.out, hb.out, hab])
                     clear hab hsame
                     go_wp2_with fail
                     exact ⟨⟨k + 1, by go_num, by omega, hid KD.out.drew, hn⟩, by simp [intOf]; omega⟩
                    | false =>
                     rw [decide_eq_false (takes_ne ha.out hb.out (of_decide_eq_false hR))] at Hr
                     go_wp2_with fail
                     go_ret
                     exact Did.mk (by rw [Hr.out]; rfl) KD.out.drew.2
                  · have hT := takes_all hsame.out (by omega) C6.out
                    rw [decide_eq_true hT] at Hr
                    clear hT hsame
                    have b2 : ¬ (k : Int) < x.l.length := by omega
                    go_wp2_with fail
                    go_ret
                    exact Did.mk (by rw [Hr.out]; rfl) KD.out.2
            · have q6 : ((x.l.length : Int) != (y.l.length : Int)) = true := by rw [bne_iff_ne]; omega
              rw [decide_eq_false c6, Bool.false_and] at Hr
              clear c6
              go_wp2_with fail
              go_ret
              exact Did.mk (by rw [Hr.out]; rfl) K2.out.2
          · have q5 : ((x.t.length : Int) != (y.t.length : Int)) = true := by rw [bne_iff_ne]; omega
            rw [decide_eq_false c5, Bool.false_and] at Hr
            clear c5
            go_wp2_with fail
            go_ret
            exact Did.mk (by rw [Hr.out]; rfl) K2.out.2
       · have q4 : (x.o != y.o) = true := by rw [bne_iff_ne]; exact c4
         rw [decide_eq_false c4] at Hr
         clear c4
         go_wp2_with fail
         go_ret
         exact Did.mk (by rw [Hr.out]; rfl) K1.out.2
     · have q3 : ((x.g : Int) != (y.g : Int)) = true := by rw [bne_iff_ne]; omega
       rw [decide_eq_false c3] at Hr
       clear c3
       go_wp2_with fail
       go_ret
       exact Did.mk (by rw [Hr.out]; rfl) K1.out.2
   · have q2 : (x.s != y.s) = true := by rw [bne_iff_ne]; exact c2
     rw [decide_eq_false c2] at Hr
     clear c2
     go_wp2_with fail
     go_ret
     exact Did.mk (by rw [Hr.out]; rfl) K1.out.2
 · have q1 : ((bs x.n).toList == (bs y.n).toList) = false := by rw [list_of, list_of, bs_data, bs_data, beq_eq_false_iff_ne]; exact c1
   rw [decide_eq_false c1] at Hr
   clear c1
   go_wp2_with fail
   go_ret
   exact Did.mk (by rw [Hr.out]; rfl) K1.out.2
end Go.Proofs.YtgmgccepmalahaaGreat
namespace Go.Proofs.YtgmgccepmalahaaGreat
open Go.RowKit
open Whn (Gr Wh)
def cand (M i : Nat) : Se := ⟨((i / (M + 1) : Nat) : Int), ((i % (M + 1) : Nat) : Int) - 1⟩
def seatsTo (x : Cl) (f : Nat) : List Se := ((List.range f).map (cand x.l.length)).filter (wholeB x)
def seats (x : Cl) : List Se := seatsTo x (x.t.length * (x.l.length + 1))
theorem seatsTo_succ (x : Cl) (f : Nat) : seatsTo x (f + 1) = seatsTo x f ++ (if wholeB x (cand x.l.length f) then [cand x.l.length f] else []) := by
 unfold seatsTo
 rw [List.range_succ, List.map_append, List.filter_append, List.map_cons, List.map_nil, List.filter_cons, List.filter_nil]
theorem cand_at (M t j : Nat) (hj : j < M + 1) : cand M (t * (M + 1) + j) = ⟨(t : Int), (j : Int) - 1⟩ := by
 unfold cand
 rw [Nat.mul_comm t, Nat.mul_add_div (by omega), Nat.mul_add_mod, Nat.div_eq_of_lt hj, Nat.mod_eq_of_lt hj, Nat.add_zero]
end Go.Proofs.YtgmgccepmalahaaGreat
namespace Go.Proofs.YtgmgccepmalahaaGreat
open Go.RowKit
open Whn (Gr Wh)
end Go.Proofs.YtgmgccepmalahaaGreat
namespace Go.Proofs.YtgmgccepmalahaaGreat
open Go.RowKit
open Whn (Gr Wh)
end Go.Proofs.YtgmgccepmalahaaGreat
namespace Go.Proofs.YtgmgccepmalahaaGreat
open Go.RowKit
open Whn (Gr Wh)
def seatsAt (x : Cl) (t : Nat) : List Se := if x.l.length = 0 then [⟨(t : Int), -1⟩] else (List.range x.l.length).map fun (p : Nat) => ⟨(t : Int), (p : Int)⟩
theorem whole_cand {x : Cl} {t j : Nat} (ht : t < x.t.length) (hj : j < x.l.length + 1) : wholeB x (cand x.l.length (t * (x.l.length + 1) + j)) = (decide (0 < j) || decide (x.l.length = 0)) := by
 rw [cand_at _ _ _ hj]
 unfold wholeB seatB
 have a1 : (-1 : Int) ≤ (t : Int) := by omega
 have a2 : (t : Int) < (x.t.length : Nat) := by omega
 have a3 : (-1 : Int) ≤ (j : Int) - 1 := by omega
 have a4 : (j : Int) - 1 < (x.l.length : Nat) := by omega
 have a5 : ((t : Int) != -1) = true := by rw [bne_iff_ne]; omega
 simp only [decide_eq_true a1, decide_eq_true a2, decide_eq_true a3, decide_eq_true a4, a5, Bool.true_and]
 by_cases hj0 : 0 < j
 · have b1 : ((j : Int) - 1 != -1) = true := by rw [bne_iff_ne]; omega
   rw [b1, decide_eq_true hj0, Bool.true_or, Bool.true_or]
 · have b1 : ((j : Int) - 1 != -1) = false := by rw [bne_eq_false_iff_eq]; omega
   rw [b1, decide_eq_false hj0, Bool.false_or, Bool.false_or]
   by_cases hl : x.l.length = 0
   · rw [hl]; rfl
   · rw [decide_eq_false hl, beq_eq_false_iff_ne]; omega
theorem seatsTo_row (x : Cl) {t : Nat} (ht : t < x.t.length) : ∀ j, j ≤ x.l.length + 1 → seatsTo x (t * (x.l.length + 1) + j) = seatsTo x (t * (x.l.length + 1)) ++ (if x.l.length = 0 then (if j = 0 then [] else [⟨(t : Int), -1⟩]) else (List.range (j - 1)).map fun (p : Nat) => ⟨(t : Int), (p : Int)⟩)
 | 0, _ => by
  by_cases hl : x.l.length = 0
  · rw [if_pos hl, if_pos rfl, List.append_nil]; rfl
  · rw [if_neg hl]; simp
 | j + 1, h => by
  have ih := seatsTo_row x ht j (by omega)
  rw [show t * (x.l.length + 1) + (j + 1) = (t * (x.l.length + 1) + j) + 1 from rfl, seatsTo_succ, ih, whole_cand ht (by omega), cand_at _ _ _ (by omega), List.append_assoc]
  congr 1
  by_cases hl : x.l.length = 0
  · obtain rfl : j = 0 := by omega
    rw [if_pos hl, if_pos hl, if_pos rfl, decide_eq_true hl]
    simp
  · rw [if_neg hl, if_neg hl, decide_eq_false hl, Bool.or_false]
    by_cases hj : 0 < j
    · obtain ⟨i, rfl⟩ : ∃ i, j = i + 1 := ⟨j - 1, by omega⟩
      rw [decide_eq_true hj, if_pos rfl, show i + 1 + 1 - 1 = i + 1 from rfl, show i + 1 - 1 = i from rfl, List.range_succ, List.map_append]
      congr 1
      show [(⟨(t : Int), ((i + 1 : Nat) : Int) - 1⟩ : Se)] = [⟨(t : Int), (i : Int)⟩]
      rw [show ((i + 1 : Nat) : Int) - 1 = (i : Int) by omega]
    · obtain rfl : j = 0 := by omega
      simp
theorem seatsTo_time (x : Cl) {t : Nat} (ht : t < x.t.length) : seatsTo x ((t + 1) * (x.l.length + 1)) = seatsTo x (t * (x.l.length + 1)) ++ seatsAt x t := by
 rw [Nat.succ_mul, seatsTo_row x ht (x.l.length + 1) (Nat.le_refl _)]
 congr 1
theorem seatsTo_eq (x : Cl) : ∀ t, t ≤ x.t.length → seatsTo x (t * (x.l.length + 1)) = (List.range t).flatMap (seatsAt x)
 | 0, _ => by rw [Nat.zero_mul]; rfl
 | t + 1, h => by rw [seatsTo_time x (by omega), seatsTo_eq x t (by omega), List.range_succ, List.flatMap_append]; simp
theorem seats_eq (x : Cl) : seats x = (List.range x.t.length).flatMap (seatsAt x) := seatsTo_eq x _ (Nat.le_refl _)
theorem seatsAt_len (x : Cl) (t : Nat) : (seatsAt x t).length = max 1 x.l.length := by
 unfold seatsAt
 split
 · simp only [List.length_cons, List.length_nil]; omega
 · rw [List.length_map, List.length_range]; omega
theorem seats_len (x : Cl) : (seats x).length = x.t.length * max 1 x.l.length := by
 rw [seats_eq]
 generalize x.t.length = n
 induction n with
 | zero => rw [Nat.zero_mul]; rfl
 | succ n ih => rw [List.range_succ, List.flatMap_append, List.length_append, ih, Nat.succ_mul]; simp [seatsAt_len]
end Go.Proofs.YtgmgccepmalahaaGreat
