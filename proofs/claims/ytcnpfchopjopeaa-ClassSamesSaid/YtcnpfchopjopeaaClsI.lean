/- The document's own answers for layer 13 (class): places. -/
import Derived.Test.YtcnpfchopjopeaaClsB
namespace Go.Proofs.Ytcnpfchopjopeaa
open Go.RowKit
open Whn (Gr Wh)

def plAt (l : List Pl) (i : Nat) : Pl := l.getD i ⟨0, 0⟩
def freshP (l : List Pl) (i k : Nat) : Bool := (List.range k).all fun m => !((plAt l m).r == (plAt l i).r)
def okPl (n : Int) (l : List Pl) (i : Nat) : Bool := decide (0 ≤ (plAt l i).r) && decide ((plAt l i).r < n) && costB (plAt l i).c && freshP l i i
def placesB (n : Int) (l : List Pl) : Bool := (List.range l.length).all (okPl n l) && decide ((l.length : Int) ≤ 12)
theorem plAt_of {l : List Pl} {i : Nat} {y : Pl} (h : l[i]? = some y) : plAt l i = y := by unfold plAt; rw [List.getD_eq_getElem?_getD, h]; rfl
theorem freshP_succ (l : List Pl) (i k : Nat) : freshP l i (k + 1) = (freshP l i k && !((plAt l k).r == (plAt l i).r)) := by
  unfold freshP
  rw [List.range_succ, List.all_append, List.all_cons, List.all_nil, Bool.and_true]
theorem freshP_no {l : List Pl} {i k m : Nat} (hm : m < k) (h : ((plAt l m).r == (plAt l i).r) = true) : freshP l i k = false := by
  unfold freshP
  rw [List.all_eq_false]
  exact ⟨m, List.mem_range.2 hm, by rw [h]; simp⟩
theorem placesB_yes {n : Int} {l : List Pl} (h : ∀ i, i < l.length → okPl n l i = true) : placesB n l = decide ((l.length : Int) ≤ 12) := by
  unfold placesB
  rw [List.all_eq_true.2 (fun i hi => h i (List.mem_range.1 hi)), Bool.true_and]
theorem placesB_no {n : Int} {l : List Pl} {i : Nat} (hi : i < l.length) (h : okPl n l i = false) : placesB n l = false := by
  unfold placesB
  rw [List.all_eq_false.2 ⟨i, List.mem_range.2 hi, by rw [h]; simp⟩, Bool.false_and]
set_option maxRecDepth 20000 in
set_option maxHeartbeats 4000000 in
theorem r_places (n : Int) (A : Option Addr) (c : Nat) (l : List Pl) (hm : l.length ≤ maxLen) (w : World) (h : Es enP w w.heap.size A l) : Calls Try.prog 37 #[.int .i64 n, .slice A l.length c] w (Did (.bool (placesB n l)) w) := by
  unfold maxLen at hm
  have H := hid h
  have HC := hid (fun n X => r_cost n X)
  have Hyes := hid (fun h => placesB_yes (n := n) (l := l) h)
  have Hno := hid (fun i hi h => placesB_no (n := n) (l := l) (i := i) hi h)
  generalize placesB n l = rr at *
  clear h
  go_enter Try.func37, Try.ntmps37
  go_wp2_with fail
  go_loopw [5] (fun i wr => ∃ (k : Nat), i = .int .i64 k ∧ k ≤ l.length ∧ Hid (Below w.heap.size w wr) ∧ Hid (∀ i, i < k → okPl n l i = true)) (fun i _ => l.length - (intOf i).toNat)
  case atStart => exact ⟨0, rfl, Nat.zero_le _, hid (Below.refl _ _), hid (fun i hi => absurd hi (Nat.not_lt_zero i))⟩
  case round =>
    obtain ⟨k, rfl, hk, KB, hsame⟩ := hrel
    by_cases hlt : k < l.length
    · obtain ⟨ad, y, rfl, hadb, hy, _, hcell⟩ := Es.get enP_len (by decide) H.out hlt
      have b1 : (0 : Int) ≤ (k : Int) := by omega
      have b2 : (k : Int) < l.length := by omega
      have hbk : (ad.add (k * 2)).block < w.heap.size := by rw [add_block]; exact hadb
      have hcr : w.cell? (ad.add (k * 2)) = some (.int .i64 y.r) := by have := hcell 0 _ rfl; rwa [Nat.add_zero] at this
      have hcc : w.cell? ⟨(ad.add (k * 2)).block, (ad.add (k * 2)).off + 1, none⟩ = some (.int .i64 y.c) := by have := hcell 1 _ rfl; rwa [add_add _ _ _ (by omega)] at this
      have d0 := (KB.out.cell hbk).trans hcr
      have d1 := (KB.out.cell (p := ⟨(ad.add (k * 2)).block, (ad.add (k * 2)).off + 1, none⟩) hbk).trans hcc
      have Hnext := hid (fun (h : okPl n l k = true) => show ∀ i, i < k + 1 → okPl n l i = true from fun i hi => by
        rcases Nat.lt_or_ge i k with h' | h'
        · exact hsame.out i h'
        · obtain rfl : i = k := by omega
          exact h)
      have Hbad := hid (fun (h : okPl n l k = false) => Hno.out k hlt h)
      have Hok := hid (show okPl n l k = (decide (0 ≤ y.r) && decide (y.r < n) && costB y.c && freshP l k k) by unfold okPl; rw [plAt_of hy.out])
      have HC1 := hid (fun X => HC.out y.c X)
      clear hcell hsame
      by_cases c1 : y.r < 0
      · have c1' : ¬ 0 ≤ y.r := by omega
        have hb := hid (Hbad.out (by rw [Hok.out, decide_eq_false c1']; simp))
        clear Hyes Hno Hbad Hnext Hok
        go_wp2_with fail
        go_ret
        exact Did.mk (by rw [hb.out]; rfl) KB.out
      · by_cases c2 : n ≤ y.r
        · have c2' : ¬ y.r < n := by omega
          have hb := hid (Hbad.out (by rw [Hok.out, decide_eq_false c2']; simp))
          clear Hyes Hno Hbad Hnext Hok
          go_wp2_with fail
          go_ret
          exact Did.mk (by rw [hb.out]; rfl) KB.out
        · rw [decide_eq_true (show 0 ≤ y.r by omega), decide_eq_true (show y.r < n by omega), Bool.true_and, Bool.true_and] at Hok
          cases hcb : costB y.c with
          | false =>
            have hb := hid (Hbad.out (by rw [Hok.out, hcb, Bool.false_and]))
            rw [hcb] at HC1
            clear Hyes Hno Hbad Hnext Hok hcb
            go_wp2_with fail
            refine (HC1.out _).mono ?_
            rintro e Y1 ⟨rfl, rfl⟩
            go_wp2_with fail
            go_ret
            exact Did.mk (by rw [hb.out]; rfl) KB.out
          | true =>
            rw [hcb, Bool.true_and] at Hok
            rw [hcb] at HC1
            have Hno1 := hid (fun m (hm : m < k) (h : ((plAt l m).r == y.r) = true) => Hbad.out (by rw [Hok.out]; exact freshP_no hm (by rw [plAt_of hy.out]; exact h)))
            have Hfs := hid (fun m => freshP_succ l k m)
            have Hf0 := hid (show freshP l k 0 = true from rfl)
            clear Hbad hcb
            go_wp2_with fail
            refine (HC1.out _).mono ?_
            rintro e Y1 ⟨rfl, rfl⟩
            go_wp2_with fail
            go_loopw [6] (fun i wr2 => ∃ (m : Nat), i = .int .i64 m ∧ m ≤ k ∧ Hid (Below w.heap.size w wr2) ∧ Hid (freshP l k m = true)) (fun i _ => k - (intOf i).toNat)
            case atStart => exact ⟨0, rfl, Nat.zero_le _, KB, Hf0⟩
            case round =>
              clear d0 d1
              obtain ⟨m, rfl, hmk, KB2, hfr⟩ := hrel
              by_cases hml : m < k
              · obtain ⟨ad', z, hae, _, hz, _, hcell2⟩ := Es.get enP_len (by decide) H.out (show m < l.length by omega)
                injection hae with hae
                subst hae
                have hbm : (ad.add (m * 2)).block < w.heap.size := by rw [add_block]; exact hadb
                have hcm : w.cell? (ad.add (m * 2)) = some (.int .i64 z.r) := by have := hcell2 0 _ rfl; rwa [Nat.add_zero] at this
                have b3 : (0 : Int) ≤ (m : Int) := by omega
                have b4 : (m : Int) < l.length := by omega
                have b5 : (m : Int) < (k : Int) := by omega
                clear hcell2
                cases hzy : z.r == y.r with
                | true =>
                  have hb := hid (Hno1.out m hml (by rw [plAt_of hz.out]; exact hzy))
                  clear Hyes Hno Hnext Hok Hno1 Hfs Hf0
                  go_wp2_with fail
                  refine wp_region_held_drew (S := fun X => Below w.heap.size w X) (by kernel_rfl) KB2.out.drew (fun hHeld => ?_)
                  refine takeH 0 42 (.slice (some ad) l.length c) rfl rfl (by kernel_rfl) (by kernel_rfl) (by kernel_rfl) (fun _ _ _ h => h) (by kernel_rfl) (fun X hX => by clear hX; first | rfl | go_simp) hHeld ?_
                  simp only [Act.put, List.setIfInBounds_toArray, List.set_cons_zero, List.set_cons_succ]
                  refine takeH 1 43 (.int .i64 (m : Int)) rfl rfl (by kernel_rfl) (by kernel_rfl) (by kernel_rfl) (fun _ _ _ h => h) (by kernel_rfl) (fun X hX => by clear hX; first | rfl | go_simp) hHeld ?_
                  simp only [Act.put, List.setIfInBounds_toArray, List.set_cons_zero, List.set_cons_succ]
                  refine takeH 2 44 (.pointer (some (ad.add (m * 2)))) rfl rfl (by kernel_rfl) (by kernel_rfl) (by kernel_rfl) (fun _ _ _ h => h) (by kernel_rfl) (fun X hX => by clear hX; first | rfl | go_simp) hHeld ?_
                  simp only [Act.put, List.setIfInBounds_toArray, List.set_cons_zero, List.set_cons_succ]
                  refine takeH 3 45 (.pointer (some (ad.add (m * 2)))) rfl rfl (by kernel_rfl) (by kernel_rfl) (by kernel_rfl) (fun _ _ _ h => h) (by kernel_rfl) (fun X hX => by clear hX; first | rfl | go_simp) hHeld ?_
                  simp only [Act.put, List.setIfInBounds_toArray, List.set_cons_zero, List.set_cons_succ]
                  refine takeH 4 46 (.int .i64 z.r) rfl rfl (by kernel_rfl) (by kernel_rfl) (by kernel_rfl) (fun _ _ _ h => h) (by kernel_rfl) (fun X hX => by have q := (hX.cell (p := ad.add (m * 2)) hbm).trans hcm; clear hX; go_simp) hHeld ?_
                  simp only [Act.put, List.setIfInBounds_toArray, List.set_cons_zero, List.set_cons_succ]
                  refine takeH 5 47 (.slice (some ad) l.length c) rfl rfl (by kernel_rfl) (by kernel_rfl) (by kernel_rfl) (fun _ _ _ h => h) (by kernel_rfl) (fun X hX => by clear hX; first | rfl | go_simp) hHeld ?_
                  simp only [Act.put, List.setIfInBounds_toArray, List.set_cons_zero, List.set_cons_succ]
                  refine takeH 6 48 (.int .i64 (k : Int)) rfl rfl (by kernel_rfl) (by kernel_rfl) (by kernel_rfl) (fun _ _ _ h => h) (by kernel_rfl) (fun X hX => by clear hX; first | rfl | go_simp) hHeld ?_
                  simp only [Act.put, List.setIfInBounds_toArray, List.set_cons_zero, List.set_cons_succ]
                  refine takeH 7 49 (.pointer (some (ad.add (k * 2)))) rfl rfl (by kernel_rfl) (by kernel_rfl) (by kernel_rfl) (fun _ _ _ h => h) (by kernel_rfl) (fun X hX => by clear hX; first | rfl | go_simp) hHeld ?_
                  simp only [Act.put, List.setIfInBounds_toArray, List.set_cons_zero, List.set_cons_succ]
                  refine takeH 8 50 (.pointer (some (ad.add (k * 2)))) rfl rfl (by kernel_rfl) (by kernel_rfl) (by kernel_rfl) (fun _ _ _ h => h) (by kernel_rfl) (fun X hX => by clear hX; first | rfl | go_simp) hHeld ?_
                  simp only [Act.put, List.setIfInBounds_toArray, List.set_cons_zero, List.set_cons_succ]
                  refine takeH 9 51 (.int .i64 y.r) rfl rfl (by kernel_rfl) (by kernel_rfl) (by kernel_rfl) (fun _ _ _ h => h) (by kernel_rfl) (fun X hX => by have q := (hX.cell (p := ad.add (k * 2)) hbk).trans hcr; clear hX; go_simp) hHeld ?_
                  simp only [Act.put, List.setIfInBounds_toArray, List.set_cons_zero, List.set_cons_succ]
                  refine takeH 10 52 (.bool true) rfl rfl (by kernel_rfl) (by kernel_rfl) (by kernel_rfl) (fun _ _ _ h => h) (by kernel_rfl) (fun X hX => by clear hX; first | rfl | go_simp) hHeld ?_
                  simp only [Act.put, List.setIfInBounds_toArray, List.set_cons_zero, List.set_cons_succ]
                  refine wpAnyH_done (by kernel_rfl) ?_ _
                  go_wp2_with fail
                  go_ret
                  exact Did.mk (by rw [hb.out]; rfl) KB2.out.drew
                | false =>
                  have hn := hid (show freshP l k (m + 1) = true by rw [Hfs.out m, hfr.out, plAt_of hz.out, plAt_of hy.out, hzy]; rfl)
                  clear Hyes Hno Hnext Hok Hno1 Hfs Hf0
                  go_wp2_with fail
                  refine wp_region_held_drew (S := fun X => Below w.heap.size w X) (by kernel_rfl) KB2.out.drew (fun hHeld => ?_)
                  refine takeH 0 42 (.slice (some ad) l.length c) rfl rfl (by kernel_rfl) (by kernel_rfl) (by kernel_rfl) (fun _ _ _ h => h) (by kernel_rfl) (fun X hX => by clear hX; first | rfl | go_simp) hHeld ?_
                  simp only [Act.put, List.setIfInBounds_toArray, List.set_cons_zero, List.set_cons_succ]
                  refine takeH 1 43 (.int .i64 (m : Int)) rfl rfl (by kernel_rfl) (by kernel_rfl) (by kernel_rfl) (fun _ _ _ h => h) (by kernel_rfl) (fun X hX => by clear hX; first | rfl | go_simp) hHeld ?_
                  simp only [Act.put, List.setIfInBounds_toArray, List.set_cons_zero, List.set_cons_succ]
                  refine takeH 2 44 (.pointer (some (ad.add (m * 2)))) rfl rfl (by kernel_rfl) (by kernel_rfl) (by kernel_rfl) (fun _ _ _ h => h) (by kernel_rfl) (fun X hX => by clear hX; first | rfl | go_simp) hHeld ?_
                  simp only [Act.put, List.setIfInBounds_toArray, List.set_cons_zero, List.set_cons_succ]
                  refine takeH 3 45 (.pointer (some (ad.add (m * 2)))) rfl rfl (by kernel_rfl) (by kernel_rfl) (by kernel_rfl) (fun _ _ _ h => h) (by kernel_rfl) (fun X hX => by clear hX; first | rfl | go_simp) hHeld ?_
                  simp only [Act.put, List.setIfInBounds_toArray, List.set_cons_zero, List.set_cons_succ]
                  refine takeH 4 46 (.int .i64 z.r) rfl rfl (by kernel_rfl) (by kernel_rfl) (by kernel_rfl) (fun _ _ _ h => h) (by kernel_rfl) (fun X hX => by have q := (hX.cell (p := ad.add (m * 2)) hbm).trans hcm; clear hX; go_simp) hHeld ?_
                  simp only [Act.put, List.setIfInBounds_toArray, List.set_cons_zero, List.set_cons_succ]
                  refine takeH 5 47 (.slice (some ad) l.length c) rfl rfl (by kernel_rfl) (by kernel_rfl) (by kernel_rfl) (fun _ _ _ h => h) (by kernel_rfl) (fun X hX => by clear hX; first | rfl | go_simp) hHeld ?_
                  simp only [Act.put, List.setIfInBounds_toArray, List.set_cons_zero, List.set_cons_succ]
                  refine takeH 6 48 (.int .i64 (k : Int)) rfl rfl (by kernel_rfl) (by kernel_rfl) (by kernel_rfl) (fun _ _ _ h => h) (by kernel_rfl) (fun X hX => by clear hX; first | rfl | go_simp) hHeld ?_
                  simp only [Act.put, List.setIfInBounds_toArray, List.set_cons_zero, List.set_cons_succ]
                  refine takeH 7 49 (.pointer (some (ad.add (k * 2)))) rfl rfl (by kernel_rfl) (by kernel_rfl) (by kernel_rfl) (fun _ _ _ h => h) (by kernel_rfl) (fun X hX => by clear hX; first | rfl | go_simp) hHeld ?_
                  simp only [Act.put, List.setIfInBounds_toArray, List.set_cons_zero, List.set_cons_succ]
                  refine takeH 8 50 (.pointer (some (ad.add (k * 2)))) rfl rfl (by kernel_rfl) (by kernel_rfl) (by kernel_rfl) (fun _ _ _ h => h) (by kernel_rfl) (fun X hX => by clear hX; first | rfl | go_simp) hHeld ?_
                  simp only [Act.put, List.setIfInBounds_toArray, List.set_cons_zero, List.set_cons_succ]
                  refine takeH 9 51 (.int .i64 y.r) rfl rfl (by kernel_rfl) (by kernel_rfl) (by kernel_rfl) (fun _ _ _ h => h) (by kernel_rfl) (fun X hX => by have q := (hX.cell (p := ad.add (k * 2)) hbk).trans hcr; clear hX; go_simp) hHeld ?_
                  simp only [Act.put, List.setIfInBounds_toArray, List.set_cons_zero, List.set_cons_succ]
                  refine takeH 10 52 (.bool false) rfl rfl (by kernel_rfl) (by kernel_rfl) (by kernel_rfl) (fun _ _ _ h => h) (by kernel_rfl) (fun X hX => by clear hX; first | rfl | go_simp) hHeld ?_
                  simp only [Act.put, List.setIfInBounds_toArray, List.set_cons_zero, List.set_cons_succ]
                  refine wpAnyH_done (by kernel_rfl) ?_ _
                  go_wp2_with fail
                  exact ⟨⟨m + 1, by go_num, by omega, hid KB2.out.drew, hn⟩, by simp [intOf]; omega⟩
              · obtain rfl : m = k := by omega
                have b5 : ¬ ((m : Nat) : Int) < (m : Int) := by omega
                have hn := hid (Hnext.out (by rw [Hok.out]; exact hfr.out))
                clear Hyes Hno Hnext Hok Hno1 Hfs Hf0
                go_wp2_with fail
                exact ⟨⟨m + 1, by go_num, by omega, KB2, hn⟩, by simp [intOf]; omega⟩
    · have Hr := hid (Hyes.out (fun i hi => hsame.out i (by omega)))
      have b2 : ¬ (k : Int) < l.length := by omega
      clear Hyes Hno hsame
      go_wp2_with fail
      go_ret
      exact Did.mk (by rw [Hr.out]; rfl) KB.out
end Go.Proofs.Ytcnpfchopjopeaa
