/- The laws' own of for layer 14 (course). -/
import Derived.Test.YtgkplcipplpobaaCrsH
namespace Go.Proofs.Ytgkplcipplpobaa
open Go.RowKit
open Whn (Gr Wh)

/-- is a load one of a way that holds together? -/
def ofN (l : List ClA) (ls : List (List Int)) (r : List Int) (i k : Nat) : Bool := !(decide (ovr l (r.getD i 0) ∈ ls.getD k []) && !decide (r.getD k 0 = ovr l (r.getD i 0)))
def ofI (l : List ClA) (ls : List (List Int)) (r : List Int) (i : Nat) : Bool := (decide (0 ≤ r.getD i 0) && decide (r.getD i 0 < (l.length : Nat)) && decide (r.getD i 0 ∈ ls.getD i [])) && (List.range ls.length).all (ofN l ls r i)
def ofC (l : List ClA) (ls : List (List Int)) (r : List Int) : Bool := decide (r.length = ls.length) && (List.range r.length).all (ofI l ls r)
theorem range_next {f : Nat → Bool} {k : Nat} (h : ∀ i, i < k → f i = true) (hk : f k = true) : ∀ i, i < k + 1 → f i = true := fun i hi => by
  rcases Nat.lt_or_ge i k with h' | h'
  · exact h i h'
  · obtain rfl : i = k := by omega
    exact hk
set_option maxRecDepth 20000 in
set_option maxHeartbeats 4000000 in
theorem l_of (A : Option Addr) (c : Nat) (l : List ClA) (B : Option Addr) (d : Nat) (ls : List (List Int)) (hl : Lsok ls) (C : Option Addr) (e : Nat) (r : List Int) (hrm : r.length ≤ maxLen) (w : World) (h : Es enC w w.heap.size A l) (hB : Rows2 w w.heap.size B ls) (hC : Its w w.heap.size C r) :
    Calls Try.prog 25 #[.slice A l.length c, .agg #[.slice B ls.length d], .slice C r.length e] w (Did (.bool (ofC l ls r)) w) := by
  have hlm := hl.1
  unfold maxLen at hlm hrm
  have HHa := hid (fun B n k l hn hm y X C h => r_Has B n k l hn hm y X C h)
  have HL := hid hl.2
  have Hr := hid (show ofC l ls r = (decide (r.length = ls.length) && (List.range r.length).all (ofI l ls r)) from rfl)
  have Hh := hid (fun (i : Nat) (n : Int) (hi : r[i]? = some n) => show ofI l ls r i = ((decide (0 ≤ n) && decide (n < (l.length : Nat)) && decide (n ∈ ls.getD i [])) && (List.range ls.length).all (ofN l ls r i)) by unfold ofI; rw [List.getD_eq_getElem?_getD, hi]; rfl)
  have Hn := hid (fun (i k : Nat) (n : Int) (p : List Int) (m : Int) (hi : r[i]? = some n) (hk : ls[k]? = some p) (hm : r[k]? = some m) => show ofN l ls r i k = !(decide (ovr l n ∈ p) && !decide (m = ovr l n)) by unfold ofN; rw [List.getD_eq_getElem?_getD, List.getD_eq_getElem?_getD, List.getD_eq_getElem?_getD, hi, hk, hm]; rfl)
  have Hov := hid (fun (i : Nat) y (hy : l[i]? = some y) => show ovr l (i : Int) = y.x.o by
    have hil := (List.getElem?_eq_some_iff.1 hy).1
    unfold ovr
    rw [if_pos (by omega), Int.toNat_natCast, List.getD_eq_getElem?_getD, hy]
    rfl)
  generalize ofC l ls r = q at *
  generalize ofI l ls r = oi at *
  generalize ofN l ls r = on at *
  generalize ovr l = ov at *
  obtain ⟨P, W, hP, hW, K, hb0⟩ := (Mem.nil w).one [.slice B ls.length d] 42
  have e0 := K.out.cell (b := P) (cs := [.slice B ls.length d]) (t := 42) (by simp) (k := 0) rfl
  have H := hid h
  have H2 := hid hB
  have H3 := hid hC
  clear h hB hC hl hb0
  by_cases hrl : r.length = ls.length
  · have m1 : (r.length : Int) = ls.length := by omega
    have m2 : ((r.length : Int) == (ls.length : Int)) = true := by rw [beq_iff_eq]; exact m1
    rw [decide_eq_true hrl, Bool.true_and] at Hr
    have Hrl := hid hrl
    clear m1 hrl
    go_enter Try.func25, Try.ntmps25
    go_wp2_with fail
    clear hP hW e0
    go_loopw [7] (fun i wr => ∃ (k : Nat), i = .int .i64 k ∧ k ≤ r.length ∧ Hid (Mem w wr [(P, [.slice B ls.length d], 42)]) ∧ Hid (∀ i, i < k → oi i = true)) (fun i _ => r.length - (intOf i).toNat)
    case atStart => exact ⟨0, rfl, Nat.zero_le _, K, hid (fun i hi => absurd hi (Nat.not_lt_zero i))⟩
    case round =>
      clear K
      obtain ⟨V, rfl⟩ : ∃ V, V = wr := ⟨_, rfl⟩
      obtain ⟨k, rfl, hk, K1, hsame⟩ := hrel
      by_cases hlt : k < r.length
      · obtain ⟨ar, n, hae, harb, hx, hcx⟩ := Its.get H3.out hlt
        have e0 := K1.out.cell (b := P) (cs := [.slice B ls.length d]) (t := 42) (by simp) (k := 0) rfl
        have b1 : (0 : Int) ≤ (k : Int) := by omega
        have b2 : (k : Int) < r.length := by omega
        have b2' : (k : Int) < ls.length := by have := Hrl.out; omega
        obtain ⟨aq, Bq, dq, pq, hqe, haqb, hq, hql, hcq, hrq, hdq⟩ := H2.out.get (show k < ls.length by have := Hrl.out; omega)
        have hpl := (HL.out pq hql).1
        have Hhk := hid (show oi k = ((decide (0 ≤ n) && decide (n < (l.length : Nat)) && decide (n ∈ pq)) && (List.range ls.length).all (on k)) by rw [Hh.out k n hx.out, List.getD_eq_getElem?_getD, hq.out]; rfl)
        have Hbad := hid (fun (h : oi k = false) => range_no (f := oi) hlt h)
        have Hnx := hid (fun (h : oi k = true) => range_next hsame.out h)
        have harV : (ar.add k).block < V.heap.size := by rw [add_block]; exact Nat.lt_of_lt_of_le harb K1.out.2.size
        have haqV : (aq.add k).block < V.heap.size := by rw [add_block]; exact Nat.lt_of_lt_of_le haqb K1.out.2.size
        have hcx1 := (K1.out.2.cell (p := ar.add k) (by rw [add_block]; exact harb)).trans hcx
        have hcq1 := (K1.out.2.cell (p := aq.add k) (by rw [add_block]; exact haqb)).trans hcq
        have hPV : P < V.heap.size := (K1.out.at_ (b := P) (cs := [.slice B ls.length d]) (t := 42) (by simp)).lt
        have HH1 := hid (fun X (hX : Below V.heap.size V X) => HHa.out Bq pq.length dq pq rfl hpl n X _ (hrq.below (below2 K1.out.2 hX) (Nat.le_refl _)))
        unfold maxLen at hpl
        have Hn1 := hid (fun j p m h1 h2 => Hn.out k j n p m hx.out h1 h2)
        have Hae := hid hae
        have Hqe := hid hqe
        rw [hqe] at e0
        rw [hae]
        clear hsame hrq hq hdq hx hqe hae hcx hcq
        by_cases c1 : 0 ≤ n
        · rw [decide_eq_true c1, Bool.true_and] at Hhk
          by_cases c2 : n < l.length
          · rw [decide_eq_true c2, Bool.true_and] at Hhk
            obtain ⟨a, rfl⟩ := Int.eq_ofNat_of_zero_le c1
            have hal : a < l.length := by omega
            obtain ⟨ad, y, hbe, hadb, hy, _, hcell⟩ := Es.get enC_len (by decide) H.out hal
            have d6 : w.cell? ⟨(ad.add (a * 7)).block, (ad.add (a * 7)).off + 6, none⟩ = some (.int .i64 y.x.o) := by have := hcell 6 _ rfl; rwa [add_add _ _ _ (by omega)] at this
            rw [Hov.out a y hy.out] at Hn1
            obtain ⟨o, ho⟩ : ∃ o, y.x.o = o := ⟨_, rfl⟩
            rw [ho] at d6 Hn1
            have D6 := hid d6
            have i1 : (0 : Int) ≤ (a : Int) := by omega
            have i2 : (a : Int) < l.length := by omega
            have m3 : ¬ (l.length : Int) ≤ (a : Int) := by omega
            have Hbe := hid hbe
            clear hcell ho hy d6 hbe
            cases hR : decide ((a : Int) ∈ pq) with
            | false =>
              have hb := hid (Hbad.out (by rw [Hhk.out, hR]; rfl))
              clear Hbad Hnx Hhk
              go_wp2_with fail
              have hd0 : Below V.heap.size V V.drew := (Below.refl _ V).drew
              refine wp_region_held_drew (S := fun X => Below V.heap.size V X) (by kernel_rfl) hd0 (fun hHeld => ?_)
              refine takeH 0 22 (.slice (some ar) r.length e) rfl rfl (by kernel_rfl) (by kernel_rfl) (by kernel_rfl) (fun _ _ _ h => h) (by kernel_rfl) (fun X hX => by clear hX; first | rfl | go_simp) hHeld ?_
              simp only [Act.put, List.setIfInBounds_toArray, List.set_cons_zero, List.set_cons_succ]
              refine takeH 1 23 (.int .i64 (k : Int)) rfl rfl (by kernel_rfl) (by kernel_rfl) (by kernel_rfl) (fun _ _ _ h => h) (by kernel_rfl) (fun X hX => by clear hX; first | rfl | go_simp) hHeld ?_
              simp only [Act.put, List.setIfInBounds_toArray, List.set_cons_zero, List.set_cons_succ]
              refine takeH 2 24 (.pointer (some (ar.add k))) rfl rfl (by kernel_rfl) (by kernel_rfl) (by kernel_rfl) (fun _ _ _ h => h) (by kernel_rfl) (fun X hX => by clear hX; first | rfl | go_simp) hHeld ?_
              simp only [Act.put, List.setIfInBounds_toArray, List.set_cons_zero, List.set_cons_succ]
              refine takeH 3 25 (.int .i64 (a : Int)) rfl rfl (by kernel_rfl) (by kernel_rfl) (by kernel_rfl) (fun _ _ _ h => h) (by kernel_rfl) (fun X hX => by have q := (hX.cell harV).trans hcx1; clear hX; go_simp) hHeld ?_
              simp only [Act.put, List.setIfInBounds_toArray, List.set_cons_zero, List.set_cons_succ]
              refine takeH 4 26 (.bool false) rfl rfl (by kernel_rfl) (by kernel_rfl) (by kernel_rfl) (fun _ _ _ h => h) (by kernel_rfl) (fun X hX => by clear hX; first | rfl | go_simp) hHeld ?_
              simp only [Act.put, List.setIfInBounds_toArray, List.set_cons_zero, List.set_cons_succ]
              refine takeH 5 27 (.bool false) rfl rfl (by kernel_rfl) (by kernel_rfl) (by kernel_rfl) (fun _ _ _ h => h) (by kernel_rfl) (fun X hX => by clear hX; first | rfl | go_simp) hHeld ?_
              simp only [Act.put, List.setIfInBounds_toArray, List.set_cons_zero, List.set_cons_succ]
              refine takeH 6 28 (.slice (some ar) r.length e) rfl rfl (by kernel_rfl) (by kernel_rfl) (by kernel_rfl) (fun _ _ _ h => h) (by kernel_rfl) (fun X hX => by clear hX; first | rfl | go_simp) hHeld ?_
              simp only [Act.put, List.setIfInBounds_toArray, List.set_cons_zero, List.set_cons_succ]
              refine takeH 7 29 (.int .i64 (k : Int)) rfl rfl (by kernel_rfl) (by kernel_rfl) (by kernel_rfl) (fun _ _ _ h => h) (by kernel_rfl) (fun X hX => by clear hX; first | rfl | go_simp) hHeld ?_
              simp only [Act.put, List.setIfInBounds_toArray, List.set_cons_zero, List.set_cons_succ]
              refine takeH 8 30 (.pointer (some (ar.add k))) rfl rfl (by kernel_rfl) (by kernel_rfl) (by kernel_rfl) (fun _ _ _ h => h) (by kernel_rfl) (fun X hX => by clear hX; first | rfl | go_simp) hHeld ?_
              simp only [Act.put, List.setIfInBounds_toArray, List.set_cons_zero, List.set_cons_succ]
              refine takeH 9 31 (.int .i64 (a : Int)) rfl rfl (by kernel_rfl) (by kernel_rfl) (by kernel_rfl) (fun _ _ _ h => h) (by kernel_rfl) (fun X hX => by have q := (hX.cell harV).trans hcx1; clear hX; go_simp) hHeld ?_
              simp only [Act.put, List.setIfInBounds_toArray, List.set_cons_zero, List.set_cons_succ]
              refine takeH 10 32 (.slice A l.length c) rfl rfl (by kernel_rfl) (by kernel_rfl) (by kernel_rfl) (fun _ _ _ h => h) (by kernel_rfl) (fun X hX => by clear hX; first | rfl | go_simp) hHeld ?_
              simp only [Act.put, List.setIfInBounds_toArray, List.set_cons_zero, List.set_cons_succ]
              refine takeH 11 33 (.int .i64 (l.length : Int)) rfl rfl (by kernel_rfl) (by kernel_rfl) (by kernel_rfl) (fun _ _ _ h => h) (by kernel_rfl) (fun X hX => by clear hX; first | rfl | go_simp) hHeld ?_
              simp only [Act.put, List.setIfInBounds_toArray, List.set_cons_zero, List.set_cons_succ]
              refine takeH 12 34 (.bool false) rfl rfl (by kernel_rfl) (by kernel_rfl) (by kernel_rfl) (fun _ _ _ h => h) (by kernel_rfl) (fun X hX => by clear hX; first | rfl | go_simp) hHeld ?_
              simp only [Act.put, List.setIfInBounds_toArray, List.set_cons_zero, List.set_cons_succ]
              refine takeH 13 35 (.bool false) rfl rfl (by kernel_rfl) (by kernel_rfl) (by kernel_rfl) (fun _ _ _ h => h) (by kernel_rfl) (fun X hX => by clear hX; first | rfl | go_simp) hHeld ?_
              simp only [Act.put, List.setIfInBounds_toArray, List.set_cons_zero, List.set_cons_succ]
              refine takeH 14 36 (.bool false) rfl rfl (by kernel_rfl) (by kernel_rfl) (by kernel_rfl) (fun _ _ _ h => h) (by kernel_rfl) (fun X hX => by clear hX; first | rfl | go_simp) hHeld ?_
              simp only [Act.put, List.setIfInBounds_toArray, List.set_cons_zero, List.set_cons_succ]
              refine takeH 15 37 (.pointer (some ⟨P, 0, none⟩)) rfl rfl (by kernel_rfl) (by kernel_rfl) (by kernel_rfl) (fun _ _ _ h => h) (by kernel_rfl) (fun X hX => by clear hX; first | rfl | go_simp) hHeld ?_
              simp only [Act.put, List.setIfInBounds_toArray, List.set_cons_zero, List.set_cons_succ]
              refine takeH 16 38 (.slice (some aq) ls.length d) rfl rfl (by kernel_rfl) (by kernel_rfl) (by kernel_rfl) (fun _ _ _ h => h) (by kernel_rfl) (fun X hX => by have q := (hX.cell (p := ⟨P, 0, none⟩) hPV).trans e0; clear hX; go_simp) hHeld ?_
              simp only [Act.put, List.setIfInBounds_toArray, List.set_cons_zero, List.set_cons_succ]
              refine takeH 17 39 (.int .i64 (k : Int)) rfl rfl (by kernel_rfl) (by kernel_rfl) (by kernel_rfl) (fun _ _ _ h => h) (by kernel_rfl) (fun X hX => by clear hX; first | rfl | go_simp) hHeld ?_
              simp only [Act.put, List.setIfInBounds_toArray, List.set_cons_zero, List.set_cons_succ]
              refine takeH 18 40 (.pointer (some (aq.add k))) rfl rfl (by kernel_rfl) (by kernel_rfl) (by kernel_rfl) (fun _ _ _ h => h) (by kernel_rfl) (fun X hX => by clear hX; first | rfl | go_simp) hHeld ?_
              simp only [Act.put, List.setIfInBounds_toArray, List.set_cons_zero, List.set_cons_succ]
              refine takeH 19 41 (.slice Bq pq.length dq) rfl rfl (by kernel_rfl) (by kernel_rfl) (by kernel_rfl) (fun _ _ _ h => h) (by kernel_rfl) (fun X hX => by have q := (hX.cell haqV).trans hcq1; clear hX; go_simp) hHeld ?_
              simp only [Act.put, List.setIfInBounds_toArray, List.set_cons_zero, List.set_cons_succ]
              refine takeH 20 42 (.slice (some ar) r.length e) rfl rfl (by kernel_rfl) (by kernel_rfl) (by kernel_rfl) (fun _ _ _ h => h) (by kernel_rfl) (fun X hX => by clear hX; first | rfl | go_simp) hHeld ?_
              simp only [Act.put, List.setIfInBounds_toArray, List.set_cons_zero, List.set_cons_succ]
              refine takeH 21 43 (.int .i64 (k : Int)) rfl rfl (by kernel_rfl) (by kernel_rfl) (by kernel_rfl) (fun _ _ _ h => h) (by kernel_rfl) (fun X hX => by clear hX; first | rfl | go_simp) hHeld ?_
              simp only [Act.put, List.setIfInBounds_toArray, List.set_cons_zero, List.set_cons_succ]
              refine takeH 22 44 (.pointer (some (ar.add k))) rfl rfl (by kernel_rfl) (by kernel_rfl) (by kernel_rfl) (fun _ _ _ h => h) (by kernel_rfl) (fun X hX => by clear hX; first | rfl | go_simp) hHeld ?_
              simp only [Act.put, List.setIfInBounds_toArray, List.set_cons_zero, List.set_cons_succ]
              refine takeH 23 45 (.int .i64 (a : Int)) rfl rfl (by kernel_rfl) (by kernel_rfl) (by kernel_rfl) (fun _ _ _ h => h) (by kernel_rfl) (fun X hX => by have q := (hX.cell harV).trans hcx1; clear hX; go_simp) hHeld ?_
              simp only [Act.put, List.setIfInBounds_toArray, List.set_cons_zero, List.set_cons_succ]
              refine wpAnyH_ready (rs := [24]) (by kernel_rfl) (by simp) ?_
              refine AllReadyH.cons rfl (fun KK hK => ?_) AllReadyH.nil
              simp only [List.getElem_toArray, List.getElem_cons_succ, List.getElem_cons_zero]
              go_simp
              refine (HH1.out _ hd0).mono ?_
              rintro e2 Z ⟨rfl, rfl⟩
              rw [hR]
              refine hK.out _ _ hd0 (fun hHeld => ?_)
              clear hK KK
              try simp only [Act.put, List.setIfInBounds_toArray, List.set_cons_zero, List.set_cons_succ]
              refine takeH 25 47 (.bool true) rfl rfl (by kernel_rfl) (by kernel_rfl) (by kernel_rfl) (fun _ _ _ h => h) (by kernel_rfl) (fun X hX => by clear hX; first | rfl | go_simp) hHeld ?_
              simp only [Act.put, List.setIfInBounds_toArray, List.set_cons_zero, List.set_cons_succ]
              refine takeH 26 48 (.bool true) rfl rfl (by kernel_rfl) (by kernel_rfl) (by kernel_rfl) (fun _ _ _ h => h) (by kernel_rfl) (fun X hX => by clear hX; first | rfl | go_simp) hHeld ?_
              simp only [Act.put, List.setIfInBounds_toArray, List.set_cons_zero, List.set_cons_succ]
              refine wpAnyH_done (by kernel_rfl) ?_ _
              clear hHeld
              go_wp2_with fail
              go_ret
              exact Did.mk (by rw [Hr.out, hb.out]; rfl) (below2 K1.out.2 hd0)
            | true =>
              rw [hR, Bool.true_and] at Hhk
              go_wp2_with fail
              have hd0 : Below V.heap.size V V.drew := (Below.refl _ V).drew
              refine wp_region_held_drew (S := fun X => Below V.heap.size V X) (by kernel_rfl) hd0 (fun hHeld => ?_)
              refine takeH 0 22 (.slice (some ar) r.length e) rfl rfl (by kernel_rfl) (by kernel_rfl) (by kernel_rfl) (fun _ _ _ h => h) (by kernel_rfl) (fun X hX => by clear hX; first | rfl | go_simp) hHeld ?_
              simp only [Act.put, List.setIfInBounds_toArray, List.set_cons_zero, List.set_cons_succ]
              refine takeH 1 23 (.int .i64 (k : Int)) rfl rfl (by kernel_rfl) (by kernel_rfl) (by kernel_rfl) (fun _ _ _ h => h) (by kernel_rfl) (fun X hX => by clear hX; first | rfl | go_simp) hHeld ?_
              simp only [Act.put, List.setIfInBounds_toArray, List.set_cons_zero, List.set_cons_succ]
              refine takeH 2 24 (.pointer (some (ar.add k))) rfl rfl (by kernel_rfl) (by kernel_rfl) (by kernel_rfl) (fun _ _ _ h => h) (by kernel_rfl) (fun X hX => by clear hX; first | rfl | go_simp) hHeld ?_
              simp only [Act.put, List.setIfInBounds_toArray, List.set_cons_zero, List.set_cons_succ]
              refine takeH 3 25 (.int .i64 (a : Int)) rfl rfl (by kernel_rfl) (by kernel_rfl) (by kernel_rfl) (fun _ _ _ h => h) (by kernel_rfl) (fun X hX => by have q := (hX.cell harV).trans hcx1; clear hX; go_simp) hHeld ?_
              simp only [Act.put, List.setIfInBounds_toArray, List.set_cons_zero, List.set_cons_succ]
              refine takeH 4 26 (.bool false) rfl rfl (by kernel_rfl) (by kernel_rfl) (by kernel_rfl) (fun _ _ _ h => h) (by kernel_rfl) (fun X hX => by clear hX; first | rfl | go_simp) hHeld ?_
              simp only [Act.put, List.setIfInBounds_toArray, List.set_cons_zero, List.set_cons_succ]
              refine takeH 5 27 (.bool false) rfl rfl (by kernel_rfl) (by kernel_rfl) (by kernel_rfl) (fun _ _ _ h => h) (by kernel_rfl) (fun X hX => by clear hX; first | rfl | go_simp) hHeld ?_
              simp only [Act.put, List.setIfInBounds_toArray, List.set_cons_zero, List.set_cons_succ]
              refine takeH 6 28 (.slice (some ar) r.length e) rfl rfl (by kernel_rfl) (by kernel_rfl) (by kernel_rfl) (fun _ _ _ h => h) (by kernel_rfl) (fun X hX => by clear hX; first | rfl | go_simp) hHeld ?_
              simp only [Act.put, List.setIfInBounds_toArray, List.set_cons_zero, List.set_cons_succ]
              refine takeH 7 29 (.int .i64 (k : Int)) rfl rfl (by kernel_rfl) (by kernel_rfl) (by kernel_rfl) (fun _ _ _ h => h) (by kernel_rfl) (fun X hX => by clear hX; first | rfl | go_simp) hHeld ?_
              simp only [Act.put, List.setIfInBounds_toArray, List.set_cons_zero, List.set_cons_succ]
              refine takeH 8 30 (.pointer (some (ar.add k))) rfl rfl (by kernel_rfl) (by kernel_rfl) (by kernel_rfl) (fun _ _ _ h => h) (by kernel_rfl) (fun X hX => by clear hX; first | rfl | go_simp) hHeld ?_
              simp only [Act.put, List.setIfInBounds_toArray, List.set_cons_zero, List.set_cons_succ]
              refine takeH 9 31 (.int .i64 (a : Int)) rfl rfl (by kernel_rfl) (by kernel_rfl) (by kernel_rfl) (fun _ _ _ h => h) (by kernel_rfl) (fun X hX => by have q := (hX.cell harV).trans hcx1; clear hX; go_simp) hHeld ?_
              simp only [Act.put, List.setIfInBounds_toArray, List.set_cons_zero, List.set_cons_succ]
              refine takeH 10 32 (.slice A l.length c) rfl rfl (by kernel_rfl) (by kernel_rfl) (by kernel_rfl) (fun _ _ _ h => h) (by kernel_rfl) (fun X hX => by clear hX; first | rfl | go_simp) hHeld ?_
              simp only [Act.put, List.setIfInBounds_toArray, List.set_cons_zero, List.set_cons_succ]
              refine takeH 11 33 (.int .i64 (l.length : Int)) rfl rfl (by kernel_rfl) (by kernel_rfl) (by kernel_rfl) (fun _ _ _ h => h) (by kernel_rfl) (fun X hX => by clear hX; first | rfl | go_simp) hHeld ?_
              simp only [Act.put, List.setIfInBounds_toArray, List.set_cons_zero, List.set_cons_succ]
              refine takeH 12 34 (.bool false) rfl rfl (by kernel_rfl) (by kernel_rfl) (by kernel_rfl) (fun _ _ _ h => h) (by kernel_rfl) (fun X hX => by clear hX; first | rfl | go_simp) hHeld ?_
              simp only [Act.put, List.setIfInBounds_toArray, List.set_cons_zero, List.set_cons_succ]
              refine takeH 13 35 (.bool false) rfl rfl (by kernel_rfl) (by kernel_rfl) (by kernel_rfl) (fun _ _ _ h => h) (by kernel_rfl) (fun X hX => by clear hX; first | rfl | go_simp) hHeld ?_
              simp only [Act.put, List.setIfInBounds_toArray, List.set_cons_zero, List.set_cons_succ]
              refine takeH 14 36 (.bool false) rfl rfl (by kernel_rfl) (by kernel_rfl) (by kernel_rfl) (fun _ _ _ h => h) (by kernel_rfl) (fun X hX => by clear hX; first | rfl | go_simp) hHeld ?_
              simp only [Act.put, List.setIfInBounds_toArray, List.set_cons_zero, List.set_cons_succ]
              refine takeH 15 37 (.pointer (some ⟨P, 0, none⟩)) rfl rfl (by kernel_rfl) (by kernel_rfl) (by kernel_rfl) (fun _ _ _ h => h) (by kernel_rfl) (fun X hX => by clear hX; first | rfl | go_simp) hHeld ?_
              simp only [Act.put, List.setIfInBounds_toArray, List.set_cons_zero, List.set_cons_succ]
              refine takeH 16 38 (.slice (some aq) ls.length d) rfl rfl (by kernel_rfl) (by kernel_rfl) (by kernel_rfl) (fun _ _ _ h => h) (by kernel_rfl) (fun X hX => by have q := (hX.cell (p := ⟨P, 0, none⟩) hPV).trans e0; clear hX; go_simp) hHeld ?_
              simp only [Act.put, List.setIfInBounds_toArray, List.set_cons_zero, List.set_cons_succ]
              refine takeH 17 39 (.int .i64 (k : Int)) rfl rfl (by kernel_rfl) (by kernel_rfl) (by kernel_rfl) (fun _ _ _ h => h) (by kernel_rfl) (fun X hX => by clear hX; first | rfl | go_simp) hHeld ?_
              simp only [Act.put, List.setIfInBounds_toArray, List.set_cons_zero, List.set_cons_succ]
              refine takeH 18 40 (.pointer (some (aq.add k))) rfl rfl (by kernel_rfl) (by kernel_rfl) (by kernel_rfl) (fun _ _ _ h => h) (by kernel_rfl) (fun X hX => by clear hX; first | rfl | go_simp) hHeld ?_
              simp only [Act.put, List.setIfInBounds_toArray, List.set_cons_zero, List.set_cons_succ]
              refine takeH 19 41 (.slice Bq pq.length dq) rfl rfl (by kernel_rfl) (by kernel_rfl) (by kernel_rfl) (fun _ _ _ h => h) (by kernel_rfl) (fun X hX => by have q := (hX.cell haqV).trans hcq1; clear hX; go_simp) hHeld ?_
              simp only [Act.put, List.setIfInBounds_toArray, List.set_cons_zero, List.set_cons_succ]
              refine takeH 20 42 (.slice (some ar) r.length e) rfl rfl (by kernel_rfl) (by kernel_rfl) (by kernel_rfl) (fun _ _ _ h => h) (by kernel_rfl) (fun X hX => by clear hX; first | rfl | go_simp) hHeld ?_
              simp only [Act.put, List.setIfInBounds_toArray, List.set_cons_zero, List.set_cons_succ]
              refine takeH 21 43 (.int .i64 (k : Int)) rfl rfl (by kernel_rfl) (by kernel_rfl) (by kernel_rfl) (fun _ _ _ h => h) (by kernel_rfl) (fun X hX => by clear hX; first | rfl | go_simp) hHeld ?_
              simp only [Act.put, List.setIfInBounds_toArray, List.set_cons_zero, List.set_cons_succ]
              refine takeH 22 44 (.pointer (some (ar.add k))) rfl rfl (by kernel_rfl) (by kernel_rfl) (by kernel_rfl) (fun _ _ _ h => h) (by kernel_rfl) (fun X hX => by clear hX; first | rfl | go_simp) hHeld ?_
              simp only [Act.put, List.setIfInBounds_toArray, List.set_cons_zero, List.set_cons_succ]
              refine takeH 23 45 (.int .i64 (a : Int)) rfl rfl (by kernel_rfl) (by kernel_rfl) (by kernel_rfl) (fun _ _ _ h => h) (by kernel_rfl) (fun X hX => by have q := (hX.cell harV).trans hcx1; clear hX; go_simp) hHeld ?_
              simp only [Act.put, List.setIfInBounds_toArray, List.set_cons_zero, List.set_cons_succ]
              refine wpAnyH_ready (rs := [24]) (by kernel_rfl) (by simp) ?_
              refine AllReadyH.cons rfl (fun KK hK => ?_) AllReadyH.nil
              simp only [List.getElem_toArray, List.getElem_cons_succ, List.getElem_cons_zero]
              go_simp
              refine (HH1.out _ hd0).mono ?_
              rintro e2 Z ⟨rfl, rfl⟩
              rw [hR]
              refine hK.out _ _ hd0 (fun hHeld => ?_)
              clear hK KK
              try simp only [Act.put, List.setIfInBounds_toArray, List.set_cons_zero, List.set_cons_succ]
              refine takeH 25 47 (.bool false) rfl rfl (by kernel_rfl) (by kernel_rfl) (by kernel_rfl) (fun _ _ _ h => h) (by kernel_rfl) (fun X hX => by clear hX; first | rfl | go_simp) hHeld ?_
              simp only [Act.put, List.setIfInBounds_toArray, List.set_cons_zero, List.set_cons_succ]
              refine takeH 26 48 (.bool false) rfl rfl (by kernel_rfl) (by kernel_rfl) (by kernel_rfl) (fun _ _ _ h => h) (by kernel_rfl) (fun X hX => by clear hX; first | rfl | go_simp) hHeld ?_
              simp only [Act.put, List.setIfInBounds_toArray, List.set_cons_zero, List.set_cons_succ]
              refine wpAnyH_done (by kernel_rfl) ?_ _
              clear hHeld
              have hbe := Hbe.out
              subst hbe
              have K2 := hid (show Mem w V.drew [(P, [.slice B ls.length d], 42)] from K1.out.next hd0)
              obtain ⟨D, hD⟩ : ∃ D, V.drew = D := ⟨_, rfl⟩
              rw [hD] at K2 ⊢
              have hcxD := (hd0.cell (p := ar.add k) harV).trans hcx1
              have hadw : (⟨(ad.add (a * 7)).block, (ad.add (a * 7)).off + 6, none⟩ : Addr).block < w.heap.size := by show (ad.add (a * 7)).block < w.heap.size; rw [add_block]; exact hadb
              have d6D := (K2.out.2.cell (p := ⟨(ad.add (a * 7)).block, (ad.add (a * 7)).off + 6, none⟩) hadw).trans D6.out
              have Hend1 := hid (fun (h : ∀ j, j < ls.length → on k j = true) => Hnx.out (by rw [Hhk.out]; exact range_yes h))
              have Hb1 := hid (fun j (hj : j < ls.length) (h : on k j = false) => Hbad.out (by rw [Hhk.out]; exact range_no hj h))
              rw [hD] at hcxD
              clear hcx1 hcq1 e0 hD hd0 hR Hhk Hbad Hnx HH1 D6
              have e0 := K2.out.cell (b := P) (cs := [.slice B ls.length d]) (t := 42) (by simp) (k := 0) rfl
              go_wp2_with fail
              clear hcxD d6D
              go_loopw [9] (fun i wr => ∃ (j : Nat), i = .int .i64 j ∧ j ≤ ls.length ∧ D = wr ∧ Hid (∀ i, i < j → on k i = true)) (fun i _ => ls.length - (intOf i).toNat)
              case atStart => exact ⟨0, rfl, Nat.zero_le _, rfl, hid (fun i hi => absurd hi (Nat.not_lt_zero i))⟩
              case round =>
                obtain ⟨j, rfl, hj, rfl, hsame⟩ := hrel
                by_cases hlt2 : j < ls.length
                · obtain ⟨ae, Bk, dk, v, hce, haeb, hy, hyl, hcy, hry, hdky⟩ := H2.out.get hlt2
                  obtain ⟨at2, m, hse, hasb, hm, hcm⟩ := Its.get H3.out (show j < r.length by have := Hrl.out; omega)
                  have hvl := (HL.out v hyl).1
                  have b3 : (0 : Int) ≤ (j : Int) := by omega
                  have b4 : (j : Int) < ls.length := by omega
                  have b5 : (j : Int) < r.length := by have := Hrl.out; omega
                  have Hon := hid (Hn1.out j v m hy.out hm.out)
                  have HHv := hid (HHa.out Bk v.length dk v rfl hvl o D _ (hry.below K2.out.2 (Nat.le_refl _)))
                  unfold maxLen at hvl
                  have hcyD := (K2.out.2.cell (p := ae.add j) (by rw [add_block]; exact haeb)).trans hcy
                  have hcmD := (K2.out.2.cell (p := at2.add j) (by rw [add_block]; exact hasb)).trans hcm
                  have hse2 : ar = at2 := Option.some.inj (Hae.out.symm.trans hse)
                  subst hse2
                  rw [hce] at e0
                  have Hb2 := hid (Hb1.out j hlt2)
                  have Hn2 := hid (fun h => range_next hsame.out h)
                  clear hry hdky hcy hcm hsame hce hse hy hm
                  go_wp2_with fail
                  refine (HHv.out).mono ?_
                  rintro e2 w1 ⟨rfl, rfl⟩
                  cases hR : decide (o ∈ v) with
                  | false =>
                    have hn2 := hid (Hn2.out (by rw [Hon.out, hR]; rfl))
                    clear Hb2 Hn2 hR Hon
                    go_wp2_with fail
                    exact ⟨⟨j + 1, by go_num, by omega, trivial, hn2⟩, by simp [intOf]; omega⟩
                  | true =>
                    by_cases hmo : m = o
                    · have q1 : (m != o) = false := by rw [hmo]; simp
                      have q2 : (m == o) = true := by rw [hmo]; simp
                      have hn2 := hid (Hn2.out (by rw [Hon.out, hR, decide_eq_true hmo]; rfl))
                      clear Hb2 Hn2 hR Hon hmo
                      go_wp2_with fail
                      exact ⟨⟨j + 1, by go_num, by omega, trivial, hn2⟩, by simp [intOf]; omega⟩
                    · have q2 : (m == o) = false := by rw [beq_eq_false_iff_ne]; exact hmo
                      have q1 : (m != o) = true := by unfold bne; rw [q2]; rfl
                      have hb := hid (Hb2.out (by rw [Hon.out, hR, decide_eq_false hmo]; rfl))
                      clear Hb2 Hn2 hR Hon hmo
                      go_wp2_with fail
                      go_ret
                      exact Did.mk (by rw [Hr.out, hb.out]; rfl) K2.out.2
                · have b4 : ¬ (j : Int) < ls.length := by omega
                  have hn2 := hid (Hend1.out (fun i hi => hsame.out i (by omega)))
                  clear hsame Hend1 Hb1
                  go_wp2_with fail
                  refine ⟨⟨k + 1, by go_num, by omega, ?_⟩, by simp [intOf]; omega⟩
                  first | exact ⟨K2, hn2⟩ | exact ⟨trivial, hn2⟩ | exact hn2
          · have m3 : (l.length : Int) ≤ n := by omega
            have m4 : ¬ n < 0 := by omega
            have hb := hid (Hbad.out (by rw [Hhk.out, decide_eq_false c2]; rfl))
            clear Hbad Hnx Hhk
            go_wp2_with fail
            have hd0 : Below V.heap.size V V.drew := (Below.refl _ V).drew
            refine wp_region_held_drew (S := fun X => Below V.heap.size V X) (by kernel_rfl) hd0 (fun hHeld => ?_)
            refine takeH 0 22 (.slice (some ar) r.length e) rfl rfl (by kernel_rfl) (by kernel_rfl) (by kernel_rfl) (fun _ _ _ h => h) (by kernel_rfl) (fun X hX => by clear hX; first | rfl | go_simp) hHeld ?_
            simp only [Act.put, List.setIfInBounds_toArray, List.set_cons_zero, List.set_cons_succ]
            refine takeH 1 23 (.int .i64 (k : Int)) rfl rfl (by kernel_rfl) (by kernel_rfl) (by kernel_rfl) (fun _ _ _ h => h) (by kernel_rfl) (fun X hX => by clear hX; first | rfl | go_simp) hHeld ?_
            simp only [Act.put, List.setIfInBounds_toArray, List.set_cons_zero, List.set_cons_succ]
            refine takeH 2 24 (.pointer (some (ar.add k))) rfl rfl (by kernel_rfl) (by kernel_rfl) (by kernel_rfl) (fun _ _ _ h => h) (by kernel_rfl) (fun X hX => by clear hX; first | rfl | go_simp) hHeld ?_
            simp only [Act.put, List.setIfInBounds_toArray, List.set_cons_zero, List.set_cons_succ]
            refine takeH 3 25 (.int .i64 n) rfl rfl (by kernel_rfl) (by kernel_rfl) (by kernel_rfl) (fun _ _ _ h => h) (by kernel_rfl) (fun X hX => by have q := (hX.cell harV).trans hcx1; clear hX; go_simp) hHeld ?_
            simp only [Act.put, List.setIfInBounds_toArray, List.set_cons_zero, List.set_cons_succ]
            refine takeH 4 26 (.bool false) rfl rfl (by kernel_rfl) (by kernel_rfl) (by kernel_rfl) (fun _ _ _ h => h) (by kernel_rfl) (fun X hX => by clear hX; first | rfl | go_simp) hHeld ?_
            simp only [Act.put, List.setIfInBounds_toArray, List.set_cons_zero, List.set_cons_succ]
            refine takeH 5 27 (.bool false) rfl rfl (by kernel_rfl) (by kernel_rfl) (by kernel_rfl) (fun _ _ _ h => h) (by kernel_rfl) (fun X hX => by clear hX; first | rfl | go_simp) hHeld ?_
            simp only [Act.put, List.setIfInBounds_toArray, List.set_cons_zero, List.set_cons_succ]
            refine takeH 6 28 (.slice (some ar) r.length e) rfl rfl (by kernel_rfl) (by kernel_rfl) (by kernel_rfl) (fun _ _ _ h => h) (by kernel_rfl) (fun X hX => by clear hX; first | rfl | go_simp) hHeld ?_
            simp only [Act.put, List.setIfInBounds_toArray, List.set_cons_zero, List.set_cons_succ]
            refine takeH 7 29 (.int .i64 (k : Int)) rfl rfl (by kernel_rfl) (by kernel_rfl) (by kernel_rfl) (fun _ _ _ h => h) (by kernel_rfl) (fun X hX => by clear hX; first | rfl | go_simp) hHeld ?_
            simp only [Act.put, List.setIfInBounds_toArray, List.set_cons_zero, List.set_cons_succ]
            refine takeH 8 30 (.pointer (some (ar.add k))) rfl rfl (by kernel_rfl) (by kernel_rfl) (by kernel_rfl) (fun _ _ _ h => h) (by kernel_rfl) (fun X hX => by clear hX; first | rfl | go_simp) hHeld ?_
            simp only [Act.put, List.setIfInBounds_toArray, List.set_cons_zero, List.set_cons_succ]
            refine takeH 9 31 (.int .i64 n) rfl rfl (by kernel_rfl) (by kernel_rfl) (by kernel_rfl) (fun _ _ _ h => h) (by kernel_rfl) (fun X hX => by have q := (hX.cell harV).trans hcx1; clear hX; go_simp) hHeld ?_
            simp only [Act.put, List.setIfInBounds_toArray, List.set_cons_zero, List.set_cons_succ]
            refine takeH 10 32 (.slice A l.length c) rfl rfl (by kernel_rfl) (by kernel_rfl) (by kernel_rfl) (fun _ _ _ h => h) (by kernel_rfl) (fun X hX => by clear hX; first | rfl | go_simp) hHeld ?_
            simp only [Act.put, List.setIfInBounds_toArray, List.set_cons_zero, List.set_cons_succ]
            refine takeH 11 33 (.int .i64 (l.length : Int)) rfl rfl (by kernel_rfl) (by kernel_rfl) (by kernel_rfl) (fun _ _ _ h => h) (by kernel_rfl) (fun X hX => by clear hX; first | rfl | go_simp) hHeld ?_
            simp only [Act.put, List.setIfInBounds_toArray, List.set_cons_zero, List.set_cons_succ]
            refine takeH 12 34 (.bool true) rfl rfl (by kernel_rfl) (by kernel_rfl) (by kernel_rfl) (fun _ _ _ h => h) (by kernel_rfl) (fun X hX => by clear hX; first | rfl | go_simp) hHeld ?_
            simp only [Act.put, List.setIfInBounds_toArray, List.set_cons_zero, List.set_cons_succ]
            refine takeH 13 35 (.bool true) rfl rfl (by kernel_rfl) (by kernel_rfl) (by kernel_rfl) (fun _ _ _ h => h) (by kernel_rfl) (fun X hX => by clear hX; first | rfl | go_simp) hHeld ?_
            simp only [Act.put, List.setIfInBounds_toArray, List.set_cons_zero, List.set_cons_succ]
            refine takeH 14 36 (.bool true) rfl rfl (by kernel_rfl) (by kernel_rfl) (by kernel_rfl) (fun _ _ _ h => h) (by kernel_rfl) (fun X hX => by clear hX; first | rfl | go_simp) hHeld ?_
            simp only [Act.put, List.setIfInBounds_toArray, List.set_cons_zero, List.set_cons_succ]
            refine skipH 15 37 rfl rfl (by kernel_rfl) (by kernel_rfl) (by kernel_rfl) (fun _ _ _ h => h) (by kernel_rfl) hHeld ?_
            simp only [Act.put, List.setIfInBounds_toArray, List.set_cons_zero, List.set_cons_succ]
            refine skipH 16 38 rfl rfl (by kernel_rfl) (by kernel_rfl) (by kernel_rfl) (fun _ _ _ h => h) (by kernel_rfl) hHeld ?_
            simp only [Act.put, List.setIfInBounds_toArray, List.set_cons_zero, List.set_cons_succ]
            refine skipH 17 39 rfl rfl (by kernel_rfl) (by kernel_rfl) (by kernel_rfl) (fun _ _ _ h => h) (by kernel_rfl) hHeld ?_
            simp only [Act.put, List.setIfInBounds_toArray, List.set_cons_zero, List.set_cons_succ]
            refine skipH 18 40 rfl rfl (by kernel_rfl) (by kernel_rfl) (by kernel_rfl) (fun _ _ _ h => h) (by kernel_rfl) hHeld ?_
            simp only [Act.put, List.setIfInBounds_toArray, List.set_cons_zero, List.set_cons_succ]
            refine skipH 19 41 rfl rfl (by kernel_rfl) (by kernel_rfl) (by kernel_rfl) (fun _ _ _ h => h) (by kernel_rfl) hHeld ?_
            simp only [Act.put, List.setIfInBounds_toArray, List.set_cons_zero, List.set_cons_succ]
            refine skipH 20 42 rfl rfl (by kernel_rfl) (by kernel_rfl) (by kernel_rfl) (fun _ _ _ h => h) (by kernel_rfl) hHeld ?_
            simp only [Act.put, List.setIfInBounds_toArray, List.set_cons_zero, List.set_cons_succ]
            refine skipH 21 43 rfl rfl (by kernel_rfl) (by kernel_rfl) (by kernel_rfl) (fun _ _ _ h => h) (by kernel_rfl) hHeld ?_
            simp only [Act.put, List.setIfInBounds_toArray, List.set_cons_zero, List.set_cons_succ]
            refine skipH 22 44 rfl rfl (by kernel_rfl) (by kernel_rfl) (by kernel_rfl) (fun _ _ _ h => h) (by kernel_rfl) hHeld ?_
            simp only [Act.put, List.setIfInBounds_toArray, List.set_cons_zero, List.set_cons_succ]
            refine skipH 23 45 rfl rfl (by kernel_rfl) (by kernel_rfl) (by kernel_rfl) (fun _ _ _ h => h) (by kernel_rfl) hHeld ?_
            simp only [Act.put, List.setIfInBounds_toArray, List.set_cons_zero, List.set_cons_succ]
            refine skipH 24 46 rfl rfl (by kernel_rfl) (by kernel_rfl) (by kernel_rfl) (fun _ _ _ h => h) (by kernel_rfl) hHeld ?_
            simp only [Act.put, List.setIfInBounds_toArray, List.set_cons_zero, List.set_cons_succ]
            refine skipH 25 47 rfl rfl (by kernel_rfl) (by kernel_rfl) (by kernel_rfl) (fun _ _ _ h => h) (by kernel_rfl) hHeld ?_
            simp only [Act.put, List.setIfInBounds_toArray, List.set_cons_zero, List.set_cons_succ]
            refine takeH 26 48 (.bool true) rfl rfl (by kernel_rfl) (by kernel_rfl) (by kernel_rfl) (fun _ _ _ h => h) (by kernel_rfl) (fun X hX => by clear hX; first | rfl | go_simp) hHeld ?_
            simp only [Act.put, List.setIfInBounds_toArray, List.set_cons_zero, List.set_cons_succ]
            refine wpAnyH_done (by kernel_rfl) ?_ _
            clear hHeld
            go_wp2_with fail
            go_ret
            exact Did.mk (by rw [Hr.out, hb.out]; rfl) (below2 K1.out.2 hd0)
        · have m3 : n < 0 := by omega
          have hb := hid (Hbad.out (by rw [Hhk.out, decide_eq_false c1]; rfl))
          clear Hbad Hnx Hhk
          go_wp2_with fail
          have hd0 : Below V.heap.size V V.drew := (Below.refl _ V).drew
          refine wp_region_held_drew (S := fun X => Below V.heap.size V X) (by kernel_rfl) hd0 (fun hHeld => ?_)
          refine takeH 0 22 (.slice (some ar) r.length e) rfl rfl (by kernel_rfl) (by kernel_rfl) (by kernel_rfl) (fun _ _ _ h => h) (by kernel_rfl) (fun X hX => by clear hX; first | rfl | go_simp) hHeld ?_
          simp only [Act.put, List.setIfInBounds_toArray, List.set_cons_zero, List.set_cons_succ]
          refine takeH 1 23 (.int .i64 (k : Int)) rfl rfl (by kernel_rfl) (by kernel_rfl) (by kernel_rfl) (fun _ _ _ h => h) (by kernel_rfl) (fun X hX => by clear hX; first | rfl | go_simp) hHeld ?_
          simp only [Act.put, List.setIfInBounds_toArray, List.set_cons_zero, List.set_cons_succ]
          refine takeH 2 24 (.pointer (some (ar.add k))) rfl rfl (by kernel_rfl) (by kernel_rfl) (by kernel_rfl) (fun _ _ _ h => h) (by kernel_rfl) (fun X hX => by clear hX; first | rfl | go_simp) hHeld ?_
          simp only [Act.put, List.setIfInBounds_toArray, List.set_cons_zero, List.set_cons_succ]
          refine takeH 3 25 (.int .i64 n) rfl rfl (by kernel_rfl) (by kernel_rfl) (by kernel_rfl) (fun _ _ _ h => h) (by kernel_rfl) (fun X hX => by have q := (hX.cell harV).trans hcx1; clear hX; go_simp) hHeld ?_
          simp only [Act.put, List.setIfInBounds_toArray, List.set_cons_zero, List.set_cons_succ]
          refine takeH 4 26 (.bool true) rfl rfl (by kernel_rfl) (by kernel_rfl) (by kernel_rfl) (fun _ _ _ h => h) (by kernel_rfl) (fun X hX => by clear hX; first | rfl | go_simp) hHeld ?_
          simp only [Act.put, List.setIfInBounds_toArray, List.set_cons_zero, List.set_cons_succ]
          refine takeH 5 27 (.bool true) rfl rfl (by kernel_rfl) (by kernel_rfl) (by kernel_rfl) (fun _ _ _ h => h) (by kernel_rfl) (fun X hX => by clear hX; first | rfl | go_simp) hHeld ?_
          simp only [Act.put, List.setIfInBounds_toArray, List.set_cons_zero, List.set_cons_succ]
          refine skipH 6 28 rfl rfl (by kernel_rfl) (by kernel_rfl) (by kernel_rfl) (fun _ _ _ h => h) (by kernel_rfl) hHeld ?_
          simp only [Act.put, List.setIfInBounds_toArray, List.set_cons_zero, List.set_cons_succ]
          refine skipH 7 29 rfl rfl (by kernel_rfl) (by kernel_rfl) (by kernel_rfl) (fun _ _ _ h => h) (by kernel_rfl) hHeld ?_
          simp only [Act.put, List.setIfInBounds_toArray, List.set_cons_zero, List.set_cons_succ]
          refine skipH 8 30 rfl rfl (by kernel_rfl) (by kernel_rfl) (by kernel_rfl) (fun _ _ _ h => h) (by kernel_rfl) hHeld ?_
          simp only [Act.put, List.setIfInBounds_toArray, List.set_cons_zero, List.set_cons_succ]
          refine skipH 9 31 rfl rfl (by kernel_rfl) (by kernel_rfl) (by kernel_rfl) (fun _ _ _ h => h) (by kernel_rfl) hHeld ?_
          simp only [Act.put, List.setIfInBounds_toArray, List.set_cons_zero, List.set_cons_succ]
          refine skipH 10 32 rfl rfl (by kernel_rfl) (by kernel_rfl) (by kernel_rfl) (fun _ _ _ h => h) (by kernel_rfl) hHeld ?_
          simp only [Act.put, List.setIfInBounds_toArray, List.set_cons_zero, List.set_cons_succ]
          refine skipH 11 33 rfl rfl (by kernel_rfl) (by kernel_rfl) (by kernel_rfl) (fun _ _ _ h => h) (by kernel_rfl) hHeld ?_
          simp only [Act.put, List.setIfInBounds_toArray, List.set_cons_zero, List.set_cons_succ]
          refine skipH 12 34 rfl rfl (by kernel_rfl) (by kernel_rfl) (by kernel_rfl) (fun _ _ _ h => h) (by kernel_rfl) hHeld ?_
          simp only [Act.put, List.setIfInBounds_toArray, List.set_cons_zero, List.set_cons_succ]
          refine takeH 13 35 (.bool true) rfl rfl (by kernel_rfl) (by kernel_rfl) (by kernel_rfl) (fun _ _ _ h => h) (by kernel_rfl) (fun X hX => by clear hX; first | rfl | go_simp) hHeld ?_
          simp only [Act.put, List.setIfInBounds_toArray, List.set_cons_zero, List.set_cons_succ]
          refine takeH 14 36 (.bool true) rfl rfl (by kernel_rfl) (by kernel_rfl) (by kernel_rfl) (fun _ _ _ h => h) (by kernel_rfl) (fun X hX => by clear hX; first | rfl | go_simp) hHeld ?_
          simp only [Act.put, List.setIfInBounds_toArray, List.set_cons_zero, List.set_cons_succ]
          refine skipH 15 37 rfl rfl (by kernel_rfl) (by kernel_rfl) (by kernel_rfl) (fun _ _ _ h => h) (by kernel_rfl) hHeld ?_
          simp only [Act.put, List.setIfInBounds_toArray, List.set_cons_zero, List.set_cons_succ]
          refine skipH 16 38 rfl rfl (by kernel_rfl) (by kernel_rfl) (by kernel_rfl) (fun _ _ _ h => h) (by kernel_rfl) hHeld ?_
          simp only [Act.put, List.setIfInBounds_toArray, List.set_cons_zero, List.set_cons_succ]
          refine skipH 17 39 rfl rfl (by kernel_rfl) (by kernel_rfl) (by kernel_rfl) (fun _ _ _ h => h) (by kernel_rfl) hHeld ?_
          simp only [Act.put, List.setIfInBounds_toArray, List.set_cons_zero, List.set_cons_succ]
          refine skipH 18 40 rfl rfl (by kernel_rfl) (by kernel_rfl) (by kernel_rfl) (fun _ _ _ h => h) (by kernel_rfl) hHeld ?_
          simp only [Act.put, List.setIfInBounds_toArray, List.set_cons_zero, List.set_cons_succ]
          refine skipH 19 41 rfl rfl (by kernel_rfl) (by kernel_rfl) (by kernel_rfl) (fun _ _ _ h => h) (by kernel_rfl) hHeld ?_
          simp only [Act.put, List.setIfInBounds_toArray, List.set_cons_zero, List.set_cons_succ]
          refine skipH 20 42 rfl rfl (by kernel_rfl) (by kernel_rfl) (by kernel_rfl) (fun _ _ _ h => h) (by kernel_rfl) hHeld ?_
          simp only [Act.put, List.setIfInBounds_toArray, List.set_cons_zero, List.set_cons_succ]
          refine skipH 21 43 rfl rfl (by kernel_rfl) (by kernel_rfl) (by kernel_rfl) (fun _ _ _ h => h) (by kernel_rfl) hHeld ?_
          simp only [Act.put, List.setIfInBounds_toArray, List.set_cons_zero, List.set_cons_succ]
          refine skipH 22 44 rfl rfl (by kernel_rfl) (by kernel_rfl) (by kernel_rfl) (fun _ _ _ h => h) (by kernel_rfl) hHeld ?_
          simp only [Act.put, List.setIfInBounds_toArray, List.set_cons_zero, List.set_cons_succ]
          refine skipH 23 45 rfl rfl (by kernel_rfl) (by kernel_rfl) (by kernel_rfl) (fun _ _ _ h => h) (by kernel_rfl) hHeld ?_
          simp only [Act.put, List.setIfInBounds_toArray, List.set_cons_zero, List.set_cons_succ]
          refine skipH 24 46 rfl rfl (by kernel_rfl) (by kernel_rfl) (by kernel_rfl) (fun _ _ _ h => h) (by kernel_rfl) hHeld ?_
          simp only [Act.put, List.setIfInBounds_toArray, List.set_cons_zero, List.set_cons_succ]
          refine skipH 25 47 rfl rfl (by kernel_rfl) (by kernel_rfl) (by kernel_rfl) (fun _ _ _ h => h) (by kernel_rfl) hHeld ?_
          simp only [Act.put, List.setIfInBounds_toArray, List.set_cons_zero, List.set_cons_succ]
          refine takeH 26 48 (.bool true) rfl rfl (by kernel_rfl) (by kernel_rfl) (by kernel_rfl) (fun _ _ _ h => h) (by kernel_rfl) (fun X hX => by clear hX; first | rfl | go_simp) hHeld ?_
          simp only [Act.put, List.setIfInBounds_toArray, List.set_cons_zero, List.set_cons_succ]
          refine wpAnyH_done (by kernel_rfl) ?_ _
          clear hHeld
          go_wp2_with fail
          go_ret
          exact Did.mk (by rw [Hr.out, hb.out]; rfl) (below2 K1.out.2 hd0)
      · have b2 : ¬ (k : Int) < r.length := by omega
        have hn2 := hid (range_yes (fun i hi => hsame.out i (by omega)) : (List.range r.length).all oi = true)
        clear hsame
        go_wp2_with fail
        go_ret
        exact Did.mk (by rw [Hr.out, hn2.out]; rfl) K1.out.2
  · have m2 : ((r.length : Int) == (ls.length : Int)) = false := by rw [beq_eq_false_iff_ne]; omega
    rw [decide_eq_false hrl] at Hr
    clear hrl
    go_enter Try.func25, Try.ntmps25
    go_wp2_with fail
    go_ret
    exact Did.mk (by rw [Hr.out]; rfl) K.out.2
end Go.Proofs.Ytgkplcipplpobaa
