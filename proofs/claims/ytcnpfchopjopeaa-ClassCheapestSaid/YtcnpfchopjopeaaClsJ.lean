/- The document's own answers for layer 13 (class): times. -/
import Derived.Test.YtcnpfchopjopeaaClsB
import Derived.Test.YtcnpfchopjopeaaWh2
namespace Go.Proofs.Ytcnpfchopjopeaa
open Go.RowKit
open Whn (Gr Wh)

def tmAt (l : List Tm) (i : Nat) : Tm := l.getD i ⟨⟨0, 0, 0, 0⟩, 0⟩
def freshT (l : List Tm) (i k : Nat) : Bool := (List.range k).all fun m => !(whEq (tmAt l m).w (tmAt l i).w)
def okTm (g : Gr) (l : List Tm) (i : Nat) : Bool := Whn.right g (tmAt l i).w && costB (tmAt l i).c && freshT l i i
def timesB (g : Gr) (l : List Tm) : Bool := (List.range l.length).all (okTm g l) && (decide ((1 : Int) ≤ (l.length : Int)) && decide ((l.length : Int) ≤ 16))
theorem tmAt_of {l : List Tm} {i : Nat} {y : Tm} (h : l[i]? = some y) : tmAt l i = y := by unfold tmAt; rw [List.getD_eq_getElem?_getD, h]; rfl
theorem freshT_succ (l : List Tm) (i k : Nat) : freshT l i (k + 1) = (freshT l i k && !(whEq (tmAt l k).w (tmAt l i).w)) := by
  unfold freshT
  rw [List.range_succ, List.all_append, List.all_cons, List.all_nil, Bool.and_true]
theorem freshT_no {l : List Tm} {i k m : Nat} (hm : m < k) (h : whEq (tmAt l m).w (tmAt l i).w = true) : freshT l i k = false := by
  unfold freshT
  rw [List.all_eq_false]
  exact ⟨m, List.mem_range.2 hm, by rw [h]; simp⟩
theorem timesB_yes {g : Gr} {l : List Tm} (h : ∀ i, i < l.length → okTm g l i = true) : timesB g l = (decide ((1 : Int) ≤ (l.length : Int)) && decide ((l.length : Int) ≤ 16)) := by
  unfold timesB
  rw [List.all_eq_true.2 (fun i hi => h i (List.mem_range.1 hi)), Bool.true_and]
theorem timesB_no {g : Gr} {l : List Tm} {i : Nat} (hi : i < l.length) (h : okTm g l i = false) : timesB g l = false := by
  unfold timesB
  rw [List.all_eq_false.2 ⟨i, List.mem_range.2 hi, by rw [h]; simp⟩, Bool.false_and]
set_option maxRecDepth 20000 in
set_option maxHeartbeats 4000000 in
theorem r_times (g : Gr) (A : Option Addr) (c : Nat) (l : List Tm) (hm : l.length ≤ maxLen) (hok : ∀ y ∈ l, Wok y.w) (w : World) (h : Es enT w w.heap.size A l) : Calls Try.prog 36 #[gv g, .slice A l.length c] w (Did (.bool (timesB g l)) w) := by
  unfold maxLen at hm
  have H := hid h
  have HO := hid hok
  have HC := hid (fun n X => r_cost n X)
  have HRt := hid (fun y hy X => r_Right g y hy X)
  have Hyes := hid (fun h => timesB_yes (g := g) (l := l) h)
  have Hno := hid (fun i hi h => timesB_no (g := g) (l := l) (i := i) hi h)
  generalize timesB g l = rr at *
  clear h hok
  obtain ⟨G, V, hG, hV, K, z0⟩ := (Mem.nil w).one (gc g) 23
  clear z0
  go_enter Try.func36, Try.ntmps36
  go_wp2_with fail
  go_loopw [5] (fun i wr => ∃ (k : Nat), i = .int .i64 k ∧ k ≤ l.length ∧ Hid (Mem w wr [(G, gc g, 23)]) ∧ Hid (∀ i, i < k → okTm g l i = true)) (fun i _ => l.length - (intOf i).toNat)
  case atStart => exact ⟨0, rfl, Nat.zero_le _, K, hid (fun i hi => absurd hi (Nat.not_lt_zero i))⟩
  case round =>
    clear K
    obtain ⟨k, rfl, hk, KB, hsame⟩ := hrel
    by_cases hlt : k < l.length
    · obtain ⟨ad, y, rfl, hadb, hy, hyl, hcell⟩ := Es.get enT_len (by decide) H.out hlt
      have b1 : (0 : Int) ≤ (k : Int) := by omega
      have b2 : (k : Int) < l.length := by omega
      have hbk : (ad.add (k * 5)).block < w.heap.size := by rw [add_block]; exact hadb
      have hc0 : w.cell? (ad.add (k * 5)) = some (.int .u32 (y.w.w : Int)) := by have := hcell 0 _ rfl; rwa [Nat.add_zero] at this
      have hc1 : w.cell? ⟨(ad.add (k * 5)).block, (ad.add (k * 5)).off + 1, none⟩ = some (.int .u8 (y.w.d : Int)) := by have := hcell 1 _ rfl; rwa [add_add _ _ _ (by omega)] at this
      have hc2 : w.cell? ⟨(ad.add (k * 5)).block, (ad.add (k * 5)).off + 2, none⟩ = some (.int .i64 y.w.s) := by have := hcell 2 _ rfl; rwa [add_add _ _ _ (by omega)] at this
      have hc3 : w.cell? ⟨(ad.add (k * 5)).block, (ad.add (k * 5)).off + 3, none⟩ = some (.int .i64 y.w.l) := by have := hcell 3 _ rfl; rwa [add_add _ _ _ (by omega)] at this
      have hc4 : w.cell? ⟨(ad.add (k * 5)).block, (ad.add (k * 5)).off + 4, none⟩ = some (.int .i64 y.c) := by have := hcell 4 _ rfl; rwa [add_add _ _ _ (by omega)] at this
      have Hnext := hid (fun (h : okTm g l k = true) => show ∀ i, i < k + 1 → okTm g l i = true from fun i hi => by
        rcases Nat.lt_or_ge i k with h' | h'
        · exact hsame.out i h'
        · obtain rfl : i = k := by omega
          exact h)
      have Hbad := hid (fun (h : okTm g l k = false) => Hno.out k hlt h)
      have Hok := hid (show okTm g l k = (Whn.right g y.w && costB y.c && freshT l k k) by unfold okTm; rw [tmAt_of hy.out])
      have HC1 := hid (fun X => HC.out y.c X)
      have HRt1 := hid (fun X => HRt.out y.w (HO.out y hyl) X)
      clear hcell hsame
      cases hrt : Whn.right g y.w with
      | false =>
        have hb := hid (Hbad.out (by rw [Hok.out, hrt]; simp))
        rw [hrt] at HRt1
        clear Hyes Hno Hbad Hnext Hok hrt
        go_wp2_with fail
        refine wp_region_held_drew (S := fun X => Mem w X [(G, gc g, 23)]) (by kernel_rfl) KB.out.drew (fun hHeld => ?_)
        refine takeH 0 13 (gv g) rfl rfl (by kernel_rfl) (by kernel_rfl) (by kernel_rfl) (fun _ _ _ h => h) (by kernel_rfl) (fun X hX => by obtain ⟨q0, q1, q2⟩ := hX.gr (B := G) (g := g) (by simp); clear hX; go_simp) hHeld ?_
        simp only [Act.put, List.setIfInBounds_toArray, List.set_cons_zero, List.set_cons_succ]
        refine takeH 1 14 (.slice (some ad) l.length c) rfl rfl (by kernel_rfl) (by kernel_rfl) (by kernel_rfl) (fun _ _ _ h => h) (by kernel_rfl) (fun X hX => by clear hX; first | rfl | go_simp) hHeld ?_
        simp only [Act.put, List.setIfInBounds_toArray, List.set_cons_zero, List.set_cons_succ]
        refine takeH 2 15 (.int .i64 (k : Int)) rfl rfl (by kernel_rfl) (by kernel_rfl) (by kernel_rfl) (fun _ _ _ h => h) (by kernel_rfl) (fun X hX => by clear hX; first | rfl | go_simp) hHeld ?_
        simp only [Act.put, List.setIfInBounds_toArray, List.set_cons_zero, List.set_cons_succ]
        refine takeH 3 16 (.pointer (some (ad.add (k * 5)))) rfl rfl (by kernel_rfl) (by kernel_rfl) (by kernel_rfl) (fun _ _ _ h => h) (by kernel_rfl) (fun X hX => by clear hX; first | rfl | go_simp) hHeld ?_
        simp only [Act.put, List.setIfInBounds_toArray, List.set_cons_zero, List.set_cons_succ]
        refine takeH 4 17 (.pointer (some (ad.add (k * 5)))) rfl rfl (by kernel_rfl) (by kernel_rfl) (by kernel_rfl) (fun _ _ _ h => h) (by kernel_rfl) (fun X hX => by clear hX; first | rfl | go_simp) hHeld ?_
        simp only [Act.put, List.setIfInBounds_toArray, List.set_cons_zero, List.set_cons_succ]
        refine takeH 5 18 (wv y.w) rfl rfl (by kernel_rfl) (by kernel_rfl) (by kernel_rfl) (fun _ _ _ h => h) (by kernel_rfl) (fun X hX => by have q0 := (hX.2.cell (p := ad.add (k * 5)) hbk).trans hc0; have q1 := (hX.2.cell (p := ⟨(ad.add (k * 5)).block, (ad.add (k * 5)).off + 1, none⟩) hbk).trans hc1; have q2 := (hX.2.cell (p := ⟨(ad.add (k * 5)).block, (ad.add (k * 5)).off + 2, none⟩) hbk).trans hc2; have q3 := (hX.2.cell (p := ⟨(ad.add (k * 5)).block, (ad.add (k * 5)).off + 3, none⟩) hbk).trans hc3; clear hX; go_simp) hHeld ?_
        simp only [Act.put, List.setIfInBounds_toArray, List.set_cons_zero, List.set_cons_succ]
        refine wpAnyH_ready (rs := [6]) (by kernel_rfl) (by simp) ?_
        refine AllReadyH.cons rfl (fun KK hK => ?_) AllReadyH.nil
        simp only [List.getElem_toArray, List.getElem_cons_succ, List.getElem_cons_zero]
        go_simp
        refine (HRt1.out _).mono ?_
        rintro e Z1 ⟨rfl, b9⟩
        have K9 := KB.out.drew.next b9
        refine hK.out _ _ K9 (fun hHeld => ?_)
        clear hK KK
        try simp only [Act.put, List.setIfInBounds_toArray, List.set_cons_zero, List.set_cons_succ]
        refine takeH 7 20 (.bool true) rfl rfl (by kernel_rfl) (by kernel_rfl) (by kernel_rfl) (fun _ _ _ h => h) (by kernel_rfl) (fun X hX => by clear hX; first | rfl | go_simp) hHeld ?_
        simp only [Act.put, List.setIfInBounds_toArray, List.set_cons_zero, List.set_cons_succ]
        refine takeH 8 21 (.bool true) rfl rfl (by kernel_rfl) (by kernel_rfl) (by kernel_rfl) (fun _ _ _ h => h) (by kernel_rfl) (fun X hX => by clear hX; first | rfl | go_simp) hHeld ?_
        simp only [Act.put, List.setIfInBounds_toArray, List.set_cons_zero, List.set_cons_succ]
        refine skipH 9 22 rfl rfl (by kernel_rfl) (by kernel_rfl) (by kernel_rfl) (fun _ _ _ h => h) (by kernel_rfl) hHeld ?_
        simp only [Act.put, List.setIfInBounds_toArray, List.set_cons_zero, List.set_cons_succ]
        refine skipH 10 23 rfl rfl (by kernel_rfl) (by kernel_rfl) (by kernel_rfl) (fun _ _ _ h => h) (by kernel_rfl) hHeld ?_
        simp only [Act.put, List.setIfInBounds_toArray, List.set_cons_zero, List.set_cons_succ]
        refine skipH 11 24 rfl rfl (by kernel_rfl) (by kernel_rfl) (by kernel_rfl) (fun _ _ _ h => h) (by kernel_rfl) hHeld ?_
        simp only [Act.put, List.setIfInBounds_toArray, List.set_cons_zero, List.set_cons_succ]
        refine skipH 12 25 rfl rfl (by kernel_rfl) (by kernel_rfl) (by kernel_rfl) (fun _ _ _ h => h) (by kernel_rfl) hHeld ?_
        simp only [Act.put, List.setIfInBounds_toArray, List.set_cons_zero, List.set_cons_succ]
        refine skipH 13 26 rfl rfl (by kernel_rfl) (by kernel_rfl) (by kernel_rfl) (fun _ _ _ h => h) (by kernel_rfl) hHeld ?_
        simp only [Act.put, List.setIfInBounds_toArray, List.set_cons_zero, List.set_cons_succ]
        refine skipH 14 27 rfl rfl (by kernel_rfl) (by kernel_rfl) (by kernel_rfl) (fun _ _ _ h => h) (by kernel_rfl) hHeld ?_
        simp only [Act.put, List.setIfInBounds_toArray, List.set_cons_zero, List.set_cons_succ]
        refine skipH 15 28 rfl rfl (by kernel_rfl) (by kernel_rfl) (by kernel_rfl) (fun _ _ _ h => h) (by kernel_rfl) hHeld ?_
        simp only [Act.put, List.setIfInBounds_toArray, List.set_cons_zero, List.set_cons_succ]
        refine takeH 16 29 (.bool true) rfl rfl (by kernel_rfl) (by kernel_rfl) (by kernel_rfl) (fun _ _ _ h => h) (by kernel_rfl) (fun X hX => by clear hX; first | rfl | go_simp) hHeld ?_
        simp only [Act.put, List.setIfInBounds_toArray, List.set_cons_zero, List.set_cons_succ]
        refine wpAnyH_done (by kernel_rfl) ?_ _
        go_wp2_with fail
        go_ret
        exact Did.mk (by rw [hb.out]; rfl) K9.2
      | true =>
        rw [hrt, Bool.true_and] at Hok
        rw [hrt] at HRt1
        cases hcb : costB y.c with
        | false =>
          have hb := hid (Hbad.out (by rw [Hok.out, hcb, Bool.false_and]))
          rw [hcb] at HC1
          clear Hyes Hno Hbad Hnext Hok hcb hrt
          go_wp2_with fail
          refine wp_region_held_drew (S := fun X => Mem w X [(G, gc g, 23)]) (by kernel_rfl) KB.out.drew (fun hHeld => ?_)
          refine takeH 0 13 (gv g) rfl rfl (by kernel_rfl) (by kernel_rfl) (by kernel_rfl) (fun _ _ _ h => h) (by kernel_rfl) (fun X hX => by obtain ⟨q0, q1, q2⟩ := hX.gr (B := G) (g := g) (by simp); clear hX; go_simp) hHeld ?_
          simp only [Act.put, List.setIfInBounds_toArray, List.set_cons_zero, List.set_cons_succ]
          refine takeH 1 14 (.slice (some ad) l.length c) rfl rfl (by kernel_rfl) (by kernel_rfl) (by kernel_rfl) (fun _ _ _ h => h) (by kernel_rfl) (fun X hX => by clear hX; first | rfl | go_simp) hHeld ?_
          simp only [Act.put, List.setIfInBounds_toArray, List.set_cons_zero, List.set_cons_succ]
          refine takeH 2 15 (.int .i64 (k : Int)) rfl rfl (by kernel_rfl) (by kernel_rfl) (by kernel_rfl) (fun _ _ _ h => h) (by kernel_rfl) (fun X hX => by clear hX; first | rfl | go_simp) hHeld ?_
          simp only [Act.put, List.setIfInBounds_toArray, List.set_cons_zero, List.set_cons_succ]
          refine takeH 3 16 (.pointer (some (ad.add (k * 5)))) rfl rfl (by kernel_rfl) (by kernel_rfl) (by kernel_rfl) (fun _ _ _ h => h) (by kernel_rfl) (fun X hX => by clear hX; first | rfl | go_simp) hHeld ?_
          simp only [Act.put, List.setIfInBounds_toArray, List.set_cons_zero, List.set_cons_succ]
          refine takeH 4 17 (.pointer (some (ad.add (k * 5)))) rfl rfl (by kernel_rfl) (by kernel_rfl) (by kernel_rfl) (fun _ _ _ h => h) (by kernel_rfl) (fun X hX => by clear hX; first | rfl | go_simp) hHeld ?_
          simp only [Act.put, List.setIfInBounds_toArray, List.set_cons_zero, List.set_cons_succ]
          refine takeH 5 18 (wv y.w) rfl rfl (by kernel_rfl) (by kernel_rfl) (by kernel_rfl) (fun _ _ _ h => h) (by kernel_rfl) (fun X hX => by have q0 := (hX.2.cell (p := ad.add (k * 5)) hbk).trans hc0; have q1 := (hX.2.cell (p := ⟨(ad.add (k * 5)).block, (ad.add (k * 5)).off + 1, none⟩) hbk).trans hc1; have q2 := (hX.2.cell (p := ⟨(ad.add (k * 5)).block, (ad.add (k * 5)).off + 2, none⟩) hbk).trans hc2; have q3 := (hX.2.cell (p := ⟨(ad.add (k * 5)).block, (ad.add (k * 5)).off + 3, none⟩) hbk).trans hc3; clear hX; go_simp) hHeld ?_
          simp only [Act.put, List.setIfInBounds_toArray, List.set_cons_zero, List.set_cons_succ]
          refine wpAnyH_ready (rs := [6]) (by kernel_rfl) (by simp) ?_
          refine AllReadyH.cons rfl (fun KK hK => ?_) AllReadyH.nil
          simp only [List.getElem_toArray, List.getElem_cons_succ, List.getElem_cons_zero]
          go_simp
          refine (HRt1.out _).mono ?_
          rintro e Z1 ⟨rfl, b9⟩
          have K9 := KB.out.drew.next b9
          refine hK.out _ _ K9 (fun hHeld => ?_)
          clear hK KK
          try simp only [Act.put, List.setIfInBounds_toArray, List.set_cons_zero, List.set_cons_succ]
          refine takeH 7 20 (.bool false) rfl rfl (by kernel_rfl) (by kernel_rfl) (by kernel_rfl) (fun _ _ _ h => h) (by kernel_rfl) (fun X hX => by clear hX; first | rfl | go_simp) hHeld ?_
          simp only [Act.put, List.setIfInBounds_toArray, List.set_cons_zero, List.set_cons_succ]
          refine takeH 8 21 (.bool false) rfl rfl (by kernel_rfl) (by kernel_rfl) (by kernel_rfl) (fun _ _ _ h => h) (by kernel_rfl) (fun X hX => by clear hX; first | rfl | go_simp) hHeld ?_
          simp only [Act.put, List.setIfInBounds_toArray, List.set_cons_zero, List.set_cons_succ]
          refine takeH 9 22 (.slice (some ad) l.length c) rfl rfl (by kernel_rfl) (by kernel_rfl) (by kernel_rfl) (fun _ _ _ h => h) (by kernel_rfl) (fun X hX => by clear hX; first | rfl | go_simp) hHeld ?_
          simp only [Act.put, List.setIfInBounds_toArray, List.set_cons_zero, List.set_cons_succ]
          refine takeH 10 23 (.int .i64 (k : Int)) rfl rfl (by kernel_rfl) (by kernel_rfl) (by kernel_rfl) (fun _ _ _ h => h) (by kernel_rfl) (fun X hX => by clear hX; first | rfl | go_simp) hHeld ?_
          simp only [Act.put, List.setIfInBounds_toArray, List.set_cons_zero, List.set_cons_succ]
          refine takeH 11 24 (.pointer (some (ad.add (k * 5)))) rfl rfl (by kernel_rfl) (by kernel_rfl) (by kernel_rfl) (fun _ _ _ h => h) (by kernel_rfl) (fun X hX => by clear hX; first | rfl | go_simp) hHeld ?_
          simp only [Act.put, List.setIfInBounds_toArray, List.set_cons_zero, List.set_cons_succ]
          refine takeH 12 25 (.pointer (some ⟨(ad.add (k * 5)).block, (ad.add (k * 5)).off + 4, none⟩)) rfl rfl (by kernel_rfl) (by kernel_rfl) (by kernel_rfl) (fun _ _ _ h => h) (by kernel_rfl) (fun X hX => by clear hX; first | rfl | go_simp) hHeld ?_
          simp only [Act.put, List.setIfInBounds_toArray, List.set_cons_zero, List.set_cons_succ]
          refine takeH 13 26 (.int .i64 y.c) rfl rfl (by kernel_rfl) (by kernel_rfl) (by kernel_rfl) (fun _ _ _ h => h) (by kernel_rfl) (fun X hX => by have q := (hX.2.cell (p := ⟨(ad.add (k * 5)).block, (ad.add (k * 5)).off + 4, none⟩) hbk).trans hc4; clear hX; go_simp) hHeld ?_
          simp only [Act.put, List.setIfInBounds_toArray, List.set_cons_zero, List.set_cons_succ]
          refine wpAnyH_ready (rs := [14]) (by kernel_rfl) (by simp) ?_
          refine AllReadyH.cons rfl (fun KK hK => ?_) AllReadyH.nil
          simp only [List.getElem_toArray, List.getElem_cons_succ, List.getElem_cons_zero]
          go_simp
          refine (HC1.out _).mono ?_
          rintro e Z2 ⟨rfl, rfl⟩
          refine hK.out _ _ K9 (fun hHeld => ?_)
          clear hK KK
          try simp only [Act.put, List.setIfInBounds_toArray, List.set_cons_zero, List.set_cons_succ]
          refine takeH 15 28 (.bool true) rfl rfl (by kernel_rfl) (by kernel_rfl) (by kernel_rfl) (fun _ _ _ h => h) (by kernel_rfl) (fun X hX => by clear hX; first | rfl | go_simp) hHeld ?_
          simp only [Act.put, List.setIfInBounds_toArray, List.set_cons_zero, List.set_cons_succ]
          refine takeH 16 29 (.bool true) rfl rfl (by kernel_rfl) (by kernel_rfl) (by kernel_rfl) (fun _ _ _ h => h) (by kernel_rfl) (fun X hX => by clear hX; first | rfl | go_simp) hHeld ?_
          simp only [Act.put, List.setIfInBounds_toArray, List.set_cons_zero, List.set_cons_succ]
          refine wpAnyH_done (by kernel_rfl) ?_ _
          go_wp2_with fail
          go_ret
          exact Did.mk (by rw [hb.out]; rfl) K9.2
        | true =>
          rw [hcb, Bool.true_and] at Hok
          rw [hcb] at HC1
          have Hno1 := hid (fun m (hm : m < k) (h : whEq (tmAt l m).w y.w = true) => Hbad.out (by rw [Hok.out]; exact freshT_no hm (by rw [tmAt_of hy.out]; exact h)))
          have Hfs := hid (fun m => freshT_succ l k m)
          have Hf0 := hid (show freshT l k 0 = true from rfl)
          clear Hbad hcb hrt
          go_wp2_with fail
          refine wp_region_held_drew (S := fun X => Mem w X [(G, gc g, 23)]) (by kernel_rfl) KB.out.drew (fun hHeld => ?_)
          refine takeH 0 13 (gv g) rfl rfl (by kernel_rfl) (by kernel_rfl) (by kernel_rfl) (fun _ _ _ h => h) (by kernel_rfl) (fun X hX => by obtain ⟨q0, q1, q2⟩ := hX.gr (B := G) (g := g) (by simp); clear hX; go_simp) hHeld ?_
          simp only [Act.put, List.setIfInBounds_toArray, List.set_cons_zero, List.set_cons_succ]
          refine takeH 1 14 (.slice (some ad) l.length c) rfl rfl (by kernel_rfl) (by kernel_rfl) (by kernel_rfl) (fun _ _ _ h => h) (by kernel_rfl) (fun X hX => by clear hX; first | rfl | go_simp) hHeld ?_
          simp only [Act.put, List.setIfInBounds_toArray, List.set_cons_zero, List.set_cons_succ]
          refine takeH 2 15 (.int .i64 (k : Int)) rfl rfl (by kernel_rfl) (by kernel_rfl) (by kernel_rfl) (fun _ _ _ h => h) (by kernel_rfl) (fun X hX => by clear hX; first | rfl | go_simp) hHeld ?_
          simp only [Act.put, List.setIfInBounds_toArray, List.set_cons_zero, List.set_cons_succ]
          refine takeH 3 16 (.pointer (some (ad.add (k * 5)))) rfl rfl (by kernel_rfl) (by kernel_rfl) (by kernel_rfl) (fun _ _ _ h => h) (by kernel_rfl) (fun X hX => by clear hX; first | rfl | go_simp) hHeld ?_
          simp only [Act.put, List.setIfInBounds_toArray, List.set_cons_zero, List.set_cons_succ]
          refine takeH 4 17 (.pointer (some (ad.add (k * 5)))) rfl rfl (by kernel_rfl) (by kernel_rfl) (by kernel_rfl) (fun _ _ _ h => h) (by kernel_rfl) (fun X hX => by clear hX; first | rfl | go_simp) hHeld ?_
          simp only [Act.put, List.setIfInBounds_toArray, List.set_cons_zero, List.set_cons_succ]
          refine takeH 5 18 (wv y.w) rfl rfl (by kernel_rfl) (by kernel_rfl) (by kernel_rfl) (fun _ _ _ h => h) (by kernel_rfl) (fun X hX => by have q0 := (hX.2.cell (p := ad.add (k * 5)) hbk).trans hc0; have q1 := (hX.2.cell (p := ⟨(ad.add (k * 5)).block, (ad.add (k * 5)).off + 1, none⟩) hbk).trans hc1; have q2 := (hX.2.cell (p := ⟨(ad.add (k * 5)).block, (ad.add (k * 5)).off + 2, none⟩) hbk).trans hc2; have q3 := (hX.2.cell (p := ⟨(ad.add (k * 5)).block, (ad.add (k * 5)).off + 3, none⟩) hbk).trans hc3; clear hX; go_simp) hHeld ?_
          simp only [Act.put, List.setIfInBounds_toArray, List.set_cons_zero, List.set_cons_succ]
          refine wpAnyH_ready (rs := [6]) (by kernel_rfl) (by simp) ?_
          refine AllReadyH.cons rfl (fun KK hK => ?_) AllReadyH.nil
          simp only [List.getElem_toArray, List.getElem_cons_succ, List.getElem_cons_zero]
          go_simp
          refine (HRt1.out _).mono ?_
          rintro e Z1 ⟨rfl, b9⟩
          have K9 := KB.out.drew.next b9
          refine hK.out _ _ K9 (fun hHeld => ?_)
          clear hK KK
          try simp only [Act.put, List.setIfInBounds_toArray, List.set_cons_zero, List.set_cons_succ]
          refine takeH 7 20 (.bool false) rfl rfl (by kernel_rfl) (by kernel_rfl) (by kernel_rfl) (fun _ _ _ h => h) (by kernel_rfl) (fun X hX => by clear hX; first | rfl | go_simp) hHeld ?_
          simp only [Act.put, List.setIfInBounds_toArray, List.set_cons_zero, List.set_cons_succ]
          refine takeH 8 21 (.bool false) rfl rfl (by kernel_rfl) (by kernel_rfl) (by kernel_rfl) (fun _ _ _ h => h) (by kernel_rfl) (fun X hX => by clear hX; first | rfl | go_simp) hHeld ?_
          simp only [Act.put, List.setIfInBounds_toArray, List.set_cons_zero, List.set_cons_succ]
          refine takeH 9 22 (.slice (some ad) l.length c) rfl rfl (by kernel_rfl) (by kernel_rfl) (by kernel_rfl) (fun _ _ _ h => h) (by kernel_rfl) (fun X hX => by clear hX; first | rfl | go_simp) hHeld ?_
          simp only [Act.put, List.setIfInBounds_toArray, List.set_cons_zero, List.set_cons_succ]
          refine takeH 10 23 (.int .i64 (k : Int)) rfl rfl (by kernel_rfl) (by kernel_rfl) (by kernel_rfl) (fun _ _ _ h => h) (by kernel_rfl) (fun X hX => by clear hX; first | rfl | go_simp) hHeld ?_
          simp only [Act.put, List.setIfInBounds_toArray, List.set_cons_zero, List.set_cons_succ]
          refine takeH 11 24 (.pointer (some (ad.add (k * 5)))) rfl rfl (by kernel_rfl) (by kernel_rfl) (by kernel_rfl) (fun _ _ _ h => h) (by kernel_rfl) (fun X hX => by clear hX; first | rfl | go_simp) hHeld ?_
          simp only [Act.put, List.setIfInBounds_toArray, List.set_cons_zero, List.set_cons_succ]
          refine takeH 12 25 (.pointer (some ⟨(ad.add (k * 5)).block, (ad.add (k * 5)).off + 4, none⟩)) rfl rfl (by kernel_rfl) (by kernel_rfl) (by kernel_rfl) (fun _ _ _ h => h) (by kernel_rfl) (fun X hX => by clear hX; first | rfl | go_simp) hHeld ?_
          simp only [Act.put, List.setIfInBounds_toArray, List.set_cons_zero, List.set_cons_succ]
          refine takeH 13 26 (.int .i64 y.c) rfl rfl (by kernel_rfl) (by kernel_rfl) (by kernel_rfl) (fun _ _ _ h => h) (by kernel_rfl) (fun X hX => by have q := (hX.2.cell (p := ⟨(ad.add (k * 5)).block, (ad.add (k * 5)).off + 4, none⟩) hbk).trans hc4; clear hX; go_simp) hHeld ?_
          simp only [Act.put, List.setIfInBounds_toArray, List.set_cons_zero, List.set_cons_succ]
          refine wpAnyH_ready (rs := [14]) (by kernel_rfl) (by simp) ?_
          refine AllReadyH.cons rfl (fun KK hK => ?_) AllReadyH.nil
          simp only [List.getElem_toArray, List.getElem_cons_succ, List.getElem_cons_zero]
          go_simp
          refine (HC1.out _).mono ?_
          rintro e Z2 ⟨rfl, rfl⟩
          refine hK.out _ _ K9 (fun hHeld => ?_)
          clear hK KK
          try simp only [Act.put, List.setIfInBounds_toArray, List.set_cons_zero, List.set_cons_succ]
          refine takeH 15 28 (.bool false) rfl rfl (by kernel_rfl) (by kernel_rfl) (by kernel_rfl) (fun _ _ _ h => h) (by kernel_rfl) (fun X hX => by clear hX; first | rfl | go_simp) hHeld ?_
          simp only [Act.put, List.setIfInBounds_toArray, List.set_cons_zero, List.set_cons_succ]
          refine takeH 16 29 (.bool false) rfl rfl (by kernel_rfl) (by kernel_rfl) (by kernel_rfl) (fun _ _ _ h => h) (by kernel_rfl) (fun X hX => by clear hX; first | rfl | go_simp) hHeld ?_
          simp only [Act.put, List.setIfInBounds_toArray, List.set_cons_zero, List.set_cons_succ]
          refine wpAnyH_done (by kernel_rfl) ?_ _
          have KC := hid K9
          clear hHeld K9 b9 KB
          go_wp2_with fail
          go_loopw [6] (fun i wr2 => ∃ (m : Nat), i = .int .i64 m ∧ m ≤ k ∧ Hid (Mem w wr2 [(G, gc g, 23)]) ∧ Hid (freshT l k m = true)) (fun i _ => k - (intOf i).toNat)
          case atStart => exact ⟨0, rfl, Nat.zero_le _, KC, Hf0⟩
          case round =>
            clear KC
            obtain ⟨m, rfl, hmk, KB2, hfr⟩ := hrel
            by_cases hml : m < k
            · obtain ⟨ad', z, hae, _, hz, _, hcell2⟩ := Es.get enT_len (by decide) H.out (show m < l.length by omega)
              injection hae with hae
              subst hae
              have hbm : (ad.add (m * 5)).block < w.heap.size := by rw [add_block]; exact hadb
              have hm0 : w.cell? (ad.add (m * 5)) = some (.int .u32 (z.w.w : Int)) := by have := hcell2 0 _ rfl; rwa [Nat.add_zero] at this
              have hm1 : w.cell? ⟨(ad.add (m * 5)).block, (ad.add (m * 5)).off + 1, none⟩ = some (.int .u8 (z.w.d : Int)) := by have := hcell2 1 _ rfl; rwa [add_add _ _ _ (by omega)] at this
              have hm2 : w.cell? ⟨(ad.add (m * 5)).block, (ad.add (m * 5)).off + 2, none⟩ = some (.int .i64 z.w.s) := by have := hcell2 2 _ rfl; rwa [add_add _ _ _ (by omega)] at this
              have hm3 : w.cell? ⟨(ad.add (m * 5)).block, (ad.add (m * 5)).off + 3, none⟩ = some (.int .i64 z.w.l) := by have := hcell2 3 _ rfl; rwa [add_add _ _ _ (by omega)] at this
              have b3 : (0 : Int) ≤ (m : Int) := by omega
              have b4 : (m : Int) < l.length := by omega
              have b5 : (m : Int) < (k : Int) := by omega
              clear hcell2
              cases hzy : whEq z.w y.w with
              | true =>
                have hb := hid (Hno1.out m hml (by rw [tmAt_of hz.out]; exact hzy))
                clear Hyes Hno Hnext Hok Hno1 Hfs Hf0
                go_wp2_with fail
                refine wp_region_held_drew (S := fun X => Mem w X [(G, gc g, 23)]) (by kernel_rfl) KB2.out.drew (fun hHeld => ?_)
                refine takeH 0 35 (.slice (some ad) l.length c) rfl rfl (by kernel_rfl) (by kernel_rfl) (by kernel_rfl) (fun _ _ _ h => h) (by kernel_rfl) (fun X hX => by clear hX; first | rfl | go_simp) hHeld ?_
                simp only [Act.put, List.setIfInBounds_toArray, List.set_cons_zero, List.set_cons_succ]
                refine takeH 1 36 (.int .i64 (m : Int)) rfl rfl (by kernel_rfl) (by kernel_rfl) (by kernel_rfl) (fun _ _ _ h => h) (by kernel_rfl) (fun X hX => by clear hX; first | rfl | go_simp) hHeld ?_
                simp only [Act.put, List.setIfInBounds_toArray, List.set_cons_zero, List.set_cons_succ]
                refine takeH 2 37 (.pointer (some (ad.add (m * 5)))) rfl rfl (by kernel_rfl) (by kernel_rfl) (by kernel_rfl) (fun _ _ _ h => h) (by kernel_rfl) (fun X hX => by clear hX; first | rfl | go_simp) hHeld ?_
                simp only [Act.put, List.setIfInBounds_toArray, List.set_cons_zero, List.set_cons_succ]
                refine takeH 3 38 (.pointer (some (ad.add (m * 5)))) rfl rfl (by kernel_rfl) (by kernel_rfl) (by kernel_rfl) (fun _ _ _ h => h) (by kernel_rfl) (fun X hX => by clear hX; first | rfl | go_simp) hHeld ?_
                simp only [Act.put, List.setIfInBounds_toArray, List.set_cons_zero, List.set_cons_succ]
                refine takeH 4 39 (wv z.w) rfl rfl (by kernel_rfl) (by kernel_rfl) (by kernel_rfl) (fun _ _ _ h => h) (by kernel_rfl) (fun X hX => by have q0 := (hX.2.cell (p := ad.add (m * 5)) hbm).trans hm0; have q1 := (hX.2.cell (p := ⟨(ad.add (m * 5)).block, (ad.add (m * 5)).off + 1, none⟩) hbm).trans hm1; have q2 := (hX.2.cell (p := ⟨(ad.add (m * 5)).block, (ad.add (m * 5)).off + 2, none⟩) hbm).trans hm2; have q3 := (hX.2.cell (p := ⟨(ad.add (m * 5)).block, (ad.add (m * 5)).off + 3, none⟩) hbm).trans hm3; clear hX; go_simp) hHeld ?_
                simp only [Act.put, List.setIfInBounds_toArray, List.set_cons_zero, List.set_cons_succ]
                refine takeH 5 40 (.slice (some ad) l.length c) rfl rfl (by kernel_rfl) (by kernel_rfl) (by kernel_rfl) (fun _ _ _ h => h) (by kernel_rfl) (fun X hX => by clear hX; first | rfl | go_simp) hHeld ?_
                simp only [Act.put, List.setIfInBounds_toArray, List.set_cons_zero, List.set_cons_succ]
                refine takeH 6 41 (.int .i64 (k : Int)) rfl rfl (by kernel_rfl) (by kernel_rfl) (by kernel_rfl) (fun _ _ _ h => h) (by kernel_rfl) (fun X hX => by clear hX; first | rfl | go_simp) hHeld ?_
                simp only [Act.put, List.setIfInBounds_toArray, List.set_cons_zero, List.set_cons_succ]
                refine takeH 7 42 (.pointer (some (ad.add (k * 5)))) rfl rfl (by kernel_rfl) (by kernel_rfl) (by kernel_rfl) (fun _ _ _ h => h) (by kernel_rfl) (fun X hX => by clear hX; first | rfl | go_simp) hHeld ?_
                simp only [Act.put, List.setIfInBounds_toArray, List.set_cons_zero, List.set_cons_succ]
                refine takeH 8 43 (.pointer (some (ad.add (k * 5)))) rfl rfl (by kernel_rfl) (by kernel_rfl) (by kernel_rfl) (fun _ _ _ h => h) (by kernel_rfl) (fun X hX => by clear hX; first | rfl | go_simp) hHeld ?_
                simp only [Act.put, List.setIfInBounds_toArray, List.set_cons_zero, List.set_cons_succ]
                refine takeH 9 44 (wv y.w) rfl rfl (by kernel_rfl) (by kernel_rfl) (by kernel_rfl) (fun _ _ _ h => h) (by kernel_rfl) (fun X hX => by have q0 := (hX.2.cell (p := ad.add (k * 5)) hbk).trans hc0; have q1 := (hX.2.cell (p := ⟨(ad.add (k * 5)).block, (ad.add (k * 5)).off + 1, none⟩) hbk).trans hc1; have q2 := (hX.2.cell (p := ⟨(ad.add (k * 5)).block, (ad.add (k * 5)).off + 2, none⟩) hbk).trans hc2; have q3 := (hX.2.cell (p := ⟨(ad.add (k * 5)).block, (ad.add (k * 5)).off + 3, none⟩) hbk).trans hc3; clear hX; go_simp) hHeld ?_
                simp only [Act.put, List.setIfInBounds_toArray, List.set_cons_zero, List.set_cons_succ]
                refine takeH 10 45 (.bool true) rfl rfl (by kernel_rfl) (by kernel_rfl) (by kernel_rfl) (fun _ _ _ h => h) (by kernel_rfl) (fun X hX => by clear hX; have q := fun W => wh_eql z.w y.w W; rw [hzy] at q; go_simp) hHeld ?_
                simp only [Act.put, List.setIfInBounds_toArray, List.set_cons_zero, List.set_cons_succ]
                refine wpAnyH_done (by kernel_rfl) ?_ _
                go_wp2_with fail
                go_ret
                exact Did.mk (by rw [hb.out]; rfl) KB2.out.drew.2
              | false =>
                have hn := hid (show freshT l k (m + 1) = true by rw [Hfs.out m, hfr.out, tmAt_of hz.out, tmAt_of hy.out, hzy]; rfl)
                clear Hyes Hno Hnext Hok Hno1 Hfs Hf0
                go_wp2_with fail
                refine wp_region_held_drew (S := fun X => Mem w X [(G, gc g, 23)]) (by kernel_rfl) KB2.out.drew (fun hHeld => ?_)
                refine takeH 0 35 (.slice (some ad) l.length c) rfl rfl (by kernel_rfl) (by kernel_rfl) (by kernel_rfl) (fun _ _ _ h => h) (by kernel_rfl) (fun X hX => by clear hX; first | rfl | go_simp) hHeld ?_
                simp only [Act.put, List.setIfInBounds_toArray, List.set_cons_zero, List.set_cons_succ]
                refine takeH 1 36 (.int .i64 (m : Int)) rfl rfl (by kernel_rfl) (by kernel_rfl) (by kernel_rfl) (fun _ _ _ h => h) (by kernel_rfl) (fun X hX => by clear hX; first | rfl | go_simp) hHeld ?_
                simp only [Act.put, List.setIfInBounds_toArray, List.set_cons_zero, List.set_cons_succ]
                refine takeH 2 37 (.pointer (some (ad.add (m * 5)))) rfl rfl (by kernel_rfl) (by kernel_rfl) (by kernel_rfl) (fun _ _ _ h => h) (by kernel_rfl) (fun X hX => by clear hX; first | rfl | go_simp) hHeld ?_
                simp only [Act.put, List.setIfInBounds_toArray, List.set_cons_zero, List.set_cons_succ]
                refine takeH 3 38 (.pointer (some (ad.add (m * 5)))) rfl rfl (by kernel_rfl) (by kernel_rfl) (by kernel_rfl) (fun _ _ _ h => h) (by kernel_rfl) (fun X hX => by clear hX; first | rfl | go_simp) hHeld ?_
                simp only [Act.put, List.setIfInBounds_toArray, List.set_cons_zero, List.set_cons_succ]
                refine takeH 4 39 (wv z.w) rfl rfl (by kernel_rfl) (by kernel_rfl) (by kernel_rfl) (fun _ _ _ h => h) (by kernel_rfl) (fun X hX => by have q0 := (hX.2.cell (p := ad.add (m * 5)) hbm).trans hm0; have q1 := (hX.2.cell (p := ⟨(ad.add (m * 5)).block, (ad.add (m * 5)).off + 1, none⟩) hbm).trans hm1; have q2 := (hX.2.cell (p := ⟨(ad.add (m * 5)).block, (ad.add (m * 5)).off + 2, none⟩) hbm).trans hm2; have q3 := (hX.2.cell (p := ⟨(ad.add (m * 5)).block, (ad.add (m * 5)).off + 3, none⟩) hbm).trans hm3; clear hX; go_simp) hHeld ?_
                simp only [Act.put, List.setIfInBounds_toArray, List.set_cons_zero, List.set_cons_succ]
                refine takeH 5 40 (.slice (some ad) l.length c) rfl rfl (by kernel_rfl) (by kernel_rfl) (by kernel_rfl) (fun _ _ _ h => h) (by kernel_rfl) (fun X hX => by clear hX; first | rfl | go_simp) hHeld ?_
                simp only [Act.put, List.setIfInBounds_toArray, List.set_cons_zero, List.set_cons_succ]
                refine takeH 6 41 (.int .i64 (k : Int)) rfl rfl (by kernel_rfl) (by kernel_rfl) (by kernel_rfl) (fun _ _ _ h => h) (by kernel_rfl) (fun X hX => by clear hX; first | rfl | go_simp) hHeld ?_
                simp only [Act.put, List.setIfInBounds_toArray, List.set_cons_zero, List.set_cons_succ]
                refine takeH 7 42 (.pointer (some (ad.add (k * 5)))) rfl rfl (by kernel_rfl) (by kernel_rfl) (by kernel_rfl) (fun _ _ _ h => h) (by kernel_rfl) (fun X hX => by clear hX; first | rfl | go_simp) hHeld ?_
                simp only [Act.put, List.setIfInBounds_toArray, List.set_cons_zero, List.set_cons_succ]
                refine takeH 8 43 (.pointer (some (ad.add (k * 5)))) rfl rfl (by kernel_rfl) (by kernel_rfl) (by kernel_rfl) (fun _ _ _ h => h) (by kernel_rfl) (fun X hX => by clear hX; first | rfl | go_simp) hHeld ?_
                simp only [Act.put, List.setIfInBounds_toArray, List.set_cons_zero, List.set_cons_succ]
                refine takeH 9 44 (wv y.w) rfl rfl (by kernel_rfl) (by kernel_rfl) (by kernel_rfl) (fun _ _ _ h => h) (by kernel_rfl) (fun X hX => by have q0 := (hX.2.cell (p := ad.add (k * 5)) hbk).trans hc0; have q1 := (hX.2.cell (p := ⟨(ad.add (k * 5)).block, (ad.add (k * 5)).off + 1, none⟩) hbk).trans hc1; have q2 := (hX.2.cell (p := ⟨(ad.add (k * 5)).block, (ad.add (k * 5)).off + 2, none⟩) hbk).trans hc2; have q3 := (hX.2.cell (p := ⟨(ad.add (k * 5)).block, (ad.add (k * 5)).off + 3, none⟩) hbk).trans hc3; clear hX; go_simp) hHeld ?_
                simp only [Act.put, List.setIfInBounds_toArray, List.set_cons_zero, List.set_cons_succ]
                refine takeH 10 45 (.bool false) rfl rfl (by kernel_rfl) (by kernel_rfl) (by kernel_rfl) (fun _ _ _ h => h) (by kernel_rfl) (fun X hX => by clear hX; have q := fun W => wh_eql z.w y.w W; rw [hzy] at q; go_simp) hHeld ?_
                simp only [Act.put, List.setIfInBounds_toArray, List.set_cons_zero, List.set_cons_succ]
                refine wpAnyH_done (by kernel_rfl) ?_ _
                go_wp2_with fail
                exact ⟨⟨m + 1, by go_num, by omega, hid KB2.out.drew, hn⟩, by simp [intOf]; omega⟩
            · obtain rfl : m = k := by omega
              have b5 : ¬ ((m : Nat) : Int) < (m : Int) := by omega
              have hn := hid (Hnext.out (by rw [Hok.out]; exact hfr.out))
              clear Hyes Hno Hnext Hok Hno1 Hfs Hf0
              go_wp2_with fail
              exact ⟨⟨m + 1, by go_num, by omega, KB2, hn⟩, by simp [intOf]; omega⟩
    · have Hr := hid (Hyes.out (fun i hi => hsame.out i (by omega)))
      have b2 : ¬ (k : Int) < l.length := by omega
      clear Hyes Hno hsame
      by_cases c1 : (1 : Int) ≤ (l.length : Int)
      · rw [decide_eq_true c1, Bool.true_and] at Hr
        go_wp2_with fail
        go_ret
        exact Did.mk (by rw [Hr.out]; rfl) KB.out.2
      · rw [decide_eq_false c1, Bool.false_and] at Hr
        go_wp2_with fail
        go_ret
        exact Did.mk (by rw [Hr.out]; rfl) KB.out.2
end Go.Proofs.Ytcnpfchopjopeaa
