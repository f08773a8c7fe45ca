/- Contracts of the document's own answer for layer 9 (when): Meet, Gap. -/
import Derived.Test.YtcdldgmgmbopdaaDoorWhnT
namespace Go.Proofs.YtcdldgmgmbopdaaDoor
open Go.RowKit
open Whn (Gr Wh)

theorem tame_of_sameDay {a b : Wh} (h : Whn.sameDay a b = true) : Whn.tame a = true ∧ Whn.tame b = true := by
  unfold Whn.sameDay at h
  rw [Bool.and_eq_true, Bool.and_eq_true] at h
  exact ⟨h.1, h.2.1⟩
set_option maxHeartbeats 2000000 in
theorem r_Meet (a b : Wh) (ha : Wok a) (hb : Wok b) (w : World) : Calls Tryd.prog 29 #[wv a, wv b] w (Did (.bool (Whn.meet a b)) w) := by
  have HS := hid (fun w => r_SameDay a b ha hb w)
  obtain ⟨A, W, hA, hW, K, hb0⟩ := (Mem.nil w).one (wc a) 26
  obtain ⟨B, V, hB, hV, K1, hb1⟩ := K.out.one (wc b) 26
  have c0 := K1.out.cell (b := A) (cs := wc a) (t := 26) (by simp) (k := 0) rfl
  have c1 := K1.out.cell (b := A) (cs := wc a) (t := 26) (by simp) (k := 1) rfl
  have c2 := K1.out.cell (b := A) (cs := wc a) (t := 26) (by simp) (k := 2) rfl
  have c3 := K1.out.cell (b := A) (cs := wc a) (t := 26) (by simp) (k := 3) rfl
  have d0 := K1.out.cell (b := B) (cs := wc b) (t := 26) (by simp) (k := 0) rfl
  have d1 := K1.out.cell (b := B) (cs := wc b) (t := 26) (by simp) (k := 1) rfl
  have d2 := K1.out.cell (b := B) (cs := wc b) (t := 26) (by simp) (k := 2) rfl
  have d3 := K1.out.cell (b := B) (cs := wc b) (t := 26) (by simp) (k := 3) rfl
  clear K hb0 hb1
  have Hr := hid (show Whn.meet a b = (Whn.sameDay a b && Whn.slots a b) from rfl)
  cases hS : Whn.sameDay a b with
  | false =>
    rw [hS] at HS
    rw [hS, Bool.false_and] at Hr
    clear hS ha hb
    go_enter Tryd.func29, Tryd.ntmps29
    go_wp2_with fail
    refine (HS.out _).mono ?_
    rintro e w1 ⟨rfl, b1⟩
    go_wp2_with fail
    go_ret
    exact Did.mk (by rw [Hr.out]; rfl) (K1.out.next b1).2
  | true =>
    obtain ⟨hta, htb⟩ := tame_of_sameDay hS
    have HL := hid (fun w => r_slots a b hta htb w)
    rw [hS] at HS
    rw [hS, Bool.true_and] at Hr
    clear hS ha hb hta htb
    go_enter Tryd.func29, Tryd.ntmps29
    go_wp2_with fail
    refine (HS.out _).mono ?_
    rintro e w1 ⟨rfl, b1⟩
    have K2 := K1.out.next b1
    clear c0 c1 c2 c3 d0 d1 d2 d3
    have c0 := K2.cell (b := A) (cs := wc a) (t := 26) (by simp) (k := 0) rfl
    have c1 := K2.cell (b := A) (cs := wc a) (t := 26) (by simp) (k := 1) rfl
    have c2 := K2.cell (b := A) (cs := wc a) (t := 26) (by simp) (k := 2) rfl
    have c3 := K2.cell (b := A) (cs := wc a) (t := 26) (by simp) (k := 3) rfl
    have d0 := K2.cell (b := B) (cs := wc b) (t := 26) (by simp) (k := 0) rfl
    have d1 := K2.cell (b := B) (cs := wc b) (t := 26) (by simp) (k := 1) rfl
    have d2 := K2.cell (b := B) (cs := wc b) (t := 26) (by simp) (k := 2) rfl
    have d3 := K2.cell (b := B) (cs := wc b) (t := 26) (by simp) (k := 3) rfl
    go_wp2_with fail
    refine (HL.out _).mono ?_
    rintro e w2 ⟨rfl, b2⟩
    go_wp2_with fail
    go_ret
    exact Did.mk (by rw [Hr.out]; rfl) (K2.next b2).2
set_option maxHeartbeats 2000000 in
theorem r_Gap (a b : Wh) (ha : Wok a) (hb : Wok b) (w : World) : Calls Tryd.prog 27 #[wv a, wv b] w (Did (.tuple #[.int .i64 (Whn.gap a b), .bool (Whn.gapS a b)]) w) := by
  have HS := hid (fun w => r_SameDay a b ha hb w)
  obtain ⟨A, W, hA, hW, K, hb0⟩ := (Mem.nil w).one (wc a) 26
  obtain ⟨B, V, hB, hV, K1, hb1⟩ := K.out.one (wc b) 26
  have c0 := K1.out.cell (b := A) (cs := wc a) (t := 26) (by simp) (k := 0) rfl
  have c1 := K1.out.cell (b := A) (cs := wc a) (t := 26) (by simp) (k := 1) rfl
  have c2 := K1.out.cell (b := A) (cs := wc a) (t := 26) (by simp) (k := 2) rfl
  have c3 := K1.out.cell (b := A) (cs := wc a) (t := 26) (by simp) (k := 3) rfl
  have d0 := K1.out.cell (b := B) (cs := wc b) (t := 26) (by simp) (k := 0) rfl
  have d1 := K1.out.cell (b := B) (cs := wc b) (t := 26) (by simp) (k := 1) rfl
  have d2 := K1.out.cell (b := B) (cs := wc b) (t := 26) (by simp) (k := 2) rfl
  have d3 := K1.out.cell (b := B) (cs := wc b) (t := 26) (by simp) (k := 3) rfl
  clear K hb0 hb1
  cases hS : Whn.sameDay a b with
  | false =>
    have Hg := hid (show Whn.gap a b = 0 by unfold Whn.gap; rw [hS]; rfl)
    have Hh := hid (show Whn.gapS a b = false by unfold Whn.gapS; rw [hS]; rfl)
    rw [hS] at HS
    clear hS ha hb
    go_enter Tryd.func27, Tryd.ntmps27
    go_wp2_with fail
    refine (HS.out _).mono ?_
    rintro e w1 ⟨rfl, b1⟩
    go_wp2_with fail
    go_ret2
    exact Did.mk (by rw [Hg.out, Hh.out]; rfl) (K1.out.next b1).2
  | true =>
    obtain ⟨hta, htb⟩ := tame_of_sameDay hS
    obtain ⟨a1, a2, a3, a4⟩ := (Whn.tame_iff a).1 hta
    obtain ⟨b1, b2, b3, b4⟩ := (Whn.tame_iff b).1 htb
    have HL := hid (fun w => r_slots a b hta htb w)
    rw [hS] at HS
    clear hta htb
    cases hL : Whn.slots a b with
    | true =>
      have Hg := hid (show Whn.gap a b = 0 by unfold Whn.gap; rw [hS, hL]; rfl)
      have Hh := hid (show Whn.gapS a b = false by unfold Whn.gapS; rw [hS, hL]; rfl)
      rw [hL] at HL
      clear hS ha hb hL
      go_enter Tryd.func27, Tryd.ntmps27
      go_wp2_with fail
      refine (HS.out _).mono ?_
      rintro e w1 ⟨rfl, b1⟩
      have K2 := K1.out.next b1
      clear c0 c1 c2 c3 d0 d1 d2 d3
      have c0 := K2.cell (b := A) (cs := wc a) (t := 26) (by simp) (k := 0) rfl
      have c1 := K2.cell (b := A) (cs := wc a) (t := 26) (by simp) (k := 1) rfl
      have c2 := K2.cell (b := A) (cs := wc a) (t := 26) (by simp) (k := 2) rfl
      have c3 := K2.cell (b := A) (cs := wc a) (t := 26) (by simp) (k := 3) rfl
      have d0 := K2.cell (b := B) (cs := wc b) (t := 26) (by simp) (k := 0) rfl
      have d1 := K2.cell (b := B) (cs := wc b) (t := 26) (by simp) (k := 1) rfl
      have d2 := K2.cell (b := B) (cs := wc b) (t := 26) (by simp) (k := 2) rfl
      have d3 := K2.cell (b := B) (cs := wc b) (t := 26) (by simp) (k := 3) rfl
      go_wp2_with fail
      refine (HL.out _).mono ?_
      rintro e w2 ⟨rfl, b2⟩
      go_wp2_with fail
      go_ret2
      exact Did.mk (by rw [Hg.out, Hh.out]; rfl) (K2.next b2).2
    | false =>
      have Hg := hid (show Whn.gap a b = if a.s < b.s then b.s - a.s - a.l else a.s - b.s - b.l by unfold Whn.gap; rw [hS, hL]; rfl)
      have Hh := hid (show Whn.gapS a b = true by unfold Whn.gapS; rw [hS, hL]; rfl)
      rw [hL] at HL
      clear hS ha hb hL
      by_cases hlt : a.s < b.s
      all_goals
        first | rw [if_pos hlt] at Hg | rw [if_neg hlt] at Hg
        go_enter Tryd.func27, Tryd.ntmps27
        go_wp2_with fail
        refine (HS.out _).mono ?_
        rintro e w1 ⟨rfl, b1⟩
        have K2 := K1.out.next b1
        clear c0 c1 c2 c3 d0 d1 d2 d3
        have c0 := K2.cell (b := A) (cs := wc a) (t := 26) (by simp) (k := 0) rfl
        have c1 := K2.cell (b := A) (cs := wc a) (t := 26) (by simp) (k := 1) rfl
        have c2 := K2.cell (b := A) (cs := wc a) (t := 26) (by simp) (k := 2) rfl
        have c3 := K2.cell (b := A) (cs := wc a) (t := 26) (by simp) (k := 3) rfl
        have d0 := K2.cell (b := B) (cs := wc b) (t := 26) (by simp) (k := 0) rfl
        have d1 := K2.cell (b := B) (cs := wc b) (t := 26) (by simp) (k := 1) rfl
        have d2 := K2.cell (b := B) (cs := wc b) (t := 26) (by simp) (k := 2) rfl
        have d3 := K2.cell (b := B) (cs := wc b) (t := 26) (by simp) (k := 3) rfl
        go_wp2_with fail
        refine (HL.out _).mono ?_
        rintro e w2 ⟨rfl, b2⟩
        have K3 := K2.next b2
        clear c0 c1 c2 c3 d0 d1 d2 d3
        have c2 := K3.cell (b := A) (cs := wc a) (t := 26) (by simp) (k := 2) rfl
        have c3 := K3.cell (b := A) (cs := wc a) (t := 26) (by simp) (k := 3) rfl
        have d2 := K3.cell (b := B) (cs := wc b) (t := 26) (by simp) (k := 2) rfl
        have d3 := K3.cell (b := B) (cs := wc b) (t := 26) (by simp) (k := 3) rfl
        go_wp2_with fail
        go_ret2
        exact Did.mk (by rw [Hg.out, Hh.out]; rfl) K3.2
end Go.Proofs.YtcdldgmgmbopdaaDoor
