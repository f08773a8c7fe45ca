/- Contracts of the document's own answer for layer 9 (when): Meet, Gap. -/
import Derived.Test.YteldcaebbmaemaaWhnT
namespace Go.Proofs.Yteldcaebbmaemaa
open Go.RowKit
open Whn (Gr Wh)

theorem tame_of_sameDay {a b : Wh} (h : Whn.sameDay a b = true) : Whn.tame a = true ∧ Whn.tame b = true := by
  unfold Whn.sameDay at h
  rw [Bool.and_eq_true, Bool.and_eq_true] at h
  exact ⟨h.1, h.2.1⟩
set_option maxHeartbeats 2000000 in
theorem r_Meet (a b : Wh) (ha : Wok a) (hb : Wok b) (w : World) : Calls Try.prog 44 #[wv a, wv b] w (Did (.bool (Whn.meet a b)) w) := by
  have HS := hid (fun w => r_SameDay a b ha hb w)
  obtain ⟨A, W, hA, hW, K, hb0⟩ := (Mem.nil w).one (wc a) 30
  obtain ⟨B, V, hB, hV, K1, hb1⟩ := K.out.one (wc b) 30
  have c0 := K1.out.cell (b := A) (cs := wc a) (t := 30) (by simp) (k := 0) rfl
  have c1 := K1.out.cell (b := A) (cs := wc a) (t := 30) (by simp) (k := 1) rfl
  have c2 := K1.out.cell (b := A) (cs := wc a) (t := 30) (by simp) (k := 2) rfl
  have c3 := K1.out.cell (b := A) (cs := wc a) (t := 30) (by simp) (k := 3) rfl
  have d0 := K1.out.cell (b := B) (cs := wc b) (t := 30) (by simp) (k := 0) rfl
  have d1 := K1.out.cell (b := B) (cs := wc b) (t := 30) (by simp) (k := 1) rfl
  have d2 := K1.out.cell (b := B) (cs := wc b) (t := 30) (by simp) (k := 2) rfl
  have d3 := K1.out.cell (b := B) (cs := wc b) (t := 30) (by simp) (k := 3) rfl
  clear K hb0 hb1
  have Hr := hid (show Whn.meet a b = (Whn.sameDay a b && Whn.slots a b) from rfl)
  cases hS : Whn.sameDay a b with
  | false =>
    rw [hS] at HS
    rw [hS, Bool.false_and] at Hr
    clear hS ha hb
    go_enter Try.func44, Try.ntmps44
    go_wp2_with fail
    refine (HS.out _).mono ?_
    rintro e w1 ⟨rfl, b1⟩
    go_wp2_with fail
    go_ret
    exact Did.mk (by rw [Hr.out]; rfl) (K1.out.next b1).2
  | true =>
    obtain ⟨hta, htb⟩ := tame_of_sameDay hS
    have HL := hid (fun w => r_slots a b hta htb w)
    rw [hS] at HS
    rw [hS, Bool.true_and] at Hr
    clear hS ha hb hta htb
    go_enter Try.func44, Try.ntmps44
    go_wp2_with fail
    refine (HS.out _).mono ?_
    rintro e w1 ⟨rfl, b1⟩
    have K2 := K1.out.next b1
    clear c0 c1 c2 c3 d0 d1 d2 d3
    have c0 := K2.cell (b := A) (cs := wc a) (t := 30) (by simp) (k := 0) rfl
    have c1 := K2.cell (b := A) (cs := wc a) (t := 30) (by simp) (k := 1) rfl
    have c2 := K2.cell (b := A) (cs := wc a) (t := 30) (by simp) (k := 2) rfl
    have c3 := K2.cell (b := A) (cs := wc a) (t := 30) (by simp) (k := 3) rfl
    have d0 := K2.cell (b := B) (cs := wc b) (t := 30) (by simp) (k := 0) rfl
    have d1 := K2.cell (b := B) (cs := wc b) (t := 30) (by simp) (k := 1) rfl
    have d2 := K2.cell (b := B) (cs := wc b) (t := 30) (by simp) (k := 2) rfl
    have d3 := K2.cell (b := B) (cs := wc b) (t := 30) (by simp) (k := 3) rfl
    go_wp2_with fail
    refine (HL.out _).mono ?_
    rintro e w2 ⟨rfl, b2⟩
    go_wp2_with fail
    go_ret
    exact Did.mk (by rw [Hr.out]; rfl) (K2.next b2).2
end Go.Proofs.Yteldcaebbmaemaa
