/- Contracts of the document's own answer for layer 11 (room): Rows, Fits, Same, Right. -/
import Derived.Test.YtodhpdaoghbmcaaRomC
namespace Go.Proofs.Ytodhpdaoghbmcaa
open Go.RowKit
open Whn (Gr Wh)

deriving instance DecidableEq for Wh
theorem whEq_dec (x y : Wh) : whEq x y = decide (x = y) := by
  unfold whEq
  rw [decide_eq_decide]
  cases x; cases y
  simp
theorem whEq_iff (x y : Wh) : whEq x y = true ↔ x = y := by rw [whEq_dec, decide_eq_true_iff]
theorem ifs_wh (x y : Wh) (X : World) : (if (x.w : Int) = (y.w : Int) then if (x.d : Int) = (y.d : Int) then if x.s = y.s then if x.l = y.l then Result.ok (Next.value (Value.bool false)) X else Result.ok (Next.value (Value.bool true)) X else Result.ok (Next.value (Value.bool true)) X else Result.ok (Next.value (Value.bool true)) X else Result.ok (Next.value (Value.bool true)) X) = Result.ok (Next.value (Value.bool (!whEq x y))) X := by
  have h1 : ((x.w : Int) = (y.w : Int)) = (x.w = y.w) := propext ⟨fun h => by omega, fun h => by omega⟩
  have h2 : ((x.d : Int) = (y.d : Int)) = (x.d = y.d) := propext ⟨fun h => by omega, fun h => by omega⟩
  simp only [h1, h2]
  unfold whEq
  by_cases a1 : x.w = y.w
  · by_cases a2 : x.d = y.d
    · by_cases a3 : x.s = y.s
      · by_cases a4 : x.l = y.l
        · simp [a1, a2, a3, a4]
        · simp [a1, a2, a3, a4]
      · simp [a1, a2, a3]
    · simp [a1, a2]
  · simp [a1]
set_option maxRecDepth 4000 in
set_option maxHeartbeats 1000000 in
theorem r_Rows (A A2 : Option Addr) (n n2 c c2 : Nat) (l ms : List Wh) (hn : l.length = n) (hn2 : ms.length = n2) (hm : n ≤ maxLen) (w : World) (h : Whs w w.heap.size A l) (h2 : Whs w w.heap.size A2 ms) :
    Calls Try.prog 57 #[.slice A n c, .slice A2 n2 c2] w (Did (.bool (decide (l = ms))) w) := by
  unfold maxLen at hm
  subst hn
  have H := hid h
  have H2 := hid h2
  clear h h2
  by_cases hlen : l.length = n2
  · subst hlen
    have Hn := hid hn2
    clear hn2
    go_enter Try.func57, Try.ntmps57
    go_wp2
    go_loopw [5] (fun i wr => ∃ (k : Nat), i = .int .i64 k ∧ k ≤ l.length ∧ Hid (Below w.heap.size w wr) ∧ Hid (l.take k = ms.take k)) (fun i _ => l.length - (intOf i).toNat)
    case atStart => exact ⟨0, rfl, Nat.zero_le _, Below.refl _ _, rfl⟩
    case round =>
      obtain ⟨k, rfl, hk, K1, hsame⟩ := hrel
      by_cases hlt : k < l.length
      · have hlt2 : k < ms.length := by rw [Hn.out]; exact hlt
        obtain ⟨ad, x, rfl, had, hx, _⟩ := whs_ad H.out hlt
        obtain ⟨ad2, y, rfl, had2, hy, _⟩ := whs_ad H2.out hlt2
        have b1 : (0 : Int) ≤ (k : Int) := by omega
        have b2 : (k : Int) < l.length := by omega
        go_wp2_with fail
        refine wp_region_held_drew (S := fun X => Below w.heap.size w X) (by kernel_rfl) K1.out.drew (fun hHeld => ?_)
        refine takeH 0 17 (.slice (some ad) l.length c) rfl rfl (by kernel_rfl) (by kernel_rfl) (by kernel_rfl) (fun _ _ _ h => h) (by kernel_rfl) (fun X hX => by clear hX; first | rfl | go_simp) hHeld ?_
        simp only [Act.put, List.setIfInBounds_toArray, List.set_cons_zero, List.set_cons_succ]
        refine takeH 1 18 (.int .i64 k) rfl rfl (by kernel_rfl) (by kernel_rfl) (by kernel_rfl) (fun _ _ _ h => h) (by kernel_rfl) (fun X hX => by clear hX; first | rfl | go_simp) hHeld ?_
        simp only [Act.put, List.setIfInBounds_toArray, List.set_cons_zero, List.set_cons_succ]
        refine takeH 2 19 (.pointer (some (ad.add (k * 4)))) rfl rfl (by kernel_rfl) (by kernel_rfl) (by kernel_rfl) (fun _ _ _ h => h) (by kernel_rfl) (fun X hX => by clear hX; go_simp) hHeld ?_
        simp only [Act.put, List.setIfInBounds_toArray, List.set_cons_zero, List.set_cons_succ]
        refine takeH 3 20 (wv x) rfl rfl (by kernel_rfl) (by kernel_rfl) (by kernel_rfl) (fun _ _ _ h => h) (by kernel_rfl) (fun X hX => by obtain ⟨c0, c1, c2, c3⟩ := whs_at (H.out.below hX (Nat.le_refl _)) hx.out; clear hX; go_simp) hHeld ?_
        simp only [Act.put, List.setIfInBounds_toArray, List.set_cons_zero, List.set_cons_succ]
        refine takeH 4 21 (.slice (some ad2) l.length c2) rfl rfl (by kernel_rfl) (by kernel_rfl) (by kernel_rfl) (fun _ _ _ h => h) (by kernel_rfl) (fun X hX => by clear hX; first | rfl | go_simp) hHeld ?_
        simp only [Act.put, List.setIfInBounds_toArray, List.set_cons_zero, List.set_cons_succ]
        refine takeH 5 22 (.int .i64 k) rfl rfl (by kernel_rfl) (by kernel_rfl) (by kernel_rfl) (fun _ _ _ h => h) (by kernel_rfl) (fun X hX => by clear hX; first | rfl | go_simp) hHeld ?_
        simp only [Act.put, List.setIfInBounds_toArray, List.set_cons_zero, List.set_cons_succ]
        refine takeH 6 23 (.pointer (some (ad2.add (k * 4)))) rfl rfl (by kernel_rfl) (by kernel_rfl) (by kernel_rfl) (fun _ _ _ h => h) (by kernel_rfl) (fun X hX => by clear hX; go_simp) hHeld ?_
        simp only [Act.put, List.setIfInBounds_toArray, List.set_cons_zero, List.set_cons_succ]
        refine takeH 7 24 (wv y) rfl rfl (by kernel_rfl) (by kernel_rfl) (by kernel_rfl) (fun _ _ _ h => h) (by kernel_rfl) (fun X hX => by obtain ⟨c0, c1, c2, c3⟩ := whs_at (H2.out.below hX (Nat.le_refl _)) hy.out; clear hX; go_simp) hHeld ?_
        simp only [Act.put, List.setIfInBounds_toArray, List.set_cons_zero, List.set_cons_succ]
        refine takeH 8 25 (.bool (!(whEq x y))) rfl rfl (by kernel_rfl) (by kernel_rfl) (by kernel_rfl) (fun _ _ _ h => h) (by kernel_rfl) (fun X hX => by clear hX; go_simp; exact ifs_wh x y X) hHeld ?_
        simp only [Act.put, List.setIfInBounds_toArray, List.set_cons_zero, List.set_cons_succ]
        refine wpAnyH_done (by kernel_rfl) ?_ _
        have K3 := K1.out.drew.drew
        cases hR : whEq x y with
        | true =>
          have hxy := (whEq_iff x y).1 hR
          go_wp2_with fail
          refine ⟨⟨k + 1, by go_num, by omega, K1.out.drew, ?_⟩, by simp [intOf]; omega⟩
          show l.take (k + 1) = ms.take (k + 1)
          rw [List.take_add_one, List.take_add_one, hsame.out, hx.out, hy.out, hxy]
        | false =>
          go_wp2_with fail
          go_ret
          refine Did.mk ?_ K1.out.drew
          have : decide (l = ms) = false := by
            rw [decide_eq_false_iff_not]
            intro e
            have e1 : l[k]? = ms[k]? := by rw [e]
            rw [hx.out, hy.out] at e1
            injection e1 with e1
            rw [(whEq_iff x y).2 e1] at hR
            cases hR
          rw [this]; rfl
      · have hall : decide (l = ms) = true := by
          rw [decide_eq_true_iff]
          have e := hsame.out
          rwa [List.take_of_length_le (by omega), List.take_of_length_le (by rw [Hn.out]; omega)] at e
        have Ha := hid hall
        clear hall
        go_wp2_with fail
        go_ret
        refine Did.mk ?_ K1.out
        rw [Ha.out]; rfl
  · subst hn2
    have hne : ((l.length : Int) != (ms.length : Int)) = true := by rw [bne_iff_ne]; omega
    have hres := hid (show decide (l = ms) = false by rw [decide_eq_false_iff_not]; intro e; exact hlen (by rw [e]))
    go_enter Try.func57, Try.ntmps57
    go_wp2
    go_ret
    refine Did.mk ?_ (Below.refl _ _)
    rw [hres.out]; rfl
end Go.Proofs.Ytodhpdaoghbmcaa
