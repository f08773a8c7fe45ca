/- Contracts of the library's Index and Equal over rows of times, and of the program's own Same (layer 11). -/
import Derived.Test.YtodhpdaoghbmcaaRomL
import Derived.Test.YtodhpdaoghbmcaaWh2
namespace Go.Proofs.Ytodhpdaoghbmcaa
open Go.RowKit
open Whn (Gr Wh)

/-- the first place of a time in a row, or -1 -/
def IxAt (l : List Wh) (x : Wh) (z : Int) : Prop := (z = -1 ∧ x ∉ l) ∨ ∃ k : Nat, z = (k : Int) ∧ k < l.length ∧ l[k]? = some x ∧ ∀ y ∈ l.take k, y ≠ x
def IxRet (l : List Wh) (x : Wh) (w : World) (e : Ending) (w' : World) : Prop := ∃ z, e = .returned (.int .i64 z) ∧ IxAt l x z ∧ Below w.heap.size w w'
set_option maxRecDepth 4000 in
set_option maxHeartbeats 1000000 in
theorem p_Index (A : Option Addr) (c : Nat) (l : List Wh) (hm : l.length ≤ maxLen) (x : Wh) (w : World) (h : Whs w w.heap.size A l) :
    Calls Try.prog 74 #[.slice A l.length c, wv x] w (IxRet l x w) := by
  unfold maxLen at hm
  have H := hid h
  clear h
  obtain ⟨G, V, hG, hV, K, hb0⟩ := (Mem.nil w).one (wc x) 29
  go_enter Try.func74, Try.ntmps74
  go_wp2
  go_loopw [8] (fun i wr => ∃ (k : Nat), i = .int .i64 k ∧ k ≤ l.length ∧ Hid (Mem w wr [(G, wc x, 29)]) ∧ Hid (∀ y ∈ l.take k, y ≠ x)) (fun i _ => l.length - (intOf i).toNat)
  case atStart => exact ⟨0, rfl, Nat.zero_le _, K, hid (fun y hy => by simp at hy)⟩
  case round =>
    clear K
    obtain ⟨k, rfl, hk, K1, hsame⟩ := hrel
    by_cases hlt : k < l.length
    · obtain ⟨ad, y, rfl, had, hx, hxl⟩ := whs_ad H.out hlt
      have b1 : (0 : Int) ≤ (k : Int) := by omega
      have b2 : (k : Int) < l.length := by omega
      go_wp2_with fail
      · refine wp_region_held_drew (S := fun X => Mem w X [(G, wc x, 29)]) (by kernel_rfl) K1.out.drew (fun hHeld => ?_)
        refine takeH 0 11 (wv x) rfl rfl (by kernel_rfl) (by kernel_rfl) (by kernel_rfl) (fun _ _ _ h => h) (by kernel_rfl) (fun X hX => by obtain ⟨c0, c1, c2, c3⟩ := hX.wh (B := G) (x := x) (by simp); clear hX; go_simp) hHeld ?_
        simp only [Act.put, List.setIfInBounds_toArray, List.set_cons_zero, List.set_cons_succ]
        refine takeH 1 12 (.slice (some ad) l.length c) rfl rfl (by kernel_rfl) (by kernel_rfl) (by kernel_rfl) (fun _ _ _ h => h) (by kernel_rfl) (fun X hX => by clear hX; first | rfl | go_simp) hHeld ?_
        simp only [Act.put, List.setIfInBounds_toArray, List.set_cons_zero, List.set_cons_succ]
        refine takeH 2 13 (.int .i64 k) rfl rfl (by kernel_rfl) (by kernel_rfl) (by kernel_rfl) (fun _ _ _ h => h) (by kernel_rfl) (fun X hX => by clear hX; first | rfl | go_simp) hHeld ?_
        simp only [Act.put, List.setIfInBounds_toArray, List.set_cons_zero, List.set_cons_succ]
        refine takeH 3 14 (.pointer (some (ad.add (k * 4)))) rfl rfl (by kernel_rfl) (by kernel_rfl) (by kernel_rfl) (fun _ _ _ h => h) (by kernel_rfl) (fun X hX => by clear hX; go_simp) hHeld ?_
        simp only [Act.put, List.setIfInBounds_toArray, List.set_cons_zero, List.set_cons_succ]
        refine takeH 4 15 (wv y) rfl rfl (by kernel_rfl) (by kernel_rfl) (by kernel_rfl) (fun _ _ _ h => h) (by kernel_rfl) (fun X hX => by obtain ⟨c0, c1, c2, c3⟩ := whs_at (H.out.below hX.2 (Nat.le_refl _)) hx.out; clear hX; go_simp) hHeld ?_
        simp only [Act.put, List.setIfInBounds_toArray, List.set_cons_zero, List.set_cons_succ]
        refine takeH 5 16 (.bool (whEq x y)) rfl rfl (by kernel_rfl) (by kernel_rfl) (by kernel_rfl) (fun _ _ _ h => h) (by kernel_rfl) (fun X hX => by clear hX; go_simp; exact ifs_whe x y X) hHeld ?_
        simp only [Act.put, List.setIfInBounds_toArray, List.set_cons_zero, List.set_cons_succ]
        refine wpAnyH_done (by kernel_rfl) ?_ _
        have K3 := hid (K1.out.drew.drew)
        cases hR : whEq x y with
        | true =>
          obtain rfl := (whEq_iff x y).1 hR
          go_wp2_with fail
          go_ret
          exact ⟨k, rfl, .inr ⟨k, rfl, hlt, hx.out, hsame.out⟩, K1.out.drew.2⟩
        | false =>
          have hne := hid (show y ≠ x from fun e => by
            rw [(whEq_iff x y).2 e.symm] at hR
            cases hR)
          clear hR
          go_wp2_with fail
          refine ⟨⟨k + 1, by go_num, by omega, hid K1.out.drew, ?_⟩, by simp [intOf]; omega⟩
          refine hid (fun z hz => ?_)
          rw [List.take_add_one, hx.out, List.mem_append] at hz
          rcases hz with hz | hz
          · exact hsame.out z hz
          · simp at hz
            rw [hz]; exact hne.out
    · have hall := hid (show x ∉ l from fun hx => hsame.out x (by rw [List.take_of_length_le (by omega)]; exact hx) rfl)
      have b2 : ¬ (k : Int) < l.length := by omega
      go_wp2_with fail
      go_ret
      exact ⟨-1, rfl, .inl ⟨rfl, hall.out⟩, K1.out.2⟩
set_option maxRecDepth 4000 in
set_option maxHeartbeats 1000000 in
theorem p_Equal (A A2 : Option Addr) (c c2 : Nat) (l ms : List Wh) (hm : l.length ≤ maxLen) (w : World) (h : Whs w w.heap.size A l) (h2 : Whs w w.heap.size A2 ms) :
    Calls Try.prog 75 #[.slice A l.length c, .slice A2 ms.length c2] w (Did (.bool (decide (l = ms))) w) := by
  unfold maxLen at hm
  by_cases hlen : (l.length : Int) = (ms.length : Int)
  · have Hn := hid (show ms.length = l.length by omega)
    have H := hid h
    have H2 := hid h2
    clear h h2
    have hne : ((l.length : Int) != (ms.length : Int)) = false := by rw [bne_eq_false_iff_eq]; exact hlen
    clear hlen
    go_enter Try.func75, Try.ntmps75
    go_wp2
    go_loopw [13] (fun i wr => ∃ (k : Nat), i = .int .i64 k ∧ k ≤ l.length ∧ Hid (Below w.heap.size w wr) ∧ Hid (l.take k = ms.take k)) (fun i _ => l.length - (intOf i).toNat)
    case atStart => exact ⟨0, rfl, Nat.zero_le _, hid (Below.refl _ _), hid (by simp)⟩
    case round =>
      obtain ⟨k, rfl, hk, K1, hsame⟩ := hrel
      by_cases hlt : k < l.length
      · obtain ⟨ad, x, rfl, had, hx, hxl⟩ := whs_ad H.out hlt
        obtain ⟨ad2, y, rfl, had2, hy, hyl⟩ := whs_ad H2.out (k := k) (by have := Hn.out; omega)
        have b1 : (0 : Int) ≤ (k : Int) := by omega
        have b2 : (k : Int) < l.length := by omega
        have b3 : (k : Int) < ms.length := by have := Hn.out; omega
        go_wp2_with fail
        refine wp_region_held_drew (S := fun X => Below w.heap.size w X) (by kernel_rfl) K1.out.drew (fun hHeld => ?_)
        refine takeH 0 16 (.slice (some ad) l.length c) rfl rfl (by kernel_rfl) (by kernel_rfl) (by kernel_rfl) (fun _ _ _ h => h) (by kernel_rfl) (fun X hX => by clear hX; first | rfl | go_simp) hHeld ?_
        simp only [Act.put, List.setIfInBounds_toArray, List.set_cons_zero, List.set_cons_succ]
        refine takeH 1 17 (.int .i64 k) rfl rfl (by kernel_rfl) (by kernel_rfl) (by kernel_rfl) (fun _ _ _ h => h) (by kernel_rfl) (fun X hX => by clear hX; first | rfl | go_simp) hHeld ?_
        simp only [Act.put, List.setIfInBounds_toArray, List.set_cons_zero, List.set_cons_succ]
        refine takeH 2 18 (.pointer (some (ad.add (k * 4)))) rfl rfl (by kernel_rfl) (by kernel_rfl) (by kernel_rfl) (fun _ _ _ h => h) (by kernel_rfl) (fun X hX => by clear hX; go_simp) hHeld ?_
        simp only [Act.put, List.setIfInBounds_toArray, List.set_cons_zero, List.set_cons_succ]
        refine takeH 3 19 (wv x) rfl rfl (by kernel_rfl) (by kernel_rfl) (by kernel_rfl) (fun _ _ _ h => h) (by kernel_rfl) (fun X hX => by obtain ⟨c0, c1, c2, c3⟩ := whs_at (H.out.below hX (Nat.le_refl _)) hx.out; clear hX; go_simp) hHeld ?_
        simp only [Act.put, List.setIfInBounds_toArray, List.set_cons_zero, List.set_cons_succ]
        refine takeH 4 20 (.slice (some ad2) ms.length c2) rfl rfl (by kernel_rfl) (by kernel_rfl) (by kernel_rfl) (fun _ _ _ h => h) (by kernel_rfl) (fun X hX => by clear hX; first | rfl | go_simp) hHeld ?_
        simp only [Act.put, List.setIfInBounds_toArray, List.set_cons_zero, List.set_cons_succ]
        refine takeH 5 21 (.int .i64 k) rfl rfl (by kernel_rfl) (by kernel_rfl) (by kernel_rfl) (fun _ _ _ h => h) (by kernel_rfl) (fun X hX => by clear hX; first | rfl | go_simp) hHeld ?_
        simp only [Act.put, List.setIfInBounds_toArray, List.set_cons_zero, List.set_cons_succ]
        refine takeH 6 22 (.pointer (some (ad2.add (k * 4)))) rfl rfl (by kernel_rfl) (by kernel_rfl) (by kernel_rfl) (fun _ _ _ h => h) (by kernel_rfl) (fun X hX => by clear hX; go_simp) hHeld ?_
        simp only [Act.put, List.setIfInBounds_toArray, List.set_cons_zero, List.set_cons_succ]
        refine takeH 7 23 (wv y) rfl rfl (by kernel_rfl) (by kernel_rfl) (by kernel_rfl) (fun _ _ _ h => h) (by kernel_rfl) (fun X hX => by obtain ⟨c0, c1, c2, c3⟩ := whs_at (H2.out.below hX (Nat.le_refl _)) hy.out; clear hX; go_simp) hHeld ?_
        simp only [Act.put, List.setIfInBounds_toArray, List.set_cons_zero, List.set_cons_succ]
        refine takeH 8 24 (.bool (!(whEq x y))) rfl rfl (by kernel_rfl) (by kernel_rfl) (by kernel_rfl) (fun _ _ _ h => h) (by kernel_rfl) (fun X hX => by clear hX; go_simp; exact ifs_wh x y X) hHeld ?_
        simp only [Act.put, List.setIfInBounds_toArray, List.set_cons_zero, List.set_cons_succ]
        refine wpAnyH_done (by kernel_rfl) ?_ _
        have K3 := K1.out.drew.drew
        cases hR : whEq x y with
        | true =>
          have hxy := (whEq_iff x y).1 hR
          go_wp2_with fail
          refine ⟨⟨k + 1, by go_num, by omega, hid K1.out.drew, hid ?_⟩, by simp [intOf]; omega⟩
          rw [List.take_add_one, List.take_add_one, hsame.out, hx.out, hy.out, hxy]
        | false =>
          go_wp2_with fail
          go_ret
          refine Did.mk ?_ K1.out.drew
          have : decide (l = ms) = false := by
            rw [decide_eq_false_iff_not]
            intro e
            have e1 : l[k]? = ms[k]? := by rw [e]
            rw [hx.out, hy.out] at e1
            injection e1 with e1
            rw [(whEq_iff x y).2 e1] at hR
            cases hR
          rw [this]; rfl
      · have hall := hid (show decide (l = ms) = true by
          rw [decide_eq_true_iff]
          have e := hsame.out
          rwa [List.take_of_length_le (by omega), List.take_of_length_le (by rw [Hn.out]; omega)] at e)
        have b2 : ¬ (k : Int) < l.length := by omega
        go_wp2_with fail
        go_ret
        refine Did.mk ?_ K1.out
        rw [hall.out]; rfl
  · have hne : ((l.length : Int) != (ms.length : Int)) = true := by rw [bne_iff_ne]; exact hlen
    have hres := hid (show decide (l = ms) = false by rw [decide_eq_false_iff_not]; intro e; exact hlen (by rw [e]))
    clear hlen
    go_enter Try.func75, Try.ntmps75
    go_wp2
    go_ret
    refine Did.mk ?_ (Below.refl _ _)
    rw [hres.out]; rfl
end Go.Proofs.Ytodhpdaoghbmcaa
