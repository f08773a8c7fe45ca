/- Contracts of the document's own answer for layer 11 (room): Name, Meets, Rows, Fits, Same, Right. -/
import Derived.Test.YtodhpdaoghbmcaaRomB
import Derived.Test.YtodhpdaoghbmcaaWh2
namespace Go.Proofs.Ytodhpdaoghbmcaa
open Go.RowKit
open Whn (Gr Wh)

theorem r_Name (s : ByteArray) (w : World) : Calls Try.prog 35 #[.string s] w (fun e w' => e = .returned (.bool (nameOk s.data.toList)) ∧ w = w') := by
  have Hr := hid (show nameOk s.data.toList = (decide (1 ≤ s.size) && decide (s.size ≤ 24)) by unfold nameOk; rw [data_len])
  by_cases h1 : 1 ≤ s.size
  · have h2 : ((1 : Int) ≤ (s.size : Int)) := by omega
    go_enter Try.func35, Try.ntmps35
    go_wp2_with fail
    go_ret
    refine ⟨?_, rfl⟩
    rw [Hr.out, decide_eq_true h1, Bool.true_and]
    have : decide ((s.size : Int) ≤ 24) = decide (s.size ≤ 24) := by rw [decide_eq_decide]; omega
    try rw [← this]
    rfl
  · have h2 : ¬ ((1 : Int) ≤ (s.size : Int)) := by omega
    have h3 := hid (decide_eq_false h1)
    clear h1
    go_enter Try.func35, Try.ntmps35
    go_wp2_with fail
    go_ret
    refine ⟨?_, rfl⟩
    rw [Hr.out, h3.out]; rfl
set_option maxRecDepth 4000 in
set_option maxHeartbeats 1000000 in
theorem r_Meets (A : Option Addr) (n c : Nat) (l : List Wh) (hn : l.length = n) (hm : n ≤ maxLen) (hok : ∀ y ∈ l, Wok y) (x : Wh) (hx0 : Wok x) (w : World) (h : Whs w w.heap.size A l) :
    Calls Try.prog 15 #[.slice A n c, wv x] w (Did (.bool (l.any (fun y => Whn.meet y x))) w) := by
  unfold maxLen at hm
  subst hn
  have HR := hid (fun y hy w => r_Meet y x hy hx0 w)
  have H := hid h
  have HO := hid hok
  clear h hok hx0
  obtain ⟨G, W, hG, hW, K, hb0⟩ := (Mem.nil w).one (wc x) 29
  go_enter Try.func15, Try.ntmps15
  go_wp2
  go_loopw [5] (fun i wr => ∃ (k : Nat), i = .int .i64 k ∧ k ≤ l.length ∧ Hid (Mem w wr [(G, wc x, 29)]) ∧ Hid (∀ y ∈ l.take k, Whn.meet y x = false)) (fun i _ => l.length - (intOf i).toNat)
  case atStart => exact ⟨0, rfl, Nat.zero_le _, K.out, fun y hy => by simp at hy⟩
  case round =>
    obtain ⟨k, rfl, hk, K1, hsame⟩ := hrel
    by_cases hlt : k < l.length
    · obtain ⟨ad, y, rfl, had, hx, hxl⟩ := whs_ad H.out hlt
      have hy1 : Wok y := HO.out _ hxl
      have b1 : (0 : Int) ≤ (k : Int) := by omega
      have b2 : (k : Int) < l.length := by omega
      go_wp2_with fail
      refine wp_region_held_drew (S := fun X => Mem w X [(G, wc x, 29)]) (by kernel_rfl) K1.out.drew (fun hHeld => ?_)
      refine takeH 0 12 (.slice (some ad) l.length c) rfl rfl (by kernel_rfl) (by kernel_rfl) (by kernel_rfl) (fun _ _ _ h => h) (by kernel_rfl) (fun X hX => by clear hX; first | rfl | go_simp) hHeld ?_
      simp only [Act.put, List.setIfInBounds_toArray, List.set_cons_zero, List.set_cons_succ]
      refine takeH 1 13 (.int .i64 k) rfl rfl (by kernel_rfl) (by kernel_rfl) (by kernel_rfl) (fun _ _ _ h => h) (by kernel_rfl) (fun X hX => by clear hX; first | rfl | go_simp) hHeld ?_
      simp only [Act.put, List.setIfInBounds_toArray, List.set_cons_zero, List.set_cons_succ]
      refine takeH 2 14 (.pointer (some (ad.add (k * 4)))) rfl rfl (by kernel_rfl) (by kernel_rfl) (by kernel_rfl) (fun _ _ _ h => h) (by kernel_rfl) (fun X hX => by clear hX; go_simp) hHeld ?_
      simp only [Act.put, List.setIfInBounds_toArray, List.set_cons_zero, List.set_cons_succ]
      refine takeH 3 15 (wv y) rfl rfl (by kernel_rfl) (by kernel_rfl) (by kernel_rfl) (fun _ _ _ h => h) (by kernel_rfl) (fun X hX => by obtain ⟨c0, c1, c2, c3⟩ := whs_at (H.out.below hX.2 (Nat.le_refl _)) hx.out; clear hX; go_simp) hHeld ?_
      simp only [Act.put, List.setIfInBounds_toArray, List.set_cons_zero, List.set_cons_succ]
      refine takeH 4 16 (wv x) rfl rfl (by kernel_rfl) (by kernel_rfl) (by kernel_rfl) (fun _ _ _ h => h) (by kernel_rfl) (fun X hX => by obtain ⟨c0, c1, c2, c3⟩ := hX.wh (B := G) (x := x) (by simp); clear hX; go_simp) hHeld ?_
      simp only [Act.put, List.setIfInBounds_toArray, List.set_cons_zero, List.set_cons_succ]
      refine wpAnyH_ready (rs := [5]) (by kernel_rfl) (by simp) ?_
      refine AllReadyH.cons rfl (fun KK hK => ?_) AllReadyH.nil
      simp only [List.getElem_toArray, List.getElem_cons_succ, List.getElem_cons_zero]
      go_simp
      refine (HR.out _ hy1 _).mono ?_
      rintro e w1 ⟨rfl, b1⟩
      have K2 := K1.out.drew.next b1
      refine hK.out _ _ K2 (fun hHeld => ?_)
      clear hK KK
      try simp only [Act.put, List.setIfInBounds_toArray, List.set_cons_zero, List.set_cons_succ]
      refine wpAnyH_done (by kernel_rfl) ?_ _
      have K3 := K2.drew
      cases hR : Whn.meet y x with
      | false =>
        go_wp2_with fail
        refine ⟨⟨k + 1, by go_num, by omega, K2, ?_⟩, by simp [intOf]; omega⟩
        intro z hz
        rw [List.take_add_one, hx.out, List.mem_append] at hz
        rcases hz with hz | hz
        · exact hsame.out z hz
        · simp at hz
          rw [hz]; exact hR
      | true =>
        go_wp2_with fail
        go_ret
        refine Did.mk ?_ K2.2
        have : l.any (fun y => Whn.meet y x) = true := by
          rw [List.any_eq_true]
          exact ⟨y, hxl, hR⟩
        rw [this]; rfl
    · have hall : l.any (fun y => Whn.meet y x) = false := by
        rw [List.any_eq_false]
        intro y hy
        rw [hsame.out y (by rw [List.take_of_length_le (by omega)]; exact hy)]
        simp
      have Ha := hid hall
      clear hall
      go_wp2_with fail
      go_ret
      refine Did.mk ?_ K1.out.2
      rw [Ha.out]; rfl
/-- '!=' of two times -/
theorem wh_neq (x y : Wh) (w : World) : (binOp .neq 29 (wv x) (wv y)).run Try.prog w = .ok (.bool (!(whEq x y))) w := by
  go_simp
  have h1 : ((x.w : Int) = (y.w : Int)) = (x.w = y.w) := propext ⟨fun h => by omega, fun h => by omega⟩
  have h2 : ((x.d : Int) = (y.d : Int)) = (x.d = y.d) := propext ⟨fun h => by omega, fun h => by omega⟩
  simp only [h1, h2]
  unfold whEq
  by_cases a1 : x.w = y.w
  · by_cases a2 : x.d = y.d
    · by_cases a3 : x.s = y.s
      · by_cases a4 : x.l = y.l
        · simp [a1, a2, a3, a4]
        · simp [a1, a2, a3, a4]
      · simp [a1, a2, a3]
    · simp [a1, a2]
  · simp [a1]
end Go.Proofs.Ytodhpdaoghbmcaa
