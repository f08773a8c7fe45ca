/- Contracts of the document's own answer for layer 11 (room): Name, Whens, Right, Meets. -/
import Derived.Test.YtodhpdaoghbmcaaRomA
import Derived.Test.YtodhpdaoghbmcaaWh1
namespace Go.Proofs.Ytodhpdaoghbmcaa
open Go.RowKit
open Whn (Gr Wh)

def nameOk (s : List UInt8) : Bool := decide (1 ≤ s.length) && decide (s.length ≤ 24)
set_option maxRecDepth 4000 in
set_option maxHeartbeats 1000000 in
theorem r_Whens (g : Gr) (A : Option Addr) (n c : Nat) (l : List Wh) (hn : l.length = n) (hm : n ≤ maxLen) (hok : ∀ y ∈ l, Wok y) (most : Int) (w : World) (h : Whs w w.heap.size A l) :
    Calls Try.prog 36 #[gv g, .slice A n c, .int .i64 most] w (Did (.bool (l.all (Whn.right g) && decide ((l.length : Int) ≤ most))) w) := by
  unfold maxLen at hm
  subst hn
  have HR := hid (fun x hx w => r_Right g x hx w)
  have H := hid h
  have HO := hid hok
  clear h hok
  obtain ⟨G, W, hG, hW, K, hb0⟩ := (Mem.nil w).one (gc g) 23
  obtain ⟨c0, c1, c2⟩ := K.out.gr (B := G) (g := g) (by simp)
  go_enter Try.func36, Try.ntmps36
  go_wp2
  go_loopw [7] (fun i wr => ∃ (k : Nat), i = .int .i64 k ∧ k ≤ l.length ∧ Hid (Mem w wr [(G, gc g, 23)]) ∧ Hid (∀ y ∈ l.take k, Whn.right g y = true)) (fun i _ => l.length - (intOf i).toNat)
  case atStart => exact ⟨0, rfl, Nat.zero_le _, K.out, fun y hy => by simp at hy⟩
  case round =>
    obtain ⟨k, rfl, hk, K1, hsame⟩ := hrel
    by_cases hlt : k < l.length
    · obtain ⟨ad, x, rfl, had, hx, hxl⟩ := whs_ad H.out hlt
      have hx1 : Wok x := HO.out _ hxl
      have b1 : (0 : Int) ≤ (k : Int) := by omega
      have b2 : (k : Int) < l.length := by omega
      go_wp2_with fail
      refine wp_region_held_drew (S := fun X => Mem w X [(G, gc g, 23)]) (by kernel_rfl) K1.out.drew (fun hHeld => ?_)
      refine takeH 0 14 (gv g) rfl rfl (by kernel_rfl) (by kernel_rfl) (by kernel_rfl) (fun _ _ _ h => h) (by kernel_rfl) (fun X hX => by obtain ⟨c0, c1, c2⟩ := hX.gr (B := G) (g := g) (by simp); clear hX; go_simp) hHeld ?_
      simp only [Act.put, List.setIfInBounds_toArray, List.set_cons_zero, List.set_cons_succ]
      refine takeH 1 15 (.slice (some ad) l.length c) rfl rfl (by kernel_rfl) (by kernel_rfl) (by kernel_rfl) (fun _ _ _ h => h) (by kernel_rfl) (fun X hX => by clear hX; first | rfl | go_simp) hHeld ?_
      simp only [Act.put, List.setIfInBounds_toArray, List.set_cons_zero, List.set_cons_succ]
      refine takeH 2 16 (.int .i64 k) rfl rfl (by kernel_rfl) (by kernel_rfl) (by kernel_rfl) (fun _ _ _ h => h) (by kernel_rfl) (fun X hX => by clear hX; first | rfl | go_simp) hHeld ?_
      simp only [Act.put, List.setIfInBounds_toArray, List.set_cons_zero, List.set_cons_succ]
      refine takeH 3 17 (.pointer (some (ad.add (k * 4)))) rfl rfl (by kernel_rfl) (by kernel_rfl) (by kernel_rfl) (fun _ _ _ h => h) (by kernel_rfl) (fun X hX => by clear hX; go_simp) hHeld ?_
      simp only [Act.put, List.setIfInBounds_toArray, List.set_cons_zero, List.set_cons_succ]
      refine takeH 4 18 (wv x) rfl rfl (by kernel_rfl) (by kernel_rfl) (by kernel_rfl) (fun _ _ _ h => h) (by kernel_rfl) (fun X hX => by obtain ⟨c0, c1, c2, c3⟩ := whs_at (H.out.below hX.2 (Nat.le_refl _)) hx.out; clear hX; go_simp) hHeld ?_
      simp only [Act.put, List.setIfInBounds_toArray, List.set_cons_zero, List.set_cons_succ]
      refine wpAnyH_ready (rs := [5]) (by kernel_rfl) (by simp) ?_
      refine AllReadyH.cons rfl (fun KK hK => ?_) AllReadyH.nil
      simp only [List.getElem_toArray, List.getElem_cons_succ, List.getElem_cons_zero]
      go_simp
      refine (HR.out _ hx1 _).mono ?_
      rintro e w1 ⟨rfl, b1⟩
      have K2 := K1.out.drew.next b1
      refine hK.out _ _ K2 (fun hHeld => ?_)
      clear hK KK
      try simp only [Act.put, List.setIfInBounds_toArray, List.set_cons_zero, List.set_cons_succ]
      refine takeH 6 20 (.bool (!(Whn.right g x))) rfl rfl (by kernel_rfl) (by kernel_rfl) (by kernel_rfl) (fun _ _ _ h => h) (by kernel_rfl) (fun X hX => by clear hX; first | rfl | go_simp) hHeld ?_
      simp only [Act.put, List.setIfInBounds_toArray, List.set_cons_zero, List.set_cons_succ]
      refine wpAnyH_done (by kernel_rfl) ?_ _

      have K3 := K2.drew
      cases hR : Whn.right g x with
      | true =>
        go_wp2_with fail
        refine ⟨⟨k + 1, by go_num, by omega, K2, ?_⟩, by simp [intOf]; omega⟩
        intro y hy
        rw [List.take_add_one, hx.out, List.mem_append] at hy
        rcases hy with hy | hy
        · exact hsame.out y hy
        · simp at hy
          rw [hy]; exact hR
      | false =>
        go_wp2_with fail
        go_ret
        refine Did.mk ?_ K2.2
        have : l.all (Whn.right g) = false := by
          rw [List.all_eq_false]
          exact ⟨x, hxl, by rw [hR]; simp⟩
        rw [this]; rfl
    · have hall : l.all (Whn.right g) = true := by
        rw [List.all_eq_true]
        intro y hy
        exact hsame.out y (by rw [List.take_of_length_le (by omega)]; exact hy)
      have Ha := hid hall
      clear hall
      go_wp2_with fail
      go_ret
      refine Did.mk ?_ K1.out.2
      rw [Ha.out]; rfl
end Go.Proofs.Ytodhpdaoghbmcaa
