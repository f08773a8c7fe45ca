/- slices.Equal of rows of ints, times and places (layer 13). -/
import Derived.Test.YtcnpfchopjopeaaClsL
namespace Go.Proofs.Ytcnpfchopjopeaa
open Go.RowKit
open Whn (Gr Wh)

set_option maxRecDepth 8000 in
set_option maxHeartbeats 2000000 in
theorem p_EqualI (A A2 : Option Addr) (c c2 : Nat) (l ms : List Int) (hm : l.length ≤ maxLen) (w : World) (h : Its w w.heap.size A l) (h2 : Its w w.heap.size A2 ms) :
    Calls Try.prog 44 #[.slice A l.length c, .slice A2 ms.length c2] w (Did (.bool (decide (l = ms))) w) := by
  unfold maxLen at hm
  by_cases hlen : (l.length : Int) = (ms.length : Int)
  · have Hn := hid (show l.length = ms.length by omega)
    have H := hid h
    have H2 := hid h2
    clear h h2
    have K0 := hid (Mem.nil w)
    have hne : ((l.length : Int) != (ms.length : Int)) = false := by rw [bne_eq_false_iff_eq]; exact hlen
    clear hlen
    go_enter Try.func44, Try.ntmps44
    go_wp2
    go_loopw [13] (fun i wr => ∃ (k : Nat), i = .int .i64 k ∧ k ≤ l.length ∧ Hid (Mem w wr []) ∧ Hid (l.take k = ms.take k)) (fun i _ => l.length - (intOf i).toNat)
    case atStart => exact ⟨0, rfl, Nat.zero_le _, K0, hid (by simp)⟩
    case round =>
      clear K0
      obtain ⟨k, rfl, hk, K1, hsame⟩ := hrel
      by_cases hlt : k < l.length
      · obtain ⟨ad, x, rfl, hadb, hx, u0⟩ := Its.get H.out hlt
        have hbu : (ad.add k).block < w.heap.size := by rw [add_block]; exact hadb
        obtain ⟨ae, y, rfl, haeb, hy, z0⟩ := Its.get H2.out (k := k) (by have := Hn.out; omega)
        have hbz : (ae.add k).block < w.heap.size := by rw [add_block]; exact haeb
        have b1 : (0 : Int) ≤ (k : Int) := by omega
        have b2 : (k : Int) < l.length := by omega
        have b3 : (k : Int) < ms.length := by have := Hn.out; omega
        go_wp2_with fail
        refine wp_region_held_drew (S := fun X => Mem w X []) (by kernel_rfl) K1.out.drew (fun hHeld => ?_)
        refine takeH 0 16 (.slice (some ad) l.length c) rfl rfl (by kernel_rfl) (by kernel_rfl) (by kernel_rfl) (fun _ _ _ h => h) (by kernel_rfl) (fun X hX => by clear hX; first | rfl | go_simp) hHeld ?_
        simp only [Act.put, List.setIfInBounds_toArray, List.set_cons_zero, List.set_cons_succ]
        refine takeH 1 17 (.int .i64 (k : Int)) rfl rfl (by kernel_rfl) (by kernel_rfl) (by kernel_rfl) (fun _ _ _ h => h) (by kernel_rfl) (fun X hX => by clear hX; first | rfl | go_simp) hHeld ?_
        simp only [Act.put, List.setIfInBounds_toArray, List.set_cons_zero, List.set_cons_succ]
        refine takeH 2 18 (.pointer (some (ad.add k))) rfl rfl (by kernel_rfl) (by kernel_rfl) (by kernel_rfl) (fun _ _ _ h => h) (by kernel_rfl) (fun X hX => by clear hX; first | rfl | go_simp) hHeld ?_
        simp only [Act.put, List.setIfInBounds_toArray, List.set_cons_zero, List.set_cons_succ]
        refine takeH 3 19 (.int .i64 x) rfl rfl (by kernel_rfl) (by kernel_rfl) (by kernel_rfl) (fun _ _ _ h => h) (by kernel_rfl) (fun X hX => by have qu0 := (hX.2.cell (p := ad.add k) hbu).trans u0; clear hX; go_simp) hHeld ?_
        simp only [Act.put, List.setIfInBounds_toArray, List.set_cons_zero, List.set_cons_succ]
        refine takeH 4 20 (.slice (some ae) ms.length c2) rfl rfl (by kernel_rfl) (by kernel_rfl) (by kernel_rfl) (fun _ _ _ h => h) (by kernel_rfl) (fun X hX => by clear hX; first | rfl | go_simp) hHeld ?_
        simp only [Act.put, List.setIfInBounds_toArray, List.set_cons_zero, List.set_cons_succ]
        refine takeH 5 21 (.int .i64 (k : Int)) rfl rfl (by kernel_rfl) (by kernel_rfl) (by kernel_rfl) (fun _ _ _ h => h) (by kernel_rfl) (fun X hX => by clear hX; first | rfl | go_simp) hHeld ?_
        simp only [Act.put, List.setIfInBounds_toArray, List.set_cons_zero, List.set_cons_succ]
        refine takeH 6 22 (.pointer (some (ae.add k))) rfl rfl (by kernel_rfl) (by kernel_rfl) (by kernel_rfl) (fun _ _ _ h => h) (by kernel_rfl) (fun X hX => by clear hX; first | rfl | go_simp) hHeld ?_
        simp only [Act.put, List.setIfInBounds_toArray, List.set_cons_zero, List.set_cons_succ]
        refine takeH 7 23 (.int .i64 y) rfl rfl (by kernel_rfl) (by kernel_rfl) (by kernel_rfl) (fun _ _ _ h => h) (by kernel_rfl) (fun X hX => by have qz0 := (hX.2.cell (p := ae.add k) hbz).trans z0; clear hX; go_simp) hHeld ?_
        simp only [Act.put, List.setIfInBounds_toArray, List.set_cons_zero, List.set_cons_succ]
        refine takeH 8 24 (.bool (!decide (x = y))) rfl rfl (by kernel_rfl) (by kernel_rfl) (by kernel_rfl) (fun _ _ _ h => h) (by kernel_rfl) (fun X hX => by clear hX; go_simp; by_cases h : x = y <;> simp [h]) hHeld ?_
        simp only [Act.put, List.setIfInBounds_toArray, List.set_cons_zero, List.set_cons_succ]
        refine wpAnyH_done (by kernel_rfl) ?_ _
        cases hR : decide (x = y) with
        | true =>
          have hn := hid (show l.take (k + 1) = ms.take (k + 1) by rw [List.take_add_one, List.take_add_one, hsame.out, hx.out, hy.out, of_decide_eq_true hR])
          go_wp2_with fail
          exact ⟨⟨k + 1, by go_num, by omega, hid K1.out.drew, hn⟩, by simp [intOf]; omega⟩
        | false =>
          have hres := hid (decide_eq_false (takes_ne hx.out hy.out (of_decide_eq_false hR)))
          go_wp2_with fail
          go_ret
          exact Did.mk (by rw [hres.out]; rfl) K1.out.drew.2
      · have hall := hid (decide_eq_true (takes_all hsame.out (by omega) Hn.out))
        have b2 : ¬ (k : Int) < l.length := by omega
        go_wp2_with fail
        go_ret
        exact Did.mk (by rw [hall.out]; rfl) K1.out.2
  · have hne : ((l.length : Int) != (ms.length : Int)) = true := by rw [bne_iff_ne]; exact hlen
    have hres := hid (show decide (l = ms) = false by rw [decide_eq_false_iff_not]; intro e; exact hlen (by rw [e]))
    clear hlen
    go_enter Try.func44, Try.ntmps44
    go_wp2
    go_ret
    refine Did.mk ?_ (Below.refl _ _)
    rw [hres.out]; rfl
set_option maxRecDepth 8000 in
set_option maxHeartbeats 2000000 in
theorem p_EqualT (A A2 : Option Addr) (c c2 : Nat) (l ms : List Tm) (hm : l.length ≤ maxLen) (w : World) (h : Es enT w w.heap.size A l) (h2 : Es enT w w.heap.size A2 ms) :
    Calls Try.prog 45 #[.slice A l.length c, .slice A2 ms.length c2] w (Did (.bool (decide (l = ms))) w) := by
  unfold maxLen at hm
  by_cases hlen : (l.length : Int) = (ms.length : Int)
  · have Hn := hid (show l.length = ms.length by omega)
    have H := hid h
    have H2 := hid h2
    clear h h2
    have K0 := hid (Mem.nil w)
    have hne : ((l.length : Int) != (ms.length : Int)) = false := by rw [bne_eq_false_iff_eq]; exact hlen
    clear hlen
    go_enter Try.func45, Try.ntmps45
    go_wp2
    go_loopw [13] (fun i wr => ∃ (k : Nat), i = .int .i64 k ∧ k ≤ l.length ∧ Hid (Mem w wr []) ∧ Hid (l.take k = ms.take k)) (fun i _ => l.length - (intOf i).toNat)
    case atStart => exact ⟨0, rfl, Nat.zero_le _, K0, hid (by simp)⟩
    case round =>
      clear K0
      obtain ⟨k, rfl, hk, K1, hsame⟩ := hrel
      by_cases hlt : k < l.length
      · obtain ⟨ad, x, rfl, hadb, hx, _, hcell⟩ := Es.get enT_len (by decide) H.out hlt
        have hbu : (ad.add (k * 5)).block < w.heap.size := by rw [add_block]; exact hadb
        have u0 : w.cell? (ad.add (k * 5)) = some (.int .u32 ((x.w.w : Nat) : Int)) := by have := hcell 0 _ rfl; rwa [Nat.add_zero] at this
        have u1 : w.cell? ⟨(ad.add (k * 5)).block, (ad.add (k * 5)).off + 1, none⟩ = some (.int .u8 ((x.w.d : Nat) : Int)) := by have := hcell 1 _ rfl; rwa [add_add _ _ _ (by omega)] at this
        have u2 : w.cell? ⟨(ad.add (k * 5)).block, (ad.add (k * 5)).off + 2, none⟩ = some (.int .i64 x.w.s) := by have := hcell 2 _ rfl; rwa [add_add _ _ _ (by omega)] at this
        have u3 : w.cell? ⟨(ad.add (k * 5)).block, (ad.add (k * 5)).off + 3, none⟩ = some (.int .i64 x.w.l) := by have := hcell 3 _ rfl; rwa [add_add _ _ _ (by omega)] at this
        have u4 : w.cell? ⟨(ad.add (k * 5)).block, (ad.add (k * 5)).off + 4, none⟩ = some (.int .i64 x.c) := by have := hcell 4 _ rfl; rwa [add_add _ _ _ (by omega)] at this
        clear hcell
        obtain ⟨ae, y, rfl, haeb, hy, _, hdell⟩ := Es.get enT_len (by decide) H2.out (k := k) (by have := Hn.out; omega)
        have hbz : (ae.add (k * 5)).block < w.heap.size := by rw [add_block]; exact haeb
        have z0 : w.cell? (ae.add (k * 5)) = some (.int .u32 ((y.w.w : Nat) : Int)) := by have := hdell 0 _ rfl; rwa [Nat.add_zero] at this
        have z1 : w.cell? ⟨(ae.add (k * 5)).block, (ae.add (k * 5)).off + 1, none⟩ = some (.int .u8 ((y.w.d : Nat) : Int)) := by have := hdell 1 _ rfl; rwa [add_add _ _ _ (by omega)] at this
        have z2 : w.cell? ⟨(ae.add (k * 5)).block, (ae.add (k * 5)).off + 2, none⟩ = some (.int .i64 y.w.s) := by have := hdell 2 _ rfl; rwa [add_add _ _ _ (by omega)] at this
        have z3 : w.cell? ⟨(ae.add (k * 5)).block, (ae.add (k * 5)).off + 3, none⟩ = some (.int .i64 y.w.l) := by have := hdell 3 _ rfl; rwa [add_add _ _ _ (by omega)] at this
        have z4 : w.cell? ⟨(ae.add (k * 5)).block, (ae.add (k * 5)).off + 4, none⟩ = some (.int .i64 y.c) := by have := hdell 4 _ rfl; rwa [add_add _ _ _ (by omega)] at this
        clear hdell
        have b1 : (0 : Int) ≤ (k : Int) := by omega
        have b2 : (k : Int) < l.length := by omega
        have b3 : (k : Int) < ms.length := by have := Hn.out; omega
        go_wp2_with fail
        refine wp_region_held_drew (S := fun X => Mem w X []) (by kernel_rfl) K1.out.drew (fun hHeld => ?_)
        refine takeH 0 16 (.slice (some ad) l.length c) rfl rfl (by kernel_rfl) (by kernel_rfl) (by kernel_rfl) (fun _ _ _ h => h) (by kernel_rfl) (fun X hX => by clear hX; first | rfl | go_simp) hHeld ?_
        simp only [Act.put, List.setIfInBounds_toArray, List.set_cons_zero, List.set_cons_succ]
        refine takeH 1 17 (.int .i64 (k : Int)) rfl rfl (by kernel_rfl) (by kernel_rfl) (by kernel_rfl) (fun _ _ _ h => h) (by kernel_rfl) (fun X hX => by clear hX; first | rfl | go_simp) hHeld ?_
        simp only [Act.put, List.setIfInBounds_toArray, List.set_cons_zero, List.set_cons_succ]
        refine takeH 2 18 (.pointer (some (ad.add (k * 5)))) rfl rfl (by kernel_rfl) (by kernel_rfl) (by kernel_rfl) (fun _ _ _ h => h) (by kernel_rfl) (fun X hX => by clear hX; first | rfl | go_simp) hHeld ?_
        simp only [Act.put, List.setIfInBounds_toArray, List.set_cons_zero, List.set_cons_succ]
        refine takeH 3 19 (tmv x) rfl rfl (by kernel_rfl) (by kernel_rfl) (by kernel_rfl) (fun _ _ _ h => h) (by kernel_rfl) (fun X hX => by have qu0 := (hX.2.cell (p := ad.add (k * 5)) hbu).trans u0; have qu1 := (hX.2.cell (p := ⟨(ad.add (k * 5)).block, (ad.add (k * 5)).off + 1, none⟩) hbu).trans u1; have qu2 := (hX.2.cell (p := ⟨(ad.add (k * 5)).block, (ad.add (k * 5)).off + 2, none⟩) hbu).trans u2; have qu3 := (hX.2.cell (p := ⟨(ad.add (k * 5)).block, (ad.add (k * 5)).off + 3, none⟩) hbu).trans u3; have qu4 := (hX.2.cell (p := ⟨(ad.add (k * 5)).block, (ad.add (k * 5)).off + 4, none⟩) hbu).trans u4; clear hX; go_simp) hHeld ?_
        simp only [Act.put, List.setIfInBounds_toArray, List.set_cons_zero, List.set_cons_succ]
        refine takeH 4 20 (.slice (some ae) ms.length c2) rfl rfl (by kernel_rfl) (by kernel_rfl) (by kernel_rfl) (fun _ _ _ h => h) (by kernel_rfl) (fun X hX => by clear hX; first | rfl | go_simp) hHeld ?_
        simp only [Act.put, List.setIfInBounds_toArray, List.set_cons_zero, List.set_cons_succ]
        refine takeH 5 21 (.int .i64 (k : Int)) rfl rfl (by kernel_rfl) (by kernel_rfl) (by kernel_rfl) (fun _ _ _ h => h) (by kernel_rfl) (fun X hX => by clear hX; first | rfl | go_simp) hHeld ?_
        simp only [Act.put, List.setIfInBounds_toArray, List.set_cons_zero, List.set_cons_succ]
        refine takeH 6 22 (.pointer (some (ae.add (k * 5)))) rfl rfl (by kernel_rfl) (by kernel_rfl) (by kernel_rfl) (fun _ _ _ h => h) (by kernel_rfl) (fun X hX => by clear hX; first | rfl | go_simp) hHeld ?_
        simp only [Act.put, List.setIfInBounds_toArray, List.set_cons_zero, List.set_cons_succ]
        refine takeH 7 23 (tmv y) rfl rfl (by kernel_rfl) (by kernel_rfl) (by kernel_rfl) (fun _ _ _ h => h) (by kernel_rfl) (fun X hX => by have qz0 := (hX.2.cell (p := ae.add (k * 5)) hbz).trans z0; have qz1 := (hX.2.cell (p := ⟨(ae.add (k * 5)).block, (ae.add (k * 5)).off + 1, none⟩) hbz).trans z1; have qz2 := (hX.2.cell (p := ⟨(ae.add (k * 5)).block, (ae.add (k * 5)).off + 2, none⟩) hbz).trans z2; have qz3 := (hX.2.cell (p := ⟨(ae.add (k * 5)).block, (ae.add (k * 5)).off + 3, none⟩) hbz).trans z3; have qz4 := (hX.2.cell (p := ⟨(ae.add (k * 5)).block, (ae.add (k * 5)).off + 4, none⟩) hbz).trans z4; clear hX; go_simp) hHeld ?_
        simp only [Act.put, List.setIfInBounds_toArray, List.set_cons_zero, List.set_cons_succ]
        refine takeH 8 24 (.bool (!decide (x = y))) rfl rfl (by kernel_rfl) (by kernel_rfl) (by kernel_rfl) (fun _ _ _ h => h) (by kernel_rfl) (fun X hX => by clear hX; have q := fun W => tm_neq x y W; go_simp) hHeld ?_
        simp only [Act.put, List.setIfInBounds_toArray, List.set_cons_zero, List.set_cons_succ]
        refine wpAnyH_done (by kernel_rfl) ?_ _
        cases hR : decide (x = y) with
        | true =>
          have hn := hid (show l.take (k + 1) = ms.take (k + 1) by rw [List.take_add_one, List.take_add_one, hsame.out, hx.out, hy.out, of_decide_eq_true hR])
          go_wp2_with fail
          exact ⟨⟨k + 1, by go_num, by omega, hid K1.out.drew, hn⟩, by simp [intOf]; omega⟩
        | false =>
          have hres := hid (decide_eq_false (takes_ne hx.out hy.out (of_decide_eq_false hR)))
          go_wp2_with fail
          go_ret
          exact Did.mk (by rw [hres.out]; rfl) K1.out.drew.2
      · have hall := hid (decide_eq_true (takes_all hsame.out (by omega) Hn.out))
        have b2 : ¬ (k : Int) < l.length := by omega
        go_wp2_with fail
        go_ret
        exact Did.mk (by rw [hall.out]; rfl) K1.out.2
  · have hne : ((l.length : Int) != (ms.length : Int)) = true := by rw [bne_iff_ne]; exact hlen
    have hres := hid (show decide (l = ms) = false by rw [decide_eq_false_iff_not]; intro e; exact hlen (by rw [e]))
    clear hlen
    go_enter Try.func45, Try.ntmps45
    go_wp2
    go_ret
    refine Did.mk ?_ (Below.refl _ _)
    rw [hres.out]; rfl
set_option maxRecDepth 8000 in
set_option maxHeartbeats 2000000 in
theorem p_EqualP (A A2 : Option Addr) (c c2 : Nat) (l ms : List Pl) (hm : l.length ≤ maxLen) (w : World) (h : Es enP w w.heap.size A l) (h2 : Es enP w w.heap.size A2 ms) :
    Calls Try.prog 46 #[.slice A l.length c, .slice A2 ms.length c2] w (Did (.bool (decide (l = ms))) w) := by
  unfold maxLen at hm
  by_cases hlen : (l.length : Int) = (ms.length : Int)
  · have Hn := hid (show l.length = ms.length by omega)
    have H := hid h
    have H2 := hid h2
    clear h h2
    have K0 := hid (Mem.nil w)
    have hne : ((l.length : Int) != (ms.length : Int)) = false := by rw [bne_eq_false_iff_eq]; exact hlen
    clear hlen
    go_enter Try.func46, Try.ntmps46
    go_wp2
    go_loopw [13] (fun i wr => ∃ (k : Nat), i = .int .i64 k ∧ k ≤ l.length ∧ Hid (Mem w wr []) ∧ Hid (l.take k = ms.take k)) (fun i _ => l.length - (intOf i).toNat)
    case atStart => exact ⟨0, rfl, Nat.zero_le _, K0, hid (by simp)⟩
    case round =>
      clear K0
      obtain ⟨k, rfl, hk, K1, hsame⟩ := hrel
      by_cases hlt : k < l.length
      · obtain ⟨ad, x, rfl, hadb, hx, _, hcell⟩ := Es.get enP_len (by decide) H.out hlt
        have hbu : (ad.add (k * 2)).block < w.heap.size := by rw [add_block]; exact hadb
        have u0 : w.cell? (ad.add (k * 2)) = some (.int .i64 x.r) := by have := hcell 0 _ rfl; rwa [Nat.add_zero] at this
        have u1 : w.cell? ⟨(ad.add (k * 2)).block, (ad.add (k * 2)).off + 1, none⟩ = some (.int .i64 x.c) := by have := hcell 1 _ rfl; rwa [add_add _ _ _ (by omega)] at this
        clear hcell
        obtain ⟨ae, y, rfl, haeb, hy, _, hdell⟩ := Es.get enP_len (by decide) H2.out (k := k) (by have := Hn.out; omega)
        have hbz : (ae.add (k * 2)).block < w.heap.size := by rw [add_block]; exact haeb
        have z0 : w.cell? (ae.add (k * 2)) = some (.int .i64 y.r) := by have := hdell 0 _ rfl; rwa [Nat.add_zero] at this
        have z1 : w.cell? ⟨(ae.add (k * 2)).block, (ae.add (k * 2)).off + 1, none⟩ = some (.int .i64 y.c) := by have := hdell 1 _ rfl; rwa [add_add _ _ _ (by omega)] at this
        clear hdell
        have b1 : (0 : Int) ≤ (k : Int) := by omega
        have b2 : (k : Int) < l.length := by omega
        have b3 : (k : Int) < ms.length := by have := Hn.out; omega
        go_wp2_with fail
        refine wp_region_held_drew (S := fun X => Mem w X []) (by kernel_rfl) K1.out.drew (fun hHeld => ?_)
        refine takeH 0 16 (.slice (some ad) l.length c) rfl rfl (by kernel_rfl) (by kernel_rfl) (by kernel_rfl) (fun _ _ _ h => h) (by kernel_rfl) (fun X hX => by clear hX; first | rfl | go_simp) hHeld ?_
        simp only [Act.put, List.setIfInBounds_toArray, List.set_cons_zero, List.set_cons_succ]
        refine takeH 1 17 (.int .i64 (k : Int)) rfl rfl (by kernel_rfl) (by kernel_rfl) (by kernel_rfl) (fun _ _ _ h => h) (by kernel_rfl) (fun X hX => by clear hX; first | rfl | go_simp) hHeld ?_
        simp only [Act.put, List.setIfInBounds_toArray, List.set_cons_zero, List.set_cons_succ]
        refine takeH 2 18 (.pointer (some (ad.add (k * 2)))) rfl rfl (by kernel_rfl) (by kernel_rfl) (by kernel_rfl) (fun _ _ _ h => h) (by kernel_rfl) (fun X hX => by clear hX; first | rfl | go_simp) hHeld ?_
        simp only [Act.put, List.setIfInBounds_toArray, List.set_cons_zero, List.set_cons_succ]
        refine takeH 3 19 (plv x) rfl rfl (by kernel_rfl) (by kernel_rfl) (by kernel_rfl) (fun _ _ _ h => h) (by kernel_rfl) (fun X hX => by have qu0 := (hX.2.cell (p := ad.add (k * 2)) hbu).trans u0; have qu1 := (hX.2.cell (p := ⟨(ad.add (k * 2)).block, (ad.add (k * 2)).off + 1, none⟩) hbu).trans u1; clear hX; go_simp) hHeld ?_
        simp only [Act.put, List.setIfInBounds_toArray, List.set_cons_zero, List.set_cons_succ]
        refine takeH 4 20 (.slice (some ae) ms.length c2) rfl rfl (by kernel_rfl) (by kernel_rfl) (by kernel_rfl) (fun _ _ _ h => h) (by kernel_rfl) (fun X hX => by clear hX; first | rfl | go_simp) hHeld ?_
        simp only [Act.put, List.setIfInBounds_toArray, List.set_cons_zero, List.set_cons_succ]
        refine takeH 5 21 (.int .i64 (k : Int)) rfl rfl (by kernel_rfl) (by kernel_rfl) (by kernel_rfl) (fun _ _ _ h => h) (by kernel_rfl) (fun X hX => by clear hX; first | rfl | go_simp) hHeld ?_
        simp only [Act.put, List.setIfInBounds_toArray, List.set_cons_zero, List.set_cons_succ]
        refine takeH 6 22 (.pointer (some (ae.add (k * 2)))) rfl rfl (by kernel_rfl) (by kernel_rfl) (by kernel_rfl) (fun _ _ _ h => h) (by kernel_rfl) (fun X hX => by clear hX; first | rfl | go_simp) hHeld ?_
        simp only [Act.put, List.setIfInBounds_toArray, List.set_cons_zero, List.set_cons_succ]
        refine takeH 7 23 (plv y) rfl rfl (by kernel_rfl) (by kernel_rfl) (by kernel_rfl) (fun _ _ _ h => h) (by kernel_rfl) (fun X hX => by have qz0 := (hX.2.cell (p := ae.add (k * 2)) hbz).trans z0; have qz1 := (hX.2.cell (p := ⟨(ae.add (k * 2)).block, (ae.add (k * 2)).off + 1, none⟩) hbz).trans z1; clear hX; go_simp) hHeld ?_
        simp only [Act.put, List.setIfInBounds_toArray, List.set_cons_zero, List.set_cons_succ]
        refine takeH 8 24 (.bool (!decide (x = y))) rfl rfl (by kernel_rfl) (by kernel_rfl) (by kernel_rfl) (fun _ _ _ h => h) (by kernel_rfl) (fun X hX => by clear hX; have q := fun W => pl_neq x y W; go_simp) hHeld ?_
        simp only [Act.put, List.setIfInBounds_toArray, List.set_cons_zero, List.set_cons_succ]
        refine wpAnyH_done (by kernel_rfl) ?_ _
        cases hR : decide (x = y) with
        | true =>
          have hn := hid (show l.take (k + 1) = ms.take (k + 1) by rw [List.take_add_one, List.take_add_one, hsame.out, hx.out, hy.out, of_decide_eq_true hR])
          go_wp2_with fail
          exact ⟨⟨k + 1, by go_num, by omega, hid K1.out.drew, hn⟩, by simp [intOf]; omega⟩
        | false =>
          have hres := hid (decide_eq_false (takes_ne hx.out hy.out (of_decide_eq_false hR)))
          go_wp2_with fail
          go_ret
          exact Did.mk (by rw [hres.out]; rfl) K1.out.drew.2
      · have hall := hid (decide_eq_true (takes_all hsame.out (by omega) Hn.out))
        have b2 : ¬ (k : Int) < l.length := by omega
        go_wp2_with fail
        go_ret
        exact Did.mk (by rw [hall.out]; rfl) K1.out.2
  · have hne : ((l.length : Int) != (ms.length : Int)) = true := by rw [bne_iff_ne]; exact hlen
    have hres := hid (show decide (l = ms) = false by rw [decide_eq_false_iff_not]; intro e; exact hlen (by rw [e]))
    clear hlen
    go_enter Try.func46, Try.ntmps46
    go_wp2
    go_ret
    refine Did.mk ?_ (Below.refl _ _)
    rw [hres.out]; rfl
end Go.Proofs.Ytcnpfchopjopeaa
