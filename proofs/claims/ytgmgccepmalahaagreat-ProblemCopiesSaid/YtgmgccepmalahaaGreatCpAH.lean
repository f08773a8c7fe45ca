/- What the proof of ProblemCopies stands on, part 8. -/
import Derived.WalkKit
import Derived.Deep.DeepCutAuto
import Derived.Test.YtgmgccepmalahaaGreatCpAE
import Derived.Test.YtgmgccepmalahaaGreatCpAG
namespace Go.Proofs.YtgmgccepmalahaaGreat
open Go.RowKit
open Whn (Gr Wh)
theorem Mem.l5 {w X : World} {l : Obs} (h : Mem w X l) {B : Nat} {x0 x1 x2 x3 x4 : Value} {t : TypeId} (hm : (B, [x0, x1, x2, x3, x4], t) ∈ l) : X.cell? ⟨B, 0, none⟩ = some x0 ∧ X.cell? ⟨B, 1, none⟩ = some x1 ∧ X.cell? ⟨B, 2, none⟩ = some x2 ∧ X.cell? ⟨B, 3, none⟩ = some x3 ∧ X.cell? ⟨B, 4, none⟩ = some x4 :=
 ⟨h.cell hm rfl, h.cell hm rfl, h.cell hm rfl, h.cell hm rfl, h.cell hm rfl⟩
theorem p_win (n a b : Int) (w : World) : Calls Tryz.prog 178 #[.int .i64 n, .int .i64 a, .int .i64 b] w (fun e w' => e = .returned (.bool (inB n a b)) ∧ w = w') := by
 by_cases h1 : a ≤ n
 · have h2 := hid (show decide (n ≤ b) = inB n a b by unfold inB; rw [decide_eq_true h1, Bool.true_and])
   go_enter Tryz.func178, Tryz.ntmps178
   go_wp2_with fail
   go_ret
   exact ⟨congrArg (fun z => Ending.returned (Value.bool z)) h2.out, rfl⟩
 · have h2 := hid (show false = inB n a b from (inB_false (by omega)).symm)
   go_enter Tryz.func178, Tryz.ntmps178
   go_wp2_with fail
   go_ret
   exact ⟨congrArg (fun z => Ending.returned (Value.bool z)) h2.out, rfl⟩
theorem p_cost (n : Int) (w : World) : Calls Tryz.prog 207 #[.int .i64 n] w (fun e w' => e = .returned (.bool (costB n)) ∧ w = w') := by
 have HI := hid (fun n a b w => p_win n a b w)
 have Hr := hid (show inB n 0 1000 = costB n from rfl)
 go_enter Tryz.func207, Tryz.ntmps207
 go_wp2_with fail
 refine (HI.out _ _ _ _).mono ?_
 rintro e w1 ⟨rfl, rfl⟩
 go_wp2_with fail
 go_ret
 exact ⟨congrArg (fun z => Ending.returned (Value.bool z)) Hr.out, rfl⟩
set_option maxRecDepth 8000 in
set_option maxHeartbeats 2000000 in
theorem p_EqualI (A A2 : Option Addr) (c c2 : Nat) (l ms : List Int) (hm : l.length ≤ maxLen) (w : World) (h : Its w w.heap.size A l) (h2 : Its w w.heap.size A2 ms) :
 Calls Tryz.prog 86 #[.slice A l.length c, .slice A2 ms.length c2] w (Did (.bool (decide (l = ms))) w) := by
 unfold maxLen at hm
 by_cases hlen : (l.length : Int) = (ms.length : Int)
 · have Hn := hid (show l.length = ms.length by omega)
   have H := hid h
   have H2 := hid h2
   clear h h2
   have K0 := hid (Mem.nil w)
   have hne : ((l.length : Int) != (ms.length : Int)) = false := by rw [bne_eq_false_iff_eq]; exact hlen
   clear hlen
   go_enter Tryz.func86, Tryz.ntmps86
   go_wp2
   go_loopw [13] (fun i wr => ∃ (k : Nat), i = .int .i64 k ∧ k ≤ l.length ∧ Hid (Mem w wr []) ∧ Hid (l.take k = ms.take k)) (fun i _ => l.length - (intOf i).toNat)
   case atStart => exact ⟨0, rfl, Nat.zero_le _, K0, hid (by simp)⟩
   case round =>
    clear K0
    obtain ⟨k, rfl, hk, K1, hsame⟩ := hrel
    by_cases hlt : k < l.length
    · obtain ⟨ad, x, rfl, hadb, hx, u0⟩ := Its.get H.out hlt
      have hbu : (ad.add k).block < w.heap.size := by rw [add_block]; exact hadb
      obtain ⟨ae, y, rfl, haeb, hy, z0⟩ := Its.get H2.out (k := k) (by have := Hn.out; omega)
      have hbz : (ae.add k).block < w.heap.size := by rw [add_block]; exact haeb
      have b1 : (0 : Int) ≤ (k : Int) := by omega
      have b2 : (k : Int) < l.length := by omega
      have b3 : (k : Int) < ms.length := by have := Hn.out; omega
      go_wp2_with fail
      refine wp_region_held_drew (S := fun X => Mem w X []) (by kernel_rfl) K1.out.drew (fun hHeld => ?_)
      refine tkD 0 16 (.slice (some ad) l.length c) rfl rfl hHeld ?_
      simp only [pt, List.set]
      refine tkD 1 17 (.int .i64 (k : Int)) rfl rfl hHeld ?_
      simp only [pt, List.set]
      refine tkD 2 18 (.pointer (some (ad.add k))) rfl rfl hHeld ?_
      simp only [pt, List.set]
      refine tkH 3 19 (.int .i64 x) rfl rfl (fun X hX => by have qu0 := (hX.2.cell (p := ad.add k) hbu).trans u0; clear hX; go_simp) hHeld ?_
      simp only [pt, List.set]
      refine tkD 4 20 (.slice (some ae) ms.length c2) rfl rfl hHeld ?_
      simp only [pt, List.set]
      refine tkD 5 21 (.int .i64 (k : Int)) rfl rfl hHeld ?_
      simp only [pt, List.set]
      refine tkD 6 22 (.pointer (some (ae.add k))) rfl rfl hHeld ?_
      simp only [pt, List.set]
      refine tkH 7 23 (.int .i64 y) rfl rfl (fun X hX => by have qz0 := (hX.2.cell (p := ae.add k) hbz).trans z0; clear hX; go_simp) hHeld ?_
      simp only [pt, List.set]
      refine tkH 8 24 (.bool (!decide (x = y))) rfl rfl (fun X hX => by clear hX; go_simp; by_cases h : x = y <;> simp [h]) hHeld ?_
      simp only [pt, List.set]
      refine wpAnyH_done (by kernel_rfl) ?_ _
      cases hR : decide (x = y) with
      | true =>
       have hn := hid (show l.take (k + 1) = ms.take (k + 1) by rw [List.take_add_one, List.take_add_one, hsame.out, hx.out, hy.out, of_decide_eq_true hR])
       go_wp2_with fail
       exact ⟨⟨k + 1, by go_num, by omega, hid K1.out.drew, hn⟩, by simp [intOf]; omega⟩
      | false =>
       have hres := hid (decide_eq_false (takes_ne hx.out hy.out (of_decide_eq_false hR)))
       go_wp2_with fail
       go_ret
       exact Did.mk (by rw [hres.out]; rfl) K1.out.drew.2
    · have hall := hid (decide_eq_true (takes_all hsame.out (by omega) Hn.out))
      have b2 : ¬ (k : Int) < l.length := by omega
      go_wp2_with fail
      go_ret
      exact Did.mk (by rw [hall.out]; rfl) K1.out.2
 · have hne : ((l.length : Int) != (ms.length : Int)) = true := by rw [bne_iff_ne]; exact hlen
   have hres := hid (show decide (l = ms) = false by rw [decide_eq_false_iff_not]; intro e; exact hlen (by rw [e]))
   clear hlen
   go_enter Tryz.func86, Tryz.ntmps86
   go_wp2
   go_ret
   refine Did.mk ?_ (Below.refl _ _)
   rw [hres.out]; rfl
set_option maxRecDepth 8000 in
set_option maxHeartbeats 2000000 in
theorem p_EqualT (A A2 : Option Addr) (c c2 : Nat) (l ms : List Tm) (hm : l.length ≤ maxLen) (w : World) (h : Es enT w w.heap.size A l) (h2 : Es enT w w.heap.size A2 ms) :
 Calls Tryz.prog 157 #[.slice A l.length c, .slice A2 ms.length c2] w (Did (.bool (decide (l = ms))) w) := by
 unfold maxLen at hm
 by_cases hlen : (l.length : Int) = (ms.length : Int)
 · have Hn := hid (show l.length = ms.length by omega)
   have H := hid h
   have H2 := hid h2
   clear h h2
   have K0 := hid (Mem.nil w)
   have hne : ((l.length : Int) != (ms.length : Int)) = false := by rw [bne_eq_false_iff_eq]; exact hlen
   clear hlen
   go_enter Tryz.func157, Tryz.ntmps157
   go_wp2
   go_loopw [13] (fun i wr => ∃ (k : Nat), i = .int .i64 k ∧ k ≤ l.length ∧ Hid (Mem w wr []) ∧ Hid (l.take k = ms.take k)) (fun i _ => l.length - (intOf i).toNat)
   case atStart => exact ⟨0, rfl, Nat.zero_le _, K0, hid (by simp)⟩
   case round =>
    clear K0
    obtain ⟨k, rfl, hk, K1, hsame⟩ := hrel
    by_cases hlt : k < l.length
    · obtain ⟨ad, x, rfl, hadb, hx, _, hcell⟩ := Es.get enT_len (by decide) H.out hlt
      have hbu : (ad.add (k * 5)).block < w.heap.size := by rw [add_block]; exact hadb
      have u0 : w.cell? (ad.add (k * 5)) = some (.int .u32 ((x.w.w : Nat) : Int)) := by have := hcell 0 _ rfl; rwa [Nat.add_zero] at this
      have u1 : w.cell? ⟨(ad.add (k * 5)).block, (ad.add (k * 5)).off + 1, none⟩ = some (.int .u8 ((x.w.d : Nat) : Int)) := by have := hcell 1 _ rfl; rwa [add_add _ _ _ (by omega)] at this
      have u2 : w.cell? ⟨(ad.add (k * 5)).block, (ad.add (k * 5)).off + 2, none⟩ = some (.int .i64 x.w.s) := by have := hcell 2 _ rfl; rwa [add_add _ _ _ (by omega)] at this
      have u3 : w.cell? ⟨(ad.add (k * 5)).block, (ad.add (k * 5)).off + 3, none⟩ = some (.int .i64 x.w.l) := by have := hcell 3 _ rfl; rwa [add_add _ _ _ (by omega)] at this
      have u4 : w.cell? ⟨(ad.add (k * 5)).block, (ad.add (k * 5)).off + 4, none⟩ = some (.int .i64 x.c) := by have := hcell 4 _ rfl; rwa [add_add _ _ _ (by omega)] at this
      clear hcell
      obtain ⟨ae, y, rfl, haeb, hy, _, hdell⟩ := Es.get enT_len (by decide) H2.out (k := k) (by have := Hn.out; omega)
      have hbz : (ae.add (k * 5)).block < w.heap.size := by rw [add_block]; exact haeb
      have z0 : w.cell? (ae.add (k * 5)) = some (.int .u32 ((y.w.w : Nat) : Int)) := by have := hdell 0 _ rfl; rwa [Nat.add_zero] at this
      have z1 : w.cell? ⟨(ae.add (k * 5)).block, (ae.add (k * 5)).off + 1, none⟩ = some (.int .u8 ((y.w.d : Nat) : Int)) := by have := hdell 1 _ rfl; rwa [add_add _ _ _ (by omega)] at this
      have z2 : w.cell? ⟨(ae.add (k * 5)).block, (ae.add (k * 5)).off + 2, none⟩ = some (.int .i64 y.w.s) := by have := hdell 2 _ rfl; rwa [add_add _ _ _ (by omega)] at this
      have z3 : w.cell? ⟨(ae.add (k * 5)).block, (ae.add (k * 5)).off + 3, none⟩ = some (.int .i64 y.w.l) := by have := hdell 3 _ rfl; rwa [add_add _ _ _ (by omega)] at this
      have z4 : w.cell? ⟨(ae.add (k * 5)).block, (ae.add (k * 5)).off + 4, none⟩ = some (.int .i64 y.c) := by have := hdell 4 _ rfl; rwa [add_add _ _ _ (by omega)] at this
      clear hdell
      have b1 : (0 : Int) ≤ (k : Int) := by omega
      have b2 : (k : Int) < l.length := by omega
      have b3 : (k : Int) < ms.length := by have := Hn.out; omega
      go_wp2_with fail
      refine wp_region_held_drew (S := fun X => Mem w X []) (by kernel_rfl) K1.out.drew (fun hHeld => ?_)
      refine tkD 0 16 (.slice (some ad) l.length c) rfl rfl hHeld ?_
      simp only [pt, List.set]
      refine tkD 1 17 (.int .i64 (k : Int)) rfl rfl hHeld ?_
      simp only [pt, List.set]
      refine tkD 2 18 (.pointer (some (ad.add (k * 5)))) rfl rfl hHeld ?_
      simp only [pt, List.set]
      refine tkH 3 19 (tmv x) rfl rfl (fun X hX => by have qu0 := (hX.2.cell (p := ad.add (k * 5)) hbu).trans u0; have qu1 := (hX.2.cell (p := ⟨(ad.add (k * 5)).block, (ad.add (k * 5)).off + 1, none⟩) hbu).trans u1; have qu2 := (hX.2.cell (p := ⟨(ad.add (k * 5)).block, (ad.add (k * 5)).off + 2, none⟩) hbu).trans u2; have qu3 := (hX.2.cell (p := ⟨(ad.add (k * 5)).block, (ad.add (k * 5)).off + 3, none⟩) hbu).trans u3; have qu4 := (hX.2.cell (p := ⟨(ad.add (k * 5)).block, (ad.add (k * 5)).off + 4, none⟩) hbu).trans u4; clear hX; go_simp) hHeld ?_
      simp only [pt, List.set]
      refine tkD 4 20 (.slice (some ae) ms.length c2) rfl rfl hHeld ?_
      simp only [pt, List.set]
      refine tkD 5 21 (.int .i64 (k : Int)) rfl rfl hHeld ?_
      simp only [pt, List.set]
      refine tkD 6 22 (.pointer (some (ae.add (k * 5)))) rfl rfl hHeld ?_
      simp only [pt, List.set]
      refine tkH 7 23 (tmv y) rfl rfl (fun X hX => by have qz0 := (hX.2.cell (p := ae.add (k * 5)) hbz).trans z0; have qz1 := (hX.2.cell (p := ⟨(ae.add (k * 5)).block, (ae.add (k * 5)).off + 1, none⟩) hbz).trans z1; have qz2 := (hX.2.cell (p := ⟨(ae.add (k * 5)).block, (ae.add (k * 5)).off + 2, none⟩) hbz).trans z2; have qz3 := (hX.2.cell (p := ⟨(ae.add (k * 5)).block, (ae.add (k * 5)).off + 3, none⟩) hbz).trans z3; have qz4 := (hX.2.cell (p := ⟨(ae.add (k * 5)).block, (ae.add (k * 5)).off + 4, none⟩) hbz).trans z4; clear hX; go_simp) hHeld ?_
      simp only [pt, List.set]
      refine tkH 8 24 (.bool (!decide (x = y))) rfl rfl (fun X hX => by clear hX; have q := fun W => tm_neq x y W; go_simp) hHeld ?_
      simp only [pt, List.set]
      refine wpAnyH_done (by kernel_rfl) ?_ _
      cases hR : decide (x = y) with
      | true =>
       have hn := hid (show l.take (k + 1) = ms.take (k + 1) by rw [List.take_add_one, List.take_add_one, hsame.out, hx.out, hy.out, of_decide_eq_true hR])
       go_wp2_with fail
       exact ⟨⟨k + 1, by go_num, by omega, hid K1.out.drew, hn⟩, by simp [intOf]; omega⟩
      | false =>
       have hres := hid (decide_eq_false (takes_ne hx.out hy.out (of_decide_eq_false hR)))
       go_wp2_with fail
       go_ret
       exact Did.mk (by rw [hres.out]; rfl) K1.out.drew.2
    · have hall := hid (decide_eq_true (takes_all hsame.out (by omega) Hn.out))
      have b2 : ¬ (k : Int) < l.length := by omega
      go_wp2_with fail
      go_ret
      exact Did.mk (by rw [hall.out]; rfl) K1.out.2
 · have hne : ((l.length : Int) != (ms.length : Int)) = true := by rw [bne_iff_ne]; exact hlen
   have hres := hid (show decide (l = ms) = false by rw [decide_eq_false_iff_not]; intro e; exact hlen (by rw [e]))
   clear hlen
   go_enter Tryz.func157, Tryz.ntmps157
   go_wp2
   go_ret
   refine Did.mk ?_ (Below.refl _ _)
   rw [hres.out]; rfl
set_option maxRecDepth 8000 in
set_option maxHeartbeats 2000000 in
theorem p_EqualP (A A2 : Option Addr) (c c2 : Nat) (l ms : List Pl) (hm : l.length ≤ maxLen) (w : World) (h : Es enP w w.heap.size A l) (h2 : Es enP w w.heap.size A2 ms) :
 Calls Tryz.prog 158 #[.slice A l.length c, .slice A2 ms.length c2] w (Did (.bool (decide (l = ms))) w) := by
 unfold maxLen at hm
 by_cases hlen : (l.length : Int) = (ms.length : Int)
 · have Hn := hid (show l.length = ms.length by omega)
   have H := hid h
   have H2 := hid h2
   clear h h2
   have K0 := hid (Mem.nil w)
   have hne : ((l.length : Int) != (ms.length : Int)) = false := by rw [bne_eq_false_iff_eq]; exact hlen
   clear hlen
   go_enter Tryz.func158, Tryz.ntmps158
   go_wp2
   go_loopw [13] (fun i wr => ∃ (k : Nat), i = .int .i64 k ∧ k ≤ l.length ∧ Hid (Mem w wr []) ∧ Hid (l.take k = ms.take k)) (fun i _ => l.length - (intOf i).toNat)
   case atStart => exact ⟨0, rfl, Nat.zero_le _, K0, hid (by simp)⟩
   case round =>
    clear K0
    obtain ⟨k, rfl, hk, K1, hsame⟩ := hrel
    by_cases hlt : k < l.length
    · obtain ⟨ad, x, rfl, hadb, hx, _, hcell⟩ := Es.get enP_len (by decide) H.out hlt
      have hbu : (ad.add (k * 2)).block < w.heap.size := by rw [add_block]; exact hadb
      have u0 : w.cell? (ad.add (k * 2)) = some (.int .i64 x.r) := by have := hcell 0 _ rfl; rwa [Nat.add_zero] at this
      have u1 : w.cell? ⟨(ad.add (k * 2)).block, (ad.add (k * 2)).off + 1, none⟩ = some (.int .i64 x.c) := by have := hcell 1 _ rfl; rwa [add_add _ _ _ (by omega)] at this
      clear hcell
      obtain ⟨ae, y, rfl, haeb, hy, _, hdell⟩ := Es.get enP_len (by decide) H2.out (k := k) (by have := Hn.out; omega)
      have hbz : (ae.add (k * 2)).block < w.heap.size := by rw [add_block]; exact haeb
      have z0 : w.cell? (ae.add (k * 2)) = some (.int .i64 y.r) := by have := hdell 0 _ rfl; rwa [Nat.add_zero] at this
      have z1 : w.cell? ⟨(ae.add (k * 2)).block, (ae.add (k * 2)).off + 1, none⟩ = some (.int .i64 y.c) := by have := hdell 1 _ rfl; rwa [add_add _ _ _ (by omega)] at this
      clear hdell
      have b1 : (0 : Int) ≤ (k : Int) := by omega
      have b2 : (k : Int) < l.length := by omega
      have b3 : (k : Int) < ms.length := by have := Hn.out; omega
      go_wp2_with fail
      refine wp_region_held_drew (S := fun X => Mem w X []) (by kernel_rfl) K1.out.drew (fun hHeld => ?_)
      refine tkD 0 16 (.slice (some ad) l.length c) rfl rfl hHeld ?_
      simp only [pt, List.set]
      refine tkD 1 17 (.int .i64 (k : Int)) rfl rfl hHeld ?_
      simp only [pt, List.set]
      refine tkD 2 18 (.pointer (some (ad.add (k * 2)))) rfl rfl hHeld ?_
      simp only [pt, List.set]
      refine tkH 3 19 (plv x) rfl rfl (fun X hX => by have qu0 := (hX.2.cell (p := ad.add (k * 2)) hbu).trans u0; have qu1 := (hX.2.cell (p := ⟨(ad.add (k * 2)).block, (ad.add (k * 2)).off + 1, none⟩) hbu).trans u1; clear hX; go_simp) hHeld ?_
      simp only [pt, List.set]
      refine tkD 4 20 (.slice (some ae) ms.length c2) rfl rfl hHeld ?_
      simp only [pt, List.set]
      refine tkD 5 21 (.int .i64 (k : Int)) rfl rfl hHeld ?_
      simp only [pt, List.set]
      refine tkD 6 22 (.pointer (some (ae.add (k * 2)))) rfl rfl hHeld ?_
      simp only [pt, List.set]
      refine tkH 7 23 (plv y) rfl rfl (fun X hX => by have qz0 := (hX.2.cell (p := ae.add (k * 2)) hbz).trans z0; have qz1 := (hX.2.cell (p := ⟨(ae.add (k * 2)).block, (ae.add (k * 2)).off + 1, none⟩) hbz).trans z1; clear hX; go_simp) hHeld ?_
      simp only [pt, List.set]
      refine tkH 8 24 (.bool (!decide (x = y))) rfl rfl (fun X hX => by clear hX; have q := fun W => pl_neq x y W; go_simp) hHeld ?_
      simp only [pt, List.set]
      refine wpAnyH_done (by kernel_rfl) ?_ _
      cases hR : decide (x = y) with
      | true =>
       have hn := hid (show l.take (k + 1) = ms.take (k + 1) by rw [List.take_add_one, List.take_add_one, hsame.out, hx.out, hy.out, of_decide_eq_true hR])
       go_wp2_with fail
       exact ⟨⟨k + 1, by go_num, by omega, hid K1.out.drew, hn⟩, by simp [intOf]; omega⟩
      | false =>
       have hres := hid (decide_eq_false (takes_ne hx.out hy.out (of_decide_eq_false hR)))
       go_wp2_with fail
       go_ret
       exact Did.mk (by rw [hres.out]; rfl) K1.out.drew.2
    · have hall := hid (decide_eq_true (takes_all hsame.out (by omega) Hn.out))
      have b2 : ¬ (k : Int) < l.length := by omega
      go_wp2_with fail
      go_ret
      exact Did.mk (by rw [hall.out]; rfl) K1.out.2
 · have hne : ((l.length : Int) != (ms.length : Int)) = true := by rw [bne_iff_ne]; exact hlen
   have hres := hid (show decide (l = ms) = false by rw [decide_eq_false_iff_not]; intro e; exact hlen (by rw [e]))
   clear hlen
   go_enter Tryz.func158, Tryz.ntmps158
   go_wp2
   go_ret
   refine Did.mk ?_ (Below.refl _ _)
   rw [hres.out]; rfl
theorem clEq_and (x y : Cl) : clEq x y = (decide (x.n = y.n) && decide (x.s = y.s) && decide (x.g = y.g) && decide (x.o = y.o) && decide (x.p = y.p) && decide (x.t = y.t) && decide (x.l = y.l)) := by
 rw [Bool.eq_iff_iff, clEq_iff]
 simp only [Bool.and_eq_true, decide_eq_true_iff]
 constructor
 · rintro rfl; simp
 · rintro ⟨⟨⟨⟨⟨⟨h1, h2⟩, h3⟩, h4⟩, h5⟩, h6⟩, h7⟩
   cases x; cases y
   simp only at h1 h2 h3 h4 h5 h6 h7
   subst h1; subst h2; subst h3; subst h4; subst h5; subst h6; subst h7
   rfl
set_option maxRecDepth 20000 in
set_option maxHeartbeats 4000000 in
theorem p_SameC (x y : Cl) (r s : Cw) (hl : Clc x r) (w : World) (h : Clw w w.heap.size x r) (h2 : Clw w w.heap.size y s) :
 Calls Tryz.prog 90 #[cv x r, cv y s] w (Did (.bool (clEq x y)) w) := by
 have HI := hid (fun X (h : Clw X X.heap.size x r) (h2 : Clw X X.heap.size y s) => p_EqualI r.a s.a r.ac s.ac x.p y.p (Nat.le_trans hl.1.1 hl.1.2) X h.1 h2.1)
 have HT := hid (fun X (h : Clw X X.heap.size x r) (h2 : Clw X X.heap.size y s) => p_EqualT r.b s.b r.bc s.bc x.t y.t (Nat.le_trans hl.2.1.1 hl.2.1.2) X h.2.1 h2.2.1)
 have HL := hid (fun X (h : Clw X X.heap.size x r) (h2 : Clw X X.heap.size y s) => p_EqualP r.c s.c r.cc s.cc x.l y.l (Nat.le_trans hl.2.2.1 hl.2.2.2) X h.2.2 h2.2.2)
 have H := hid h
 have H2 := hid h2
 have Hr := hid (clEq_and x y)
 clear h h2 hl
 obtain ⟨P, W, hP, hW, K, hb0⟩ := (Mem.nil w).one (ccl x r) 62
 obtain ⟨R, V, hR, hV, K1, hb1⟩ := K.out.one (ccl y s) 62
 clear K hb0 hb1
 obtain ⟨e0, e1, e2, e3, e4, e5, e6⟩ := K1.out.cl (B := P) (x := x) (r := r) (t := 62) (by simp)
 obtain ⟨f0, f1, f2, f3, f4, f5, f6⟩ := K1.out.cl (B := R) (x := y) (r := s) (t := 62) (by simp)
 generalize decide (x.p = y.p) = ip at *
 generalize decide (x.t = y.t) = it at *
 generalize decide (x.l = y.l) = il at *
 generalize clEq x y = q at *
 by_cases c1 : x.n = y.n
 · have q1 : ((bs x.n).toList == (bs y.n).toList) = true := by rw [list_of, list_of, bs_data, bs_data, beq_iff_eq]; exact c1
   rw [decide_eq_true c1] at Hr
   try simp only [Bool.true_and] at Hr
   clear c1
   by_cases c2 : x.s = y.s
   · have q2 : (x.s == y.s) = true := by rw [beq_iff_eq]; exact c2
     rw [decide_eq_true c2, Bool.true_and] at Hr
     clear c2
     by_cases c3 : x.g = y.g
     · have q3 : ((x.g : Int) == (y.g : Int)) = true := by rw [beq_iff_eq]; omega
       rw [decide_eq_true c3, Bool.true_and] at Hr
       clear c3
       by_cases c4 : x.o = y.o
       · have q4 : (x.o == y.o) = true := by rw [beq_iff_eq]; exact c4
         rw [decide_eq_true c4, Bool.true_and] at Hr
         clear c4
         go_enter Tryz.func90, Tryz.ntmps90
         go_wp2_with fail
         refine (HI.out _ (H.out.next K1.out.2) (H2.out.next K1.out.2)).mono ?_
         rintro e Y1 ⟨rfl, b1⟩
         have K2 := hid (K1.out.next b1)
         clear e0 e1 e2 e3 e4 e5 e6 f0 f1 f2 f3 f4 f5 f6 b1 K1
         obtain ⟨e0, e1, e2, e3, e4, e5, e6⟩ := K2.out.cl (B := P) (x := x) (r := r) (t := 62) (by simp)
         obtain ⟨f0, f1, f2, f3, f4, f5, f6⟩ := K2.out.cl (B := R) (x := y) (r := s) (t := 62) (by simp)
         cases ip with
         | false =>
          go_wp2_with fail
          go_ret
          exact Did.mk (by rw [Hr.out]; rfl) K2.out.2
         | true =>
          go_wp2_with fail
          refine (HT.out _ (H.out.next K2.out.2) (H2.out.next K2.out.2)).mono ?_
          rintro e Y2 ⟨rfl, b1⟩
          have K3 := hid (K2.out.next b1)
          clear e0 e1 e2 e3 e4 e5 e6 f0 f1 f2 f3 f4 f5 f6 b1 K2
          obtain ⟨e0, e1, e2, e3, e4, e5, e6⟩ := K3.out.cl (B := P) (x := x) (r := r) (t := 62) (by simp)
          obtain ⟨f0, f1, f2, f3, f4, f5, f6⟩ := K3.out.cl (B := R) (x := y) (r := s) (t := 62) (by simp)
          cases it with
          | false =>
           go_wp2_with fail
           go_ret
           exact Did.mk (by rw [Hr.out]; rfl) K3.out.2
          | true =>
           go_wp2_with fail
           refine (HL.out _ (H.out.next K3.out.2) (H2.out.next K3.out.2)).mono ?_
           rintro e Y3 ⟨rfl, b1⟩
           have K4 := hid (K3.out.next b1)
           clear e0 e1 e2 e3 e4 e5 e6 f0 f1 f2 f3 f4 f5 f6 b1 K3
           obtain ⟨e0, e1, e2, e3, e4, e5, e6⟩ := K4.out.cl (B := P) (x := x) (r := r) (t := 62) (by simp)
           obtain ⟨f0, f1, f2, f3, f4, f5, f6⟩ := K4.out.cl (B := R) (x := y) (r := s) (t := 62) (by simp)
           go_wp2_with fail
           go_ret
           exact Did.mk (by rw [Hr.out]; rfl) K4.out.2
       · have q4 : (x.o == y.o) = false := by rw [beq_eq_false_iff_ne]; exact c4
         rw [decide_eq_false c4, Bool.false_and] at Hr
         try simp only [Bool.false_and] at Hr
         clear c4
         go_enter Tryz.func90, Tryz.ntmps90
         go_wp2_with fail
         go_ret
         exact Did.mk (by rw [Hr.out]; rfl) K1.out.2
     · have q3 : ((x.g : Int) == (y.g : Int)) = false := by rw [beq_eq_false_iff_ne]; omega
       rw [decide_eq_false c3, Bool.false_and] at Hr
       try simp only [Bool.false_and] at Hr
       clear c3
       go_enter Tryz.func90, Tryz.ntmps90
       go_wp2_with fail
       go_ret
       exact Did.mk (by rw [Hr.out]; rfl) K1.out.2
   · have q2 : (x.s == y.s) = false := by rw [beq_eq_false_iff_ne]; exact c2
     rw [decide_eq_false c2, Bool.false_and] at Hr
     try simp only [Bool.false_and] at Hr
     clear c2
     go_enter Tryz.func90, Tryz.ntmps90
     go_wp2_with fail
     go_ret
     exact Did.mk (by rw [Hr.out]; rfl) K1.out.2
 · have q1 : ((bs x.n).toList == (bs y.n).toList) = false := by rw [list_of, list_of, bs_data, bs_data, beq_eq_false_iff_ne]; exact c1
   rw [decide_eq_false c1] at Hr
   try simp only [Bool.false_and] at Hr
   clear c1
   go_enter Tryz.func90, Tryz.ntmps90
   go_wp2_with fail
   go_ret
   exact Did.mk (by rw [Hr.out]; rfl) K1.out.2
theorem ifs_whe (x y : Wh) (X : World) : (if (x.w : Int) = (y.w : Int) then if (x.d : Int) = (y.d : Int) then if x.s = y.s then if x.l = y.l then Result.ok (Next.value (Value.bool true)) X else Result.ok (Next.value (Value.bool false)) X else Result.ok (Next.value (Value.bool false)) X else Result.ok (Next.value (Value.bool false)) X else Result.ok (Next.value (Value.bool false)) X) = Result.ok (Next.value (Value.bool (whEq x y))) X := by
 have h1 : ((x.w : Int) = (y.w : Int)) = (x.w = y.w) := propext ⟨fun h => by omega, fun h => by omega⟩
 have h2 : ((x.d : Int) = (y.d : Int)) = (x.d = y.d) := propext ⟨fun h => by omega, fun h => by omega⟩
 simp only [h1, h2]
 unfold whEq
 by_cases a1 : x.w = y.w
 · by_cases a2 : x.d = y.d
   · by_cases a3 : x.s = y.s
     · by_cases a4 : x.l = y.l
       · simp [a1, a2, a3, a4]
       · simp [a1, a2, a3, a4]
     · simp [a1, a2, a3]
   · simp [a1, a2]
 · simp [a1]
theorem own_whs {w : World} {base : Nat} {v : Value} {l : List Wh} (h : w.ownsRow base 55 4 v l.length (wcells l)) : ∃ A c, v = .slice A l.length c ∧ Whs w w.heap.size A l ∧ l.length ≤ c := by
 rcases h.2 with ⟨rfl, h0⟩ | ⟨g, cap, cur, rfl, hb', hg, hn, _⟩
 · have h1 : l = [] := List.eq_nil_of_length_eq_zero h0
   subst h1
   exact ⟨none, 0, rfl, Rd.none_ _ _ _, Nat.le_refl _⟩
 · exact ⟨some ⟨g, 0, none⟩, cap, rfl, fun _ => ⟨_, rfl, (Array.getElem?_eq_some_iff.1 hg).1, fun k l hk => h.cells rfl k _ hk⟩, hn⟩
theorem wlit_get (w : World) (x : Wh) (t : TypeId) : ∀ (j : Nat) (u : Value), (wc x)[j]? = some u → (w.alloc (.cells (wc x).toArray t)).cell? ((⟨w.heap.size, 0, none⟩ : Addr).add j) = some u := fun j u hu => by
 have h := (Ob.new w (wc x) t).cell hu
 rcases Nat.eq_zero_or_pos j with rfl | hj
 · exact h
 · rw [show ((⟨w.heap.size, 0, none⟩ : Addr).add j) = ⟨w.heap.size, j, none⟩ by unfold Addr.add; simp; omega]
   exact h
theorem wc_one (x : Wh) : ∀ u ∈ wc x, u.oneCell' = true := fun u hu => by
 simp only [wc, List.mem_cons, List.not_mem_nil, or_false] at hu
 rcases hu with rfl | rfl | rfl | rfl <;> rfl
theorem wcells_snoc (l : List Wh) (x : Wh) : wcells (l ++ [x]) = wcells l ++ wc x := by rw [wcells_append]; rfl
theorem Tryz.info_when : (Tryz.prog.info? 55).map (fun i => (i.zero, i.size, i.bytes)) = some (some (.agg #[.int .u32 0, .int .u8 0, .int .i64 0, .int .i64 0]), 4, 24) := by kernel_rfl
def IxAt (l : List Wh) (x : Wh) (z : Int) : Prop := (z = -1 ∧ x ∉ l) ∨ ∃ k : Nat, z = (k : Int) ∧ k < l.length ∧ l[k]? = some x ∧ ∀ y ∈ l.take k, y ≠ x
def IxRet (l : List Wh) (x : Wh) (w : World) (e : Ending) (w' : World) : Prop := ∃ z, e = .returned (.int .i64 z) ∧ IxAt l x z ∧ Below w.heap.size w w'
set_option maxRecDepth 4000 in
set_option maxHeartbeats 1000000 in
theorem p_Index (A : Option Addr) (c : Nat) (l : List Wh) (hm : l.length ≤ maxLen) (x : Wh) (w : World) (h : Whs w w.heap.size A l) :
 Calls Tryz.prog 224 #[.slice A l.length c, wv x] w (IxRet l x w) := by
 unfold maxLen at hm
 have H := hid h
 clear h
 obtain ⟨G, V, hG, hV, K, hb0⟩ := (Mem.nil w).one (wc x) 55
 go_enter Tryz.func224, Tryz.ntmps224
 go_wp2
 go_loopw [8] (fun i wr => ∃ (k : Nat), i = .int .i64 k ∧ k ≤ l.length ∧ Hid (Mem w wr [(G, wc x, 55)]) ∧ Hid (∀ y ∈ l.take k, y ≠ x)) (fun i _ => l.length - (intOf i).toNat)
 case atStart => exact ⟨0, rfl, Nat.zero_le _, K, hid (fun y hy => by simp at hy)⟩
 case round =>
  clear K
  obtain ⟨k, rfl, hk, K1, hsame⟩ := hrel
  by_cases hlt : k < l.length
  · obtain ⟨ad, y, rfl, had, hx, hxl⟩ := whs_ad H.out hlt
    have b1 : (0 : Int) ≤ (k : Int) := by omega
    have b2 : (k : Int) < l.length := by omega
    go_wp2_with fail
    · refine wp_region_held_drew (S := fun X => Mem w X [(G, wc x, 55)]) (by kernel_rfl) K1.out.drew (fun hHeld => ?_)
      refine tkH 0 11 (wv x) rfl rfl (fun X hX => by obtain ⟨c0, c1, c2, c3⟩ := hX.wh (B := G) (x := x) (by simp); clear hX; go_simp) hHeld ?_
      simp only [pt, List.set]
      refine tkD 1 12 (.slice (some ad) l.length c) rfl rfl hHeld ?_
      simp only [pt, List.set]
      refine tkD 2 13 (.int .i64 k) rfl rfl hHeld ?_
      simp only [pt, List.set]
      refine tkH 3 14 (.pointer (some (ad.add (k * 4)))) rfl rfl (fun X hX => by clear hX; go_simp) hHeld ?_
      simp only [pt, List.set]
      refine tkH 4 15 (wv y) rfl rfl (fun X hX => by obtain ⟨c0, c1, c2, c3⟩ := whs_at (H.out.below hX.2 (Nat.le_refl _)) hx.out; clear hX; go_simp) hHeld ?_
      simp only [pt, List.set]
      refine tkH 5 16 (.bool (whEq x y)) rfl rfl (fun X hX => by clear hX; go_simp; exact ifs_whe x y X) hHeld ?_
      simp only [pt, List.set]
      refine wpAnyH_done (by kernel_rfl) ?_ _
      have K3 := hid (K1.out.drew.drew)
      cases hR : whEq x y with
      | true =>
       obtain rfl := (whEq_iff x y).1 hR
       go_wp2_with fail
       go_ret
       exact ⟨k, rfl, .inr ⟨k, rfl, hlt, hx.out, hsame.out⟩, K1.out.drew.2⟩
      | false =>
       have hne := hid (show y ≠ x from fun e => by
        rw [(whEq_iff x y).2 e.symm] at hR
        cases hR)
       clear hR
       go_wp2_with fail
       refine ⟨⟨k + 1, by go_num, by omega, hid K1.out.drew, ?_⟩, by simp [intOf]; omega⟩
       refine hid (fun z hz => ?_)
       rw [List.take_add_one, hx.out, List.mem_append] at hz
       rcases hz with hz | hz
       · exact hsame.out z hz
       · simp at hz
         rw [hz]; exact hne.out
  · have hall := hid (show x ∉ l from fun hx => hsame.out x (by rw [List.take_of_length_le (by omega)]; exact hx) rfl)
    have b2 : ¬ (k : Int) < l.length := by omega
    go_wp2_with fail
    go_ret
    exact ⟨-1, rfl, .inl ⟨rfl, hall.out⟩, K1.out.2⟩
def IxS (P : Prop) (w : World) (e : Ending) (w' : World) : Prop := ∃ z, e = .returned (.int .i64 z) ∧ (0 ≤ z ↔ P) ∧ Below w.heap.size w w'
def CtRet (P : Prop) (w : World) (e : Ending) (w' : World) : Prop := ∃ b, e = .returned (.bool b) ∧ (b = true ↔ P) ∧ Below w.heap.size w w'
theorem IxRet.s {l : List Wh} {x : Wh} {w w' : World} {e : Ending} (h : IxRet l x w e w') : IxS (x ∈ l) w e w' := by
 obtain ⟨z, he, hz, hb⟩ := h
 refine ⟨z, he, ?_, hb⟩
 rcases hz with ⟨rfl, hn⟩ | ⟨k, rfl, hk, hx, _⟩
 · exact ⟨fun h => absurd h (by decide), fun h => absurd h hn⟩
 · exact ⟨fun _ => List.mem_of_getElem? hx, fun _ => by omega⟩
set_option maxRecDepth 4000 in
theorem p_ContW (A : Option Addr) (n c : Nat) (l : List Wh) (hn : l.length = n) (hm : l.length ≤ maxLen) (x : Wh) (w : World) (h : Whs w w.heap.size A l) :
 Calls Tryz.prog 221 #[.slice A n c, wv x] w (CtRet (x ∈ l) w) := by
 subst hn
 have HI := hid (fun X h => (p_Index A c l hm x X h).mono fun _ _ h => IxRet.s h)
 obtain ⟨D, V, hD, hV, K, hb0⟩ := (Mem.nil w).one (wc x) 55
 obtain ⟨c0, c1, c2, c3⟩ := K.out.wh (B := D) (x := x) (by simp)
 have H := hid ((h.below K.out.2 (Nat.le_refl _)).more K.out.2.size)
 clear h
 go_enter Tryz.func221, Tryz.ntmps221
 go_wp2_with fail
 refine (HI.out _ H.out).mono ?_
 rintro e w1 ⟨z, rfl, hz, b1⟩
 have Hz := hid hz
 have K2 := hid (K.out.next b1)
 clear hz
 go_wp2_with fail
 go_ret
 exact ⟨_, rfl, by rw [decide_eq_true_iff]; exact Hz.out, K2.out.2⟩
set_option maxRecDepth 4000 in
set_option maxHeartbeats 1000000 in
theorem p_IndexI (A : Option Addr) (c : Nat) (l : List Int) (hm : l.length ≤ maxLen) (x : Int) (w : World) (h : Its w w.heap.size A l) :
 Calls Tryz.prog 191 #[.slice A l.length c, .int .i64 x] w (IxS (x ∈ l) w) := by
 unfold maxLen at hm
 have H := hid h
 clear h
 go_enter Tryz.func191, Tryz.ntmps191
 go_wp2
 go_loopw [8] (fun i wr => ∃ (k : Nat), i = .int .i64 k ∧ k ≤ l.length ∧ w = wr ∧ Hid (∀ y ∈ l.take k, y ≠ x)) (fun i _ => l.length - (intOf i).toNat)
 case atStart => exact ⟨0, rfl, Nat.zero_le _, rfl, hid (fun y hy => by simp at hy)⟩
 case round =>
  obtain ⟨k, rfl, hk, rfl, hsame⟩ := hrel
  by_cases hlt : k < l.length
  · obtain ⟨ad, y, rfl, had, hx, hcy⟩ := Its.get H.out hlt
    have b1 : (0 : Int) ≤ (k : Int) := by omega
    have b2 : (k : Int) < l.length := by omega
    by_cases hxy : x = y
    · have q1 : (x == y) = true := by rw [beq_iff_eq]; exact hxy
      have Hxy := hid hxy
      clear hxy
      go_wp2_with fail
      go_ret
      exact ⟨k, rfl, ⟨fun _ => by rw [Hxy.out]; exact List.mem_of_getElem? hx.out, fun _ => by omega⟩, Below.refl _ _⟩
    · have q1 : (x == y) = false := by rw [beq_eq_false_iff_ne]; exact hxy
      have hne := hid (fun (e : y = x) => hxy e.symm)
      clear hxy
      go_wp2_with fail
      refine ⟨⟨k + 1, by go_num, by omega, trivial, ?_⟩, by simp [intOf]; omega⟩
      refine hid (fun z hz => ?_)
      rw [List.take_add_one, hx.out, List.mem_append] at hz
      rcases hz with hz | hz
      · exact hsame.out z hz
      · simp at hz
        rw [hz]; exact hne.out
  · have hall := hid (show x ∉ l from fun hx => hsame.out x (by rw [List.take_of_length_le (by omega)]; exact hx) rfl)
    have b2 : ¬ (k : Int) < l.length := by omega
    go_wp2_with fail
    go_ret
    exact ⟨-1, rfl, ⟨fun h => absurd h (by decide), fun h => absurd h hall.out⟩, Below.refl _ _⟩
set_option maxRecDepth 4000 in
theorem p_ContI (A : Option Addr) (n c : Nat) (l : List Int) (hn : l.length = n) (hm : l.length ≤ maxLen) (x : Int) (w : World) (h : Its w w.heap.size A l) :
 Calls Tryz.prog 146 #[.slice A n c, .int .i64 x] w (CtRet (x ∈ l) w) := by
 subst hn
 have HI := hid (p_IndexI A c l hm x w h)
 clear h
 go_enter Tryz.func146, Tryz.ntmps146
 go_wp2_with fail
 refine (HI.out).mono ?_
 rintro e w1 ⟨z, rfl, hz, b1⟩
 have Hz := hid hz
 clear hz
 go_wp2_with fail
 go_ret
 exact ⟨_, rfl, by rw [decide_eq_true_iff]; exact Hz.out, b1⟩
def Once {α : Type} (l : List α) : Prop := ∀ (i : Nat) (x : α), l[i]? = some x → x ∉ l.take i
theorem once_no {α : Type} {l : List α} {k : Nat} {x : α} (hx : l[k]? = some x) (h : x ∈ l.take k) : ¬ Once l := fun H => H k x hx h
theorem once_yes {α : Type} {l : List α} (h : ∀ i, i < l.length → ∀ x, l[i]? = some x → x ∉ l.take i) : Once l := fun i x hx => h i (List.getElem?_eq_some_iff.1 hx).1 x hx
theorem once_next {α : Type} {l : List α} {k : Nat} {x : α} (hx : l[k]? = some x) (h : ∀ i, i < k → ∀ x, l[i]? = some x → x ∉ l.take i) (hn : x ∉ l.take k) : ∀ i, i < k + 1 → ∀ x, l[i]? = some x → x ∉ l.take i := fun i hi y hy => by
 rcases Nat.lt_or_ge i k with h' | h'
 · exact h i h' y hy
 · obtain rfl : i = k := by omega
   rw [hx] at hy
   rw [← Option.some.inj hy]; exact hn
theorem its_take {w : World} {B : Nat} {A : Option Addr} {l : List Int} (h : Its w B A l) (k : Nat) : Its w B A (l.take k) := fun hn => by
 obtain ⟨ad, e, hb, hc⟩ := h (fun e => hn (by rw [List.map_take, e, List.take_nil]))
 refine ⟨ad, e, hb, fun j v hv => hc j v ?_⟩
 rw [List.map_take, List.getElem?_take] at hv
 split at hv
 · exact hv
 · cases hv
theorem whs_take {w : World} {B : Nat} {A : Option Addr} {l : List Wh} (h : Whs w B A l) (k : Nat) : Whs w B A (l.take k) := fun hn => by
 have e1 : wcells l = wcells (l.take k) ++ wcells (l.drop k) := by rw [← wcells_append, List.take_append_drop]
 obtain ⟨ad, e, hb, hc⟩ := h (fun e => hn (by rw [e] at e1; exact (List.append_eq_nil_iff.1 e1.symm).1))
 refine ⟨ad, e, hb, fun j v hv => hc j v ?_⟩
 rw [e1, List.getElem?_append_left (List.getElem?_eq_some_iff.1 hv).1]
 exact hv
set_option maxRecDepth 4000 in
set_option maxHeartbeats 2000000 in
theorem p_OnceI (A : Option Addr) (c : Nat) (l : List Int) (hm : l.length ≤ maxLen) (hc : l.length ≤ c) (w : World) (h : Its w w.heap.size A l) :
 Calls Tryz.prog 209 #[.slice A l.length c] w (CtRet (Once l) w) := by
 have HC := hid (fun (k : Nat) (hk : k ≤ l.length) x X (h : Its X X.heap.size A l) => p_ContI A k c (l.take k) (by rw [List.length_take]; omega) (by rw [List.length_take]; omega) x X (its_take h k))
 unfold maxLen at hm
 have H := hid h
 clear h
 go_enter Tryz.func209, Tryz.ntmps209
 go_wp2_with fail
 go_loopw [7] (fun i wr => ∃ (k : Nat), i = .int .i64 k ∧ k ≤ l.length ∧ Hid (Below w.heap.size w wr) ∧ Hid (∀ i, i < k → ∀ x, l[i]? = some x → x ∉ l.take i)) (fun i _ => l.length - (intOf i).toNat)
 case atStart => exact ⟨0, rfl, Nat.zero_le _, hid (Below.refl _ _), hid (fun i hi => absurd hi (Nat.not_lt_zero i))⟩
 case round =>
  obtain ⟨k, rfl, hk, KB, hsame⟩ := hrel
  have H1 := hid ((H.out.below KB.out (Nat.le_refl _)).more KB.out.size)
  by_cases hlt : k < l.length
  · have HC1 := hid (fun x X h => HC.out k (by omega) x X h)
    obtain ⟨ad, y, rfl, had, hx, hcy⟩ := Its.get H1.out hlt
    have b1 : (0 : Int) ≤ (k : Int) := by omega
    have b2 : (k : Int) < l.length := by omega
    have b3 : (k : Int) ≤ (c : Int) := by omega
    clear HC
    go_wp2_with fail
    refine (HC1.out y _ H1.out).mono ?_
    rintro e w1 ⟨b, rfl, hb, bb⟩
    have KB2 := hid (KB.out.trans (bb.mono KB.out.size))
    cases b with
    | true =>
     have hno := hid (once_no hx.out (hb.1 rfl))
     clear hb
     go_wp2_with fail
     go_ret
     exact ⟨false, rfl, ⟨fun h => (nomatch h), fun h => absurd h hno.out⟩, KB2.out⟩
    | false =>
     have hn := hid (once_next hx.out hsame.out (fun h => by have := hb.2 h; cases this))
     clear hb hsame
     go_wp2_with fail
     exact ⟨⟨k + 1, by go_num, by omega, KB2, hn⟩, by simp [intOf]; omega⟩
  · have hall := hid (once_yes (fun i hi => hsame.out i (by omega)))
    have b2 : ¬ (k : Int) < l.length := by omega
    go_wp2_with fail
    go_ret
    exact ⟨true, rfl, ⟨fun _ => hall.out, fun _ => rfl⟩, KB.out⟩
set_option maxRecDepth 4000 in
set_option maxHeartbeats 2000000 in
theorem p_OnceW (A : Option Addr) (c : Nat) (l : List Wh) (hm : l.length ≤ maxLen) (hc : l.length ≤ c) (w : World) (h : Whs w w.heap.size A l) :
 Calls Tryz.prog 208 #[.slice A l.length c] w (CtRet (Once l) w) := by
 have HC := hid (fun (k : Nat) (hk : k ≤ l.length) x X (h : Whs X X.heap.size A l) => p_ContW A k c (l.take k) (by rw [List.length_take]; omega) (by rw [List.length_take]; omega) x X (whs_take h k))
 unfold maxLen at hm
 have H := hid h
 clear h
 go_enter Tryz.func208, Tryz.ntmps208
 go_wp2_with fail
 go_loopw [7] (fun i wr => ∃ (k : Nat), i = .int .i64 k ∧ k ≤ l.length ∧ Hid (Mem w wr []) ∧ Hid (∀ i, i < k → ∀ x, l[i]? = some x → x ∉ l.take i)) (fun i _ => l.length - (intOf i).toNat)
 case atStart => exact ⟨0, rfl, Nat.zero_le _, hid (Mem.nil w), hid (fun i hi => absurd hi (Nat.not_lt_zero i))⟩
 case round =>
  obtain ⟨k, rfl, hk, KB, hsame⟩ := hrel
  by_cases hlt : k < l.length
  · have HC1 := hid (fun x X h => HC.out k (by omega) x X h)
    obtain ⟨ad, y, rfl, had, hx, hxl⟩ := whs_ad H.out hlt
    have b1 : (0 : Int) ≤ (k : Int) := by omega
    have b2 : (k : Int) < l.length := by omega
    have b3 : (k : Int) ≤ (c : Int) := by omega
    obtain ⟨d0, d1, d2, d3⟩ := whs_at (H.out.below KB.out.2 (Nat.le_refl _)) hx.out
    obtain ⟨D, U, hD, hU, K2, hb2⟩ := KB.out.one (wc y) 55
    obtain ⟨c0, c1, c2, c3⟩ := K2.out.wh (B := D) (x := y) (by simp)
    clear HC
    go_wp2_with fail
    refine wp_region_held_drew (S := fun X => Mem w X [(D, wc y, 55)]) (by kernel_rfl) K2.out.drew (fun hHeld => ?_)
    refine tkD 0 12 (.slice (some ad) l.length c) rfl rfl hHeld ?_
    simp only [pt, List.set]
    refine tkD 1 13 (.int .i64 k) rfl rfl hHeld ?_
    simp only [pt, List.set]
    refine tkH 2 14 (.slice (some ad) k c) rfl rfl (fun X hX => by clear hX; go_simp) hHeld ?_
    simp only [pt, List.set]
    refine tkH 3 15 (wv y) rfl rfl (fun X hX => by obtain ⟨c0, c1, c2, c3⟩ := hX.wh (B := D) (x := y) (by simp); clear hX; go_simp) hHeld ?_
    simp only [pt, List.set]
    refine wpAnyH_ready (rs := [4]) (by kernel_rfl) (by simp) ?_
    refine AllReadyH.cons rfl (fun KK hK => ?_) AllReadyH.nil
    simp only [List.getElem_toArray, List.getElem_cons_succ, List.getElem_cons_zero]
    go_simp
    have H1 := (H.out.below K2.out.drew.2 (Nat.le_refl _)).more K2.out.drew.2.size
    refine (HC1.out y _ H1).mono ?_
    rintro e w1 ⟨b, rfl, hb, bb⟩
    have K3 := K2.out.drew.next bb
    refine hK.out _ _ K3 (fun hHeld => ?_)
    clear hK KK
    try simp only [pt, List.set]
    refine wpAnyH_done (by kernel_rfl) ?_ _
    have K4 := hid (K3.sub (l' := []) (by intro p hp; cases hp))
    clear K3 hHeld H1 bb K2
    cases b with
    | true =>
     have hno := hid (once_no hx.out (hb.1 rfl))
     clear hb
     go_wp2_with fail
     go_ret
     exact ⟨false, rfl, ⟨fun h => (nomatch h), fun h => absurd h hno.out⟩, K4.out.2⟩
    | false =>
     have hn := hid (once_next hx.out hsame.out (fun h => by have := hb.2 h; cases this))
     clear hb hsame
     go_wp2_with fail
     exact ⟨⟨k + 1, by go_num, by omega, K4, hn⟩, by simp [intOf]; omega⟩
  · have hall := hid (once_yes (fun i hi => hsame.out i (by omega)))
    have b2 : ¬ (k : Int) < l.length := by omega
    go_wp2_with fail
    go_ret
    exact ⟨true, rfl, ⟨fun _ => hall.out, fun _ => rfl⟩, KB.out.2⟩
set_option maxRecDepth 8000 in
set_option maxHeartbeats 2000000 in
theorem p_persons (e : Int) (he : I64 e) (A : Option Addr) (c : Nat) (l : List Int) (hm : l.length ≤ maxLen) (w : World) (h : Its w w.heap.size A l) :
 Calls Tryz.prog 179 #[.int .i64 e, .slice A l.length c] w (Did (.bool (decide ((l.length : Int) ≤ 4) && risingB l e)) w) := by
 unfold maxLen at hm
 unfold I64 at he
 by_cases h4 : (4 : Int) < l.length
 · have Hr := hid (show (decide ((l.length : Int) ≤ 4) && risingB l e) = false by rw [decide_eq_false (by omega), Bool.false_and])
   generalize (decide ((l.length : Int) ≤ 4) && risingB l e) = q at *
   clear h
   go_enter Tryz.func179, Tryz.ntmps179
   go_wp2_with fail
   go_ret
   exact Did.mk (by rw [Hr.out]; rfl) (Below.refl _ _)
 · have Hr := (show (decide ((l.length : Int) ≤ 4) && risingB l e) = risingB l e by rw [decide_eq_true (by omega), Bool.true_and])
   rw [Hr]
   clear Hr
   have H := hid h
   have Hyes := hid (fun h => risingB_yes (l := l) (e := e) h)
   have Hno := hid (fun i hi h => risingB_no (l := l) (e := e) (i := i) hi h)
   generalize risingB l e = rr at *
   have H0 := hid (show ∀ x, l[0]? = some x → okR l e 0 = (decide (0 ≤ x) && decide (x < e)) from fun x hx => by unfold okR; rw [getD_of hx, decide_eq_true (rfl : (0 : Nat) = 0), Bool.true_or, Bool.and_true])
   clear h
   go_enter Tryz.func179, Tryz.ntmps179
   go_wp2_with fail
   go_loopw [5, 13] (fun mv i wr => ∃ (k : Nat) (m : Int), i = .int .i64 k ∧ mv = .int .i64 m ∧ k ≤ l.length ∧ 0 ≤ m ∧ m ≤ 9223372036854775807 ∧ w = wr ∧ Hid (∀ i, i < k → okR l e i = true) ∧ Hid (∀ x, l[k]? = some x → okR l e k = (decide (m ≤ x) && decide (x < e)))) (fun _ i _ => l.length - (intOf i).toNat)
   case atStart => exact ⟨0, 0, rfl, rfl, Nat.zero_le _, by omega, by omega, rfl, hid (fun i hi => absurd hi (Nat.not_lt_zero i)), H0⟩
   case round =>
    clear H0
    obtain ⟨k, m, rfl, rfl, hk, hm0, hm1, rfl, hsame, hok⟩ := hrel
    by_cases hlt : k < l.length
    · obtain ⟨ad, x, rfl, hadb, hx, hcx⟩ := Its.get H.out hlt
      have b1 : (0 : Int) ≤ (k : Int) := by omega
      have b2 : (k : Int) < l.length := by omega
      have Hok := hid (hok.out x hx.out)
      have Hnext := hid (fun (h : okR l e k = true) => show ∀ i, i < k + 1 → okR l e i = true from fun i hi => by
       rcases Nat.lt_or_ge i k with h' | h'
       · exact hsame.out i h'
       · obtain rfl : i = k := by omega
         exact h)
      have Hbad := hid (fun (h : okR l e k = false) => Hno.out k hlt h)
      clear Hyes Hno hsame hok
      by_cases c1 : x < m
      · have Hb := hid (Hbad.out (by rw [Hok.out, decide_eq_false (show ¬ m ≤ x by omega), Bool.false_and]))
        clear Hbad Hnext Hok
        go_wp2_with fail
        go_ret
        exact Did.mk (by rw [Hb.out]; rfl) (Below.refl _ _)
      · by_cases c2 : e ≤ x
        · have Hb := hid (Hbad.out (by rw [Hok.out, decide_eq_false (show ¬ x < e by omega), Bool.and_false]))
          clear Hbad Hnext Hok
          go_wp2_with fail
          go_ret
          exact Did.mk (by rw [Hb.out]; rfl) (Below.refl _ _)
        · have Hn := hid (Hnext.out (by rw [Hok.out, decide_eq_true (show m ≤ x by omega), decide_eq_true (show x < e by omega)]; rfl))
          have hw : IntKind.i64.wrap (x + 1) = x + 1 := by rw [IntKind.wrap_i64]; omega
          have Hn2 := hid (show ∀ y, l[k + 1]? = some y → okR l e (k + 1) = (decide (x + 1 ≤ y) && decide (y < e)) from fun y hy => by
           unfold okR
           rw [getD_of hy, show k + 1 - 1 = k from rfl, getD_of hx.out, decide_eq_false (Nat.succ_ne_zero k), Bool.false_or]
           by_cases hxy : x < y
           · rw [decide_eq_true hxy, decide_eq_true (show (0 : Int) ≤ y by omega), decide_eq_true (show x + 1 ≤ y by omega), Bool.true_and, Bool.and_true]
           · rw [decide_eq_false hxy, decide_eq_false (show ¬ x + 1 ≤ y by omega), Bool.and_false, Bool.false_and])
          clear Hbad Hnext Hok
          go_wp2_with fail
          exact ⟨⟨k + 1, x + 1, by go_num, rfl, by omega, by omega, by omega, trivial, Hn, Hn2⟩, by simp [intOf]; omega⟩
    · obtain rfl : k = l.length := by omega
      have Hy := hid (Hyes.out (fun i hi => hsame.out i hi))
      clear Hyes Hno hsame hok
      go_wp2_with fail
      go_ret
      exact Did.mk (by rw [Hy.out]; rfl) (Below.refl _ _)
theorem freshT_iff {l : List Tm} {i : Nat} {y : Tm} (hy : l[i]? = some y) : freshT l i i = true ↔ y.w ∉ (l.map Tm.w).take i := by
 unfold freshT
 rw [List.all_eq_true, tmAt_of hy]
 constructor
 · intro h hm
   rw [← List.map_take, List.mem_map] at hm
   obtain ⟨z, hz, e⟩ := hm
   obtain ⟨m, hzm⟩ := List.mem_iff_getElem?.1 hz
   rw [List.getElem?_take] at hzm
   split at hzm
   · next hmi =>
     have := h m (List.mem_range.2 hmi)
     rw [tmAt_of hzm, e, (whEq_iff _ _).2 rfl] at this
     cases this
   · cases hzm
 · intro h m hm
   have hmi := List.mem_range.1 hm
   have hil := (List.getElem?_eq_some_iff.1 hy).1
   have hz : l[m]? = some l[m] := List.getElem?_eq_getElem (by omega)
   cases hR : whEq (tmAt l m).w y.w with
   | false => rfl
   | true =>
    rw [tmAt_of hz] at hR
    refine absurd ?_ h
    rw [← List.map_take, List.mem_map]
    exact ⟨l[m], List.mem_iff_getElem?.2 ⟨m, by rw [List.getElem?_take, if_pos hmi]; exact hz⟩, (whEq_iff _ _).1 hR⟩
theorem timesB_iff {g : Gr} {l : List Tm} (h : ∀ i, i < l.length → ∀ y, l[i]? = some y → Whn.right g y.w = true ∧ costB y.c = true) (h1 : inB (l.length : Int) 1 16 = true) : timesB g l = true ↔ Once (l.map Tm.w) := by
 constructor
 · intro ht i x hx
   rw [List.getElem?_map] at hx
   cases hy : l[i]? with
   | none => rw [hy] at hx; cases hx
   | some y =>
    rw [hy] at hx
    injection hx with hx
    subst hx
    unfold timesB at ht
    rw [Bool.and_eq_true, List.all_eq_true] at ht
    have := ht.1 i (List.mem_range.2 (List.getElem?_eq_some_iff.1 hy).1)
    unfold okTm at this
    rw [Bool.and_eq_true] at this
    exact (freshT_iff hy).1 this.2
 · intro ho
   rw [timesB_yes (fun i hi => ?_)]
   · exact h1
   · have hy : l[i]? = some l[i] := List.getElem?_eq_getElem hi
     have h2 := h i hi _ hy
     unfold okTm
     rw [tmAt_of hy, h2.1, h2.2, (freshT_iff hy).2 (ho i _ (by rw [List.getElem?_map, hy]; rfl))]
     rfl
theorem timesB_bad {g : Gr} {l : List Tm} {i : Nat} {y : Tm} (hy : l[i]? = some y) (h : (Whn.right g y.w && costB y.c) = false) : timesB g l = false := by
 refine timesB_no (List.getElem?_eq_some_iff.1 hy).1 ?_
 unfold okTm
 rw [tmAt_of hy, h, Bool.false_and]
theorem timesB_grid {g : Gr} {l : List Tm} (h : timesB g l = true) : Whn.rgrid g = true := by
 unfold timesB at h
 rw [Bool.and_eq_true, List.all_eq_true, Bool.and_eq_true, decide_eq_true_iff] at h
 have h0 := h.1 0 (List.mem_range.2 (by omega))
 unfold okTm at h0
 rw [Bool.and_eq_true, Bool.and_eq_true] at h0
 exact Whn.right_grid h0.1.1
theorem freshP_iff {l : List Pl} {i : Nat} {y : Pl} (hy : l[i]? = some y) : freshP l i i = true ↔ y.r ∉ (l.map Pl.r).take i := by
 unfold freshP
 rw [List.all_eq_true, plAt_of hy]
 constructor
 · intro h hm
   rw [← List.map_take, List.mem_map] at hm
   obtain ⟨z, hz, e⟩ := hm
   obtain ⟨m, hzm⟩ := List.mem_iff_getElem?.1 hz
   rw [List.getElem?_take] at hzm
   split at hzm
   · next hmi =>
     have := h m (List.mem_range.2 hmi)
     rw [plAt_of hzm, e, beq_self_eq_true] at this
     cases this
   · cases hzm
 · intro h m hm
   have hmi := List.mem_range.1 hm
   have hil := (List.getElem?_eq_some_iff.1 hy).1
   have hz : l[m]? = some l[m] := List.getElem?_eq_getElem (by omega)
   cases hR : (plAt l m).r == y.r with
   | false => rfl
   | true =>
    rw [plAt_of hz] at hR
    refine absurd ?_ h
    rw [← List.map_take, List.mem_map]
    exact ⟨l[m], List.mem_iff_getElem?.2 ⟨m, by rw [List.getElem?_take, if_pos hmi]; exact hz⟩, eq_of_beq hR⟩
theorem placesB_iff {n : Int} {l : List Pl} (h : ∀ i, i < l.length → ∀ y, l[i]? = some y → 0 ≤ y.r ∧ y.r < n ∧ costB y.c = true) (h1 : (l.length : Int) ≤ 12) : placesB n l = true ↔ Once (l.map Pl.r) := by
 constructor
 · intro ht i x hx
   rw [List.getElem?_map] at hx
   cases hy : l[i]? with
   | none => rw [hy] at hx; cases hx
   | some y =>
    rw [hy] at hx
    injection hx with hx
    subst hx
    unfold placesB at ht
    rw [Bool.and_eq_true, List.all_eq_true] at ht
    have := ht.1 i (List.mem_range.2 (List.getElem?_eq_some_iff.1 hy).1)
    unfold okPl at this
    rw [Bool.and_eq_true] at this
    exact (freshP_iff hy).1 this.2
 · intro ho
   rw [placesB_yes (fun i hi => ?_)]
   · exact decide_eq_true h1
   · have hy : l[i]? = some l[i] := List.getElem?_eq_getElem hi
     have h2 := h i hi _ hy
     unfold okPl
     rw [plAt_of hy, decide_eq_true h2.1, decide_eq_true h2.2.1, h2.2.2, (freshP_iff hy).2 (ho i _ (by rw [List.getElem?_map, hy]; rfl))]
     rfl
theorem placesB_bad {n : Int} {l : List Pl} {i : Nat} {y : Pl} (hy : l[i]? = some y) (h : y.r < 0 ∨ n ≤ y.r ∨ costB y.c = false) : placesB n l = false := by
 refine placesB_no (List.getElem?_eq_some_iff.1 hy).1 ?_
 unfold okPl
 rw [plAt_of hy]
 rcases h with h | h | h
 · rw [decide_eq_false (show ¬ 0 ≤ y.r by omega), Bool.false_and, Bool.false_and, Bool.false_and]
 · rw [decide_eq_false (show ¬ y.r < n by omega), Bool.and_false, Bool.false_and, Bool.false_and]
 · rw [h, Bool.and_false, Bool.false_and]
set_option maxRecDepth 20000 in
set_option maxHeartbeats 4000000 in
theorem p_times (g : Gr) (A : Option Addr) (c : Nat) (l : List Tm) (hm : l.length ≤ maxLen) (hok : ∀ y ∈ l, Wok y.w) (w : World) (h : Es enT w w.heap.size A l) :
 Calls Tryz.prog 180 #[gv g, .slice A l.length c] w (Did (.bool (timesB g l)) w) := by
 unfold maxLen at hm
 have HI := hid (fun X => p_win (l.length : Int) 1 16 X)
 have HR := hid (fun y hy X => p_Right g y hy X)
 have HC := hid (fun n X => p_cost n X)
 have H := hid h
 have HK := hid hok
 obtain ⟨P, W, hP, hW, K, hb0⟩ := (Mem.nil w).one (gc g) 23
 obtain ⟨g0, g1, g2⟩ := K.out.gr (B := P) (g := g) (by simp)
 clear h hok hb0
 cases h1 : inB (l.length : Int) 1 16 with
 | false =>
  have Hr := hid (show timesB g l = false by
   unfold timesB
   unfold inB at h1
   rw [h1, Bool.and_false])
  rw [h1] at HI
  clear h1
  generalize timesB g l = q at *
  go_enter Tryz.func180, Tryz.ntmps180
  go_wp2_with fail
  refine (HI.out _).mono ?_
  rintro e w1 ⟨rfl, rfl⟩
  go_wp2_with fail
  go_ret
  exact Did.mk (by rw [Hr.out]; rfl) K.out.2
 | true =>
  have hl16 : l.length ≤ 16 := by
   have := h1
   unfold inB at this
   rw [Bool.and_eq_true, decide_eq_true_iff, decide_eq_true_iff] at this
   omega
  rw [h1] at HI
  have Hbad := hid (fun i y hy h => timesB_bad (g := g) (l := l) (i := i) (y := y) hy h)
  have Hiff := hid (fun h => timesB_iff (g := g) (l := l) h h1)
  have HO := hid (fun A c X h hc => p_OnceW A c (l.map Tm.w) (by rw [List.length_map]; unfold maxLen; omega) hc X h)
  have Hf := hid (fun k y (h : l[k]? = some y) => show (l.take (k + 1)).map Tm.w = (l.take k).map Tm.w ++ [y.w] by rw [List.take_add_one, h, List.map_append]; rfl)
  have Hlen := hid (fun k (hk : k ≤ l.length) => show ((l.take k).map Tm.w).length = k by rw [List.length_map, List.length_take]; omega)
  have Hall := hid (show (l.take l.length).map Tm.w = l.map Tm.w by rw [List.take_length])
  have Hml := hid (show (l.map Tm.w).length = l.length by rw [List.length_map])
  have Hz := hid (show (l.take 0).map Tm.w = [] from rfl)
  obtain ⟨ff, hff⟩ : ∃ ff : Nat → List Wh, (fun k => (l.take k).map Tm.w) = ff := ⟨_, rfl⟩
  have e1 : ∀ k, (l.take k).map Tm.w = ff k := fun k => congrFun hff k
  simp only [e1] at Hf Hlen Hall Hz
  clear hff e1
  generalize l.map Tm.w = lw at *
  generalize timesB g l = q at *
  clear h1
  obtain ⟨i0, hi0, hz0, hz1, hz2⟩ := info_parts Tryz.info_when
  have own0 := hid (World.ownsRow_nil W (P + 1) 55 4)
  have HBw := hid (show ∀ X : World, Mem w X [(P, gc g, 23)] → P + 1 ≤ X.heap.size from fun X h => (h.at_ (b := P) (cs := gc g) (t := 23) (by simp)).lt)
  have HPw := hid (show w.heap.size ≤ P by omega)
  go_enter Tryz.func180, Tryz.ntmps180
  go_wp2_with fail
  refine (HI.out _).mono ?_
  rintro e w1 ⟨rfl, rfl⟩
  go_wp2_with fail
  go_loopw [5, 14] (fun vv i wr => ∃ (k : Nat), i = .int .i64 k ∧ k ≤ l.length ∧ Hid (wr.ownsRow (P + 1) 55 4 vv (ff k).length (wcells (ff k))) ∧ Hid (Mem w wr [(P, gc g, 23)]) ∧ Hid (∀ i, i < k → ∀ y, l[i]? = some y → Whn.right g y.w = true ∧ costB y.c = true)) (fun _ i _ => l.length - (intOf i).toNat)
  case atStart => exact ⟨0, rfl, Nat.zero_le _, by rw [Hz.out]; exact own0, K, hid (fun i hi => absurd hi (Nat.not_lt_zero i))⟩
  case round =>
   clear own0 K g0 g1 g2 hP hW
   obtain ⟨k, rfl, hk, HO1, KM, hsame⟩ := hrel
   by_cases hlt : k < l.length
   · obtain ⟨ad, y, rfl, hadb, hy, hyl, hcell⟩ := Es.get enT_len (by decide) (H.out.below KM.out.2 (Nat.le_refl _)) hlt
     have hy1 : Wok y.w := HK.out _ hyl
     have d0 : wr.cell? (ad.add (k * 5)) = some (.int .u32 (y.w.w : Int)) := by have := hcell 0 _ rfl; rwa [Nat.add_zero] at this
     have d1 : wr.cell? ⟨(ad.add (k * 5)).block, (ad.add (k * 5)).off + 1, none⟩ = some (.int .u8 (y.w.d : Int)) := by have := hcell 1 _ rfl; rwa [add_add _ _ _ (by omega)] at this
     have d2 : wr.cell? ⟨(ad.add (k * 5)).block, (ad.add (k * 5)).off + 2, none⟩ = some (.int .i64 y.w.s) := by have := hcell 2 _ rfl; rwa [add_add _ _ _ (by omega)] at this
     have d3 : wr.cell? ⟨(ad.add (k * 5)).block, (ad.add (k * 5)).off + 3, none⟩ = some (.int .i64 y.w.l) := by have := hcell 3 _ rfl; rwa [add_add _ _ _ (by omega)] at this
     have d4 : wr.cell? ⟨(ad.add (k * 5)).block, (ad.add (k * 5)).off + 4, none⟩ = some (.int .i64 y.c) := by have := hcell 4 _ rfl; rwa [add_add _ _ _ (by omega)] at this
     have b1 : (0 : Int) ≤ (k : Int) := by omega
     have b2 : (k : Int) < l.length := by omega
     obtain ⟨D, U, hD, hU, K2, hb2⟩ := KM.out.one (enT y) 122
     have O2 := hid (own_below HO1.out hb2)
     obtain ⟨c0, c1, c2, c3, c4⟩ := K2.out.l5 (B := D) (t := 122) (x0 := .int .u32 (y.w.w : Int)) (x1 := .int .u8 (y.w.d : Int)) (x2 := .int .i64 y.w.s) (x3 := .int .i64 y.w.l) (x4 := .int .i64 y.c) (by simp)
     obtain ⟨e0, e1, e2⟩ := K2.out.gr (B := P) (g := g) (by simp)
     have Hfk := Hf.out k y hy.out
     have Hb1 := hid (fun h => Hbad.out k y hy.out h)
     have Hnx := hid (fun (h1 : Whn.right g y.w = true) (h2 : costB y.c = true) => show ∀ i, i < k + 1 → ∀ z, l[i]? = some z → Whn.right g z.w = true ∧ costB z.c = true from fun i hi z hz => by
      rcases Nat.lt_or_ge i k with h' | h'
      · exact hsame.out i h' z hz
      · obtain rfl : i = k := by omega
        have hzy := hy.out
        rw [hz] at hzy
        rw [Option.some.inj hzy]; exact ⟨h1, h2⟩)
     clear HO1 KM hsame hcell Hbad Hiff HO Hall Hz Hml
     go_wp2_with fail
     refine (HR.out y.w hy1 _).mono ?_
     rintro e w1 ⟨rfl, b3⟩
     have K3 := hid (K2.out.next b3)
     have O3 := hid (own_below O2.out b3)
     clear c0 c1 c2 c3 c4 e0 e1 e2 O2 K2 d0 d1 d2 d3 d4 hb2 b3
     obtain ⟨c0, c1, c2, c3, c4⟩ := K3.out.l5 (B := D) (t := 122) (x0 := .int .u32 (y.w.w : Int)) (x1 := .int .u8 (y.w.d : Int)) (x2 := .int .i64 y.w.s) (x3 := .int .i64 y.w.l) (x4 := .int .i64 y.c) (by simp)
     obtain ⟨qr, hqr⟩ : ∃ q, Whn.right g y.w = q := ⟨_, rfl⟩
     obtain ⟨qc, hqc⟩ : ∃ q, costB y.c = q := ⟨_, rfl⟩
     have HC1 := hid (fun X => HC.out y.c X)
     rw [hqc] at HC1
     rw [hqr, hqc] at Hb1 Hnx
     rw [hqr]
     clear hqr hqc
     cases qr with
     | false =>
      have Hq := hid (Hb1.out rfl)
      clear Hb1 Hnx
      go_wp2_with fail
      go_ret
      exact Did.mk (by rw [Hq.out]; rfl) K3.out.2
     | true =>
      cases qc with
      | false =>
       have Hq := hid (Hb1.out rfl)
       clear Hb1 Hnx
       go_wp2_with fail
       refine (HC1.out _).mono ?_
       rintro e w2 ⟨rfl, rfl⟩
       go_wp2_with fail
       go_ret
       exact Did.mk (by rw [Hq.out]; rfl) K3.out.2
      | true =>
       have Hn := hid (Hnx.out rfl rfl)
       have K4 := hid (K3.out.sub (l' := [(P, gc g, 23)]) (by simp))
       have Hfk := hid Hfk
       have hl := Hlen.out k (by omega)
       obtain ⟨L, hL⟩ : ∃ L, ff k = L := ⟨_, rfl⟩
       rw [hL] at O3 Hfk hl
       have hn3 : L.length + 1 ≤ maxLen := by unfold maxLen; omega
       have hn4 : (L.length + 1) * 24 ≤ 140737488355328 := by omega
       have hB4 := HBw.out _ K4.out
       clear hL Hf Hlen Hb1 Hnx K3
       go_wp2_with fail
       refine (HC1.out _).mono ?_
       rintro e w2 ⟨rfl, rfl⟩
       go_wp2_with (at_builtin; refine wpList_append_own _ rfl _ _ 50 rfl (P + 1) 55 i0 (.agg #[.int .u32 0, .int .u8 0, .int .i64 0, .int .i64 0]) 4 24 Tryz.underlying50 hi0 hz0 hz1 hz2 rfl (by decide) _ _ _ rfl (O3.out.alloc _) ⟨_, 0, none⟩ 1 1 (wc y.w) rfl rfl (wlit_get _ _ _) (wc_one _) hn3 hn4 (le_alloc hB4 _) ?_; intro v1 w5 hown2 hgrow _)
       have bb : Below (P + 1) w1 w5 := ((Below.refl (P + 1) w1).alloc hB4 _).grown hgrow (le_alloc hB4 _) (fun k hk => (O3.out.lt k hk).1)
       have K6 : Mem w w5 [(P, gc g, 23)] := ⟨fun p hp => (K4.out.1 p hp).below bb (by
        simp only [List.mem_cons, List.not_mem_nil, or_false] at hp
        rcases hp with rfl
        show P < P + 1; omega), K4.out.2.trans (bb.mono (by have := HPw.out; omega))⟩
       refine ⟨⟨k + 1, by go_num, by omega, ?_, hid K6, Hn⟩, by simp [intOf]; omega⟩
       rw [Hfk.out, List.length_append, wcells_snoc]
       exact hid hown2
   · obtain rfl : k = l.length := by omega
     have Hi := hid (Hiff.out hsame.out)
     rw [Hall.out] at HO1
     obtain ⟨A1, c1, rfl, hw1, hc1⟩ := own_whs HO1.out
     have HO2 := hid (HO.out A1 c1 wr hw1 hc1)
     have b2 : ¬ (l.length : Int) < l.length := by omega
     clear Hf Hlen Hall Hz Hbad Hiff HO hw1 hsame
     go_wp2_with fail
     refine (HO2.out).mono ?_
     rintro e w1 ⟨b, rfl, hb, b3⟩
     have Hb := hid (show q = b from Bool.eq_iff_iff.2 (Hi.out.trans hb.symm))
     clear hb
     go_wp2_with fail
     go_ret
     exact Did.mk (by rw [Hb.out]; rfl) (KM.out.next b3).2
set_option maxRecDepth 20000 in
set_option maxHeartbeats 4000000 in
theorem p_places (n : Int) (A : Option Addr) (c : Nat) (l : List Pl) (hm : l.length ≤ maxLen) (w : World) (h : Es enP w w.heap.size A l) :
 Calls Tryz.prog 181 #[.int .i64 n, .slice A l.length c] w (Did (.bool (placesB n l)) w) := by
 unfold maxLen at hm
 have HC := hid (fun n X => p_cost n X)
 have H := hid h
 clear h
 by_cases h12 : (12 : Int) < l.length
 · have Hr := hid (show placesB n l = false by
    unfold placesB
    rw [decide_eq_false (show ¬ (l.length : Int) ≤ 12 by omega), Bool.and_false])
   generalize placesB n l = q at *
   go_enter Tryz.func181, Tryz.ntmps181
   go_wp2_with fail
   go_ret
   exact Did.mk (by rw [Hr.out]; rfl) (Below.refl _ _)
 · have hl12 : l.length ≤ 12 := by omega
   have Hbad := hid (fun i y hy h => placesB_bad (n := n) (l := l) (i := i) (y := y) hy h)
   have Hiff := hid (fun h => placesB_iff (n := n) (l := l) h (by omega))
   have HO := hid (fun A c X h hc => p_OnceI A c (l.map Pl.r) (by rw [List.length_map]; unfold maxLen; omega) hc X h)
   have Hf := hid (fun k y (h : l[k]? = some y) => show (l.take (k + 1)).map Pl.r = (l.take k).map Pl.r ++ [y.r] by rw [List.take_add_one, h, List.map_append]; rfl)
   have Hlen := hid (fun k (hk : k ≤ l.length) => show ((l.take k).map Pl.r).length = k by rw [List.length_map, List.length_take]; omega)
   have Hall := hid (show (l.take l.length).map Pl.r = l.map Pl.r by rw [List.take_length])
   have Hz := hid (show (l.take 0).map Pl.r = [] from rfl)
   obtain ⟨ff, hff⟩ : ∃ ff : Nat → List Int, (fun k => (l.take k).map Pl.r) = ff := ⟨_, rfl⟩
   have e1 : ∀ k, (l.take k).map Pl.r = ff k := fun k => congrFun hff k
   simp only [e1] at Hf Hlen Hall Hz
   clear hff e1
   generalize l.map Pl.r = lw at *
   generalize placesB n l = q at *
   obtain ⟨i0, hi0, hz0, hz1, hz2⟩ := info_parts Tryz.info_int
   have own0 := hid (World.ownsRow_nil w w.heap.size 3 1)
   have K := hid (Mem.nil w)
   go_enter Tryz.func181, Tryz.ntmps181
   go_wp2_with fail
   go_loopw [5, 13] (fun vv i wr => ∃ (k : Nat), i = .int .i64 k ∧ k ≤ l.length ∧ Hid (wr.ownsRow w.heap.size 3 1 vv (ff k).length ((ff k).map (Value.int .i64))) ∧ Hid (Mem w wr []) ∧ Hid (∀ i, i < k → ∀ y, l[i]? = some y → 0 ≤ y.r ∧ y.r < n ∧ costB y.c = true)) (fun _ i _ => l.length - (intOf i).toNat)
   case atStart => exact ⟨0, rfl, Nat.zero_le _, by rw [Hz.out]; exact own0, K, hid (fun i hi => absurd hi (Nat.not_lt_zero i))⟩
   case round =>
    clear own0 K
    obtain ⟨k, rfl, hk, HO1, KM, hsame⟩ := hrel
    by_cases hlt : k < l.length
    · obtain ⟨ad, y, rfl, hadb, hy, hyl, hcell⟩ := Es.get enP_len (by decide) (H.out.below KM.out.2 (Nat.le_refl _)) hlt
      have d0 : wr.cell? (ad.add (k * 2)) = some (.int .i64 y.r) := by have := hcell 0 _ rfl; rwa [Nat.add_zero] at this
      have d1 : wr.cell? ⟨(ad.add (k * 2)).block, (ad.add (k * 2)).off + 1, none⟩ = some (.int .i64 y.c) := by have := hcell 1 _ rfl; rwa [add_add _ _ _ (by omega)] at this
      have b1 : (0 : Int) ≤ (k : Int) := by omega
      have b2 : (k : Int) < l.length := by omega
      obtain ⟨D, U, hD, hU, K2, hb2⟩ := KM.out.one (enP y) 124
      have O2 := hid (own_below HO1.out hb2)
      have c0 : U.cell? ⟨D, 0, none⟩ = some (.int .i64 y.r) := K2.out.cell (b := D) (cs := enP y) (t := 124) (by simp) rfl
      have c1 : U.cell? ⟨D, 1, none⟩ = some (.int .i64 y.c) := K2.out.cell (b := D) (cs := enP y) (t := 124) (by simp) rfl
      have Hfk := Hf.out k y hy.out
      have Hb1 := hid (fun h => Hbad.out k y hy.out h)
      have Hnx := hid (fun (h1 : 0 ≤ y.r) (h2 : y.r < n) (h3 : costB y.c = true) => show ∀ i, i < k + 1 → ∀ z, l[i]? = some z → 0 ≤ z.r ∧ z.r < n ∧ costB z.c = true from fun i hi z hz => by
       rcases Nat.lt_or_ge i k with h' | h'
       · exact hsame.out i h' z hz
       · obtain rfl : i = k := by omega
         have hzy := hy.out
         rw [hz] at hzy
         rw [Option.some.inj hzy]; exact ⟨h1, h2, h3⟩)
      clear HO1 KM hsame hcell Hbad Hiff HO Hall Hz
      by_cases c2 : y.r < 0
      · have Hq := hid (Hb1.out (.inl c2))
        clear Hb1 Hnx
        go_wp2_with fail
        go_ret
        exact Did.mk (by rw [Hq.out]; rfl) K2.out.2
      · by_cases c3 : n ≤ y.r
        · have Hq := hid (Hb1.out (.inr (.inl c3)))
          clear Hb1 Hnx
          go_wp2_with fail
          go_ret
          exact Did.mk (by rw [Hq.out]; rfl) K2.out.2
        · have Hb2 := hid (fun h => Hb1.out (.inr (.inr h)))
          have Hn1 := hid (fun h => Hnx.out (by omega) (by omega) h)
          clear Hb1 Hnx
          go_wp2_with fail
          obtain ⟨qc, hqc⟩ : ∃ q, costB y.c = q := ⟨_, rfl⟩
          have HC1 := hid (fun X => HC.out y.c X)
          rw [hqc] at HC1 Hb2 Hn1
          clear hqc
          refine (HC1.out _).mono ?_
          rintro e w2 ⟨rfl, rfl⟩
          cases qc with
          | false =>
           have Hq := hid (Hb2.out rfl)
           clear Hb2 Hn1
           go_wp2_with fail
           go_ret
           exact Did.mk (by rw [Hq.out]; rfl) K2.out.2
          | true =>
           have Hn := hid (Hn1.out rfl)
           have K4 := hid (K2.out.sub (l' := []) (by intro p hp; cases hp))
           have Hfk := hid Hfk
           have hl := Hlen.out k (by omega)
           obtain ⟨L, hL⟩ : ∃ L, ff k = L := ⟨_, rfl⟩
           rw [hL] at O2 Hfk hl
           have hn3 : L.length + 1 ≤ maxLen := by unfold maxLen; omega
           have hn4 : (L.length + 1) * 8 ≤ 140737488355328 := by omega
           have hB4 := K4.out.2.size
           clear hL Hf Hlen Hb2 Hn1
           go_wp2_with (at_builtin; refine wpList_append_own _ rfl _ _ 43 rfl w.heap.size 3 i0 (.int .i64 0) 1 8 Tryz.underlying43 hi0 hz0 hz1 hz2 rfl (by decide) _ _ _ rfl (O2.out.alloc _) ⟨_, 0, none⟩ 1 1 [.int .i64 y.r] rfl rfl (lit_one _ _ _) (int_one _ _) hn3 hn4 (le_alloc hB4 _) ?_; intro v1 w5 hown2 hgrow _)
           have bb : Below w.heap.size U w5 := ((Below.refl w.heap.size U).alloc hB4 _).grown hgrow (le_alloc hB4 _) (fun k hk => (O2.out.lt k hk).1)
           have K6 : Mem w w5 [] := ⟨fun p hp => (by cases hp), K4.out.2.trans bb⟩
           refine ⟨⟨k + 1, by go_num, by omega, ?_, hid K6, Hn⟩, by simp [intOf]; omega⟩
           rw [Hfk.out, List.length_append, List.map_append]
           exact hid hown2
    · obtain rfl : k = l.length := by omega
      have Hi := hid (Hiff.out hsame.out)
      rw [Hall.out] at HO1
      obtain ⟨A1, c1, rfl, hw1, hc1⟩ := own_rd HO1.out
      have HO2 := hid (HO.out A1 c1 wr hw1 hc1)
      have b2 : ¬ (l.length : Int) < l.length := by omega
      clear Hf Hlen Hall Hz Hbad Hiff HO hw1 hsame
      go_wp2_with fail
      refine (HO2.out).mono ?_
      rintro e w1 ⟨b, rfl, hb, b3⟩
      have Hb := hid (show q = b from Bool.eq_iff_iff.2 (Hi.out.trans hb.symm))
      clear hb
      go_wp2_with fail
      go_ret
      exact Did.mk (by rw [Hb.out]; rfl) (KM.out.next b3).2
theorem clRight_eq (g : Gr) (rn pn cn : Int) (x : Cl) : clRight g rn pn cn x = (nameOk x.n && inB x.s 0 10000 && (decide ((x.p.length : Int) ≤ 4) && risingB x.p pn) && timesB g x.t && placesB rn x.l && decide (-1 ≤ x.o) && decide (x.o < cn)) := by
 unfold clRight inB
 cases ht : timesB g x.t with
 | false => simp only [Bool.and_false, Bool.false_and]
 | true =>
  rw [timesB_grid ht]
  simp only [Bool.true_and, Bool.and_assoc]
set_option maxRecDepth 20000 in
set_option maxHeartbeats 4000000 in
theorem p_RightC (g : Gr) (rn pn cn : Int) (hpn : I64 pn) (x : Cl) (r : Cw) (hok : Cok x) (hl : Clc x r) (w : World) (h : Clw w w.heap.size x r) :
 Calls Tryz.prog 130 #[gv g, .int .i64 rn, .int .i64 pn, .int .i64 cn, cv x r] w (Did (.bool (clRight g rn pn cn x)) w) := by
 have HN := hid (fun X => p_Name (bs x.n) X)
 rw [bs_data] at HN
 have HI := hid (fun X => p_win x.s 0 10000 X)
 have HP := hid (fun X (h : Clw X X.heap.size x r) => p_persons pn hpn r.a r.ac x.p (Nat.le_trans hl.1.1 hl.1.2) X h.1)
 have HT := hid (fun X (h : Clw X X.heap.size x r) => p_times g r.b r.bc x.t (Nat.le_trans hl.2.1.1 hl.2.1.2) (fun y hy => (hok.2.2.2.2.1 y hy).1) X h.2.1)
 have HL := hid (fun X (h : Clw X X.heap.size x r) => p_places rn r.c r.cc x.l (Nat.le_trans hl.2.2.1 hl.2.2.2) X h.2.2)
 have H := hid h
 have Hr := hid (clRight_eq g rn pn cn x)
 clear h hok hl hpn
 generalize nameOk x.n = nn at *
 generalize inB x.s 0 10000 = ss at *
 generalize (decide ((x.p.length : Int) ≤ 4) && risingB x.p pn) = pp at *
 generalize timesB g x.t = tt at *
 generalize placesB rn x.l = ll at *
 generalize clRight g rn pn cn x = q at *
 obtain ⟨P, W, hP, hW, K, hb0⟩ := (Mem.nil w).one (gc g) 23
 obtain ⟨R, V, hR, hV, K1, hb1⟩ := K.out.one (ccl x r) 62
 clear K hb0 hb1
 obtain ⟨g0, g1, g2⟩ := K1.out.gr (B := P) (g := g) (by simp)
 obtain ⟨e0, e1, e2, e3, e4, e5, e6⟩ := K1.out.cl (B := R) (x := x) (r := r) (t := 62) (by simp)
 go_enter Tryz.func130, Tryz.ntmps130
 go_wp2_with fail
 refine (HN.out _).mono ?_
 rintro e Y1 ⟨rfl, rfl⟩
 cases nn with
 | false =>
  go_wp2_with fail
  go_ret
  exact Did.mk (by rw [Hr.out]; rfl) K1.out.2
 | true =>
  go_wp2_with fail
  refine (HI.out _).mono ?_
  rintro e Y2 ⟨rfl, rfl⟩
  cases ss with
  | false =>
   go_wp2_with fail
   go_ret
   exact Did.mk (by rw [Hr.out]; rfl) K1.out.2
  | true =>
   go_wp2_with fail
   refine (HP.out _ (H.out.next K1.out.2)).mono ?_
   rintro e Y3 ⟨rfl, b1⟩
   have K4 := hid (K1.out.next b1)
   clear g0 g1 g2 e0 e1 e2 e3 e4 e5 e6 b1 K1
   obtain ⟨g0, g1, g2⟩ := K4.out.gr (B := P) (g := g) (by simp)
   obtain ⟨e0, e1, e2, e3, e4, e5, e6⟩ := K4.out.cl (B := R) (x := x) (r := r) (t := 62) (by simp)
   cases pp with
   | false =>
    go_wp2_with fail
    go_ret
    exact Did.mk (by rw [Hr.out]; rfl) K4.out.2
   | true =>
    go_wp2_with fail
    refine (HT.out _ (H.out.next K4.out.2)).mono ?_
    rintro e Y4 ⟨rfl, b1⟩
    have K5 := hid (K4.out.next b1)
    clear g0 g1 g2 e0 e1 e2 e3 e4 e5 e6 b1 K4
    obtain ⟨g0, g1, g2⟩ := K5.out.gr (B := P) (g := g) (by simp)
    obtain ⟨e0, e1, e2, e3, e4, e5, e6⟩ := K5.out.cl (B := R) (x := x) (r := r) (t := 62) (by simp)
    cases tt with
    | false =>
     go_wp2_with fail
     go_ret
     exact Did.mk (by rw [Hr.out]; rfl) K5.out.2
    | true =>
     go_wp2_with fail
     refine (HL.out _ (H.out.next K5.out.2)).mono ?_
     rintro e Y5 ⟨rfl, b1⟩
     have K6 := hid (K5.out.next b1)
     clear g0 g1 g2 e0 e1 e2 e3 e4 e5 e6 b1 K5
     obtain ⟨g0, g1, g2⟩ := K6.out.gr (B := P) (g := g) (by simp)
     obtain ⟨e0, e1, e2, e3, e4, e5, e6⟩ := K6.out.cl (B := R) (x := x) (r := r) (t := 62) (by simp)
     cases ll with
     | false =>
      go_wp2_with fail
      go_ret
      exact Did.mk (by rw [Hr.out]; rfl) K6.out.2
     | true =>
      by_cases c1 : -1 ≤ x.o
      · have q1 : decide (-1 ≤ x.o) = true := decide_eq_true c1
        rw [q1] at Hr
        by_cases c2 : x.o < cn
        · have q2 : decide (x.o < cn) = true := decide_eq_true c2
          rw [q2] at Hr
          go_wp2_with fail
          go_ret
          exact Did.mk (by rw [Hr.out]; rfl) K6.out.2
        · have q2 : decide (x.o < cn) = false := decide_eq_false c2
          rw [q2] at Hr
          go_wp2_with fail
          go_ret
          exact Did.mk (by rw [Hr.out]; rfl) K6.out.2
      · have q1 : decide (-1 ≤ x.o) = false := decide_eq_false c1
        rw [q1] at Hr
        go_wp2_with fail
        go_ret
        exact Did.mk (by rw [Hr.out]; rfl) K6.out.2
end Go.Proofs.YtgmgccepmalahaaGreat
