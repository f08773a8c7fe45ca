/- Contracts of the program's own functions of layer 9 (when): Right. -/
import Derived.Test.YteldcaebbmaemaaWhnX
namespace Go.Proofs.Yteldcaebbmaemaa
open Go.RowKit
open Whn (Gr Wh)

theorem nat_beq (n : Nat) : ((n : Int) == 0) = decide (n = 0) := by
  rw [Bool.eq_iff_iff, beq_iff_eq, decide_eq_true_iff]
  omega
set_option maxHeartbeats 1000000 in
theorem pr_grid (g : Gr) (x : Wh) (hg : Whn.rgrid g = false) (w : World) : Calls Try.prog 42 #[gv g, wv x] w (Did (.bool false) w) := by
  have HT := hid (fun w => p_RightGrid g w)
  rw [hg] at HT
  obtain ⟨A, W, hA, hW, K, hb0⟩ := (Mem.nil w).one (gc g) 23
  obtain ⟨B, V, hB, hV, K1, hb1⟩ := K.out.one (wc x) 30
  obtain ⟨g0, g1, g2⟩ := K1.out.gr (B := A) (g := g) (by simp)
  obtain ⟨c0, c1, c2, c3⟩ := K1.out.wh (B := B) (x := x) (by simp)
  clear K hb0 hb1 hg
  go_enter Try.func42, Try.ntmps42
  go_wp2_with fail
  refine (HT.out _).mono ?_
  rintro e w1 ⟨rfl, b1⟩
  go_wp2_with fail
  go_ret
  exact Did.mk rfl (K1.out.next b1).2
set_option maxHeartbeats 1000000 in
theorem pr_w0 (g : Gr) (x : Wh) (hg : Whn.rgrid g = true) (n1 : ((x.w : Int) == 0) = true) (w : World) : Calls Try.prog 42 #[gv g, wv x] w (Did (.bool false) w) := by
  have HT := hid (fun w => p_RightGrid g w)
  rw [hg] at HT
  obtain ⟨A, W, hA, hW, K, hb0⟩ := (Mem.nil w).one (gc g) 23
  obtain ⟨B, V, hB, hV, K1, hb1⟩ := K.out.one (wc x) 30
  obtain ⟨g0, g1, g2⟩ := K1.out.gr (B := A) (g := g) (by simp)
  obtain ⟨c0, c1, c2, c3⟩ := K1.out.wh (B := B) (x := x) (by simp)
  clear K hb0 hb1 hg
  go_enter Try.func42, Try.ntmps42
  go_wp2_with fail
  refine (HT.out _).mono ?_
  rintro e w1 ⟨rfl, b1⟩
  have K2 := K1.out.next b1
  clear g0 g1 g2 c0 c1 c2 c3
  obtain ⟨g0, g1, g2⟩ := K2.gr (B := A) (g := g) (by simp)
  obtain ⟨c0, c1, c2, c3⟩ := K2.wh (B := B) (x := x) (by simp)
  go_wp2_with fail
  go_ret
  exact Did.mk rfl K2.2
set_option maxHeartbeats 1000000 in
theorem pr_d0 (g : Gr) (x : Wh) (hg : Whn.rgrid g = true) (n1 : ((x.w : Int) == 0) = false) (n2 : ((x.d : Int) == 0) = true) (w : World) : Calls Try.prog 42 #[gv g, wv x] w (Did (.bool false) w) := by
  have HT := hid (fun w => p_RightGrid g w)
  rw [hg] at HT
  obtain ⟨A, W, hA, hW, K, hb0⟩ := (Mem.nil w).one (gc g) 23
  obtain ⟨B, V, hB, hV, K1, hb1⟩ := K.out.one (wc x) 30
  obtain ⟨g0, g1, g2⟩ := K1.out.gr (B := A) (g := g) (by simp)
  obtain ⟨c0, c1, c2, c3⟩ := K1.out.wh (B := B) (x := x) (by simp)
  clear K hb0 hb1 hg
  go_enter Try.func42, Try.ntmps42
  go_wp2_with fail
  refine (HT.out _).mono ?_
  rintro e w1 ⟨rfl, b1⟩
  have K2 := K1.out.next b1
  clear g0 g1 g2 c0 c1 c2 c3
  obtain ⟨g0, g1, g2⟩ := K2.gr (B := A) (g := g) (by simp)
  obtain ⟨c0, c1, c2, c3⟩ := K2.wh (B := B) (x := x) (by simp)
  go_wp2_with fail
  go_ret
  exact Did.mk rfl K2.2
set_option maxRecDepth 4000 in
set_option maxHeartbeats 2000000 in
theorem pr_lw (g : Gr) (x : Wh) (hg : Whn.rgrid g = true) (n1 : ((x.w : Int) == 0) = false) (n2 : ((x.d : Int) == 0) = false) (lw : Nat) (H32 : Hid (∀ w, Calls Try.prog 54 #[.int .u32 (x.w : Int)] w (fun e w' => e = .returned (.int .i64 (lw : Int)) ∧ w = w'))) (t1 : decide (g.w < (lw : Int)) = true) (w : World) : Calls Try.prog 42 #[gv g, wv x] w (Did (.bool false) w) := by
  have HT := hid (fun w => p_RightGrid g w)
  rw [hg] at HT
  obtain ⟨A, W, hA, hW, K, hb0⟩ := (Mem.nil w).one (gc g) 23
  obtain ⟨B, V, hB, hV, K1, hb1⟩ := K.out.one (wc x) 30
  obtain ⟨g0, g1, g2⟩ := K1.out.gr (B := A) (g := g) (by simp)
  obtain ⟨c0, c1, c2, c3⟩ := K1.out.wh (B := B) (x := x) (by simp)
  clear K hb0 hb1 hg
  go_enter Try.func42, Try.ntmps42
  go_wp2_with fail
  refine (HT.out _).mono ?_
  rintro e w1 ⟨rfl, b1⟩
  have K2 := K1.out.next b1
  clear g0 g1 g2 c0 c1 c2 c3
  obtain ⟨g0, g1, g2⟩ := K2.gr (B := A) (g := g) (by simp)
  obtain ⟨c0, c1, c2, c3⟩ := K2.wh (B := B) (x := x) (by simp)
  go_wp2_with fail
  have KA := K2.drew
  have hS2 := And.intro (KA.gr (B := A) (g := g) (by simp)) (KA.wh (B := B) (x := x) (by simp))
  refine wp_region_held_drew (S := (fun X => (X.cell? ⟨A, 0, none⟩ = some (.int .i64 g.w) ∧ X.cell? ⟨A, 1, none⟩ = some (.int .i64 g.d) ∧ X.cell? ⟨A, 2, none⟩ = some (.int .i64 g.s)) ∧ (X.cell? ⟨B, 0, none⟩ = some (.int .u32 (x.w : Int)) ∧ X.cell? ⟨B, 1, none⟩ = some (.int .u8 (x.d : Int)) ∧ X.cell? ⟨B, 2, none⟩ = some (.int .i64 x.s) ∧ X.cell? ⟨B, 3, none⟩ = some (.int .i64 x.l)))) (by kernel_rfl) hS2 (fun hHeld => ?_)
  refine takeH 0 18 (.pointer (some ⟨B, 0, none⟩)) rfl rfl (by kernel_rfl) (by kernel_rfl) (by kernel_rfl) (fun _ _ _ h => h) (by kernel_rfl) (fun X hX => by clear hX; first | rfl | go_simp) hHeld ?_
  simp only [Act.put, List.setIfInBounds_toArray, List.set_cons_zero, List.set_cons_succ]
  refine takeH 1 19 (.int .u32 (x.w : Int)) rfl rfl (by kernel_rfl) (by kernel_rfl) (by kernel_rfl) (fun _ _ _ h => h) (by kernel_rfl) (fun X hX => by obtain ⟨⟨s0, s1, s2⟩, h0, h1, h2, h3⟩ := hX; go_simp) hHeld ?_
  simp only [Act.put, List.setIfInBounds_toArray, List.set_cons_zero, List.set_cons_succ]
  refine takeH 3 21 (.pointer (some ⟨A, 0, none⟩)) rfl rfl (by kernel_rfl) (by kernel_rfl) (by kernel_rfl) (fun _ _ _ h => h) (by kernel_rfl) (fun X hX => by clear hX; first | rfl | go_simp) hHeld ?_
  simp only [Act.put, List.setIfInBounds_toArray, List.set_cons_zero, List.set_cons_succ]
  refine takeH 4 22 (.int .i64 g.w) rfl rfl (by kernel_rfl) (by kernel_rfl) (by kernel_rfl) (fun _ _ _ h => h) (by kernel_rfl) (fun X hX => by obtain ⟨⟨s0, s1, s2⟩, h0, h1, h2, h3⟩ := hX; go_simp) hHeld ?_
  simp only [Act.put, List.setIfInBounds_toArray, List.set_cons_zero, List.set_cons_succ]
  refine wpAnyH_ready (rs := [2]) (by kernel_rfl) (by simp) ?_
  refine AllReadyH.cons rfl (fun KK hK => ?_) AllReadyH.nil
  simp only [List.getElem_toArray, List.getElem_cons_succ, List.getElem_cons_zero]
  go_simp
  refine (H32.out _).mono ?_
  rintro e w3 ⟨rfl, rfl⟩
  refine hK.out _ _ hS2 (fun hHeld => ?_)
  clear hK KK
  try simp only [Act.put, List.setIfInBounds_toArray, List.set_cons_zero, List.set_cons_succ]
  refine takeH 5 23 (.bool true) rfl rfl (by kernel_rfl) (by kernel_rfl) (by kernel_rfl) (fun _ _ _ h => h) (by kernel_rfl) (fun X hX => by clear hX; first | rfl | go_simp) hHeld ?_
  simp only [Act.put, List.setIfInBounds_toArray, List.set_cons_zero, List.set_cons_succ]
  refine takeH 6 24 (.bool true) rfl rfl (by kernel_rfl) (by kernel_rfl) (by kernel_rfl) (fun _ _ _ h => h) (by kernel_rfl) (fun X hX => by clear hX; first | rfl | go_simp) hHeld ?_
  simp only [Act.put, List.setIfInBounds_toArray, List.set_cons_zero, List.set_cons_succ]
  refine skipH 7 25 rfl rfl (by kernel_rfl) (by kernel_rfl) (by kernel_rfl) (fun _ _ _ h => h) (by kernel_rfl) hHeld ?_
  simp only [Act.put, List.setIfInBounds_toArray, List.set_cons_zero, List.set_cons_succ]
  refine skipH 8 26 rfl rfl (by kernel_rfl) (by kernel_rfl) (by kernel_rfl) (fun _ _ _ h => h) (by kernel_rfl) hHeld ?_
  simp only [Act.put, List.setIfInBounds_toArray, List.set_cons_zero, List.set_cons_succ]
  refine skipH 9 27 rfl rfl (by kernel_rfl) (by kernel_rfl) (by kernel_rfl) (fun _ _ _ h => h) (by kernel_rfl) hHeld ?_
  simp only [Act.put, List.setIfInBounds_toArray, List.set_cons_zero, List.set_cons_succ]
  refine skipH 10 28 rfl rfl (by kernel_rfl) (by kernel_rfl) (by kernel_rfl) (fun _ _ _ h => h) (by kernel_rfl) hHeld ?_
  simp only [Act.put, List.setIfInBounds_toArray, List.set_cons_zero, List.set_cons_succ]
  refine skipH 11 29 rfl rfl (by kernel_rfl) (by kernel_rfl) (by kernel_rfl) (fun _ _ _ h => h) (by kernel_rfl) hHeld ?_
  simp only [Act.put, List.setIfInBounds_toArray, List.set_cons_zero, List.set_cons_succ]
  refine skipH 12 30 rfl rfl (by kernel_rfl) (by kernel_rfl) (by kernel_rfl) (fun _ _ _ h => h) (by kernel_rfl) hHeld ?_
  simp only [Act.put, List.setIfInBounds_toArray, List.set_cons_zero, List.set_cons_succ]
  refine takeH 13 31 (.bool true) rfl rfl (by kernel_rfl) (by kernel_rfl) (by kernel_rfl) (fun _ _ _ h => h) (by kernel_rfl) (fun X hX => by clear hX; first | rfl | go_simp) hHeld ?_
  simp only [Act.put, List.setIfInBounds_toArray, List.set_cons_zero, List.set_cons_succ]
  refine wpAnyH_done (by kernel_rfl) ?_ _
  go_wp2_with fail
  go_ret
  exact Did.mk rfl KA.2
set_option maxRecDepth 4000 in
set_option maxHeartbeats 2000000 in
theorem pr_ld (g : Gr) (x : Wh) (hg : Whn.rgrid g = true) (n1 : ((x.w : Int) == 0) = false) (n2 : ((x.d : Int) == 0) = false) (lw ld : Nat) (H32 : Hid (∀ w, Calls Try.prog 54 #[.int .u32 (x.w : Int)] w (fun e w' => e = .returned (.int .i64 (lw : Int)) ∧ w = w'))) (H8 : Hid (∀ w, Calls Try.prog 55 #[.int .u8 (x.d : Int)] w (fun e w' => e = .returned (.int .i64 (ld : Int)) ∧ w = w'))) (t1 : decide (g.w < (lw : Int)) = false) (t2 : decide (g.d < (ld : Int)) = true) (w : World) : Calls Try.prog 42 #[gv g, wv x] w (Did (.bool false) w) := by
  have HT := hid (fun w => p_RightGrid g w)
  rw [hg] at HT
  obtain ⟨A, W, hA, hW, K, hb0⟩ := (Mem.nil w).one (gc g) 23
  obtain ⟨B, V, hB, hV, K1, hb1⟩ := K.out.one (wc x) 30
  obtain ⟨g0, g1, g2⟩ := K1.out.gr (B := A) (g := g) (by simp)
  obtain ⟨c0, c1, c2, c3⟩ := K1.out.wh (B := B) (x := x) (by simp)
  clear K hb0 hb1 hg
  go_enter Try.func42, Try.ntmps42
  go_wp2_with fail
  refine (HT.out _).mono ?_
  rintro e w1 ⟨rfl, b1⟩
  have K2 := K1.out.next b1
  clear g0 g1 g2 c0 c1 c2 c3
  obtain ⟨g0, g1, g2⟩ := K2.gr (B := A) (g := g) (by simp)
  obtain ⟨c0, c1, c2, c3⟩ := K2.wh (B := B) (x := x) (by simp)
  go_wp2_with fail
  have KA := K2.drew
  have hS2 := And.intro (KA.gr (B := A) (g := g) (by simp)) (KA.wh (B := B) (x := x) (by simp))
  go_region_held3 (fun X => (X.cell? ⟨A, 0, none⟩ = some (.int .i64 g.w) ∧ X.cell? ⟨A, 1, none⟩ = some (.int .i64 g.d) ∧ X.cell? ⟨A, 2, none⟩ = some (.int .i64 g.s)) ∧ (X.cell? ⟨B, 0, none⟩ = some (.int .u32 (x.w : Int)) ∧ X.cell? ⟨B, 1, none⟩ = some (.int .u8 (x.d : Int)) ∧ X.cell? ⟨B, 2, none⟩ = some (.int .i64 x.s) ∧ X.cell? ⟨B, 3, none⟩ = some (.int .i64 x.l))) (exact hS2) (first | (go_at_call 54; refine (H32.out _).mono ?_; rintro e w3 ⟨rfl, rfl⟩) | (go_at_call 55; refine (H8.out _).mono ?_; rintro e w3 ⟨rfl, rfl⟩))
  go_wp2_with fail
  go_ret
  exact Did.mk rfl KA.2
set_option maxRecDepth 4000 in
set_option maxHeartbeats 2000000 in
theorem pr_l (g : Gr) (x : Wh) (hg : Whn.rgrid g = true) (n1 : ((x.w : Int) == 0) = false) (n2 : ((x.d : Int) == 0) = false) (lw ld : Nat) (H32 : Hid (∀ w, Calls Try.prog 54 #[.int .u32 (x.w : Int)] w (fun e w' => e = .returned (.int .i64 (lw : Int)) ∧ w = w'))) (H8 : Hid (∀ w, Calls Try.prog 55 #[.int .u8 (x.d : Int)] w (fun e w' => e = .returned (.int .i64 (ld : Int)) ∧ w = w'))) (t1 : decide (g.w < (lw : Int)) = false) (t2 : decide (g.d < (ld : Int)) = false) (t3 : decide (1 ≤ x.l) = false) (w : World) : Calls Try.prog 42 #[gv g, wv x] w (Did (.bool false) w) := by
  have HT := hid (fun w => p_RightGrid g w)
  rw [hg] at HT
  obtain ⟨A, W, hA, hW, K, hb0⟩ := (Mem.nil w).one (gc g) 23
  obtain ⟨B, V, hB, hV, K1, hb1⟩ := K.out.one (wc x) 30
  obtain ⟨g0, g1, g2⟩ := K1.out.gr (B := A) (g := g) (by simp)
  obtain ⟨c0, c1, c2, c3⟩ := K1.out.wh (B := B) (x := x) (by simp)
  clear K hb0 hb1 hg
  go_enter Try.func42, Try.ntmps42
  go_wp2_with fail
  refine (HT.out _).mono ?_
  rintro e w1 ⟨rfl, b1⟩
  have K2 := K1.out.next b1
  clear g0 g1 g2 c0 c1 c2 c3
  obtain ⟨g0, g1, g2⟩ := K2.gr (B := A) (g := g) (by simp)
  obtain ⟨c0, c1, c2, c3⟩ := K2.wh (B := B) (x := x) (by simp)
  go_wp2_with fail
  have KA := K2.drew
  have hS2 := And.intro (KA.gr (B := A) (g := g) (by simp)) (KA.wh (B := B) (x := x) (by simp))
  go_region_held3 (fun X => (X.cell? ⟨A, 0, none⟩ = some (.int .i64 g.w) ∧ X.cell? ⟨A, 1, none⟩ = some (.int .i64 g.d) ∧ X.cell? ⟨A, 2, none⟩ = some (.int .i64 g.s)) ∧ (X.cell? ⟨B, 0, none⟩ = some (.int .u32 (x.w : Int)) ∧ X.cell? ⟨B, 1, none⟩ = some (.int .u8 (x.d : Int)) ∧ X.cell? ⟨B, 2, none⟩ = some (.int .i64 x.s) ∧ X.cell? ⟨B, 3, none⟩ = some (.int .i64 x.l))) (exact hS2) (first | (go_at_call 54; refine (H32.out _).mono ?_; rintro e w3 ⟨rfl, rfl⟩) | (go_at_call 55; refine (H8.out _).mono ?_; rintro e w3 ⟨rfl, rfl⟩))
  obtain ⟨⟨g0, g1, g2⟩, c0, c1, c2, c3⟩ := hS2
  go_wp2_with fail
  go_ret
  exact Did.mk rfl KA.2
set_option maxRecDepth 4000 in
set_option maxHeartbeats 2000000 in
theorem pr_in (g : Gr) (x : Wh) (hg : Whn.rgrid g = true) (n1 : ((x.w : Int) == 0) = false) (n2 : ((x.d : Int) == 0) = false) (lw ld : Nat) (H32 : Hid (∀ w, Calls Try.prog 54 #[.int .u32 (x.w : Int)] w (fun e w' => e = .returned (.int .i64 (lw : Int)) ∧ w = w'))) (H8 : Hid (∀ w, Calls Try.prog 55 #[.int .u8 (x.d : Int)] w (fun e w' => e = .returned (.int .i64 (ld : Int)) ∧ w = w'))) (t1 : decide (g.w < (lw : Int)) = false) (t2 : decide (g.d < (ld : Int)) = false) (hl : 1 ≤ x.l) (gs : 1 ≤ g.s ∧ g.s ≤ 96) (hs : 0 ≤ x.s ∧ x.s ≤ g.s - x.l) (w : World) : Calls Try.prog 42 #[gv g, wv x] w (Did (.bool true) w) := by
  have HT := hid (fun w => p_RightGrid g w)
  rw [hg] at HT
  have HI := hid (fun n a b h w => p_in n a b h w)
  obtain ⟨gs1, gs2⟩ := gs
  obtain ⟨A, W, hA, hW, K, hb0⟩ := (Mem.nil w).one (gc g) 23
  obtain ⟨B, V, hB, hV, K1, hb1⟩ := K.out.one (wc x) 30
  obtain ⟨g0, g1, g2⟩ := K1.out.gr (B := A) (g := g) (by simp)
  obtain ⟨c0, c1, c2, c3⟩ := K1.out.wh (B := B) (x := x) (by simp)
  clear K hb0 hb1 hg
  go_enter Try.func42, Try.ntmps42
  go_wp2_with fail
  refine (HT.out _).mono ?_
  rintro e w1 ⟨rfl, b1⟩
  have K2 := K1.out.next b1
  clear g0 g1 g2 c0 c1 c2 c3
  obtain ⟨g0, g1, g2⟩ := K2.gr (B := A) (g := g) (by simp)
  obtain ⟨c0, c1, c2, c3⟩ := K2.wh (B := B) (x := x) (by simp)
  go_wp2_with fail
  have KA := K2.drew
  have hS2 := And.intro (KA.gr (B := A) (g := g) (by simp)) (KA.wh (B := B) (x := x) (by simp))
  go_region_held3 (fun X => (X.cell? ⟨A, 0, none⟩ = some (.int .i64 g.w) ∧ X.cell? ⟨A, 1, none⟩ = some (.int .i64 g.d) ∧ X.cell? ⟨A, 2, none⟩ = some (.int .i64 g.s)) ∧ (X.cell? ⟨B, 0, none⟩ = some (.int .u32 (x.w : Int)) ∧ X.cell? ⟨B, 1, none⟩ = some (.int .u8 (x.d : Int)) ∧ X.cell? ⟨B, 2, none⟩ = some (.int .i64 x.s) ∧ X.cell? ⟨B, 3, none⟩ = some (.int .i64 x.l))) (exact hS2) (first | (go_at_call 54; refine (H32.out _).mono ?_; rintro e w3 ⟨rfl, rfl⟩) | (go_at_call 55; refine (H8.out _).mono ?_; rintro e w3 ⟨rfl, rfl⟩))
  obtain ⟨⟨g0, g1, g2⟩, c0, c1, c2, c3⟩ := hS2
  go_wp2_with fail
  refine (HI.out _ _ _ hs _).mono ?_
  rintro e w1 ⟨rfl, rfl⟩
  go_wp2_with fail
  go_ret
  exact Did.mk rfl KA.2
set_option maxRecDepth 4000 in
set_option maxHeartbeats 2000000 in
theorem pr_out (g : Gr) (x : Wh) (hg : Whn.rgrid g = true) (n1 : ((x.w : Int) == 0) = false) (n2 : ((x.d : Int) == 0) = false) (lw ld : Nat) (H32 : Hid (∀ w, Calls Try.prog 54 #[.int .u32 (x.w : Int)] w (fun e w' => e = .returned (.int .i64 (lw : Int)) ∧ w = w'))) (H8 : Hid (∀ w, Calls Try.prog 55 #[.int .u8 (x.d : Int)] w (fun e w' => e = .returned (.int .i64 (ld : Int)) ∧ w = w'))) (t1 : decide (g.w < (lw : Int)) = false) (t2 : decide (g.d < (ld : Int)) = false) (hl : 1 ≤ x.l) (hl2 : x.l < 9223372036854775808) (gs : 1 ≤ g.s ∧ g.s ≤ 96) (hs : x.s < 0 ∨ g.s - x.l < x.s) (w : World) : Calls Try.prog 42 #[gv g, wv x] w (Did (.bool false) w) := by
  have HT := hid (fun w => p_RightGrid g w)
  rw [hg] at HT
  have HO := hid (fun n a b h w => p_out n a b h w)
  obtain ⟨gs1, gs2⟩ := gs
  obtain ⟨A, W, hA, hW, K, hb0⟩ := (Mem.nil w).one (gc g) 23
  obtain ⟨B, V, hB, hV, K1, hb1⟩ := K.out.one (wc x) 30
  obtain ⟨g0, g1, g2⟩ := K1.out.gr (B := A) (g := g) (by simp)
  obtain ⟨c0, c1, c2, c3⟩ := K1.out.wh (B := B) (x := x) (by simp)
  clear K hb0 hb1 hg
  go_enter Try.func42, Try.ntmps42
  go_wp2_with fail
  refine (HT.out _).mono ?_
  rintro e w1 ⟨rfl, b1⟩
  have K2 := K1.out.next b1
  clear g0 g1 g2 c0 c1 c2 c3
  obtain ⟨g0, g1, g2⟩ := K2.gr (B := A) (g := g) (by simp)
  obtain ⟨c0, c1, c2, c3⟩ := K2.wh (B := B) (x := x) (by simp)
  go_wp2_with fail
  have KA := K2.drew
  have hS2 := And.intro (KA.gr (B := A) (g := g) (by simp)) (KA.wh (B := B) (x := x) (by simp))
  go_region_held3 (fun X => (X.cell? ⟨A, 0, none⟩ = some (.int .i64 g.w) ∧ X.cell? ⟨A, 1, none⟩ = some (.int .i64 g.d) ∧ X.cell? ⟨A, 2, none⟩ = some (.int .i64 g.s)) ∧ (X.cell? ⟨B, 0, none⟩ = some (.int .u32 (x.w : Int)) ∧ X.cell? ⟨B, 1, none⟩ = some (.int .u8 (x.d : Int)) ∧ X.cell? ⟨B, 2, none⟩ = some (.int .i64 x.s) ∧ X.cell? ⟨B, 3, none⟩ = some (.int .i64 x.l))) (exact hS2) (first | (go_at_call 54; refine (H32.out _).mono ?_; rintro e w3 ⟨rfl, rfl⟩) | (go_at_call 55; refine (H8.out _).mono ?_; rintro e w3 ⟨rfl, rfl⟩))
  obtain ⟨⟨g0, g1, g2⟩, c0, c1, c2, c3⟩ := hS2
  go_wp2_with fail
  refine (HO.out _ _ _ hs _).mono ?_
  rintro e w1 ⟨rfl, rfl⟩
  go_wp2_with fail
  go_ret
  exact Did.mk rfl KA.2
theorem p_Right (g : Gr) (x : Wh) (hx : Wok x) (w : World) : Calls Try.prog 42 #[gv g, wv x] w (Did (.bool (Whn.right g x)) w) := by
  obtain ⟨hx1, hx2, hx3, hx4⟩ := hx
  have H32 := hid (fun w => p_Len32 x.w hx1 w)
  have H8 := hid (fun w => p_Len8 x.d hx2 w)
  have HR := Whn.right_iff g x
  have HF : ∀ p : Prop, ¬ p → (Whn.right g x = true → p) → false = Whn.right g x := fun p hp h => by
    cases hr : Whn.right g x with
    | false => rfl
    | true => exact absurd (h hr) hp
  cases hT : Whn.rgrid g with
  | false => exact HF (Whn.rgrid g = true) (by rw [hT]; decide) (fun h => (HR.1 h).1) ▸ pr_grid g x hT w
  | true =>
    obtain ⟨q1, q2, q3, q4, q5, q6⟩ := (Whn.rgrid_iff g).1 hT
    by_cases hw0 : x.w = 0
    · exact HF (x.w ≠ 0) (by omega) (fun h => (HR.1 h).2.1) ▸ pr_w0 g x hT (by rw [nat_beq, decide_eq_true hw0]) w
    have n1 : ((x.w : Int) == 0) = false := by rw [nat_beq, decide_eq_false hw0]
    by_cases hd0 : x.d = 0
    · exact HF (x.d ≠ 0) (by omega) (fun h => (HR.1 h).2.2.1) ▸ pr_d0 g x hT n1 (by rw [nat_beq, decide_eq_true hd0]) w
    have n2 : ((x.d : Int) == 0) = false := by rw [nat_beq, decide_eq_false hd0]
    have L1 := blen_iff x.w g.w.toNat
    have L2 := blen_iff x.d g.d.toNat
    generalize blen x.w = lw at *
    generalize blen x.d = ld at *
    by_cases hlw : g.w < (lw : Int)
    · exact HF (x.w < 2 ^ g.w.toNat) (fun h => by have := L1.2 h; omega) (fun h => (HR.1 h).2.2.2.2.2.2.1) ▸ pr_lw g x hT n1 n2 lw H32 (decide_eq_true hlw) w
    by_cases hld : g.d < (ld : Int)
    · exact HF (x.d < 2 ^ g.d.toNat) (fun h => by have := L2.2 h; omega) (fun h => (HR.1 h).2.2.2.2.2.2.2) ▸ pr_ld g x hT n1 n2 lw ld H32 H8 (decide_eq_false hlw) (decide_eq_true hld) w
    by_cases hl : 1 ≤ x.l
    · by_cases hs : 0 ≤ x.s ∧ x.s ≤ g.s - x.l
      · have hr : true = Whn.right g x := (HR.2 ⟨hT, hw0, hd0, hs.1, hl, by omega, L1.1 (by omega), L2.1 (by omega)⟩).symm
        exact hr ▸ pr_in g x hT n1 n2 lw ld H32 H8 (decide_eq_false hlw) (decide_eq_false hld) hl ⟨q5, q6⟩ hs w
      · exact HF (0 ≤ x.s ∧ x.s ≤ g.s - x.l) hs (fun h => by have := HR.1 h; omega) ▸ pr_out g x hT n1 n2 lw ld H32 H8 (decide_eq_false hlw) (decide_eq_false hld) hl hx4.2 ⟨q5, q6⟩ (by omega) w
    · exact HF (1 ≤ x.l) hl (fun h => (HR.1 h).2.2.2.2.1) ▸ pr_l g x hT n1 n2 lw ld H32 H8 (decide_eq_false hlw) (decide_eq_false hld) (decide_eq_false hl) w
end Go.Proofs.Yteldcaebbmaemaa
