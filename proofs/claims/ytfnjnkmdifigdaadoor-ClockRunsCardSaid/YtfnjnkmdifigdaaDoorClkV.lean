/- Contracts of the document's own answer for layer 10 (clock): Moment. -/
import Derived.Test.YtfnjnkmdifigdaaDoorClkS
import Derived.Test.YtfnjnkmdifigdaaDoorWhnS
namespace Go.Proofs.YtfnjnkmdifigdaaDoor
open Go.RowKit
open Whn (Gr Wh)

theorem wi_nat (n : Nat) : Dig.wi (n : Int) = Dig.wd n := by
  unfold Dig.wi
  rw [if_neg (by omega), Int.natAbs_natCast]
/-- a moment's parts -/
theorem mom_parts {g : Gr} {m : Int} (h : Whn.isM g m = true) : ∃ a b c : Nat, Whn.wk g m = a ∧ Whn.dy g m = b ∧ Whn.sl g m = c ∧ a < 20 ∧ b < 7 ∧ c < 96 := by
  obtain ⟨hin, _⟩ := Whn.num_back h
  unfold Whn.inG at hin
  rw [Bool.and_eq_true, decide_eq_true_iff] at hin
  obtain ⟨hg, h1, h2, h3, h4, h5, h6⟩ := hin
  obtain ⟨g1, g2, g3, g4, g5, g6⟩ := (Whn.rgrid_iff g).1 hg
  obtain ⟨a, ha⟩ := Int.eq_ofNat_of_zero_le h1
  obtain ⟨b, hb⟩ := Int.eq_ofNat_of_zero_le h3
  obtain ⟨c, hc⟩ := Int.eq_ofNat_of_zero_le h5
  exact ⟨a, b, c, ha, hb, hc, by omega, by omega, by omega⟩
set_option maxHeartbeats 2000000 in
theorem r10_Moment (g : Gr) (m : Int) (w : World) : Calls Tryd.prog 15 #[gv g, .int .i64 m] w (Did (txt (Clk.mt g m)) w) := by
  have HO := hid (fun w => r_Of g m w)
  obtain ⟨B, W, hB, hW, K, hb0⟩ := (Mem.nil w).one (gc g) 23
  obtain ⟨c0, c1, c2⟩ := K.out.gr (B := B) (g := g) (by simp)
  by_cases hm : Whn.isM g m = true
  · obtain ⟨a, b, c, ha, hb, hc, la, lb, lc⟩ := mom_parts hm
    have Hr := hid (show Clk.mt g m = Dig.wd (a + 1) ++ 32 :: Clk.letters.getD b 0 :: 32 :: Dig.wd c by
      unfold Clk.mt
      rw [if_pos hm, ha, hb, hc]
      rfl)
    have HO1 := hid (show ∀ w, Calls Tryd.prog 35 #[gv g, .int .i64 m] w (Did (.tuple #[.int .i64 (a : Int), .int .i64 (b : Int), .int .i64 (c : Int), .bool true]) w) from fun w => by
      have := HO.out w
      unfold ofV at this
      rw [if_pos hm, ha, hb, hc] at this
      exact this)
    have HP := hid (fun (n : Nat) (hn : n < 1000) w => r_Print (n : Int) (by omega) (by omega) w)
    have He := hid (let_ext b lb)
    have HP1 := hid (fun w => HP.out (a + 1) (by omega) w)
    have HP2 := hid (fun w => HP.out c (by omega) w)
    rw [wi_nat] at HP1 HP2
    have z1 : (bs (Dig.wd (a + 1))).size ≤ 20 := by rw [bs_size]; exact Dig.wd_length_le _
    have z2 : (bs (Dig.wd c)).size ≤ 20 := by rw [bs_size]; exact Dig.wd_length_le _
    generalize Dig.wd (a + 1) = ta at *
    generalize Dig.wd c = tc at *
    clear HO HP hm ha hb hc
    go_enter Tryd.func15, Tryd.ntmps15
    go_wp2_with fail
    refine (HO1.out _).mono ?_
    rintro e w1 ⟨rfl, b1⟩
    have K1 := K.out.next b1
    go_wp2_with fail
    have hd0 : Below w.heap.size w w1.drew := (K1.2).drew
    have ez1 : (bs (ta ++ [32])).size ≤ 21 := by rw [bs_size] at z1 ⊢; simp; omega
    have ez2 : (bs [Clk.letters.getD b 0]).size = 1 := rfl
    have ez3 : (bs (ta ++ [32, Clk.letters.getD b 0])).size ≤ 22 := by rw [bs_size] at z1 ⊢; simp; omega
    have ez4 : (bs (ta ++ [32, Clk.letters.getD b 0, 32])).size ≤ 23 := by rw [bs_size] at z1 ⊢; simp; omega
    have a1 := bs_append ta [32]
    have a2 : bs (ta ++ [32]) ++ bs [Clk.letters.getD b 0] = bs (ta ++ [32, Clk.letters.getD b 0]) := by rw [bs_append]; simp
    have a3 : bs (ta ++ [32, Clk.letters.getD b 0]) ++ bs [32] = bs (ta ++ [32, Clk.letters.getD b 0, 32]) := by rw [bs_append]; simp
    have a4 : bs (ta ++ [32, Clk.letters.getD b 0, 32]) ++ bs tc = bs (ta ++ 32 :: Clk.letters.getD b 0 :: 32 :: tc) := by rw [bs_append]; simp
    generalize Clk.letters.getD b 0 = lt at *
    refine wp_region_held_drew (S := fun X => Below w.heap.size w X) (by kernel_rfl) hd0 (fun hHeld => ?_)
    refine takeH 0 19 (.int .i64 (a : Int)) rfl rfl (by kernel_rfl) (by kernel_rfl) (by kernel_rfl) (fun _ _ _ h => h) (by kernel_rfl) (fun X hX => by clear hX; first | rfl | go_simp) hHeld ?_
    simp only [Act.put, List.setIfInBounds_toArray, List.set_cons_zero, List.set_cons_succ]
    refine takeH 1 20 (.int .i64 ((a : Int) + 1)) rfl rfl (by kernel_rfl) (by kernel_rfl) (by kernel_rfl) (fun _ _ _ h => h) (by kernel_rfl) (fun X hX => by clear hX; go_simp; first | rfl | (rw [IntKind.wrap_i64]; omega)) hHeld ?_
    simp only [Act.put, List.setIfInBounds_toArray, List.set_cons_zero, List.set_cons_succ]
    refine takeH 4 23 (.int .i64 (b : Int)) rfl rfl (by kernel_rfl) (by kernel_rfl) (by kernel_rfl) (fun _ _ _ h => h) (by kernel_rfl) (fun X hX => by clear hX; first | rfl | go_simp) hHeld ?_
    simp only [Act.put, List.setIfInBounds_toArray, List.set_cons_zero, List.set_cons_succ]
    refine takeH 5 24 (.int .i64 (b : Int)) rfl rfl (by kernel_rfl) (by kernel_rfl) (by kernel_rfl) (fun _ _ _ h => h) (by kernel_rfl) (fun X hX => by clear hX; first | rfl | go_simp) hHeld ?_
    simp only [Act.put, List.setIfInBounds_toArray, List.set_cons_zero, List.set_cons_succ]
    refine takeH 6 25 (.int .i64 ((b : Int) + 1)) rfl rfl (by kernel_rfl) (by kernel_rfl) (by kernel_rfl) (fun _ _ _ h => h) (by kernel_rfl) (fun X hX => by clear hX; go_simp; first | rfl | (rw [IntKind.wrap_i64]; omega)) hHeld ?_
    simp only [Act.put, List.setIfInBounds_toArray, List.set_cons_zero, List.set_cons_succ]
    refine takeH 7 26 (txt [lt]) rfl rfl (by kernel_rfl) (by kernel_rfl) (by kernel_rfl) (fun _ _ _ h => h) (by kernel_rfl) (fun X hX => by clear hX; have he := He.out; go_simp; rw [if_pos (by omega), if_pos (by omega)]) hHeld ?_
    simp only [Act.put, List.setIfInBounds_toArray, List.set_cons_zero, List.set_cons_succ]
    refine takeH 10 29 (.int .i64 (c : Int)) rfl rfl (by kernel_rfl) (by kernel_rfl) (by kernel_rfl) (fun _ _ _ h => h) (by kernel_rfl) (fun X hX => by clear hX; first | rfl | go_simp) hHeld ?_
    simp only [Act.put, List.setIfInBounds_toArray, List.set_cons_zero, List.set_cons_succ]
    refine wpAnyH_ready (rs := [2]) (by kernel_rfl) (by simp) ?_
    refine AllReadyH.cons rfl (fun KK hK => ?_) AllReadyH.nil
    simp only [List.getElem_toArray, List.getElem_cons_succ, List.getElem_cons_zero]
    go_simp
    refine (HP1.out _).mono ?_
    rintro e w2 ⟨rfl, p1⟩
    have hd1 := hd0.trans (p1.mono hd0.size)
    refine hK.out _ _ hd1 (fun hHeld => ?_)
    clear hK KK
    try simp only [Act.put, List.setIfInBounds_toArray, List.set_cons_zero, List.set_cons_succ]
    refine takeH 3 22 (txt (ta ++ [32])) rfl rfl (by kernel_rfl) (by kernel_rfl) (by kernel_rfl) (fun _ _ _ h => h) (by kernel_rfl) (fun X hX => by clear hX; have q := a1; go_simp; first | rfl | (rw [if_neg (by omega)]; exact congrArg (fun z => Result.ok (Next.value (Value.string z)) X) q) | omega) hHeld ?_
    simp only [Act.put, List.setIfInBounds_toArray, List.set_cons_zero, List.set_cons_succ]
    refine takeH 8 27 (txt (ta ++ [32, lt])) rfl rfl (by kernel_rfl) (by kernel_rfl) (by kernel_rfl) (fun _ _ _ h => h) (by kernel_rfl) (fun X hX => by clear hX; have q := a2; go_simp; first | rfl | (rw [if_neg (by omega)]; exact congrArg (fun z => Result.ok (Next.value (Value.string z)) X) q) | omega) hHeld ?_
    simp only [Act.put, List.setIfInBounds_toArray, List.set_cons_zero, List.set_cons_succ]
    refine takeH 9 28 (txt (ta ++ [32, lt, 32])) rfl rfl (by kernel_rfl) (by kernel_rfl) (by kernel_rfl) (fun _ _ _ h => h) (by kernel_rfl) (fun X hX => by clear hX; have q := a3; go_simp; first | rfl | (rw [if_neg (by omega)]; exact congrArg (fun z => Result.ok (Next.value (Value.string z)) X) q) | omega) hHeld ?_
    simp only [Act.put, List.setIfInBounds_toArray, List.set_cons_zero, List.set_cons_succ]
    refine wpAnyH_ready (rs := [11]) (by kernel_rfl) (by simp) ?_
    refine AllReadyH.cons rfl (fun KK hK => ?_) AllReadyH.nil
    simp only [List.getElem_toArray, List.getElem_cons_succ, List.getElem_cons_zero]
    go_simp
    refine (HP2.out _).mono ?_
    rintro e w3 ⟨rfl, p2⟩
    have hd2 := hd1.trans (p2.mono hd1.size)
    refine hK.out _ _ hd2 (fun hHeld => ?_)
    clear hK KK
    try simp only [Act.put, List.setIfInBounds_toArray, List.set_cons_zero, List.set_cons_succ]
    refine takeH 12 31 (txt (ta ++ 32 :: lt :: 32 :: tc)) rfl rfl (by kernel_rfl) (by kernel_rfl) (by kernel_rfl) (fun _ _ _ h => h) (by kernel_rfl) (fun X hX => by clear hX; have q := a4; go_simp; first | rfl | (rw [if_neg (by omega)]; exact congrArg (fun z => Result.ok (Next.value (Value.string z)) X) q) | omega) hHeld ?_
    simp only [Act.put, List.setIfInBounds_toArray, List.set_cons_zero, List.set_cons_succ]
    refine takeH 13 4 (txt (ta ++ 32 :: lt :: 32 :: tc)) rfl rfl (by kernel_rfl) (by kernel_rfl) (by kernel_rfl) (fun _ _ _ h => h) (by kernel_rfl) (fun X hX => by clear hX; first | rfl | go_simp) hHeld ?_
    simp only [Act.put, List.setIfInBounds_toArray, List.set_cons_zero, List.set_cons_succ]
    refine wpAnyH_done (by kernel_rfl) ?_ _
    go_wp2_with fail
    go_ret
    exact Did.mk (by rw [Hr.out]; rfl) hd2
  · have Hr := hid (show Clk.mt g m = [] by unfold Clk.mt; rw [if_neg hm])
    have HO1 := hid (show ∀ w, Calls Tryd.prog 35 #[gv g, .int .i64 m] w (Did (.tuple #[.int .i64 0, .int .i64 0, .int .i64 0, .bool false]) w) from fun w => by
      have := HO.out w
      unfold ofV at this
      rw [if_neg hm] at this
      exact this)
    clear HO hm
    go_enter Tryd.func15, Tryd.ntmps15
    go_wp2_with fail
    refine (HO1.out _).mono ?_
    rintro e w1 ⟨rfl, b1⟩
    go_wp2_with fail
    go_ret
    exact Did.mk (by rw [Hr.out]; rfl) (K.out.next b1).2
end Go.Proofs.YtfnjnkmdifigdaaDoor
