/- Contracts of layer 10 (clock): Print, Moment. -/
import Derived.Test.YtfnjnkmdifigdaaDoorClkH
namespace Go.Proofs.YtfnjnkmdifigdaaDoor
open Go.RowKit
open Whn (Gr Wh)

set_option maxRecDepth 10000 in
set_option maxHeartbeats 2000000 in
theorem p10_Print (g : Gr) (x : Wh) (hx : Wok x) (w : World) (hE : Env w) : Calls Tryd.prog 10 #[gv g, wv x] w (Did (txt (Clk.pt g x)) w) := by
  have HR := hid (fun w => p_Right g x hx w)
  obtain ⟨A, W, hA, hW, K, hb0⟩ := (Mem.nil w).one (gc g) 23
  obtain ⟨B, V, hB, hV, K1, hb1⟩ := K.out.one (wc x) 26
  obtain ⟨g0, g1, g2⟩ := K1.out.gr (B := A) (g := g) (by simp)
  obtain ⟨c0, c1, c2, c3⟩ := K1.out.wh (B := B) (x := x) (by simp)
  have HE := hid hE
  clear K hb0 hb1 hE
  cases hr : Whn.right g x with
  | false =>
    rw [hr] at HR
    have Hr := hid (show Clk.pt g x = [] from (Clk.pt_nil g x).2 hr)
    clear hr
    go_enter Tryd.func10, Tryd.ntmps10
    go_wp2_with fail
    refine (HR.out _).mono ?_
    rintro e w1 ⟨rfl, b1⟩
    have K2 := K1.out.next b1
    go_wp2_with fail
    go_ret
    exact Did.mk (by rw [Hr.out]; rfl) K2.2
  | true =>
    rw [hr] at HR
    obtain ⟨h1, h2, h3, h4, h5, h6, h7, h8⟩ := Clk.right_nums hr
    have Hr := hid (show Clk.pt g x = Clk.wk x.w ++ 32 :: (Clk.dt x.d ++ 32 :: (Dig.wd x.s.toNat ++ 43 :: Dig.wd x.l.toNat)) by unfold Clk.pt Clk.tt; rw [if_pos hr])
    have HW := hid (fun w hE => p_Weeks x.w (by omega) w hE)
    have HD := hid (fun w => p_Days x.d (by omega) w)
    have HP1 := hid (show ∀ w, Calls Tryd.prog 25 #[.int .i64 x.s] w (Did (txt (Dig.wd x.s.toNat)) w) from fun w => by
      have := d_Print x.s (by omega) (by omega) w
      rw [← h5, wi_nat] at this
      rw [← h5]
      exact this)
    have HP2 := hid (show ∀ w, Calls Tryd.prog 25 #[.int .i64 x.l] w (Did (txt (Dig.wd x.l.toNat)) w) from fun w => by
      have := d_Print x.l (by omega) (by omega) w
      rw [← h7, wi_nat] at this
      rw [← h7]
      exact this)
    have za : (bs (Dig.wd x.s.toNat)).size ≤ 20 := by rw [bs_size]; exact Dig.wd_length_le _
    have zb : (bs (Dig.wd x.l.toNat)).size ≤ 20 := by rw [bs_size]; exact Dig.wd_length_le _
    have zw := Clk.wk_len x.w
    have zd := Clk.dt_len x.d
    generalize Dig.wd x.s.toNat = ts at *
    generalize Dig.wd x.l.toNat = tl at *
    generalize Clk.wk x.w = tw at *
    generalize Clk.dt x.d = td at *
    clear h1 h2 h3 h4 h5 h6 h7 h8 hr
    go_enter Tryd.func10, Tryd.ntmps10
    go_wp2_with fail
    refine (HR.out _).mono ?_
    rintro e w1 ⟨rfl, b1⟩
    have K2 := K1.out.next b1
    clear g0 g1 g2 c0 c1 c2 c3
    obtain ⟨g0, g1, g2⟩ := K2.gr (B := A) (g := g) (by simp)
    obtain ⟨c0, c1, c2, c3⟩ := K2.wh (B := B) (x := x) (by simp)
    go_wp2_with fail
    clear g0 g1 g2 c0 c1 c2 c3
    have ez1 : (bs (ts ++ [43])).size ≤ 21 := by rw [bs_size] at za ⊢; simp; omega
    have ez2 : (bs (ts ++ 43 :: tl)).size ≤ 41 := by rw [bs_size] at za zb ⊢; simp; omega
    have a1 := bs_append ts [43]
    have a2 : bs (ts ++ [43]) ++ bs tl = bs (ts ++ 43 :: tl) := by rw [bs_append]; simp
    refine wp_region_held_drew (S := fun X => Mem w X [(B, wc x, 26), (A, gc g, 23)]) (by kernel_rfl) K2.drew (fun hHeld => ?_)
    refine takeH 0 10 (.pointer (some ⟨B, 2, none⟩)) rfl rfl (by kernel_rfl) (by kernel_rfl) (by kernel_rfl) (fun _ _ _ h => h) (by kernel_rfl) (fun X hX => by clear hX; first | rfl | go_simp) hHeld ?_
    simp only [Act.put, List.setIfInBounds_toArray, List.set_cons_zero, List.set_cons_succ]
    refine takeH 1 11 (.int .i64 x.s) rfl rfl (by kernel_rfl) (by kernel_rfl) (by kernel_rfl) (fun _ _ _ h => h) (by kernel_rfl) (fun X hX => by obtain ⟨c0, c1, c2, c3⟩ := hX.wh (B := B) (x := x) (by simp); clear hX; go_simp) hHeld ?_
    simp only [Act.put, List.setIfInBounds_toArray, List.set_cons_zero, List.set_cons_succ]
    refine takeH 4 14 (.pointer (some ⟨B, 3, none⟩)) rfl rfl (by kernel_rfl) (by kernel_rfl) (by kernel_rfl) (fun _ _ _ h => h) (by kernel_rfl) (fun X hX => by clear hX; first | rfl | go_simp) hHeld ?_
    simp only [Act.put, List.setIfInBounds_toArray, List.set_cons_zero, List.set_cons_succ]
    refine takeH 5 15 (.int .i64 x.l) rfl rfl (by kernel_rfl) (by kernel_rfl) (by kernel_rfl) (fun _ _ _ h => h) (by kernel_rfl) (fun X hX => by obtain ⟨c0, c1, c2, c3⟩ := hX.wh (B := B) (x := x) (by simp); clear hX; go_simp) hHeld ?_
    simp only [Act.put, List.setIfInBounds_toArray, List.set_cons_zero, List.set_cons_succ]
    refine wpAnyH_ready (rs := [2]) (by kernel_rfl) (by simp) ?_
    refine AllReadyH.cons rfl (fun KK hK => ?_) AllReadyH.nil
    simp only [List.getElem_toArray, List.getElem_cons_succ, List.getElem_cons_zero]
    go_simp
    refine (HP1.out _).mono ?_
    rintro e w2 ⟨rfl, p1⟩
    have K3 := K2.drew.next p1
    refine hK.out _ _ K3 (fun hHeld => ?_)
    clear hK KK
    try simp only [Act.put, List.setIfInBounds_toArray, List.set_cons_zero, List.set_cons_succ]
    refine takeH 3 13 (txt (ts ++ [43])) rfl rfl (by kernel_rfl) (by kernel_rfl) (by kernel_rfl) (fun _ _ _ h => h) (by kernel_rfl) (fun X hX => by clear hX; have q := a1; go_simp; first | rfl | (rw [if_neg (by omega)]; exact congrArg (fun z => Result.ok (Next.value (Value.string z)) X) q) | omega) hHeld ?_
    simp only [Act.put, List.setIfInBounds_toArray, List.set_cons_zero, List.set_cons_succ]
    refine wpAnyH_ready (rs := [6]) (by kernel_rfl) (by simp) ?_
    refine AllReadyH.cons rfl (fun KK hK => ?_) AllReadyH.nil
    simp only [List.getElem_toArray, List.getElem_cons_succ, List.getElem_cons_zero]
    go_simp
    refine (HP2.out _).mono ?_
    rintro e w3 ⟨rfl, p2⟩
    have K4 := K3.next p2
    refine hK.out _ _ K4 (fun hHeld => ?_)
    clear hK KK
    try simp only [Act.put, List.setIfInBounds_toArray, List.set_cons_zero, List.set_cons_succ]
    refine takeH 7 17 (txt (ts ++ 43 :: tl)) rfl rfl (by kernel_rfl) (by kernel_rfl) (by kernel_rfl) (fun _ _ _ h => h) (by kernel_rfl) (fun X hX => by clear hX; have q := a2; go_simp; first | rfl | (rw [if_neg (by omega)]; exact congrArg (fun z => Result.ok (Next.value (Value.string z)) X) q) | omega) hHeld ?_
    simp only [Act.put, List.setIfInBounds_toArray, List.set_cons_zero, List.set_cons_succ]
    refine takeH 8 5 (txt (ts ++ 43 :: tl)) rfl rfl (by kernel_rfl) (by kernel_rfl) (by kernel_rfl) (fun _ _ _ h => h) (by kernel_rfl) (fun X hX => by clear hX; first | rfl | go_simp) hHeld ?_
    simp only [Act.put, List.setIfInBounds_toArray, List.set_cons_zero, List.set_cons_succ]
    refine wpAnyH_done (by kernel_rfl) ?_ _
    clear a1 a2
    go_wp2_with fail
    refine wp_region_held_drew (S := fun X => Mem w X [(B, wc x, 26), (A, gc g, 23)]) (by kernel_rfl) K4.drew (fun hHeld => ?_)
    refine takeH 0 18 (.pointer (some ⟨B, 0, none⟩)) rfl rfl (by kernel_rfl) (by kernel_rfl) (by kernel_rfl) (fun _ _ _ h => h) (by kernel_rfl) (fun X hX => by clear hX; first | rfl | go_simp) hHeld ?_
    simp only [Act.put, List.setIfInBounds_toArray, List.set_cons_zero, List.set_cons_succ]
    refine takeH 1 19 (.int .u32 (x.w : Int)) rfl rfl (by kernel_rfl) (by kernel_rfl) (by kernel_rfl) (fun _ _ _ h => h) (by kernel_rfl) (fun X hX => by obtain ⟨c0, c1, c2, c3⟩ := hX.wh (B := B) (x := x) (by simp); clear hX; go_simp) hHeld ?_
    simp only [Act.put, List.setIfInBounds_toArray, List.set_cons_zero, List.set_cons_succ]
    refine takeH 3 21 (.pointer (some ⟨B, 1, none⟩)) rfl rfl (by kernel_rfl) (by kernel_rfl) (by kernel_rfl) (fun _ _ _ h => h) (by kernel_rfl) (fun X hX => by clear hX; first | rfl | go_simp) hHeld ?_
    simp only [Act.put, List.setIfInBounds_toArray, List.set_cons_zero, List.set_cons_succ]
    refine takeH 4 22 (.int .u8 (x.d : Int)) rfl rfl (by kernel_rfl) (by kernel_rfl) (by kernel_rfl) (fun _ _ _ h => h) (by kernel_rfl) (fun X hX => by obtain ⟨c0, c1, c2, c3⟩ := hX.wh (B := B) (x := x) (by simp); clear hX; go_simp) hHeld ?_
    simp only [Act.put, List.setIfInBounds_toArray, List.set_cons_zero, List.set_cons_succ]
    refine takeH 6 24 (txt (ts ++ 43 :: tl)) rfl rfl (by kernel_rfl) (by kernel_rfl) (by kernel_rfl) (fun _ _ _ h => h) (by kernel_rfl) (fun X hX => by clear hX; first | rfl | go_simp) hHeld ?_
    simp only [Act.put, List.setIfInBounds_toArray, List.set_cons_zero, List.set_cons_succ]
    refine wpAnyH_ready (rs := [2]) (by kernel_rfl) (by simp) ?_
    refine AllReadyH.cons rfl (fun KK hK => ?_) AllReadyH.nil
    simp only [List.getElem_toArray, List.getElem_cons_succ, List.getElem_cons_zero]
    go_simp
    refine (HW.out _ (HE.out.next K4.drew.2)).mono ?_
    rintro e w4 ⟨rfl, p3⟩
    have K5 := K4.drew.next p3
    refine hK.out _ _ K5 (fun hHeld => ?_)
    clear hK KK
    try simp only [Act.put, List.setIfInBounds_toArray, List.set_cons_zero, List.set_cons_succ]
    refine wpAnyH_ready (rs := [5]) (by kernel_rfl) (by simp) ?_
    refine AllReadyH.cons rfl (fun KK hK => ?_) AllReadyH.nil
    simp only [List.getElem_toArray, List.getElem_cons_succ, List.getElem_cons_zero]
    go_simp
    refine (HD.out _).mono ?_
    rintro e w5 ⟨rfl, p4⟩
    have K6 := K5.next p4
    refine hK.out _ _ K6 (fun hHeld => ?_)
    clear hK KK
    try simp only [Act.put, List.setIfInBounds_toArray, List.set_cons_zero, List.set_cons_succ]
    refine wpAnyH_ready (rs := [7]) (by kernel_rfl) (by simp) ?_
    refine AllReadyH.cons rfl (fun KK hK => ?_) AllReadyH.nil
    simp only [List.getElem_toArray, List.getElem_cons_succ, List.getElem_cons_zero]
    go_simp
    have K7 := K6.next (below_alloc w5 (.cells #[txt tw, txt td, txt (ts ++ 43 :: tl)] 9))
    have hown := World.ownsRow_lit (base := w5.heap.size) (e := 9) (size := 1) w5 #[txt tw, txt td, txt (ts ++ 43 :: tl)] 3 (Nat.le_refl _) (by unfold maxLen; omega) (by simp)
    have HJ := hid (p_join (ls := [tw, td, ts ++ 43 :: tl]) hown 32 (by simp) (by rw [bs_size] at ez2; simp [List.intercalate]; simp at ez2; omega))
    clear hown
    refine hK.out _ _ K7 (fun hHeld => ?_)
    clear hK KK
    try simp only [Act.put, List.setIfInBounds_toArray, List.set_cons_zero, List.set_cons_succ]
    refine wpAnyH_ready (rs := [8]) (by kernel_rfl) (by simp) ?_
    refine AllReadyH.cons rfl (fun KK hK => ?_) AllReadyH.nil
    simp only [List.getElem_toArray, List.getElem_cons_succ, List.getElem_cons_zero]
    go_simp
    refine (HJ.out).mono ?_
    rintro e w6 ⟨rfl, p5⟩
    have K8 := K7.next p5
    refine hK.out _ _ K8 (fun hHeld => ?_)
    clear hK KK
    try simp only [Act.put, List.setIfInBounds_toArray, List.set_cons_zero, List.set_cons_succ]
    have hfin : [(32 : UInt8)].intercalate [tw, td, ts ++ 43 :: tl] = tw ++ 32 :: (td ++ 32 :: (ts ++ 43 :: tl)) := by simp [List.intercalate]
    rw [hfin]
    refine takeH 9 4 (txt (tw ++ 32 :: (td ++ 32 :: (ts ++ 43 :: tl)))) rfl rfl (by kernel_rfl) (by kernel_rfl) (by kernel_rfl) (fun _ _ _ h => h) (by kernel_rfl) (fun X hX => by clear hX; first | rfl | go_simp) hHeld ?_
    simp only [Act.put, List.setIfInBounds_toArray, List.set_cons_zero, List.set_cons_succ]
    refine wpAnyH_done (by kernel_rfl) ?_ _
    go_wp2_with fail
    go_ret
    exact Did.mk (by rw [Hr.out]; rfl) K8.2
theorem wk_pow (a : Nat) (ha : a < 20) : Clk.wk (2 ^ a) = Dig.wd (a + 1) := by
  have hlt : 2 ^ a < 2 ^ 20 := Nat.pow_lt_pow_right (by decide) ha
  have h := Clk.wr_step (v := 2 ^ a) (v' := 0) (f := a) (e := a + 1) hlt (by omega)
    (fun j hj => by rw [Nat.testBit_two_pow, decide_eq_false (by omega)])
    (fun j h1 h2 => by rw [Nat.testBit_two_pow, decide_eq_true (by omega)])
    (by rw [Nat.testBit_two_pow, decide_eq_false (by omega)])
    (fun j => by
      rw [Nat.zero_testBit, Nat.testBit_two_pow]
      by_cases hj : a = j
      · subst hj; rw [decide_eq_true rfl, decide_eq_true (show a ≤ a ∧ a < a + 1 by omega)]; rfl
      · rw [decide_eq_false hj, Bool.false_and])
  unfold Clk.wk
  rw [Nat.mod_eq_of_lt hlt, h, Clk.wr_zero]
  unfold Clk.wt
  rw [show [44].intercalate ([(a + 1, a + 1)].map Clk.rt) = Clk.rt (a + 1, a + 1) by simp [List.intercalate]]
  unfold Clk.rt
  rw [if_neg (by simp)]
theorem dt_pow : ∀ b, b < 7 → Clk.dt (2 ^ b) = [Clk.letters.getD b 0] := by decide +kernel
set_option maxRecDepth 10000 in
set_option maxHeartbeats 2000000 in
theorem p10_Moment (g : Gr) (m : Int) (w : World) (hE : Env w) : Calls Tryd.prog 14 #[gv g, .int .i64 m] w (Did (txt (Clk.mt g m)) w) := by
  have HO := hid (fun w => p_Of g m w)
  obtain ⟨B, W, hB, hW, K, hb0⟩ := (Mem.nil w).one (gc g) 23
  obtain ⟨c0, c1, c2⟩ := K.out.gr (B := B) (g := g) (by simp)
  have HE := hid hE
  clear hE
  by_cases hm : Whn.isM g m = true
  · obtain ⟨a, b, c, ha, hb, hc, la, lb, lc⟩ := mom_parts hm
    have Hr := hid (show Clk.mt g m = Dig.wd (a + 1) ++ 32 :: Clk.letters.getD b 0 :: 32 :: Dig.wd c by
      unfold Clk.mt
      rw [if_pos hm, ha, hb, hc]
      rfl)
    have HO1 := hid (show ∀ w, Calls Tryd.prog 34 #[gv g, .int .i64 m] w (Did (.tuple #[.int .i64 (a : Int), .int .i64 (b : Int), .int .i64 (c : Int), .bool true]) w) from fun w => by
      have := HO.out w
      unfold ofV at this
      rw [if_pos hm, ha, hb, hc] at this
      exact this)
    have pa : 2 ^ a < 2 ^ 20 := Nat.pow_lt_pow_right (by decide) la
    have pb : 2 ^ b < 2 ^ 7 := Nat.pow_lt_pow_right (by decide) lb
    have ea : (2 : Int) ^ a % 4294967296 = ((2 ^ a : Nat) : Int) := by
      rw [show (2 : Int) ^ a = ((2 ^ a : Nat) : Int) by rw [Int.natCast_pow]; rfl]
      generalize 2 ^ a = z at *
      omega
    have eb : (2 : Int) ^ b % 256 = ((2 ^ b : Nat) : Int) := by
      rw [show (2 : Int) ^ b = ((2 ^ b : Nat) : Int) by rw [Int.natCast_pow]; rfl]
      generalize 2 ^ b = z at *
      omega
    have HW := hid (fun w hE => p_Weeks (2 ^ a) (by omega) w hE)
    rw [wk_pow a la] at HW
    have HD := hid (fun w => p_Days (2 ^ b) (by omega) w)
    rw [dt_pow b lb] at HD
    have HP := hid (fun w => d_Print (c : Int) (by omega) (by omega) w)
    rw [wi_nat] at HP
    have z1 : (Dig.wd (a + 1)).length ≤ 20 := Dig.wd_length_le _
    have z2 : (Dig.wd c).length ≤ 20 := Dig.wd_length_le _
    generalize Dig.wd (a + 1) = ta at *
    generalize Dig.wd c = tc at *
    generalize Clk.letters.getD b 0 = lt at *
    generalize 2 ^ a = xa at *
    generalize 2 ^ b = xb at *
    clear HO hm ha hb hc
    go_enter Tryd.func14, Tryd.ntmps14
    go_wp2_with fail
    refine (HO1.out _).mono ?_
    rintro e w1 ⟨rfl, b1⟩
    have K1 := K.out.next b1
    go_wp2_with fail
    refine wp_region_held_drew (S := fun X => Mem w X [(B, gc g, 23)]) (by kernel_rfl) K1.drew (fun hHeld => ?_)
    refine takeH 0 19 (.int .i64 (a : Int)) rfl rfl (by kernel_rfl) (by kernel_rfl) (by kernel_rfl) (fun _ _ _ h => h) (by kernel_rfl) (fun X hX => by clear hX; first | rfl | go_simp) hHeld ?_
    simp only [Act.put, List.setIfInBounds_toArray, List.set_cons_zero, List.set_cons_succ]
    refine takeH 1 20 (.int .u32 (xa : Int)) rfl rfl (by kernel_rfl) (by kernel_rfl) (by kernel_rfl) (fun _ _ _ h => h) (by kernel_rfl) (fun X hX => by clear hX; go_simp; rw [IntKind.wrap_u32]; exact ea) hHeld ?_
    simp only [Act.put, List.setIfInBounds_toArray, List.set_cons_zero, List.set_cons_succ]
    refine takeH 3 22 (.int .i64 (b : Int)) rfl rfl (by kernel_rfl) (by kernel_rfl) (by kernel_rfl) (fun _ _ _ h => h) (by kernel_rfl) (fun X hX => by clear hX; first | rfl | go_simp) hHeld ?_
    simp only [Act.put, List.setIfInBounds_toArray, List.set_cons_zero, List.set_cons_succ]
    refine takeH 4 23 (.int .u8 (xb : Int)) rfl rfl (by kernel_rfl) (by kernel_rfl) (by kernel_rfl) (fun _ _ _ h => h) (by kernel_rfl) (fun X hX => by clear hX; go_simp; rw [IntKind.wrap_u8]; exact eb) hHeld ?_
    simp only [Act.put, List.setIfInBounds_toArray, List.set_cons_zero, List.set_cons_succ]
    refine takeH 6 25 (.int .i64 (c : Int)) rfl rfl (by kernel_rfl) (by kernel_rfl) (by kernel_rfl) (fun _ _ _ h => h) (by kernel_rfl) (fun X hX => by clear hX; first | rfl | go_simp) hHeld ?_
    simp only [Act.put, List.setIfInBounds_toArray, List.set_cons_zero, List.set_cons_succ]
    refine wpAnyH_ready (rs := [2]) (by kernel_rfl) (by simp) ?_
    refine AllReadyH.cons rfl (fun KK hK => ?_) AllReadyH.nil
    simp only [List.getElem_toArray, List.getElem_cons_succ, List.getElem_cons_zero]
    go_simp
    refine (HW.out _ (HE.out.next K1.drew.2)).mono ?_
    rintro e w4 ⟨rfl, p3⟩
    have K5 := K1.drew.next p3
    refine hK.out _ _ K5 (fun hHeld => ?_)
    clear hK KK
    try simp only [Act.put, List.setIfInBounds_toArray, List.set_cons_zero, List.set_cons_succ]
    refine wpAnyH_ready (rs := [5]) (by kernel_rfl) (by simp) ?_
    refine AllReadyH.cons rfl (fun KK hK => ?_) AllReadyH.nil
    simp only [List.getElem_toArray, List.getElem_cons_succ, List.getElem_cons_zero]
    go_simp
    refine (HD.out _).mono ?_
    rintro e w5 ⟨rfl, p4⟩
    have K6 := K5.next p4
    refine hK.out _ _ K6 (fun hHeld => ?_)
    clear hK KK
    try simp only [Act.put, List.setIfInBounds_toArray, List.set_cons_zero, List.set_cons_succ]
    refine wpAnyH_ready (rs := [7]) (by kernel_rfl) (by simp) ?_
    refine AllReadyH.cons rfl (fun KK hK => ?_) AllReadyH.nil
    simp only [List.getElem_toArray, List.getElem_cons_succ, List.getElem_cons_zero]
    go_simp
    refine (HP.out _).mono ?_
    rintro e w6 ⟨rfl, p5⟩
    have K7 := K6.next p5
    refine hK.out _ _ K7 (fun hHeld => ?_)
    clear hK KK
    try simp only [Act.put, List.setIfInBounds_toArray, List.set_cons_zero, List.set_cons_succ]
    refine wpAnyH_ready (rs := [8]) (by kernel_rfl) (by simp) ?_
    refine AllReadyH.cons rfl (fun KK hK => ?_) AllReadyH.nil
    simp only [List.getElem_toArray, List.getElem_cons_succ, List.getElem_cons_zero]
    go_simp
    have K8 := K7.next (below_alloc w6 (.cells #[txt ta, txt [lt], txt tc] 9))
    have hown := World.ownsRow_lit (base := w6.heap.size) (e := 9) (size := 1) w6 #[txt ta, txt [lt], txt tc] 3 (Nat.le_refl _) (by unfold maxLen; omega) (by simp)
    have HJ := hid (p_join (ls := [ta, [lt], tc]) hown 32 (by simp) (by simp [List.intercalate]; omega))
    clear hown
    refine hK.out _ _ K8 (fun hHeld => ?_)
    clear hK KK
    try simp only [Act.put, List.setIfInBounds_toArray, List.set_cons_zero, List.set_cons_succ]
    refine wpAnyH_ready (rs := [9]) (by kernel_rfl) (by simp) ?_
    refine AllReadyH.cons rfl (fun KK hK => ?_) AllReadyH.nil
    simp only [List.getElem_toArray, List.getElem_cons_succ, List.getElem_cons_zero]
    go_simp
    refine (HJ.out).mono ?_
    rintro e w7 ⟨rfl, p6⟩
    have K9 := K8.next p6
    refine hK.out _ _ K9 (fun hHeld => ?_)
    clear hK KK
    try simp only [Act.put, List.setIfInBounds_toArray, List.set_cons_zero, List.set_cons_succ]
    have hfin : [(32 : UInt8)].intercalate [ta, [lt], tc] = ta ++ 32 :: lt :: 32 :: tc := by simp [List.intercalate]
    rw [hfin]
    refine takeH 10 4 (txt (ta ++ 32 :: lt :: 32 :: tc)) rfl rfl (by kernel_rfl) (by kernel_rfl) (by kernel_rfl) (fun _ _ _ h => h) (by kernel_rfl) (fun X hX => by clear hX; first | rfl | go_simp) hHeld ?_
    simp only [Act.put, List.setIfInBounds_toArray, List.set_cons_zero, List.set_cons_succ]
    refine wpAnyH_done (by kernel_rfl) ?_ _
    go_wp2_with fail
    go_ret
    exact Did.mk (by rw [Hr.out]; rfl) K9.2
  · have Hr := hid (show Clk.mt g m = [] by unfold Clk.mt; rw [if_neg hm])
    have HO1 := hid (show ∀ w, Calls Tryd.prog 34 #[gv g, .int .i64 m] w (Did (.tuple #[.int .i64 0, .int .i64 0, .int .i64 0, .bool false]) w) from fun w => by
      have := HO.out w
      unfold ofV at this
      rw [if_neg hm] at this
      exact this)
    clear HO hm
    go_enter Tryd.func14, Tryd.ntmps14
    go_wp2_with fail
    refine (HO1.out _).mono ?_
    rintro e w1 ⟨rfl, b1⟩
    go_wp2_with fail
    go_ret
    exact Did.mk (by rw [Hr.out]; rfl) (K.out.next b1).2
end Go.Proofs.YtfnjnkmdifigdaaDoor
