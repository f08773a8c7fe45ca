/- Contracts of the document's own answer for layer 10 (clock): Print, Parse. -/
import Derived.Test.YtfnjnkmdifigdaaDoorClkO
import Derived.Test.YtfnjnkmdifigdaaDoorWhnN
namespace Go.Proofs.YtfnjnkmdifigdaaDoor
open Go.RowKit
open Whn (Gr Wh)

set_option maxRecDepth 10000 in
set_option maxHeartbeats 2000000 in
theorem r10_Print (g : Gr) (x : Wh) (hx : Wok x) (w : World) : Calls Tryd.prog 13 #[gv g, wv x] w (Did (txt (Clk.pt g x)) w) := by
  have HR := hid (fun w => r_Right g x hx w)
  obtain ⟨A, W, hA, hW, K, hb0⟩ := (Mem.nil w).one (gc g) 23
  obtain ⟨B, V, hB, hV, K1, hb1⟩ := K.out.one (wc x) 26
  obtain ⟨g0, g1, g2⟩ := K1.out.gr (B := A) (g := g) (by simp)
  obtain ⟨c0, c1, c2, c3⟩ := K1.out.wh (B := B) (x := x) (by simp)
  clear K hb0 hb1
  cases hr : Whn.right g x with
  | false =>
    rw [hr] at HR
    have Hr := hid (show Clk.pt g x = [] from (Clk.pt_nil g x).2 hr)
    clear hr
    go_enter Tryd.func13, Tryd.ntmps13
    go_wp2_with fail
    refine (HR.out _).mono ?_
    rintro e w1 ⟨rfl, b1⟩
    have K2 := K1.out.next b1
    go_wp2_with fail
    go_ret
    exact Did.mk (by rw [Hr.out]; rfl) K2.2
  | true =>
    rw [hr] at HR
    obtain ⟨h1, h2, h3, h4, h5, h6, h7, h8⟩ := Clk.right_nums hr
    have Hr := hid (show Clk.pt g x = Clk.wk x.w ++ 32 :: (Clk.dt x.d ++ 32 :: (Dig.wd x.s.toNat ++ 43 :: Dig.wd x.l.toNat)) by unfold Clk.pt Clk.tt; rw [if_pos hr])
    have HW := hid (fun w => r10_Weeks x.w w)
    have HD := hid (fun w => r_Days x.d w)
    have HP1 := hid (show ∀ w, Calls Tryd.prog 33 #[.int .i64 x.s] w (Did (txt (Dig.wd x.s.toNat)) w) from fun w => by
      have := r_Print x.s (by omega) (by omega) w
      rw [← h5, wi_nat] at this
      rw [← h5]
      exact this)
    have HP2 := hid (show ∀ w, Calls Tryd.prog 33 #[.int .i64 x.l] w (Did (txt (Dig.wd x.l.toNat)) w) from fun w => by
      have := r_Print x.l (by omega) (by omega) w
      rw [← h7, wi_nat] at this
      rw [← h7]
      exact this)
    have za : (Dig.wd x.s.toNat).length ≤ 20 := Dig.wd_length_le _
    have zb : (Dig.wd x.l.toNat).length ≤ 20 := Dig.wd_length_le _
    have zw := Clk.wk_len x.w
    have zd := Clk.dt_len x.d
    generalize Dig.wd x.s.toNat = ts at *
    generalize Dig.wd x.l.toNat = tl at *
    generalize Clk.wk x.w = tw at *
    generalize Clk.dt x.d = td at *
    clear h1 h2 h3 h4 h5 h6 h7 h8 hr
    go_enter Tryd.func13, Tryd.ntmps13
    go_wp2_with fail
    refine (HR.out _).mono ?_
    rintro e w1 ⟨rfl, b1⟩
    have K2 := K1.out.next b1
    go_wp2_with fail
    clear g0 g1 g2 c0 c1 c2 c3
    have ez0 : (bs ts).size ≤ 20 := by rw [bs_size]; omega
    have ez1 : (bs tl).size ≤ 20 := by rw [bs_size]; omega
    have ez2 : (bs tw).size ≤ 462 := by rw [bs_size]; omega
    have ez3 : (bs td).size ≤ 7 := by rw [bs_size]; omega
    have ez4 : (bs (tw ++ [32])).size ≤ 463 := by rw [bs_size]; simp; omega
    have ez5 : (bs (tw ++ 32 :: td)).size ≤ 470 := by rw [bs_size]; simp; omega
    have ez6 : (bs (tw ++ 32 :: (td ++ [32]))).size ≤ 471 := by rw [bs_size]; simp; omega
    have ez7 : (bs (tw ++ 32 :: (td ++ 32 :: ts))).size ≤ 491 := by rw [bs_size]; simp; omega
    have ez8 : (bs (tw ++ 32 :: (td ++ 32 :: (ts ++ [43])))).size ≤ 492 := by rw [bs_size]; simp; omega
    have ez9 : (bs (tw ++ 32 :: (td ++ 32 :: (ts ++ 43 :: tl)))).size ≤ 512 := by rw [bs_size]; simp; omega
    have a1 := bs_append tw [32]
    have a2 : bs (tw ++ [32]) ++ bs td = bs (tw ++ 32 :: td) := by rw [bs_append]; simp
    have a3 : bs (tw ++ 32 :: td) ++ bs [32] = bs (tw ++ 32 :: (td ++ [32])) := by rw [bs_append]; simp
    have a4 : bs (tw ++ 32 :: (td ++ [32])) ++ bs ts = bs (tw ++ 32 :: (td ++ 32 :: ts)) := by rw [bs_append]; simp
    have a5 : bs (tw ++ 32 :: (td ++ 32 :: ts)) ++ bs [43] = bs (tw ++ 32 :: (td ++ 32 :: (ts ++ [43]))) := by rw [bs_append]; simp
    have a6 : bs (tw ++ 32 :: (td ++ 32 :: (ts ++ [43]))) ++ bs tl = bs (tw ++ 32 :: (td ++ 32 :: (ts ++ 43 :: tl))) := by rw [bs_append]; simp
    refine wp_region_held_drew (S := fun X => Mem w X [(B, wc x, 26), (A, gc g, 23)]) (by kernel_rfl) K2.drew (fun hHeld => ?_)
    refine takeH 0 9 (.pointer (some ⟨B, 0, none⟩)) rfl rfl (by kernel_rfl) (by kernel_rfl) (by kernel_rfl) (fun _ _ _ h => h) (by kernel_rfl) (fun X hX => by clear hX; first | rfl | go_simp) hHeld ?_
    simp only [Act.put, List.setIfInBounds_toArray, List.set_cons_zero, List.set_cons_succ]
    refine takeH 1 10 (.int .u32 (x.w : Int)) rfl rfl (by kernel_rfl) (by kernel_rfl) (by kernel_rfl) (fun _ _ _ h => h) (by kernel_rfl) (fun X hX => by obtain ⟨c0, c1, c2, c3⟩ := hX.wh (B := B) (x := x) (by simp); clear hX; go_simp) hHeld ?_
    simp only [Act.put, List.setIfInBounds_toArray, List.set_cons_zero, List.set_cons_succ]
    refine takeH 4 13 (.pointer (some ⟨B, 1, none⟩)) rfl rfl (by kernel_rfl) (by kernel_rfl) (by kernel_rfl) (fun _ _ _ h => h) (by kernel_rfl) (fun X hX => by clear hX; first | rfl | go_simp) hHeld ?_
    simp only [Act.put, List.setIfInBounds_toArray, List.set_cons_zero, List.set_cons_succ]
    refine takeH 5 14 (.int .u8 (x.d : Int)) rfl rfl (by kernel_rfl) (by kernel_rfl) (by kernel_rfl) (fun _ _ _ h => h) (by kernel_rfl) (fun X hX => by obtain ⟨c0, c1, c2, c3⟩ := hX.wh (B := B) (x := x) (by simp); clear hX; go_simp) hHeld ?_
    simp only [Act.put, List.setIfInBounds_toArray, List.set_cons_zero, List.set_cons_succ]
    refine takeH 9 18 (.pointer (some ⟨B, 2, none⟩)) rfl rfl (by kernel_rfl) (by kernel_rfl) (by kernel_rfl) (fun _ _ _ h => h) (by kernel_rfl) (fun X hX => by clear hX; first | rfl | go_simp) hHeld ?_
    simp only [Act.put, List.setIfInBounds_toArray, List.set_cons_zero, List.set_cons_succ]
    refine takeH 10 19 (.int .i64 x.s) rfl rfl (by kernel_rfl) (by kernel_rfl) (by kernel_rfl) (fun _ _ _ h => h) (by kernel_rfl) (fun X hX => by obtain ⟨c0, c1, c2, c3⟩ := hX.wh (B := B) (x := x) (by simp); clear hX; go_simp) hHeld ?_
    simp only [Act.put, List.setIfInBounds_toArray, List.set_cons_zero, List.set_cons_succ]
    refine takeH 14 23 (.pointer (some ⟨B, 3, none⟩)) rfl rfl (by kernel_rfl) (by kernel_rfl) (by kernel_rfl) (fun _ _ _ h => h) (by kernel_rfl) (fun X hX => by clear hX; first | rfl | go_simp) hHeld ?_
    simp only [Act.put, List.setIfInBounds_toArray, List.set_cons_zero, List.set_cons_succ]
    refine takeH 15 24 (.int .i64 x.l) rfl rfl (by kernel_rfl) (by kernel_rfl) (by kernel_rfl) (fun _ _ _ h => h) (by kernel_rfl) (fun X hX => by obtain ⟨c0, c1, c2, c3⟩ := hX.wh (B := B) (x := x) (by simp); clear hX; go_simp) hHeld ?_
    simp only [Act.put, List.setIfInBounds_toArray, List.set_cons_zero, List.set_cons_succ]
    refine wpAnyH_ready (rs := [2]) (by kernel_rfl) (by simp) ?_
    refine AllReadyH.cons rfl (fun KK hK => ?_) AllReadyH.nil
    simp only [List.getElem_toArray, List.getElem_cons_succ, List.getElem_cons_zero]
    go_simp
    refine (HW.out _).mono ?_
    rintro e w2 ⟨rfl, p1⟩
    have K3 := K2.drew.next p1
    refine hK.out _ _ K3 (fun hHeld => ?_)
    clear hK KK
    try simp only [Act.put, List.setIfInBounds_toArray, List.set_cons_zero, List.set_cons_succ]
    refine takeH 3 12 (txt (tw ++ [32])) rfl rfl (by kernel_rfl) (by kernel_rfl) (by kernel_rfl) (fun _ _ _ h => h) (by kernel_rfl) (fun X hX => by clear hX; have q := a1; go_simp; first | rfl | (rw [if_neg (by omega)]; exact congrArg (fun z => Result.ok (Next.value (Value.string z)) X) q) | omega) hHeld ?_
    simp only [Act.put, List.setIfInBounds_toArray, List.set_cons_zero, List.set_cons_succ]
    refine wpAnyH_ready (rs := [6]) (by kernel_rfl) (by simp) ?_
    refine AllReadyH.cons rfl (fun KK hK => ?_) AllReadyH.nil
    simp only [List.getElem_toArray, List.getElem_cons_succ, List.getElem_cons_zero]
    go_simp
    refine (HD.out _).mono ?_
    rintro e w3 ⟨rfl, rfl⟩
    refine hK.out _ _ K3 (fun hHeld => ?_)
    clear hK KK
    try simp only [Act.put, List.setIfInBounds_toArray, List.set_cons_zero, List.set_cons_succ]
    refine takeH 7 16 (txt (tw ++ 32 :: td)) rfl rfl (by kernel_rfl) (by kernel_rfl) (by kernel_rfl) (fun _ _ _ h => h) (by kernel_rfl) (fun X hX => by clear hX; have q := a2; go_simp; first | rfl | (rw [if_neg (by omega)]; exact congrArg (fun z => Result.ok (Next.value (Value.string z)) X) q) | omega) hHeld ?_
    simp only [Act.put, List.setIfInBounds_toArray, List.set_cons_zero, List.set_cons_succ]
    refine takeH 8 17 (txt (tw ++ 32 :: (td ++ [32]))) rfl rfl (by kernel_rfl) (by kernel_rfl) (by kernel_rfl) (fun _ _ _ h => h) (by kernel_rfl) (fun X hX => by clear hX; have q := a3; go_simp; first | rfl | (rw [if_neg (by omega)]; exact congrArg (fun z => Result.ok (Next.value (Value.string z)) X) q) | omega) hHeld ?_
    simp only [Act.put, List.setIfInBounds_toArray, List.set_cons_zero, List.set_cons_succ]
    refine wpAnyH_ready (rs := [11]) (by kernel_rfl) (by simp) ?_
    refine AllReadyH.cons rfl (fun KK hK => ?_) AllReadyH.nil
    simp only [List.getElem_toArray, List.getElem_cons_succ, List.getElem_cons_zero]
    go_simp
    refine (HP1.out _).mono ?_
    rintro e w4 ⟨rfl, p2⟩
    have K4 := K3.next p2
    refine hK.out _ _ K4 (fun hHeld => ?_)
    clear hK KK
    try simp only [Act.put, List.setIfInBounds_toArray, List.set_cons_zero, List.set_cons_succ]
    refine takeH 12 21 (txt (tw ++ 32 :: (td ++ 32 :: ts))) rfl rfl (by kernel_rfl) (by kernel_rfl) (by kernel_rfl) (fun _ _ _ h => h) (by kernel_rfl) (fun X hX => by clear hX; have q := a4; go_simp; first | rfl | (rw [if_neg (by omega)]; exact congrArg (fun z => Result.ok (Next.value (Value.string z)) X) q) | omega) hHeld ?_
    simp only [Act.put, List.setIfInBounds_toArray, List.set_cons_zero, List.set_cons_succ]
    refine takeH 13 22 (txt (tw ++ 32 :: (td ++ 32 :: (ts ++ [43])))) rfl rfl (by kernel_rfl) (by kernel_rfl) (by kernel_rfl) (fun _ _ _ h => h) (by kernel_rfl) (fun X hX => by clear hX; have q := a5; go_simp; first | rfl | (rw [if_neg (by omega)]; exact congrArg (fun z => Result.ok (Next.value (Value.string z)) X) q) | omega) hHeld ?_
    simp only [Act.put, List.setIfInBounds_toArray, List.set_cons_zero, List.set_cons_succ]
    refine wpAnyH_ready (rs := [16]) (by kernel_rfl) (by simp) ?_
    refine AllReadyH.cons rfl (fun KK hK => ?_) AllReadyH.nil
    simp only [List.getElem_toArray, List.getElem_cons_succ, List.getElem_cons_zero]
    go_simp
    refine (HP2.out _).mono ?_
    rintro e w5 ⟨rfl, p3⟩
    have K5 := K4.next p3
    refine hK.out _ _ K5 (fun hHeld => ?_)
    clear hK KK
    try simp only [Act.put, List.setIfInBounds_toArray, List.set_cons_zero, List.set_cons_succ]
    refine takeH 17 26 (txt (tw ++ 32 :: (td ++ 32 :: (ts ++ 43 :: tl)))) rfl rfl (by kernel_rfl) (by kernel_rfl) (by kernel_rfl) (fun _ _ _ h => h) (by kernel_rfl) (fun X hX => by clear hX; have q := a6; go_simp; first | rfl | (rw [if_neg (by omega)]; exact congrArg (fun z => Result.ok (Next.value (Value.string z)) X) q) | omega) hHeld ?_
    simp only [Act.put, List.setIfInBounds_toArray, List.set_cons_zero, List.set_cons_succ]
    refine takeH 18 4 (txt (tw ++ 32 :: (td ++ 32 :: (ts ++ 43 :: tl)))) rfl rfl (by kernel_rfl) (by kernel_rfl) (by kernel_rfl) (fun _ _ _ h => h) (by kernel_rfl) (fun X hX => by clear hX; first | rfl | go_simp) hHeld ?_
    simp only [Act.put, List.setIfInBounds_toArray, List.set_cons_zero, List.set_cons_succ]
    refine wpAnyH_done (by kernel_rfl) ?_ _
    go_wp2_with fail
    go_ret
    exact Did.mk (by rw [Hr.out]; rfl) K5.2
end Go.Proofs.YtfnjnkmdifigdaaDoor
