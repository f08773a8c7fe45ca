/- Contracts of the program's own functions of layer 14 (course): Same, and the library's Equal and EqualFunc. -/
import Derived.Test.YtgkplcipplpobaaCrsB
namespace Go.Proofs.Ytgkplcipplpobaa
open Go.RowKit
open Whn (Gr Wh)

set_option maxRecDepth 8000 in
set_option maxHeartbeats 2000000 in
theorem p_EqualI (A A2 : Option Addr) (c c2 : Nat) (l ms : List Int) (hm : l.length ≤ maxLen) (w : World) (h : Its w w.heap.size A l) (h2 : Its w w.heap.size A2 ms) :
    Calls Try.prog 63 #[.slice A l.length c, .slice A2 ms.length c2] w (Did (.bool (decide (l = ms))) w) := by
  unfold maxLen at hm
  by_cases hlen : (l.length : Int) = (ms.length : Int)
  · have Hn := hid (show l.length = ms.length by omega)
    have H := hid h
    have H2 := hid h2
    clear h h2
    have K0 := hid (Mem.nil w)
    have hne : ((l.length : Int) != (ms.length : Int)) = false := by rw [bne_eq_false_iff_eq]; exact hlen
    clear hlen
    go_enter Try.func63, Try.ntmps63
    go_wp2
    go_loopw [13] (fun i wr => ∃ (k : Nat), i = .int .i64 k ∧ k ≤ l.length ∧ Hid (Mem w wr []) ∧ Hid (l.take k = ms.take k)) (fun i _ => l.length - (intOf i).toNat)
    case atStart => exact ⟨0, rfl, Nat.zero_le _, K0, hid (by simp)⟩
    case round =>
      clear K0
      obtain ⟨k, rfl, hk, K1, hsame⟩ := hrel
      by_cases hlt : k < l.length
      · obtain ⟨ad, x, rfl, hadb, hx, u0⟩ := Its.get H.out hlt
        have hbu : (ad.add k).block < w.heap.size := by rw [add_block]; exact hadb
        obtain ⟨ae, y, rfl, haeb, hy, z0⟩ := Its.get H2.out (k := k) (by have := Hn.out; omega)
        have hbz : (ae.add k).block < w.heap.size := by rw [add_block]; exact haeb
        have b1 : (0 : Int) ≤ (k : Int) := by omega
        have b2 : (k : Int) < l.length := by omega
        have b3 : (k : Int) < ms.length := by have := Hn.out; omega
        go_wp2_with fail
        refine wp_region_held_drew (S := fun X => Mem w X []) (by kernel_rfl) K1.out.drew (fun hHeld => ?_)
        refine takeH 0 16 (.slice (some ad) l.length c) rfl rfl (by kernel_rfl) (by kernel_rfl) (by kernel_rfl) (fun _ _ _ h => h) (by kernel_rfl) (fun X hX => by clear hX; first | rfl | go_simp) hHeld ?_
        simp only [Act.put, List.setIfInBounds_toArray, List.set_cons_zero, List.set_cons_succ]
        refine takeH 1 17 (.int .i64 (k : Int)) rfl rfl (by kernel_rfl) (by kernel_rfl) (by kernel_rfl) (fun _ _ _ h => h) (by kernel_rfl) (fun X hX => by clear hX; first | rfl | go_simp) hHeld ?_
        simp only [Act.put, List.setIfInBounds_toArray, List.set_cons_zero, List.set_cons_succ]
        refine takeH 2 18 (.pointer (some (ad.add k))) rfl rfl (by kernel_rfl) (by kernel_rfl) (by kernel_rfl) (fun _ _ _ h => h) (by kernel_rfl) (fun X hX => by clear hX; first | rfl | go_simp) hHeld ?_
        simp only [Act.put, List.setIfInBounds_toArray, List.set_cons_zero, List.set_cons_succ]
        refine takeH 3 19 (.int .i64 x) rfl rfl (by kernel_rfl) (by kernel_rfl) (by kernel_rfl) (fun _ _ _ h => h) (by kernel_rfl) (fun X hX => by have qu0 := (hX.2.cell (p := ad.add k) hbu).trans u0; clear hX; go_simp) hHeld ?_
        simp only [Act.put, List.setIfInBounds_toArray, List.set_cons_zero, List.set_cons_succ]
        refine takeH 4 20 (.slice (some ae) ms.length c2) rfl rfl (by kernel_rfl) (by kernel_rfl) (by kernel_rfl) (fun _ _ _ h => h) (by kernel_rfl) (fun X hX => by clear hX; first | rfl | go_simp) hHeld ?_
        simp only [Act.put, List.setIfInBounds_toArray, List.set_cons_zero, List.set_cons_succ]
        refine takeH 5 21 (.int .i64 (k : Int)) rfl rfl (by kernel_rfl) (by kernel_rfl) (by kernel_rfl) (fun _ _ _ h => h) (by kernel_rfl) (fun X hX => by clear hX; first | rfl | go_simp) hHeld ?_
        simp only [Act.put, List.setIfInBounds_toArray, List.set_cons_zero, List.set_cons_succ]
        refine takeH 6 22 (.pointer (some (ae.add k))) rfl rfl (by kernel_rfl) (by kernel_rfl) (by kernel_rfl) (fun _ _ _ h => h) (by kernel_rfl) (fun X hX => by clear hX; first | rfl | go_simp) hHeld ?_
        simp only [Act.put, List.setIfInBounds_toArray, List.set_cons_zero, List.set_cons_succ]
        refine takeH 7 23 (.int .i64 y) rfl rfl (by kernel_rfl) (by kernel_rfl) (by kernel_rfl) (fun _ _ _ h => h) (by kernel_rfl) (fun X hX => by have qz0 := (hX.2.cell (p := ae.add k) hbz).trans z0; clear hX; go_simp) hHeld ?_
        simp only [Act.put, List.setIfInBounds_toArray, List.set_cons_zero, List.set_cons_succ]
        refine takeH 8 24 (.bool (!decide (x = y))) rfl rfl (by kernel_rfl) (by kernel_rfl) (by kernel_rfl) (fun _ _ _ h => h) (by kernel_rfl) (fun X hX => by clear hX; go_simp; by_cases h : x = y <;> simp [h]) hHeld ?_
        simp only [Act.put, List.setIfInBounds_toArray, List.set_cons_zero, List.set_cons_succ]
        refine wpAnyH_done (by kernel_rfl) ?_ _
        cases hR : decide (x = y) with
        | true =>
          have hn := hid (show l.take (k + 1) = ms.take (k + 1) by rw [List.take_add_one, List.take_add_one, hsame.out, hx.out, hy.out, of_decide_eq_true hR])
          go_wp2_with fail
          exact ⟨⟨k + 1, by go_num, by omega, hid K1.out.drew, hn⟩, by simp [intOf]; omega⟩
        | false =>
          have hres := hid (decide_eq_false (takes_ne hx.out hy.out (of_decide_eq_false hR)))
          go_wp2_with fail
          go_ret
          exact Did.mk (by rw [hres.out]; rfl) K1.out.drew.2
      · have hall := hid (decide_eq_true (takes_all hsame.out (by omega) Hn.out))
        have b2 : ¬ (k : Int) < l.length := by omega
        go_wp2_with fail
        go_ret
        exact Did.mk (by rw [hall.out]; rfl) K1.out.2
  · have hne : ((l.length : Int) != (ms.length : Int)) = true := by rw [bne_iff_ne]; exact hlen
    have hres := hid (show decide (l = ms) = false by rw [decide_eq_false_iff_not]; intro e; exact hlen (by rw [e]))
    clear hlen
    go_enter Try.func63, Try.ntmps63
    go_wp2
    go_ret
    refine Did.mk ?_ (Below.refl _ _)
    rw [hres.out]; rfl
set_option maxRecDepth 8000 in
theorem p_sameRow (A A2 : Option Addr) (c c2 : Nat) (l ms : List Int) (hm : l.length ≤ maxLen) (w : World) (h : Its w w.heap.size A l) (h2 : Its w w.heap.size A2 ms) :
    Calls Try.prog 62 #[.slice A l.length c, .slice A2 ms.length c2] w (Did (.bool (decide (l = ms))) w) := by
  have HI := hid (p_EqualI A A2 c c2 l ms hm w h h2)
  clear h h2
  go_enter Try.func62, Try.ntmps62
  go_wp2_with fail
  refine HI.out.mono ?_
  rintro e w1 ⟨rfl, b1⟩
  go_wp2_with fail
  go_ret
  exact Did.mk rfl b1
set_option maxRecDepth 20000 in
set_option maxHeartbeats 4000000 in
theorem p_EqR (A A2 : Option Addr) (c c2 : Nat) (ls ms : List (List Int)) (hl : Lsok ls) (w : World) (h : Rows2 w w.heap.size A ls) (h2 : Rows2 w w.heap.size A2 ms) :
    Calls Try.prog 61 #[.slice A ls.length c, .slice A2 ms.length c2, .func (.func 62) #[] #[]] w (Did (.bool (decide (ls = ms))) w) := by
  have hm := hl.1
  unfold maxLen at hm
  have HL := hid hl.2
  have HP := hid (fun A A2 c c2 l ms hm X h h2 => p_sameRow A A2 c c2 l ms hm X h h2)
  by_cases hlen : (ls.length : Int) = (ms.length : Int)
  · have Hn := hid (show ls.length = ms.length by omega)
    have H := hid h
    have H2 := hid h2
    have hne : ((ls.length : Int) != (ms.length : Int)) = false := by rw [bne_eq_false_iff_eq]; exact hlen
    have K0 := hid (Below.refl w.heap.size w)
    clear h h2 hlen hl
    go_enter Try.func61, Try.ntmps61
    go_wp2_with fail
    go_loopw [17] (fun i wr => ∃ (k : Nat), i = .int .i64 k ∧ k ≤ ls.length ∧ Hid (Below w.heap.size w wr) ∧ Hid (ls.take k = ms.take k)) (fun i _ => ls.length - (intOf i).toNat)
    case atStart => exact ⟨0, rfl, Nat.zero_le _, K0, hid rfl⟩
    case round =>
      clear K0
      obtain ⟨k, rfl, hk, K1, hsame⟩ := hrel
      by_cases hlt : k < ls.length
      · obtain ⟨ad, Ak, ck, x, rfl, hadb, hx, hxl, hcx, hrx, hckx⟩ := H.out.get hlt
        obtain ⟨ae, Bk, dk, y, rfl, haeb, hy, _, hcy, hry, hdky⟩ := H2.out.get (k := k) (by have := Hn.out; omega)
        have b1 : (0 : Int) ≤ (k : Int) := by omega
        have b2 : (k : Int) < ls.length := by omega
        have b3 : (k : Int) < ms.length := by have := Hn.out; omega
        have hbx : (ad.add k).block < w.heap.size := by rw [add_block]; exact hadb
        have hby : (ae.add k).block < w.heap.size := by rw [add_block]; exact haeb
        have hcx1 := (K1.out.cell (p := ad.add k) hbx).trans hcx
        have hcy1 := (K1.out.cell (p := ae.add k) hby).trans hcy
        have HI := hid (HP.out Ak Bk ck dk x y (HL.out x hxl).1 _ ((hrx.below K1.out (Nat.le_refl _)).more K1.out.size) ((hry.below K1.out (Nat.le_refl _)).more K1.out.size))
        clear hrx hry hckx hdky hcx hcy HP
        go_wp2_with fail
        refine HI.out.mono ?_
        rintro e Y ⟨rfl, bz⟩
        have K2 := hid (K1.out.trans (bz.mono K1.out.size))
        clear HI bz hcx1 hcy1
        cases hR : decide (x = y) with
        | true =>
          have hn := hid (show ls.take (k + 1) = ms.take (k + 1) by rw [List.take_add_one, List.take_add_one, hsame.out, hx.out, hy.out, of_decide_eq_true hR])
          clear hsame
          go_wp2_with fail
          exact ⟨⟨k + 1, by go_num, by omega, K2, hn⟩, by simp [intOf]; omega⟩
        | false =>
          have hres := hid (decide_eq_false (takes_ne hx.out hy.out (of_decide_eq_false hR)))
          clear hsame
          go_wp2_with fail
          go_ret
          exact Did.mk (by rw [hres.out]; rfl) K2.out
      · have hall := hid (decide_eq_true (takes_all hsame.out (by omega) Hn.out))
        have b2 : ¬ (k : Int) < ls.length := by omega
        clear hsame HP
        go_wp2_with fail
        go_ret
        exact Did.mk (by rw [hall.out]; rfl) K1.out
  · have hne : ((ls.length : Int) != (ms.length : Int)) = true := by rw [bne_iff_ne]; exact hlen
    have hres := hid (show decide (ls = ms) = false by rw [decide_eq_false_iff_not]; intro e; exact hlen (by rw [e]))
    clear hlen h h2
    go_enter Try.func61, Try.ntmps61
    go_wp2
    go_ret
    exact Did.mk (by rw [hres.out]; rfl) (Below.refl _ _)
set_option maxRecDepth 8000 in
theorem p_sameWay (A A2 : Option Addr) (c c2 : Nat) (ls ms : List (List Int)) (hl : Lsok ls) (w : World) (h : Rows2 w w.heap.size A ls) (h2 : Rows2 w w.heap.size A2 ms) :
    Calls Try.prog 48 #[.agg #[.slice A ls.length c], .agg #[.slice A2 ms.length c2]] w (Did (.bool (decide (ls = ms))) w) := by
  have HI := hid (fun X h h2 => p_EqR A A2 c c2 ls ms hl X h h2)
  have H := hid h
  have H2 := hid h2
  obtain ⟨P, W, hP, hW, K, hb0⟩ := (Mem.nil w).one [.slice A ls.length c] 42
  obtain ⟨R, V, hR, hV, K1, hb1⟩ := K.out.one [.slice A2 ms.length c2] 42
  have c0 := K1.out.cell (b := P) (cs := [.slice A ls.length c]) (t := 42) (by simp) (k := 0) rfl
  have c1 := K1.out.cell (b := R) (cs := [.slice A2 ms.length c2]) (t := 42) (by simp) (k := 0) rfl
  clear h h2 hb0 hb1 K
  go_enter Try.func48, Try.ntmps48
  go_wp2_with fail
  refine (HI.out _ (H.out.next K1.out.2) (H2.out.next K1.out.2)).mono ?_
  rintro e Y ⟨rfl, bz⟩
  have K2 := hid (K1.out.next bz)
  clear c0 c1 hP hW hR hV bz
  go_wp2_with fail
  go_ret
  exact Did.mk rfl K2.out.2
set_option maxRecDepth 20000 in
set_option maxHeartbeats 4000000 in
theorem p_EqW (A A2 : Option Addr) (c c2 : Nat) (ls ms : List (List (List Int))) (hl : Wsok ls) (w : World) (h : Rows3 w w.heap.size A ls) (h2 : Rows3 w w.heap.size A2 ms) :
    Calls Try.prog 47 #[.slice A ls.length c, .slice A2 ms.length c2, .func (.func 48) #[] #[]] w (Did (.bool (decide (ls = ms))) w) := by
  have hm := hl.1
  unfold maxLen at hm
  have HL := hid hl.2
  have HP := hid (fun A A2 c c2 l ms hm X h h2 => p_sameWay A A2 c c2 l ms hm X h h2)
  by_cases hlen : (ls.length : Int) = (ms.length : Int)
  · have Hn := hid (show ls.length = ms.length by omega)
    have H := hid h
    have H2 := hid h2
    have hne : ((ls.length : Int) != (ms.length : Int)) = false := by rw [bne_eq_false_iff_eq]; exact hlen
    have K0 := hid (Mem.nil w)
    clear h h2 hlen hl
    go_enter Try.func47, Try.ntmps47
    go_wp2_with fail
    go_loopw [17] (fun i wr => ∃ (k : Nat), i = .int .i64 k ∧ k ≤ ls.length ∧ Hid (Mem w wr []) ∧ Hid (ls.take k = ms.take k)) (fun i _ => ls.length - (intOf i).toNat)
    case atStart => exact ⟨0, rfl, Nat.zero_le _, K0, hid rfl⟩
    case round =>
      clear K0
      obtain ⟨k, rfl, hk, K1, hsame⟩ := hrel
      by_cases hlt : k < ls.length
      · obtain ⟨ad, Ak, ck, x, rfl, hadb, hx, hxl, hcx, hrx, hckx⟩ := H.out.at_ hlt
        obtain ⟨ae, Bk, dk, y, rfl, haeb, hy, _, hcy, hry, hdky⟩ := H2.out.at_ (k := k) (by have := Hn.out; omega)
        have b1 : (0 : Int) ≤ (k : Int) := by omega
        have b2 : (k : Int) < ls.length := by omega
        have b3 : (k : Int) < ms.length := by have := Hn.out; omega
        have hbx : (ad.add k).block < w.heap.size := by rw [add_block]; exact hadb
        have hby : (ae.add k).block < w.heap.size := by rw [add_block]; exact haeb
        have hcx1 := (K1.out.2.cell (p := ad.add k) hbx).trans hcx
        obtain ⟨D, U, hD, hU, K2, hb2⟩ := K1.out.one [.slice Ak x.length ck] 42
        have hcy1 := (K2.out.2.cell (p := ae.add k) hby).trans hcy
        obtain ⟨E, V, hE, hV, K3, hb3⟩ := K2.out.one [.slice Bk y.length dk] 42
        have d0 := K3.out.cell (b := D) (cs := [.slice Ak x.length ck]) (t := 42) (by simp) (k := 0) rfl
        have d1 := K3.out.cell (b := E) (cs := [.slice Bk y.length dk]) (t := 42) (by simp) (k := 0) rfl
        have HI := hid (HP.out Ak Bk ck dk x y (HL.out x hxl) _ ((hrx.below K3.out.2 (Nat.le_refl _)).more K3.out.2.size) ((hry.below K3.out.2 (Nat.le_refl _)).more K3.out.2.size))
        clear hrx hry hckx hdky hcx hcy HP hb2 hb3 K2
        go_wp2_with fail
        refine HI.out.mono ?_
        rintro e Y ⟨rfl, bz⟩
        have K4 := hid ((K3.out.next bz).sub (l' := []) (by simp))
        clear HI bz hcx1 hcy1 hD hU hE hV d0 d1 K3
        cases hR : decide (x = y) with
        | true =>
          have hn := hid (show ls.take (k + 1) = ms.take (k + 1) by rw [List.take_add_one, List.take_add_one, hsame.out, hx.out, hy.out, of_decide_eq_true hR])
          clear hsame
          go_wp2_with fail
          exact ⟨⟨k + 1, by go_num, by omega, K4, hn⟩, by simp [intOf]; omega⟩
        | false =>
          have hres := hid (decide_eq_false (takes_ne hx.out hy.out (of_decide_eq_false hR)))
          clear hsame
          go_wp2_with fail
          go_ret
          exact Did.mk (by rw [hres.out]; rfl) K4.out.2
      · have hall := hid (decide_eq_true (takes_all hsame.out (by omega) Hn.out))
        have b2 : ¬ (k : Int) < ls.length := by omega
        clear hsame HP
        go_wp2_with fail
        go_ret
        exact Did.mk (by rw [hall.out]; rfl) K1.out.2
  · have hne : ((ls.length : Int) != (ms.length : Int)) = true := by rw [bne_iff_ne]; exact hlen
    have hres := hid (show decide (ls = ms) = false by rw [decide_eq_false_iff_not]; intro e; exact hlen (by rw [e]))
    clear hlen h h2
    go_enter Try.func47, Try.ntmps47
    go_wp2
    go_ret
    exact Did.mk (by rw [hres.out]; rfl) (Below.refl _ _)
set_option maxRecDepth 20000 in
set_option maxHeartbeats 4000000 in
theorem p_SameCs (x y : Cs) (A A2 : Option Addr) (c c2 : Nat) (hl : Wsok x.ws) (w : World) (h : Rows3 w w.heap.size A x.ws) (h2 : Rows3 w w.heap.size A2 y.ws) :
    Calls Try.prog 26 #[csv x A c, csv y A2 c2] w (Did (.bool (csEq x y)) w) := by
  have HI := hid (fun X h h2 => p_EqW A A2 c c2 x.ws y.ws hl X h h2)
  have Hr := hid (show csEq x y = (decide (x.n = y.n) && decide (x.ws = y.ws)) from rfl)
  generalize csEq x y = q at *
  obtain ⟨P, W, hP, hW, K, hb0⟩ := (Mem.nil w).one (csc x A c) 24
  obtain ⟨R, V, hR, hV, K1, hb1⟩ := K.out.one (csc y A2 c2) 24
  clear K hb0 hb1
  obtain ⟨e0, e1⟩ := K1.out.cs (B := P) (x := x) (A := A) (c := c) (t := 24) (by simp)
  obtain ⟨f0, f1⟩ := K1.out.cs (B := R) (x := y) (A := A2) (c := c2) (t := 24) (by simp)
  have H := hid h
  have H2 := hid h2
  clear h h2
  by_cases c1 : x.n = y.n
  · have q1 : ((bs x.n).toList == (bs y.n).toList) = true := by rw [list_of, list_of, bs_data, bs_data, beq_iff_eq]; exact c1
    rw [decide_eq_true c1, Bool.true_and] at Hr
    clear c1
    go_enter Try.func26, Try.ntmps26
    go_wp2_with fail
    refine (HI.out _ (H.out.next K1.out.2) (H2.out.next K1.out.2)).mono ?_
    rintro e Y ⟨rfl, bz⟩
    have K2 := hid (K1.out.next bz)
    clear e0 e1 f0 f1 hP hW hR hV bz
    go_wp2_with fail
    go_ret
    exact Did.mk (by rw [Hr.out]; rfl) K2.out.2
  · have q1 : ((bs x.n).toList == (bs y.n).toList) = false := by rw [list_of, list_of, bs_data, bs_data, beq_eq_false_iff_ne]; exact c1
    rw [decide_eq_false c1, Bool.false_and] at Hr
    clear c1
    go_enter Try.func26, Try.ntmps26
    go_wp2_with fail
    go_ret
    exact Did.mk (by rw [Hr.out]; rfl) K1.out.2
end Go.Proofs.Ytgkplcipplpobaa
