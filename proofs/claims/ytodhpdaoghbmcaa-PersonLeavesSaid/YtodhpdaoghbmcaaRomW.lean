/- Contract of the program's own Reopen (layer 11). -/
import Derived.Test.YtodhpdaoghbmcaaRomV
namespace Go.Proofs.Ytodhpdaoghbmcaa
open Go.RowKit
open Whn (Gr Wh)

set_option maxRecDepth 4000 in
set_option maxHeartbeats 4000000 in
theorem p_Reopen (r : Rm) (A : Option Addr) (c : Nat) (hm : r.l.length ≤ 1000) (hmc : r.l.length ≤ c) (x : Wh) (w : World) (h : Whs w w.heap.size A r.l) :
    Calls Try.prog 56 #[rv r A c, wv x] w (fun e w' => (x ∉ r.l ∧ RmRet rm0 8 w e w') ∨ (x ∈ r.l ∧ RmRet ⟨r.n, r.s, r.g, r.l.erase x⟩ 0 w e w')) := by
  have HX := hid (fun w h => p_Index A c r.l (show r.l.length ≤ maxLen by unfold maxLen; omega) x w h)
  have H := hid h
  obtain ⟨P, W, hP, hW, K, hb0⟩ := (Mem.nil w).one (rc r A c) 63
  obtain ⟨G, V, hG, hV, K1, hb1⟩ := K.out.one (wc x) 29
  obtain ⟨R, U, hR, hU, K2, hb2⟩ := K1.out.one zrc 63
  obtain ⟨r0, r1, r2, r3⟩ := K2.out.rm (B := P) (r := r) (A := A) (c := c) (by simp)
  obtain ⟨c0, c1, c2, c3⟩ := K2.out.wh (B := G) (x := x) (by simp)
  have hPR : P < R ∧ w.heap.size ≤ P ∧ R < U.heap.size := by
    have q1 := (K1.out.at_ (b := P) (cs := rc r A c) (t := 63) (by simp)).lt
    have q2 := (K2.out.at_ (b := R) (cs := zrc) (t := 63) (by simp)).lt
    omega
  go_enter Try.func56, Try.ntmps56
  go_wp2_with fail
  refine (HX.out U ((H.out.below K2.out.2 (Nat.le_refl _)).more K2.out.2.size)).mono ?_
  rintro e w1 ⟨z, rfl, hz, b1⟩
  have K3 := K2.out.next b1
  clear r0 r1 r2 r3 c0 c1 c2 c3
  obtain ⟨r0, r1, r2, r3⟩ := K3.rm (B := P) (r := r) (A := A) (c := c) (by simp)
  rcases hz with ⟨rfl, hx⟩ | ⟨k, rfl, hk, hkx, hpre⟩
  · have Hx := hid hx
    clear hx
    have KZ := hid (K3.sub (l' := [(R, zrc, 63), (P, rc r A c, 63)]) (by simp))
    have hO := KZ.out.at_ (b := R) (cs := zrc) (t := 63) (by simp)
    have z0 := hO.cell (k := 0) rfl
    have z1 := hO.cell (k := 1) rfl
    have z2 := hO.cell (k := 2) rfl
    have z3 := hO.cell (k := 3) rfl
    have f0 := hO.free 0
    have f1 := hO.free 1
    have f2 := hO.free 2
    have f3 := hO.free 3
    have K7 := hid (KZ.out.four (show w.heap.size ≤ R by omega) (by
      intro p hp
      simp only [List.mem_cons, List.not_mem_nil, or_false] at hp
      subst hp
      show P ≠ R; omega) (.string ⟨#[]⟩) (.int .i64 0) (.int .u16 0) (.slice none 0 0))
    obtain ⟨X, hX⟩ : ∃ X, ((((w1.setCell ⟨R, 0, none⟩ (.string ⟨#[]⟩)).setCell ⟨R, 1, none⟩ (.int .i64 0)).setCell ⟨R, 2, none⟩ (.int .u16 0)).setCell ⟨R, 3, none⟩ (.slice none 0 0)) = X := ⟨_, rfl⟩
    rw [hX] at K7
    have y0 := K7.out.cell (b := R) (cs := zrc) (t := 63) (by simp) (k := 0) rfl
    have y1 := K7.out.cell (b := R) (cs := zrc) (t := 63) (by simp) (k := 1) rfl
    have y2 := K7.out.cell (b := R) (cs := zrc) (t := 63) (by simp) (k := 2) rfl
    have y3 := K7.out.cell (b := R) (cs := zrc) (t := 63) (by simp) (k := 3) rfl
    clear hO KZ
    go_wp2_with fail
    exact bodyPost_ret (v := .tuple #[zr, .int .i64 8]) (by simp [results, Try.results56, go_sem, y0, y1, y2, y3]) rfl (.inl ⟨Hx.out, RmRet.zero 8 K7.out.2⟩)
  · have HH := hid (erase_at r.l x k hkx hpre)
    have b2 : ¬ (k : Int) < 0 := by omega
    have hxin := hid (List.mem_of_getElem? hkx)
    clear hpre
    obtain ⟨ad, x', rfl, had, _, _⟩ := whs_ad H.out hk
    have i1 : (0 : Int) ≤ (k : Int) := by omega
    have i2 : (k : Int) ≤ (r.l.length : Int) := by omega
    have i3 : (k : Int) + 1 ≤ (r.l.length : Int) := by omega
    obtain ⟨a2, HA2⟩ : ∃ a2 : Addr, Hid ((c = k + 1 ∧ a2 = ad) ∨ (c ≠ k + 1 ∧ a2 = ad.add ((k + 1) * 4))) := by
      by_cases e : c = k + 1
      · exact ⟨ad, hid (.inl ⟨e, rfl⟩)⟩
      · exact ⟨_, hid (.inr ⟨e, rfl⟩)⟩
    have KD := hid K3.drew
    obtain ⟨E, S, hE0, hS, K4, hb4⟩ := KD.out.one [.slice (some ad) k c, .slice (some a2) (r.l.length - (k + 1)) (c - (k + 1))] 24
    have hE : w1.heap.size = E := hE0
    have hPS : R < S.heap.size ∧ P < S.heap.size := by
      have q1 := (K4.out.at_ (b := P) (cs := rc r (some ad) c) (t := 63) (by simp)).lt
      have q2 := (K4.out.at_ (b := R) (cs := zrc) (t := 63) (by simp)).lt
      exact ⟨q2, q1⟩
    have hEo := K4.out.at_ (b := E) (cs := [.slice (some ad) k c, .slice (some a2) (r.l.length - (k + 1)) (c - (k + 1))]) (t := 24) (by simp)
    have HC1 : Hid (Calls Try.prog 73 #[.slice (some ⟨E, 0, none⟩) 2 2] S (OwRet (r.l.take k ++ r.l.drop (k + 1)) S)) := by
      have hl1 : (r.l.take k).length = k := by rw [List.length_take]; omega
      have hl2 : (r.l.drop (k + 1)).length = r.l.length - (k + 1) := List.length_drop
      have hw0 : Whs S S.heap.size (some ad) r.l := (H.out.below K4.out.2 (Nat.le_refl _)).more K4.out.2.size
      have hw2 : Whs S S.heap.size (some a2) (r.l.drop (k + 1)) := Whs.drop hw0 (k + 1) (fun h => by
        rcases HA2.out with ⟨e1, rfl⟩ | ⟨e1, rfl⟩
        · exact absurd h (by omega)
        · rfl)
      exact hid (p_Concat ⟨E, 0, none⟩ (some ad) (some a2) c (c - (k + 1)) (r.l.take k) (r.l.drop (k + 1)) (by omega) (by omega) S (Whs.take hw0 k) hw2 hEo.lt (by rw [hl1]; exact hEo.cell (k := 0) rfl) (by rw [hl2]; exact hEo.cell (k := 1) rfl))
    clear hEo hE0 HX
    go_wp2_with fail
    refine wp_region_held_drew (S := fun X => Below w.heap.size w X) (by kernel_rfl) KD.out.2 (fun hHeld => ?_)
    refine takeH 0 14 (.pointer (some ⟨P, 3, none⟩)) rfl rfl (by kernel_rfl) (by kernel_rfl) (by kernel_rfl) (fun _ _ _ h => h) (by kernel_rfl) (fun X hX => by clear hX; first | rfl | go_simp) hHeld ?_
    simp only [Act.put, List.setIfInBounds_toArray, List.set_cons_zero, List.set_cons_succ]
    refine takeH 2 16 (.int .i64 k) rfl rfl (by kernel_rfl) (by kernel_rfl) (by kernel_rfl) (fun _ _ _ h => h) (by kernel_rfl) (fun X hX => by clear hX; first | rfl | go_simp) hHeld ?_
    simp only [Act.put, List.setIfInBounds_toArray, List.set_cons_zero, List.set_cons_succ]
    refine takeH 4 18 (.pointer (some ⟨P, 3, none⟩)) rfl rfl (by kernel_rfl) (by kernel_rfl) (by kernel_rfl) (fun _ _ _ h => h) (by kernel_rfl) (fun X hX => by clear hX; first | rfl | go_simp) hHeld ?_
    simp only [Act.put, List.setIfInBounds_toArray, List.set_cons_zero, List.set_cons_succ]
    refine takeH 6 20 (.int .i64 k) rfl rfl (by kernel_rfl) (by kernel_rfl) (by kernel_rfl) (fun _ _ _ h => h) (by kernel_rfl) (fun X hX => by clear hX; first | rfl | go_simp) hHeld ?_
    simp only [Act.put, List.setIfInBounds_toArray, List.set_cons_zero, List.set_cons_succ]
    refine takeH 7 21 (.int .i64 (k + 1 : Int)) rfl rfl (by kernel_rfl) (by kernel_rfl) (by kernel_rfl) (fun _ _ _ h => h) (by kernel_rfl) (fun X hX => by clear hX; go_simp; rw [IntKind.wrap_i64]; omega) hHeld ?_
    simp only [Act.put, List.setIfInBounds_toArray, List.set_cons_zero, List.set_cons_succ]
    refine wpAnyH_ready (rs := [1, 5]) (by kernel_rfl) (by simp) ?_
    refine AllReadyH.cons rfl (fun KK hK => ?_) (AllReadyH.cons rfl (fun KK hK => ?_) AllReadyH.nil)
    · simp only [List.getElem_toArray, List.getElem_cons_succ, List.getElem_cons_zero]
      go_simp
      refine hK.out _ _ KD.out.2 (fun hHeld => ?_)
      clear hK KK
      try simp only [Act.put, List.setIfInBounds_toArray, List.set_cons_zero, List.set_cons_succ]
      refine takeH 3 17 (.slice (some ad) k c) rfl rfl (by kernel_rfl) (by kernel_rfl) (by kernel_rfl) (fun _ _ _ h => h) (by kernel_rfl) (fun X hX => by clear hX; go_simp; try (intro h; omega)) hHeld ?_
      simp only [Act.put, List.setIfInBounds_toArray, List.set_cons_zero, List.set_cons_succ]
      refine wpAnyH_ready (rs := [5]) (by kernel_rfl) (by simp) ?_
      refine AllReadyH.cons rfl (fun KK hK => ?_) AllReadyH.nil
      simp only [List.getElem_toArray, List.getElem_cons_succ, List.getElem_cons_zero]
      go_simp
      refine hK.out _ _ KD.out.2 (fun hHeld => ?_)
      clear hK KK
      try simp only [Act.put, List.setIfInBounds_toArray, List.set_cons_zero, List.set_cons_succ]
      refine takeH 8 22 (.slice (some a2) (r.l.length - (k + 1)) (c - (k + 1))) rfl rfl (by kernel_rfl) (by kernel_rfl) (by kernel_rfl) (fun _ _ _ h => h) (by kernel_rfl) (fun X hX => by clear hX; rcases HA2.out with ⟨e1, rfl⟩ | ⟨e1, rfl⟩ <;> go_simp <;> (try (intro h; omega))) hHeld ?_
      simp only [Act.put, List.setIfInBounds_toArray, List.set_cons_zero, List.set_cons_succ]
      refine wpAnyH_ready (rs := [9]) (by kernel_rfl) (by simp) ?_
      refine AllReadyH.cons rfl (fun KK hK => ?_) AllReadyH.nil
      simp only [List.getElem_toArray, List.getElem_cons_succ, List.getElem_cons_zero]
      go_simp
      refine hK.out _ _ K4.out.2 (fun hHeld => ?_)
      clear hK KK
      refine wpAnyH_ready (rs := [10]) (by kernel_rfl) (by simp) ?_
      refine AllReadyH.cons rfl (fun KK hK => ?_) AllReadyH.nil
      simp only [List.getElem_toArray, List.getElem_cons_succ, List.getElem_cons_zero]
      go_simp
      refine HC1.out.mono ?_
      rintro e w2 ⟨v, rfl, hown, b2⟩
      have K5 := hid ((K4.out.next b2).sub (l' := [(P, rc r (some ad) c, 63), (R, zrc, 63)]) (by simp))
      refine hK.out _ _ K5.out.2 (fun hHeld => ?_)
      clear hK KK
      try simp only [Act.put, List.setIfInBounds_toArray, List.set_cons_zero, List.set_cons_succ]
      refine takeH 11 25 (.pointer (some ⟨P, 3, none⟩)) rfl rfl (by kernel_rfl) (by kernel_rfl) (by kernel_rfl) (fun _ _ _ h => h) (by kernel_rfl) (fun X hX => by clear hX; first | rfl | go_simp) hHeld ?_
      simp only [Act.put, List.setIfInBounds_toArray, List.set_cons_zero, List.set_cons_succ]
      obtain ⟨A1, c1', rfl, hw1, hc1⟩ := own_whs hown
      have K6 := hid ((K5.out.set hPR.2.1 (by
          intro p hp
          simp only [List.mem_cons, List.not_mem_nil, or_false] at hp
          subst hp
          show R ≠ P; omega) 3 (.slice A1 (r.l.take k ++ r.l.drop (k + 1)).length c1')).sub (l' := [(R, zrc, 63), (P, rc ⟨r.n, r.s, r.g, r.l.take k ++ r.l.drop (k + 1)⟩ A1 c1', 63)]) (by
            intro p hp
            simp only [List.mem_cons, List.not_mem_nil, or_false] at hp
            rcases hp with rfl | rfl
            · simp
            · exact List.mem_cons_self ..))
      have O6 := hid (own_set hown (p := ⟨P, 3, none⟩) (show P < S.heap.size by omega) (.slice A1 (r.l.take k ++ r.l.drop (k + 1)).length c1'))
      have p3 := (K5.out.at_ (b := P) (cs := rc r (some ad) c) (t := 63) (by simp)).free 3
      have p4 := (K5.out.at_ (b := P) (cs := rc r (some ad) c) (t := 63) (by simp)).cell (k := 3) rfl
      clear hw1 HC1 hkx
      generalize r.l.take k ++ r.l.drop (k + 1) = ll at *
      obtain ⟨X, hX⟩ : ∃ X, w2.setCell ⟨P, 3, none⟩ (.slice A1 ll.length c1') = X := ⟨_, rfl⟩
      rw [hX] at K6 O6
      refine wpAnyH_ready (rs := [12]) (by kernel_rfl) (by simp) ?_
      refine AllReadyH.cons rfl (fun KK hK => ?_) AllReadyH.nil
      simp only [List.getElem_toArray, List.getElem_cons_succ, List.getElem_cons_zero]
      go_simp
      refine hK.out _ _ K6.out.2 (fun hHeld => ?_)
      clear hK KK
      refine wpAnyH_done (by kernel_rfl) ?_ _
      obtain ⟨s0, s1, s2, s3⟩ := K6.out.rm (B := P) (r := ⟨r.n, r.s, r.g, ll⟩) (A := A1) (c := c1') (by simp)
      have hO := K6.out.at_ (b := R) (cs := zrc) (t := 63) (by simp)
      have z0 := hO.cell (k := 0) rfl
      have z1 := hO.cell (k := 1) rfl
      have z2 := hO.cell (k := 2) rfl
      have z3 := hO.cell (k := 3) rfl
      have f0 := hO.free 0
      have f1 := hO.free 1
      have f2 := hO.free 2
      have f3 := hO.free 3
      have K7 := hid (K6.out.four (show w.heap.size ≤ R by omega) (by
        intro p hp
        simp only [List.mem_cons, List.not_mem_nil, or_false] at hp
        subst hp
        show P ≠ R; omega) (txt r.n) (.int .i64 r.s) (.int .u16 (r.g : Int)) (.slice A1 ll.length c1'))
      have O7 := hid (own_four O6.out (R := R) hPS.1 (txt r.n) (.int .i64 r.s) (.int .u16 (r.g : Int)) (.slice A1 ll.length c1'))
      obtain ⟨Z, hZ⟩ : ∃ Z, ((((X.setCell ⟨R, 0, none⟩ (txt r.n)).setCell ⟨R, 1, none⟩ (.int .i64 r.s)).setCell ⟨R, 2, none⟩ (.int .u16 (r.g : Int))).setCell ⟨R, 3, none⟩ (.slice A1 ll.length c1')) = Z := ⟨_, rfl⟩
      rw [hZ] at K7 O7
      have y0 := K7.out.cell (b := R) (cs := [txt r.n, .int .i64 r.s, .int .u16 (r.g : Int), .slice A1 ll.length c1']) (t := 63) (by simp) (k := 0) rfl
      have y1 := K7.out.cell (b := R) (cs := [txt r.n, .int .i64 r.s, .int .u16 (r.g : Int), .slice A1 ll.length c1']) (t := 63) (by simp) (k := 1) rfl
      have y2 := K7.out.cell (b := R) (cs := [txt r.n, .int .i64 r.s, .int .u16 (r.g : Int), .slice A1 ll.length c1']) (t := 63) (by simp) (k := 2) rfl
      have y3 := K7.out.cell (b := R) (cs := [txt r.n, .int .i64 r.s, .int .u16 (r.g : Int), .slice A1 ll.length c1']) (t := 63) (by simp) (k := 3) rfl
      clear hO p3 p4 r0 r1 r2 r3 HA2 H
      go_wp2_with fail
      obtain ⟨A2, c2', e2, hw2, hc2⟩ := own_whs O7.out
      injection e2 with e3 _ e5
      subst e3; subst e5
      exact bodyPost_ret (v := .tuple #[.agg #[txt r.n, .int .i64 r.s, .int .u16 (r.g : Int), .slice A1 ll.length c1'], .int .i64 0]) (by simp [results, Try.results56, go_sem, y0, y1, y2, y3]) rfl (.inr ⟨hxin.out, by rw [HH.out]; exact ⟨A1, c1', rfl, hw2, hc2, K7.out.2⟩⟩)
    · simp only [List.getElem_toArray, List.getElem_cons_succ, List.getElem_cons_zero]
      go_simp
      refine hK.out _ _ KD.out.2 (fun hHeld => ?_)
      clear hK KK
      try simp only [Act.put, List.setIfInBounds_toArray, List.set_cons_zero, List.set_cons_succ]
      refine takeH 8 22 (.slice (some a2) (r.l.length - (k + 1)) (c - (k + 1))) rfl rfl (by kernel_rfl) (by kernel_rfl) (by kernel_rfl) (fun _ _ _ h => h) (by kernel_rfl) (fun X hX => by clear hX; rcases HA2.out with ⟨e1, rfl⟩ | ⟨e1, rfl⟩ <;> go_simp <;> (try (intro h; omega))) hHeld ?_
      simp only [Act.put, List.setIfInBounds_toArray, List.set_cons_zero, List.set_cons_succ]
      refine wpAnyH_ready (rs := [1]) (by kernel_rfl) (by simp) ?_
      refine AllReadyH.cons rfl (fun KK hK => ?_) AllReadyH.nil
      simp only [List.getElem_toArray, List.getElem_cons_succ, List.getElem_cons_zero]
      go_simp
      refine hK.out _ _ KD.out.2 (fun hHeld => ?_)
      clear hK KK
      try simp only [Act.put, List.setIfInBounds_toArray, List.set_cons_zero, List.set_cons_succ]
      refine takeH 3 17 (.slice (some ad) k c) rfl rfl (by kernel_rfl) (by kernel_rfl) (by kernel_rfl) (fun _ _ _ h => h) (by kernel_rfl) (fun X hX => by clear hX; go_simp; try (intro h; omega)) hHeld ?_
      simp only [Act.put, List.setIfInBounds_toArray, List.set_cons_zero, List.set_cons_succ]
      refine wpAnyH_ready (rs := [9]) (by kernel_rfl) (by simp) ?_
      refine AllReadyH.cons rfl (fun KK hK => ?_) AllReadyH.nil
      simp only [List.getElem_toArray, List.getElem_cons_succ, List.getElem_cons_zero]
      go_simp
      refine hK.out _ _ K4.out.2 (fun hHeld => ?_)
      clear hK KK
      refine wpAnyH_ready (rs := [10]) (by kernel_rfl) (by simp) ?_
      refine AllReadyH.cons rfl (fun KK hK => ?_) AllReadyH.nil
      simp only [List.getElem_toArray, List.getElem_cons_succ, List.getElem_cons_zero]
      go_simp
      refine HC1.out.mono ?_
      rintro e w2 ⟨v, rfl, hown, b2⟩
      have K5 := hid ((K4.out.next b2).sub (l' := [(P, rc r (some ad) c, 63), (R, zrc, 63)]) (by simp))
      refine hK.out _ _ K5.out.2 (fun hHeld => ?_)
      clear hK KK
      try simp only [Act.put, List.setIfInBounds_toArray, List.set_cons_zero, List.set_cons_succ]
      refine takeH 11 25 (.pointer (some ⟨P, 3, none⟩)) rfl rfl (by kernel_rfl) (by kernel_rfl) (by kernel_rfl) (fun _ _ _ h => h) (by kernel_rfl) (fun X hX => by clear hX; first | rfl | go_simp) hHeld ?_
      simp only [Act.put, List.setIfInBounds_toArray, List.set_cons_zero, List.set_cons_succ]
      obtain ⟨A1, c1', rfl, hw1, hc1⟩ := own_whs hown
      have K6 := hid ((K5.out.set hPR.2.1 (by
          intro p hp
          simp only [List.mem_cons, List.not_mem_nil, or_false] at hp
          subst hp
          show R ≠ P; omega) 3 (.slice A1 (r.l.take k ++ r.l.drop (k + 1)).length c1')).sub (l' := [(R, zrc, 63), (P, rc ⟨r.n, r.s, r.g, r.l.take k ++ r.l.drop (k + 1)⟩ A1 c1', 63)]) (by
            intro p hp
            simp only [List.mem_cons, List.not_mem_nil, or_false] at hp
            rcases hp with rfl | rfl
            · simp
            · exact List.mem_cons_self ..))
      have O6 := hid (own_set hown (p := ⟨P, 3, none⟩) (show P < S.heap.size by omega) (.slice A1 (r.l.take k ++ r.l.drop (k + 1)).length c1'))
      have p3 := (K5.out.at_ (b := P) (cs := rc r (some ad) c) (t := 63) (by simp)).free 3
      have p4 := (K5.out.at_ (b := P) (cs := rc r (some ad) c) (t := 63) (by simp)).cell (k := 3) rfl
      clear hw1 HC1 hkx
      generalize r.l.take k ++ r.l.drop (k + 1) = ll at *
      obtain ⟨X, hX⟩ : ∃ X, w2.setCell ⟨P, 3, none⟩ (.slice A1 ll.length c1') = X := ⟨_, rfl⟩
      rw [hX] at K6 O6
      refine wpAnyH_ready (rs := [12]) (by kernel_rfl) (by simp) ?_
      refine AllReadyH.cons rfl (fun KK hK => ?_) AllReadyH.nil
      simp only [List.getElem_toArray, List.getElem_cons_succ, List.getElem_cons_zero]
      go_simp
      refine hK.out _ _ K6.out.2 (fun hHeld => ?_)
      clear hK KK
      refine wpAnyH_done (by kernel_rfl) ?_ _
      obtain ⟨s0, s1, s2, s3⟩ := K6.out.rm (B := P) (r := ⟨r.n, r.s, r.g, ll⟩) (A := A1) (c := c1') (by simp)
      have hO := K6.out.at_ (b := R) (cs := zrc) (t := 63) (by simp)
      have z0 := hO.cell (k := 0) rfl
      have z1 := hO.cell (k := 1) rfl
      have z2 := hO.cell (k := 2) rfl
      have z3 := hO.cell (k := 3) rfl
      have f0 := hO.free 0
      have f1 := hO.free 1
      have f2 := hO.free 2
      have f3 := hO.free 3
      have K7 := hid (K6.out.four (show w.heap.size ≤ R by omega) (by
        intro p hp
        simp only [List.mem_cons, List.not_mem_nil, or_false] at hp
        subst hp
        show P ≠ R; omega) (txt r.n) (.int .i64 r.s) (.int .u16 (r.g : Int)) (.slice A1 ll.length c1'))
      have O7 := hid (own_four O6.out (R := R) hPS.1 (txt r.n) (.int .i64 r.s) (.int .u16 (r.g : Int)) (.slice A1 ll.length c1'))
      obtain ⟨Z, hZ⟩ : ∃ Z, ((((X.setCell ⟨R, 0, none⟩ (txt r.n)).setCell ⟨R, 1, none⟩ (.int .i64 r.s)).setCell ⟨R, 2, none⟩ (.int .u16 (r.g : Int))).setCell ⟨R, 3, none⟩ (.slice A1 ll.length c1')) = Z := ⟨_, rfl⟩
      rw [hZ] at K7 O7
      have y0 := K7.out.cell (b := R) (cs := [txt r.n, .int .i64 r.s, .int .u16 (r.g : Int), .slice A1 ll.length c1']) (t := 63) (by simp) (k := 0) rfl
      have y1 := K7.out.cell (b := R) (cs := [txt r.n, .int .i64 r.s, .int .u16 (r.g : Int), .slice A1 ll.length c1']) (t := 63) (by simp) (k := 1) rfl
      have y2 := K7.out.cell (b := R) (cs := [txt r.n, .int .i64 r.s, .int .u16 (r.g : Int), .slice A1 ll.length c1']) (t := 63) (by simp) (k := 2) rfl
      have y3 := K7.out.cell (b := R) (cs := [txt r.n, .int .i64 r.s, .int .u16 (r.g : Int), .slice A1 ll.length c1']) (t := 63) (by simp) (k := 3) rfl
      clear hO p3 p4 r0 r1 r2 r3 HA2 H
      go_wp2_with fail
      obtain ⟨A2, c2', e2, hw2, hc2⟩ := own_whs O7.out
      injection e2 with e3 _ e5
      subst e3; subst e5
      exact bodyPost_ret (v := .tuple #[.agg #[txt r.n, .int .i64 r.s, .int .u16 (r.g : Int), .slice A1 ll.length c1'], .int .i64 0]) (by simp [results, Try.results56, go_sem, y0, y1, y2, y3]) rfl (.inr ⟨hxin.out, by rw [HH.out]; exact ⟨A1, c1', rfl, hw2, hc2, K7.out.2⟩⟩)
end Go.Proofs.Ytodhpdaoghbmcaa
