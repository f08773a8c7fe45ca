/- Contracts of the document's own answer for layer 11 (room): Fewer. -/
import Derived.Test.YtodhpdaoghbmcaaRomK
namespace Go.Proofs.Ytodhpdaoghbmcaa
open Go.RowKit
open Whn (Gr Wh)
set_option linter.unusedSimpArgs false

def fewer (l : List Wh) (x : Wh) : List Wh × Nat := if x ∈ l then (l.erase x, 0) else ([], 8)
theorem erase_at (l : List Wh) (x : Wh) (k : Nat) (hk : l[k]? = some x) (hp : ∀ y ∈ l.take k, y ≠ x) : l.erase x = l.take k ++ l.drop (k + 1) := by
  induction l generalizing k with
  | nil => simp at hk
  | cons p r ih =>
    cases k with
    | zero =>
      injection hk with hk
      subst hk
      simp
    | succ k =>
      have hne : p ≠ x := hp p (by simp)
      rw [List.erase_cons_tail (by simpa using hne), ih k hk (fun y hy => hp y (by rw [List.take_succ_cons]; exact List.mem_cons_of_mem _ hy))]
      simp
theorem ifs_whe (x y : Wh) (X : World) : (if (x.w : Int) = (y.w : Int) then if (x.d : Int) = (y.d : Int) then if x.s = y.s then if x.l = y.l then Result.ok (Next.value (Value.bool true)) X else Result.ok (Next.value (Value.bool false)) X else Result.ok (Next.value (Value.bool false)) X else Result.ok (Next.value (Value.bool false)) X else Result.ok (Next.value (Value.bool false)) X) = Result.ok (Next.value (Value.bool (whEq x y))) X := by
  have h1 : ((x.w : Int) = (y.w : Int)) = (x.w = y.w) := propext ⟨fun h => by omega, fun h => by omega⟩
  have h2 : ((x.d : Int) = (y.d : Int)) = (x.d = y.d) := propext ⟨fun h => by omega, fun h => by omega⟩
  simp only [h1, h2]
  unfold whEq
  by_cases a1 : x.w = y.w
  · by_cases a2 : x.d = y.d
    · by_cases a3 : x.s = y.s
      · by_cases a4 : x.l = y.l
        · simp [a1, a2, a3, a4]
        · simp [a1, a2, a3, a4]
      · simp [a1, a2, a3]
    · simp [a1, a2]
  · simp [a1]
set_option maxRecDepth 20000 in
set_option maxHeartbeats 8000000 in
theorem r_Fewer (A : Option Addr) (c : Nat) (l : List Wh) (hm : l.length ≤ 1000000) (hc : l.length ≤ c) (x : Wh) (w : World) (h : Whs w w.heap.size A l) :
    Calls Try.prog 28 #[.slice A l.length c, wv x] w (LeRet (fewer l x) w) := by
  have H := hid h
  clear h
  obtain ⟨G, V0, hG, hV, K, hb0⟩ := (Mem.nil w).one (wc x) 29
  obtain ⟨i0, hi0, hz0, hz1, hz2⟩ := info_parts Try.info_when
  go_enter Try.func28, Try.ntmps28
  go_wp2
  go_loopw [6] (fun i wr => ∃ (k : Nat), i = .int .i64 k ∧ k ≤ l.length ∧ Hid (Mem w wr [(G, wc x, 29)]) ∧ Hid (∀ y ∈ l.take k, y ≠ x)) (fun i _ => l.length - (intOf i).toNat)
  case atStart => exact ⟨0, rfl, Nat.zero_le _, K.out, fun y hy => by simp at hy⟩
  case round =>
    obtain ⟨k, rfl, hk, K1, hsame⟩ := hrel
    by_cases hlt : k < l.length
    · obtain ⟨ad, y, rfl, had, hx, hxl⟩ := whs_ad H.out hlt
      have b1 : (0 : Int) ≤ (k : Int) := by omega
      have b2 : (k : Int) < l.length := by omega
      go_wp2_with fail
      refine wp_region_held_drew (S := fun X => Mem w X [(G, wc x, 29)]) (by kernel_rfl) K1.out.drew (fun hHeld => ?_)
      refine takeH 0 13 (.slice (some ad) l.length c) rfl rfl (by kernel_rfl) (by kernel_rfl) (by kernel_rfl) (fun _ _ _ h => h) (by kernel_rfl) (fun X hX => by clear hX; first | rfl | go_simp) hHeld ?_
      simp only [Act.put, List.setIfInBounds_toArray, List.set_cons_zero, List.set_cons_succ]
      refine takeH 1 14 (.int .i64 k) rfl rfl (by kernel_rfl) (by kernel_rfl) (by kernel_rfl) (fun _ _ _ h => h) (by kernel_rfl) (fun X hX => by clear hX; first | rfl | go_simp) hHeld ?_
      simp only [Act.put, List.setIfInBounds_toArray, List.set_cons_zero, List.set_cons_succ]
      refine takeH 2 15 (.pointer (some (ad.add (k * 4)))) rfl rfl (by kernel_rfl) (by kernel_rfl) (by kernel_rfl) (fun _ _ _ h => h) (by kernel_rfl) (fun X hX => by clear hX; go_simp) hHeld ?_
      simp only [Act.put, List.setIfInBounds_toArray, List.set_cons_zero, List.set_cons_succ]
      refine takeH 3 16 (wv y) rfl rfl (by kernel_rfl) (by kernel_rfl) (by kernel_rfl) (fun _ _ _ h => h) (by kernel_rfl) (fun X hX => by obtain ⟨c0, c1, c2, c3⟩ := whs_at (H.out.below hX.2 (Nat.le_refl _)) hx.out; clear hX; go_simp) hHeld ?_
      simp only [Act.put, List.setIfInBounds_toArray, List.set_cons_zero, List.set_cons_succ]
      refine takeH 4 17 (wv x) rfl rfl (by kernel_rfl) (by kernel_rfl) (by kernel_rfl) (fun _ _ _ h => h) (by kernel_rfl) (fun X hX => by obtain ⟨c0, c1, c2, c3⟩ := hX.wh (B := G) (x := x) (by simp); clear hX; go_simp) hHeld ?_
      simp only [Act.put, List.setIfInBounds_toArray, List.set_cons_zero, List.set_cons_succ]
      refine takeH 5 18 (.bool (whEq y x)) rfl rfl (by kernel_rfl) (by kernel_rfl) (by kernel_rfl) (fun _ _ _ h => h) (by kernel_rfl) (fun X hX => by clear hX; go_simp; exact ifs_whe y x X) hHeld ?_
      simp only [Act.put, List.setIfInBounds_toArray, List.set_cons_zero, List.set_cons_succ]
      refine wpAnyH_done (by kernel_rfl) ?_ _
      have K2 := hid K1.out.drew
      cases hR : whEq y x with
      | false =>
        go_wp2_with fail
        refine ⟨⟨k + 1, by go_num, by omega, K2.out, ?_⟩, by simp [intOf]; omega⟩
        intro z hz
        rw [List.take_add_one, hx.out, List.mem_append] at hz
        rcases hz with hz | hz
        · exact hsame.out z hz
        · simp at hz
          rw [hz]
          intro e
          rw [(whEq_iff y x).2 e] at hR
          cases hR
      | true =>
        have hyx := (whEq_iff y x).1 hR
        have Hm := hid (show (fewer l x).1 = l.take k ++ l.drop (k + 1) by unfold fewer; rw [if_pos (by rw [← hyx]; exact hxl)]; exact erase_at l x k (by rw [hx.out, hyx]) hsame.out)
        have Hn := hid (show (fewer l x).2 = 0 by unfold fewer; rw [if_pos (by rw [← hyx]; exact hxl)])
        clear hyx hsame
        generalize hVV : World.drew _ = V at K2 ⊢
        have hd0 : Below V.heap.size V V.drew := (Below.refl _ V).drew
        have HS1 := fun (w' : World) (hb : Below V.heap.size V w') => src_whs (P := Try.prog) w' Try.underlying24 (c := c) (by rw [List.length_take]; omega : (l.take k).length = k) (Whs.take (H.out.below (K2.out.next hb).2 (Nat.le_refl _)) k)
        have HS2 := fun (A2 : Option Addr) (hA : k + 1 < l.length → A2 = (some ad).map (fun x => x.add ((k + 1) * 4))) (w' : World) (hb : Below V.heap.size V w') => src_whs (P := Try.prog) w' Try.underlying24 (c := c - (k + 1)) (List.length_drop : (l.drop (k + 1)).length = l.length - (k + 1)) (Whs.drop (H.out.below (K2.out.next hb).2 (Nat.le_refl _)) (k + 1) hA)
        have q1 : 0 + k ≤ maxLen := by unfold maxLen; omega
        have q2 : (0 + k) * 24 ≤ 140737488355328 := by omega
        have q3 : 0 + k + (l.length - (k + 1)) ≤ maxLen := by unfold maxLen; omega
        have q4 : (0 + k + (l.length - (k + 1))) * 24 ≤ 140737488355328 := by omega
        have i3 : (k : Int) + 1 ≤ (l.length : Int) := by omega
        by_cases hck : c = k + 1
        · have hml := hid (show l.length = k + 1 by omega)
          have Hck := hid hck
          have HS2 := HS2 (some ad) (fun h => by have := hml.out; omega)
          clear hck
          go_wp2_with fail
          refine wp_region_held_drew (S := fun X => Below V.heap.size V X) (by kernel_rfl) hd0 (fun hHeld => ?_)
          refine takeH 1 20 (.slice (some ad) l.length c) rfl rfl (by kernel_rfl) (by kernel_rfl) (by kernel_rfl) (fun _ _ _ h => h) (by kernel_rfl) (fun X hX => by clear hX; first | rfl | go_simp) hHeld ?_
          simp only [Act.put, List.setIfInBounds_toArray, List.set_cons_zero, List.set_cons_succ]
          refine takeH 2 21 (.int .i64 k) rfl rfl (by kernel_rfl) (by kernel_rfl) (by kernel_rfl) (fun _ _ _ h => h) (by kernel_rfl) (fun X hX => by clear hX; first | rfl | go_simp) hHeld ?_
          simp only [Act.put, List.setIfInBounds_toArray, List.set_cons_zero, List.set_cons_succ]
          refine takeH 3 22 (.slice (some ad) k c) rfl rfl (by kernel_rfl) (by kernel_rfl) (by kernel_rfl) (fun _ _ _ h => h) (by kernel_rfl) (fun X hX => by clear hX; go_simp; try (intro h; omega)) hHeld ?_
          simp only [Act.put, List.setIfInBounds_toArray, List.set_cons_zero, List.set_cons_succ]
          refine takeH 5 24 (.slice (some ad) l.length c) rfl rfl (by kernel_rfl) (by kernel_rfl) (by kernel_rfl) (fun _ _ _ h => h) (by kernel_rfl) (fun X hX => by clear hX; first | rfl | go_simp) hHeld ?_
          simp only [Act.put, List.setIfInBounds_toArray, List.set_cons_zero, List.set_cons_succ]
          refine takeH 6 25 (.int .i64 k) rfl rfl (by kernel_rfl) (by kernel_rfl) (by kernel_rfl) (fun _ _ _ h => h) (by kernel_rfl) (fun X hX => by clear hX; first | rfl | go_simp) hHeld ?_
          simp only [Act.put, List.setIfInBounds_toArray, List.set_cons_zero, List.set_cons_succ]
          refine takeH 7 26 (.int .i64 (k + 1 : Int)) rfl rfl (by kernel_rfl) (by kernel_rfl) (by kernel_rfl) (fun _ _ _ h => h) (by kernel_rfl) (fun X hX => by clear hX; go_simp; rw [IntKind.wrap_i64]; omega) hHeld ?_
          simp only [Act.put, List.setIfInBounds_toArray, List.set_cons_zero, List.set_cons_succ]
          refine takeH 8 27 (.slice (some ad) (l.length - (k + 1)) (c - (k + 1))) rfl rfl (by kernel_rfl) (by kernel_rfl) (by kernel_rfl) (fun _ _ _ h => h) (by kernel_rfl) (fun X hX => by clear hX; have hck1 := Hck.out; have hml1 := hml.out; go_simp; try (intro h; omega)) hHeld ?_
          simp only [Act.put, List.setIfInBounds_toArray, List.set_cons_zero, List.set_cons_succ]
          refine wpAnyH_ready (rs := [0]) (by kernel_rfl) (by simp) ?_
          refine AllReadyH.cons rfl (fun KK hK => ?_) AllReadyH.nil
          simp only [List.getElem_toArray, List.getElem_cons_succ, List.getElem_cons_zero]
          go_simp
          have hB1 := Below.alloc hd0 hd0.size (.cells #[] 29)
          have own0 := World.ownsRow_lit (base := V.heap.size) (e := 29) (size := 4) V.drew #[] 0 hd0.size (by unfold maxLen; omega) rfl
          refine hK.out _ _ hB1 (fun hHeld => ?_)
          clear hK KK
          refine wpAnyH_ready (rs := [4]) (by kernel_rfl) (by simp) ?_
          refine AllReadyH.cons rfl (fun KK hK => ?_) AllReadyH.nil
          refine step_append_srcN rfl (.tmp 19) (.tmp 22) 24 24 rfl V.heap.size 29 i0 (.agg #[.int .u32 0, .int .u8 0, .int .i64 0, .int .i64 0]) 4 24 Try.underlying24 hi0 hz0 hz1 hz2 rfl _ _ _ (by rfl) own0 _ _ _ (by rfl) (HS1 _ hB1) q1 q2 hB1.size ?_
          intro va wa owna hgra
          have hBa : Below V.heap.size V wa := Below.grown hB1 hgra hB1.size (fun k hk => ((own0).lt k hk).1)
          refine hK.out _ _ hBa (fun hHeld => ?_)
          clear hK KK
          try simp only [Act.put, List.setIfInBounds_toArray, List.set_cons_zero, List.set_cons_succ]
          refine wpAnyH_ready (rs := [9]) (by kernel_rfl) (by simp) ?_
          refine AllReadyH.cons rfl (fun KK hK => ?_) AllReadyH.nil
          refine step_append_srcN rfl (.tmp 23) (.tmp 27) 24 24 rfl V.heap.size 29 i0 (.agg #[.int .u32 0, .int .u8 0, .int .i64 0, .int .i64 0]) 4 24 Try.underlying24 hi0 hz0 hz1 hz2 rfl _ _ _ (by rfl) owna _ _ _ (by rfl) (HS2 _ hBa) q3 q4 hBa.size ?_
          intro vb wb ownb hgrb
          have hBb : Below V.heap.size V wb := Below.grown hBa hgrb hBa.size (fun k hk => ((owna).lt k hk).1)
          refine hK.out _ _ hBb (fun hHeld => ?_)
          clear hK KK
          try simp only [Act.put, List.setIfInBounds_toArray, List.set_cons_zero, List.set_cons_succ]
          refine wpAnyH_ready (rs := [10]) (by kernel_rfl) (by simp) ?_
          refine AllReadyH.cons rfl (fun KK hK => ?_) AllReadyH.nil
          simp only [List.getElem_toArray, List.getElem_cons_succ, List.getElem_cons_zero]
          go_simp
          refine hK.out _ _ hBb (fun hHeld => ?_)
          clear hK KK
          refine wpAnyH_ready (rs := [11]) (by kernel_rfl) (by simp) ?_
          refine AllReadyH.cons rfl (fun KK hK => ?_) AllReadyH.nil
          simp only [List.getElem_toArray, List.getElem_cons_succ, List.getElem_cons_zero]
          go_simp
          refine hK.out _ _ hBb (fun hHeld => ?_)
          clear hK KK
          refine wpAnyH_done (by kernel_rfl) ?_ _
          go_wp2_with fail
          go_ret2
          exact LeRet.mk ownb (by rw [Hm.out, List.length_append, List.length_take, List.length_drop]; omega) (by rw [Hm.out, wcells_append]; rfl) (by rw [Hn.out]; rfl) (K2.out.next hBb).2
        · have hck' : ¬ (c : Int) = (k : Int) + 1 := by omega
          have HS2 := HS2 (some (ad.add ((k + 1) * 4))) (fun _ => rfl)
          go_wp2_with fail
          refine wp_region_held_drew (S := fun X => Below V.heap.size V X) (by kernel_rfl) hd0 (fun hHeld => ?_)
          refine takeH 1 20 (.slice (some ad) l.length c) rfl rfl (by kernel_rfl) (by kernel_rfl) (by kernel_rfl) (fun _ _ _ h => h) (by kernel_rfl) (fun X hX => by clear hX; first | rfl | go_simp) hHeld ?_
          simp only [Act.put, List.setIfInBounds_toArray, List.set_cons_zero, List.set_cons_succ]
          refine takeH 2 21 (.int .i64 k) rfl rfl (by kernel_rfl) (by kernel_rfl) (by kernel_rfl) (fun _ _ _ h => h) (by kernel_rfl) (fun X hX => by clear hX; first | rfl | go_simp) hHeld ?_
          simp only [Act.put, List.setIfInBounds_toArray, List.set_cons_zero, List.set_cons_succ]
          refine takeH 3 22 (.slice (some ad) k c) rfl rfl (by kernel_rfl) (by kernel_rfl) (by kernel_rfl) (fun _ _ _ h => h) (by kernel_rfl) (fun X hX => by clear hX; go_simp; try (intro h; omega)) hHeld ?_
          simp only [Act.put, List.setIfInBounds_toArray, List.set_cons_zero, List.set_cons_succ]
          refine takeH 5 24 (.slice (some ad) l.length c) rfl rfl (by kernel_rfl) (by kernel_rfl) (by kernel_rfl) (fun _ _ _ h => h) (by kernel_rfl) (fun X hX => by clear hX; first | rfl | go_simp) hHeld ?_
          simp only [Act.put, List.setIfInBounds_toArray, List.set_cons_zero, List.set_cons_succ]
          refine takeH 6 25 (.int .i64 k) rfl rfl (by kernel_rfl) (by kernel_rfl) (by kernel_rfl) (fun _ _ _ h => h) (by kernel_rfl) (fun X hX => by clear hX; first | rfl | go_simp) hHeld ?_
          simp only [Act.put, List.setIfInBounds_toArray, List.set_cons_zero, List.set_cons_succ]
          refine takeH 7 26 (.int .i64 (k + 1 : Int)) rfl rfl (by kernel_rfl) (by kernel_rfl) (by kernel_rfl) (fun _ _ _ h => h) (by kernel_rfl) (fun X hX => by clear hX; go_simp; rw [IntKind.wrap_i64]; omega) hHeld ?_
          simp only [Act.put, List.setIfInBounds_toArray, List.set_cons_zero, List.set_cons_succ]
          refine takeH 8 27 (.slice (some (ad.add ((k + 1) * 4))) (l.length - (k + 1)) (c - (k + 1))) rfl rfl (by kernel_rfl) (by kernel_rfl) (by kernel_rfl) (fun _ _ _ h => h) (by kernel_rfl) (fun X hX => by clear hX; go_simp; try (intro h; omega)) hHeld ?_
          simp only [Act.put, List.setIfInBounds_toArray, List.set_cons_zero, List.set_cons_succ]
          refine wpAnyH_ready (rs := [0]) (by kernel_rfl) (by simp) ?_
          refine AllReadyH.cons rfl (fun KK hK => ?_) AllReadyH.nil
          simp only [List.getElem_toArray, List.getElem_cons_succ, List.getElem_cons_zero]
          go_simp
          have hB1 := Below.alloc hd0 hd0.size (.cells #[] 29)
          have own0 := World.ownsRow_lit (base := V.heap.size) (e := 29) (size := 4) V.drew #[] 0 hd0.size (by unfold maxLen; omega) rfl
          refine hK.out _ _ hB1 (fun hHeld => ?_)
          clear hK KK
          refine wpAnyH_ready (rs := [4]) (by kernel_rfl) (by simp) ?_
          refine AllReadyH.cons rfl (fun KK hK => ?_) AllReadyH.nil
          refine step_append_srcN rfl (.tmp 19) (.tmp 22) 24 24 rfl V.heap.size 29 i0 (.agg #[.int .u32 0, .int .u8 0, .int .i64 0, .int .i64 0]) 4 24 Try.underlying24 hi0 hz0 hz1 hz2 rfl _ _ _ (by rfl) own0 _ _ _ (by rfl) (HS1 _ hB1) q1 q2 hB1.size ?_
          intro va wa owna hgra
          have hBa : Below V.heap.size V wa := Below.grown hB1 hgra hB1.size (fun k hk => ((own0).lt k hk).1)
          refine hK.out _ _ hBa (fun hHeld => ?_)
          clear hK KK
          try simp only [Act.put, List.setIfInBounds_toArray, List.set_cons_zero, List.set_cons_succ]
          refine wpAnyH_ready (rs := [9]) (by kernel_rfl) (by simp) ?_
          refine AllReadyH.cons rfl (fun KK hK => ?_) AllReadyH.nil
          refine step_append_srcN rfl (.tmp 23) (.tmp 27) 24 24 rfl V.heap.size 29 i0 (.agg #[.int .u32 0, .int .u8 0, .int .i64 0, .int .i64 0]) 4 24 Try.underlying24 hi0 hz0 hz1 hz2 rfl _ _ _ (by rfl) owna _ _ _ (by rfl) (HS2 _ hBa) q3 q4 hBa.size ?_
          intro vb wb ownb hgrb
          have hBb : Below V.heap.size V wb := Below.grown hBa hgrb hBa.size (fun k hk => ((owna).lt k hk).1)
          refine hK.out _ _ hBb (fun hHeld => ?_)
          clear hK KK
          try simp only [Act.put, List.setIfInBounds_toArray, List.set_cons_zero, List.set_cons_succ]
          refine wpAnyH_ready (rs := [10]) (by kernel_rfl) (by simp) ?_
          refine AllReadyH.cons rfl (fun KK hK => ?_) AllReadyH.nil
          simp only [List.getElem_toArray, List.getElem_cons_succ, List.getElem_cons_zero]
          go_simp
          refine hK.out _ _ hBb (fun hHeld => ?_)
          clear hK KK
          refine wpAnyH_ready (rs := [11]) (by kernel_rfl) (by simp) ?_
          refine AllReadyH.cons rfl (fun KK hK => ?_) AllReadyH.nil
          simp only [List.getElem_toArray, List.getElem_cons_succ, List.getElem_cons_zero]
          go_simp
          refine hK.out _ _ hBb (fun hHeld => ?_)
          clear hK KK
          refine wpAnyH_done (by kernel_rfl) ?_ _
          go_wp2_with fail
          go_ret2
          exact LeRet.mk ownb (by rw [Hm.out, List.length_append, List.length_take, List.length_drop]; omega) (by rw [Hm.out, wcells_append]; rfl) (by rw [Hn.out]; rfl) (K2.out.next hBb).2
    · have hno : ¬ x ∈ l := fun hx => hsame.out x (by rw [List.take_of_length_le (by omega)]; exact hx) rfl
      have Hm := hid (show (fewer l x).1 = [] by unfold fewer; rw [if_neg hno])
      have Hn := hid (show (fewer l x).2 = 8 by unfold fewer; rw [if_neg hno])
      clear hno
      go_wp2_with fail
      go_ret2
      exact ⟨none, 0, by rw [Hm.out, Hn.out]; rfl, by rw [Hm.out]; exact Rd.none_ _ _ _, by rw [Hm.out]; exact Nat.le_refl _, K1.out.2⟩
end Go.Proofs.Ytodhpdaoghbmcaa
