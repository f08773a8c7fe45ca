/- Contracts of the document's own answer for layer 11 (room): More. -/
import Derived.Test.YtodhpdaoghbmcaaRomJ
import Derived.Test.YtodhpdaoghbmcaaRomE
namespace Go.Proofs.Ytodhpdaoghbmcaa
open Go.RowKit
open Whn (Gr Wh)
set_option linter.unusedSimpArgs false

def more (l : List Wh) (x : Wh) : List Wh × Nat := if 16 ≤ l.length then ([], 9) else (l ++ [x], 0)
/-- a row of times, and an error -/
def LeRet (p : List Wh × Nat) (w : World) (e : Ending) (w' : World) : Prop := ∃ A c, e = .returned (.tuple #[.slice A p.1.length c, .int .i64 (p.2 : Int)]) ∧ Whs w' w'.heap.size A p.1 ∧ p.1.length ≤ c ∧ Below w.heap.size w w'
theorem LeRet.mk {p : List Wh × Nat} {w w' : World} {base n : Nat} {e : TypeId} {v : Value} {xs : List Value} {k : Int} (h : w'.ownsRow base e 4 v n xs) (hn : n = p.1.length) (hx : xs = wcells p.1) (hk : k = (p.2 : Int)) (hb : Below w.heap.size w w') : LeRet p w (.returned (.tuple #[v, .int .i64 k])) w' := by
  subst hn; subst hx; subst hk
  rcases h.2 with ⟨rfl, h0⟩ | ⟨g, cap, cur, rfl, hb', hg, hn, _⟩
  · have h1 : p.1 = [] := List.eq_nil_of_length_eq_zero h0
    refine ⟨none, 0, by rw [h1]; rfl, by rw [h1]; exact Rd.none_ _ _ _, by rw [h1]; exact Nat.le_refl _, hb⟩
  · exact ⟨some ⟨g, 0, none⟩, cap, rfl, fun _ => ⟨_, rfl, (Array.getElem?_eq_some_iff.1 hg).1, fun k l hk => h.cells rfl k _ hk⟩, hn, hb⟩
theorem wlit (w : World) (x : Wh) : ∀ j u, (wc x)[j]? = some u → (w.alloc (.cells #[.int .u32 (x.w : Int), .int .u8 (x.d : Int), .int .i64 x.s, .int .i64 x.l] 29)).cell? ((⟨w.heap.size, 0, none⟩ : Addr).add j) = some u := lit_cells w (wc x) 29 (show 4 ≤ maxLen by unfold maxLen; omega)
theorem wlit2 {w : World} {g : Nat} (hg : g = w.heap.size) (x : Wh) : ∀ j u, (wc x)[j]? = some u → (w.alloc (.cells #[.int .u32 (x.w : Int), .int .u8 (x.d : Int), .int .i64 x.s, .int .i64 x.l] 29)).cell? ((⟨g, 0, none⟩ : Addr).add j) = some u := by
  subst hg
  exact wlit w x
theorem wlit_past (w : World) (x : Wh) (o : Obj) : ∀ j u, (wc x)[j]? = some u → ((w.alloc (.cells #[.int .u32 (x.w : Int), .int .u8 (x.d : Int), .int .i64 x.s, .int .i64 x.l] 29)).alloc o).cell? ((⟨w.heap.size, 0, none⟩ : Addr).add j) = some u := fun j u hj =>
  ((below_alloc (w.alloc (.cells #[.int .u32 (x.w : Int), .int .u8 (x.d : Int), .int .i64 x.s, .int .i64 x.l] 29)) o).cell (by rw [add_block]; simp)).trans (wlit w x j u hj)
theorem wsrc_kept {P : Program} {W wa : World} {ob : Option Nat} (hg : W.grownBy wa ob) {e' tx : TypeId} (hk : P.underlying tx = some (.slice e')) {g : Nat} {x : Wh} (h : ∀ j u, (wc x)[j]? = some u → W.cell? ((⟨g, 0, none⟩ : Addr).add j) = some u) (hlt : g < W.heap.size) (hne : some g ≠ ob) :
    Src P 4 tx (.slice (some ⟨g, 0, none⟩) 1 1) 1 (wc x) wa :=
  Src.ofSlice wa hk ⟨g, 0, none⟩ 1 1 (wc x) rfl (fun j u hj => (World.cell?_of_block (a := (⟨g, 0, none⟩ : Addr).add j) (by rw [add_block]; exact hg.block g hlt hne)).trans (h j u hj)) (wcells_one [x])
set_option maxRecDepth 20000 in
set_option maxHeartbeats 8000000 in
theorem r_More (A : Option Addr) (c : Nat) (l : List Wh) (hm : l.length ≤ 1000000) (x : Wh) (w : World) (h : Whs w w.heap.size A l) :
    Calls Try.prog 26 #[.slice A l.length c, wv x] w (LeRet (more l x) w) := by
  have H := hid h
  clear h
  obtain ⟨G, V, hG, hV, K, hb0⟩ := (Mem.nil w).one (wc x) 29
  obtain ⟨i0, hi0, hz0, hz1, hz2⟩ := info_parts Try.info_when
  by_cases h16 : (16 : Int) ≤ (l.length : Int)
  · have Hm := hid (show (more l x).1 = [] by unfold more; rw [if_pos (by omega)])
    have Hn := hid (show (more l x).2 = 9 by unfold more; rw [if_pos (by omega)])
    go_enter Try.func26, Try.ntmps26
    go_wp2_with fail
    go_ret2
    exact ⟨none, 0, by rw [Hm.out, Hn.out]; rfl, by rw [Hm.out]; exact Rd.none_ _ _ _, by rw [Hm.out]; exact Nat.le_refl _, K.out.2⟩
  · have Hm := hid (show (more l x).1 = l ++ [x] by unfold more; rw [if_neg (by omega)])
    have Hn := hid (show (more l x).2 = 0 by unfold more; rw [if_neg (by omega)])
    have h16' : (l.length : Int) < 16 := by omega
    have hl16 : l.length < 16 := by omega
    have HS1 := fun (w' : World) (hb : Below V.heap.size V w') => src_whs (P := Try.prog) w' Try.underlying24 (c := c) (rfl : l.length = l.length) (H.out.below (K.out.next hb).2 (Nat.le_refl _))
    have HS3 := fun (wa : World) => Src.ofSlice (P := Try.prog) (wa.alloc (.cells #[.int .u32 (x.w : Int), .int .u8 (x.d : Int), .int .i64 x.s, .int .i64 x.l] 29)) (size := 4) Try.underlying24 ⟨wa.heap.size, 0, none⟩ 1 1 (wc x) rfl (lit_cells wa (wc x) 29 (show 4 ≤ maxLen by unfold maxLen; omega)) (wcells_one [x])
    have q1 : 0 + l.length ≤ maxLen := by unfold maxLen; omega
    have q2 : (0 + l.length) * 24 ≤ 140737488355328 := by omega
    have q3 : 0 + l.length + 1 ≤ maxLen := by unfold maxLen; omega
    have q4 : (0 + l.length + 1) * 24 ≤ 140737488355328 := by omega
    clear h16
    go_enter Try.func26, Try.ntmps26
    go_wp2_with fail
    have hd0 : Below V.heap.size V V.drew := (Below.refl _ V).drew
    refine wp_region_held_drew (S := fun X => Below V.heap.size V X) (by kernel_rfl) hd0 (fun hHeld => ?_)
    refine takeH 1 10 (.slice A l.length c) rfl rfl (by kernel_rfl) (by kernel_rfl) (by kernel_rfl) (fun _ _ _ h => h) (by kernel_rfl) (fun X hX => by clear hX; first | rfl | go_simp) hHeld ?_
    simp only [Act.put, List.setIfInBounds_toArray, List.set_cons_zero, List.set_cons_succ]
    refine takeH 3 12 (wv x) rfl rfl (by kernel_rfl) (by kernel_rfl) (by kernel_rfl) (fun _ _ _ h => h) (by kernel_rfl) (fun X hX => by obtain ⟨c0, c1, c2, c3⟩ := (K.out.next hX).wh (B := G) (x := x) (by simp); clear hX; go_simp) hHeld ?_
    simp only [Act.put, List.setIfInBounds_toArray, List.set_cons_zero, List.set_cons_succ]
    refine wpAnyH_ready (rs := [0, 4]) (by kernel_rfl) (by simp) ?_
    refine AllReadyH.cons rfl (fun KK hK => ?_) ?_
    · simp only [List.getElem_toArray, List.getElem_cons_succ, List.getElem_cons_zero]
      go_simp
      have hB1 := Below.alloc hd0 hd0.size (.cells #[] 29)
      have own0 := World.ownsRow_lit (base := V.heap.size) (e := 29) (size := 4) V.drew #[] 0 hd0.size (by unfold maxLen; omega) rfl
      refine hK.out _ _ hB1 (fun hHeld => ?_)
      clear hK KK
      refine wpAnyH_ready (rs := [2, 4]) (by kernel_rfl) (by simp) ?_
      refine AllReadyH.cons rfl (fun KK hK => ?_) ?_
      · skip
        refine step_append_srcN rfl (.tmp 9) (.tmp 10) 24 24 rfl V.heap.size 29 i0 (.agg #[.int .u32 0, .int .u8 0, .int .i64 0, .int .i64 0]) 4 24 Try.underlying24 hi0 hz0 hz1 hz2 rfl _ _ _ (by rfl) own0 _ _ _ (by rfl) (HS1 _ hB1) q1 q2 hB1.size ?_
        intro va wa owna hgra
        have hBa : Below V.heap.size V wa := Below.grown hB1 hgra hB1.size (fun k hk => ((own0).lt k hk).1)
        refine hK.out _ _ hBa (fun hHeld => ?_)
        clear hK KK
        try simp only [Act.put, List.setIfInBounds_toArray, List.set_cons_zero, List.set_cons_succ]
        refine wpAnyH_ready (rs := [4]) (by kernel_rfl) (by simp) ?_
        refine AllReadyH.cons rfl (fun KK hK => ?_) AllReadyH.nil
        simp only [List.getElem_toArray, List.getElem_cons_succ, List.getElem_cons_zero]
        go_simp
        have hB8 := Below.alloc hBa hBa.size (.cells #[.int .u32 (x.w : Int), .int .u8 (x.d : Int), .int .i64 x.s, .int .i64 x.l] 29)
        refine hK.out _ _ hB8 (fun hHeld => ?_)
        clear hK KK
        have owna8 := owna.alloc (.cells #[.int .u32 (x.w : Int), .int .u8 (x.d : Int), .int .i64 x.s, .int .i64 x.l] 29)
        refine wpAnyH_ready (rs := [5]) (by kernel_rfl) (by simp) ?_
        refine AllReadyH.cons rfl (fun KK hK => ?_) AllReadyH.nil
        refine step_append_srcN rfl (.tmp 11) (.tmp 13) 24 24 rfl V.heap.size 29 i0 (.agg #[.int .u32 0, .int .u8 0, .int .i64 0, .int .i64 0]) 4 24 Try.underlying24 hi0 hz0 hz1 hz2 rfl _ _ _ (by rfl) owna8 _ _ _ (by rfl) (HS3 wa) q3 q4 hB8.size ?_
        intro vb wb ownb hgrb
        have hBb : Below V.heap.size V wb := Below.grown hB8 hgrb hB8.size (fun k hk => ((owna8).lt k hk).1)
        refine hK.out _ _ hBb (fun hHeld => ?_)
        clear hK KK
        try simp only [Act.put, List.setIfInBounds_toArray, List.set_cons_zero, List.set_cons_succ]
        refine wpAnyH_ready (rs := [6]) (by kernel_rfl) (by simp) ?_
        refine AllReadyH.cons rfl (fun KK hK => ?_) AllReadyH.nil
        simp only [List.getElem_toArray, List.getElem_cons_succ, List.getElem_cons_zero]
        go_simp
        refine hK.out _ _ hBb (fun hHeld => ?_)
        clear hK KK
        refine wpAnyH_ready (rs := [7]) (by kernel_rfl) (by simp) ?_
        refine AllReadyH.cons rfl (fun KK hK => ?_) AllReadyH.nil
        simp only [List.getElem_toArray, List.getElem_cons_succ, List.getElem_cons_zero]
        go_simp
        refine hK.out _ _ hBb (fun hHeld => ?_)
        clear hK KK
        refine wpAnyH_done (by kernel_rfl) ?_ _
        go_wp2_with fail
        go_ret2
        exact LeRet.mk ownb (by rw [Hm.out, List.length_append, List.length_singleton]; omega) (by rw [Hm.out, wcells_append]; rfl) (by rw [Hn.out]; rfl) (K.out.next hBb).2
      · refine AllReadyH.cons rfl (fun KK hK => ?_) AllReadyH.nil
        simp only [List.getElem_toArray, List.getElem_cons_succ, List.getElem_cons_zero]
        go_simp
        have hB2 := Below.alloc hB1 hB1.size (.cells #[.int .u32 (x.w : Int), .int .u8 (x.d : Int), .int .i64 x.s, .int .i64 x.l] 29)
        refine hK.out _ _ hB2 (fun hHeld => ?_)
        clear hK KK
        have own2 := own0.alloc (.cells #[.int .u32 (x.w : Int), .int .u8 (x.d : Int), .int .i64 x.s, .int .i64 x.l] 29)
        refine wpAnyH_ready (rs := [2]) (by kernel_rfl) (by simp) ?_
        refine AllReadyH.cons rfl (fun KK hK => ?_) AllReadyH.nil
        refine step_append_srcN rfl (.tmp 9) (.tmp 10) 24 24 rfl V.heap.size 29 i0 (.agg #[.int .u32 0, .int .u8 0, .int .i64 0, .int .i64 0]) 4 24 Try.underlying24 hi0 hz0 hz1 hz2 rfl _ _ _ (by rfl) own2 _ _ _ (by rfl) (HS1 _ hB2) q1 q2 hB2.size ?_
        intro va wa owna hgra
        have hBa : Below V.heap.size V wa := Below.grown hB2 hgra hB2.size (fun k hk => ((own2).lt k hk).1)
        refine hK.out _ _ hBa (fun hHeld => ?_)
        clear hK KK
        try simp only [Act.put, List.setIfInBounds_toArray, List.set_cons_zero, List.set_cons_succ]
        refine wpAnyH_ready (rs := [5]) (by kernel_rfl) (by simp) ?_
        refine AllReadyH.cons rfl (fun KK hK => ?_) AllReadyH.nil
        refine step_append_srcN rfl (.tmp 11) (.tmp 13) 24 24 rfl V.heap.size 29 i0 (.agg #[.int .u32 0, .int .u8 0, .int .i64 0, .int .i64 0]) 4 24 Try.underlying24 hi0 hz0 hz1 hz2 rfl _ _ _ (by rfl) owna _ _ _ (by rfl) (wsrc_kept (P := Try.prog) hgra Try.underlying24 (g := V.heap.size + 1) (wlit2 (w := V.drew.alloc (.cells #[] 29)) (by simp) x) (by simp) (by simp [Value.ownBlock])) q3 q4 hBa.size ?_
        intro vb wb ownb hgrb
        have hBb : Below V.heap.size V wb := Below.grown hBa hgrb hBa.size (fun k hk => ((owna).lt k hk).1)
        refine hK.out _ _ hBb (fun hHeld => ?_)
        clear hK KK
        try simp only [Act.put, List.setIfInBounds_toArray, List.set_cons_zero, List.set_cons_succ]
        refine wpAnyH_ready (rs := [6]) (by kernel_rfl) (by simp) ?_
        refine AllReadyH.cons rfl (fun KK hK => ?_) AllReadyH.nil
        simp only [List.getElem_toArray, List.getElem_cons_succ, List.getElem_cons_zero]
        go_simp
        refine hK.out _ _ hBb (fun hHeld => ?_)
        clear hK KK
        refine wpAnyH_ready (rs := [7]) (by kernel_rfl) (by simp) ?_
        refine AllReadyH.cons rfl (fun KK hK => ?_) AllReadyH.nil
        simp only [List.getElem_toArray, List.getElem_cons_succ, List.getElem_cons_zero]
        go_simp
        refine hK.out _ _ hBb (fun hHeld => ?_)
        clear hK KK
        refine wpAnyH_done (by kernel_rfl) ?_ _
        go_wp2_with fail
        go_ret2
        exact LeRet.mk ownb (by rw [Hm.out, List.length_append, List.length_singleton]; omega) (by rw [Hm.out, wcells_append]; rfl) (by rw [Hn.out]; rfl) (K.out.next hBb).2
    · refine AllReadyH.cons rfl (fun KK hK => ?_) AllReadyH.nil
      simp only [List.getElem_toArray, List.getElem_cons_succ, List.getElem_cons_zero]
      go_simp
      have hB1 := Below.alloc hd0 hd0.size (.cells #[.int .u32 (x.w : Int), .int .u8 (x.d : Int), .int .i64 x.s, .int .i64 x.l] 29)
      refine hK.out _ _ hB1 (fun hHeld => ?_)
      clear hK KK
      refine wpAnyH_ready (rs := [0]) (by kernel_rfl) (by simp) ?_
      refine AllReadyH.cons rfl (fun KK hK => ?_) AllReadyH.nil
      simp only [List.getElem_toArray, List.getElem_cons_succ, List.getElem_cons_zero]
      go_simp
      have hB2 := Below.alloc hB1 hB1.size (.cells #[] 29)
      refine hK.out _ _ hB2 (fun hHeld => ?_)
      clear hK KK
      have own2 := World.ownsRow_lit (base := V.heap.size) (e := 29) (size := 4) (V.drew.alloc (.cells #[.int .u32 (x.w : Int), .int .u8 (x.d : Int), .int .i64 x.s, .int .i64 x.l] 29)) #[] 0 hB1.size (by unfold maxLen; omega) rfl
      rw [show (V.drew.alloc (.cells #[.int .u32 (x.w : Int), .int .u8 (x.d : Int), .int .i64 x.s, .int .i64 x.l] 29)).heap.size = V.heap.size + 1 by simp] at own2
      refine wpAnyH_ready (rs := [2]) (by kernel_rfl) (by simp) ?_
      refine AllReadyH.cons rfl (fun KK hK => ?_) AllReadyH.nil
      refine step_append_srcN rfl (.tmp 9) (.tmp 10) 24 24 rfl V.heap.size 29 i0 (.agg #[.int .u32 0, .int .u8 0, .int .i64 0, .int .i64 0]) 4 24 Try.underlying24 hi0 hz0 hz1 hz2 rfl _ _ _ (by rfl) own2 _ _ _ (by rfl) (HS1 _ hB2) q1 q2 hB2.size ?_
      intro va wa owna hgra
      have hBa : Below V.heap.size V wa := Below.grown hB2 hgra hB2.size (fun k hk => ((own2).lt k hk).1)
      refine hK.out _ _ hBa (fun hHeld => ?_)
      clear hK KK
      try simp only [Act.put, List.setIfInBounds_toArray, List.set_cons_zero, List.set_cons_succ]
      refine wpAnyH_ready (rs := [5]) (by kernel_rfl) (by simp) ?_
      refine AllReadyH.cons rfl (fun KK hK => ?_) AllReadyH.nil
      refine step_append_srcN rfl (.tmp 11) (.tmp 13) 24 24 rfl V.heap.size 29 i0 (.agg #[.int .u32 0, .int .u8 0, .int .i64 0, .int .i64 0]) 4 24 Try.underlying24 hi0 hz0 hz1 hz2 rfl _ _ _ (by rfl) owna _ _ _ (by rfl) (wsrc_kept (P := Try.prog) hgra Try.underlying24 (g := V.heap.size) (wlit_past V.drew x (.cells #[] 29)) (by simp; omega) (by simp [Value.ownBlock])) q3 q4 hBa.size ?_
      intro vb wb ownb hgrb
      have hBb : Below V.heap.size V wb := Below.grown hBa hgrb hBa.size (fun k hk => ((owna).lt k hk).1)
      refine hK.out _ _ hBb (fun hHeld => ?_)
      clear hK KK
      try simp only [Act.put, List.setIfInBounds_toArray, List.set_cons_zero, List.set_cons_succ]
      refine wpAnyH_ready (rs := [6]) (by kernel_rfl) (by simp) ?_
      refine AllReadyH.cons rfl (fun KK hK => ?_) AllReadyH.nil
      simp only [List.getElem_toArray, List.getElem_cons_succ, List.getElem_cons_zero]
      go_simp
      refine hK.out _ _ hBb (fun hHeld => ?_)
      clear hK KK
      refine wpAnyH_ready (rs := [7]) (by kernel_rfl) (by simp) ?_
      refine AllReadyH.cons rfl (fun KK hK => ?_) AllReadyH.nil
      simp only [List.getElem_toArray, List.getElem_cons_succ, List.getElem_cons_zero]
      go_simp
      refine hK.out _ _ hBb (fun hHeld => ?_)
      clear hK KK
      refine wpAnyH_done (by kernel_rfl) ?_ _
      go_wp2_with fail
      go_ret2
      exact LeRet.mk ownb (by rw [Hm.out, List.length_append, List.length_singleton]; omega) (by rw [Hm.out, wcells_append]; rfl) (by rw [Hn.out]; rfl) (K.out.next hBb).2
end Go.Proofs.Ytodhpdaoghbmcaa
