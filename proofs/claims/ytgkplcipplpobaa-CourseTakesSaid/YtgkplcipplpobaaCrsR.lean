/- The heads of layer 14's laws, of whatever contracts of the program's own. -/
import Derived.Test.YtgkplcipplpobaaCrsQ
import Derived.Test.YtgkplcipplpobaaCrsL
namespace Go.Proofs.Ytgkplcipplpobaa
open Go.RowKit
open Whn (Gr Wh)
set_option linter.unusedSimpArgs false
set_option linter.unusedVariables false

/-- the course of the chapter's example -/
def exK : Cs := ⟨[99], [[[0, 1], [2, 3]]]⟩
def ItsRet (m : List Int) (w : World) (e : Ending) (w' : World) : Prop := ∃ A c, e = .returned (.slice A m.length c) ∧ Its w' w'.heap.size A m ∧ m.length ≤ c ∧ Below w.heap.size w w'
theorem rd_next {w w' : World} {A : Option Addr} {vs : List Value} (h : Rd w w.heap.size A vs) (hb : Below w.heap.size w w') : Rd w' w'.heap.size A vs := (h.below hb (Nat.le_refl _)).more hb.size
theorem ex_rows {X : World} {k0 k1 k2 k3 : Nat} (h0 : Ob X k0 [.int .i64 0, .int .i64 1] 3) (h1 : Ob X k1 [.int .i64 2, .int .i64 3] 3) (h2 : Ob X k2 [.slice (some ⟨k0, 0, none⟩) 2 2, .slice (some ⟨k1, 0, none⟩) 2 2] 29) (h3 : Ob X k3 [.slice (some ⟨k2, 0, none⟩) 2 2] 42) : Rows3 X X.heap.size (some ⟨k3, 0, none⟩) exK.ws := fun _ => by
  obtain ⟨ad, e, hb, hc⟩ := ob_rdC h3 (by simp)
  cases e
  refine ⟨_, rfl, hb, fun k ls hk => ?_⟩
  have hk0 : k = 0 := by
    have := (List.getElem?_eq_some_iff.1 hk).1
    simp only [exK, List.length_cons, List.length_nil] at this
    omega
  subst hk0
  injection hk with hk
  subst hk
  refine ⟨_, _, hc 0 _ rfl, fun _ => ?_, Nat.le_refl _⟩
  obtain ⟨ad, e, hb2, hc2⟩ := ob_rdC h2 (by simp)
  cases e
  refine ⟨_, rfl, hb2, fun k l hk => ?_⟩
  have hk2 : k = 0 ∨ k = 1 := by
    have := (List.getElem?_eq_some_iff.1 hk).1
    simp only [List.length_cons, List.length_nil] at this
    omega
  rcases hk2 with rfl | rfl
  · injection hk with hk
    subst hk
    exact ⟨_, _, hc2 0 _ rfl, ob_rdC h0, Nat.le_refl _⟩
  · injection hk with hk
    subst hk
    exact ⟨_, _, hc2 1 _ rfl, ob_rdC h1, Nat.le_refl _⟩
abbrev exV (k3 : Nat) : Value := csv exK (some ⟨k3, 0, none⟩) 1
theorem wpAnyH_at {P : Program} {ops : Array Oper} {Q : Exit → Act → World → Prop} {md : Region.Mode} {S : World → Prop} {fuel : Nat} {listed listed2 : Array Bool} {a : Act} {w : World} (e : listed = listed2) (h : wpAnyH P md ops Q S fuel listed2 a w) : wpAnyH P md ops Q S fuel listed a w := by rw [e]; exact h
theorem ob_rows2 {X : World} {g0 g1 g2 : Nat} (h0 : Ob X g0 [.int .i64 0, .int .i64 2] 3) (h1 : Ob X g1 [.int .i64 1, .int .i64 3] 3) (h2 : Ob X g2 [.slice (some ⟨g0, 0, none⟩) 2 2, .slice (some ⟨g1, 0, none⟩) 2 2] 29) : Rows2 X X.heap.size (some ⟨g2, 0, none⟩) [[0, 2], [1, 3]] := fun _ => by
  obtain ⟨ad, e, hb2, hc2⟩ := ob_rdC h2 (by simp)
  cases e
  refine ⟨_, rfl, hb2, fun k l hk => ?_⟩
  have hk2 : k = 0 ∨ k = 1 := by
    have := (List.getElem?_eq_some_iff.1 hk).1
    simp only [List.length_cons, List.length_nil] at this
    omega
  rcases hk2 with rfl | rfl
  · injection hk with hk
    subst hk
    exact ⟨_, _, hc2 0 _ rfl, ob_rdC h0, Nat.le_refl _⟩
  · injection hk with hk
    subst hk
    exact ⟨_, _, hc2 1 _ rfl, ob_rdC h1, Nat.le_refl _⟩
theorem hq_classes (X : World) : Calls Try.prog 28 #[] X (fun e w' => ∃ A c, e = .returned (.slice A 4 c) ∧ Es enC w' w'.heap.size A exC ∧ Below X.heap.size X w') := (l_classes X).mono fun e w' h => by
  obtain ⟨A, c, e, h1, _, h2⟩ := h
  exact ⟨A, c, e, h1, h2⟩
theorem hq_rows (A A2 : Option Addr) (c c2 : Nat) (X : World) (h : Rows2 X X.heap.size A [[0, 2], [1, 3]]) (h2 : Rows2 X X.heap.size A2 [[0, 2], [1, 3]]) : Calls Try.prog 19 #[.slice A 2 c, .slice A2 2 c2] X (Did (.bool true) X) := by
  have := r_Rows A A2 c c2 [[0, 2], [1, 3]] [[0, 2], [1, 3]] ⟨by unfold maxLen; decide, fun l hl => by
    simp only [List.mem_cons, List.not_mem_nil, or_false] at hl
    rcases hl with rfl | rfl
    · exact ⟨by unfold maxLen; decide, fun i hi => by simp only [List.mem_cons, List.not_mem_nil, or_false] at hi; unfold I64; omega⟩
    · exact ⟨by unfold maxLen; decide, fun i hi => by simp only [List.mem_cons, List.not_mem_nil, or_false] at hi; unfold I64; omega⟩⟩ X h h2
  rw [show decide (([[0, 2], [1, 3]] : List (List Int)) = [[0, 2], [1, 3]]) = true from rfl] at this
  exact this
theorem hq_ints (A A2 : Option Addr) (c c2 : Nat) (l : List Int) (hm : l.length ≤ maxLen) (X : World) (h : Its X X.heap.size A l) (h2 : Its X X.heap.size A2 l) : Calls Try.prog 13 #[.slice A l.length c, .slice A2 l.length c2] X (Did (.bool true) X) := by
  have := r_Ints A A2 l.length l.length c c2 l l rfl rfl X _ _ h h2 hm
  rw [decide_eq_true rfl] at this
  exact this
set_option maxRecDepth 20000 in
set_option maxHeartbeats 40000000 in
theorem hd_crs
    (hRight : ∀ k3 X, Rows3 X X.heap.size (some ⟨k3, 0, none⟩) exK.ws → Calls Try.prog 11 #[.int .i64 4, .agg #[.string ⟨#[99]⟩, .slice (some ⟨k3, 0, none⟩) 1 1]] X (Did (.bool true) X))
    (hCount : ∀ k3 X, Rows3 X X.heap.size (some ⟨k3, 0, none⟩) exK.ws → Calls Try.prog 16 #[.agg #[.string ⟨#[99]⟩, .slice (some ⟨k3, 0, none⟩) 1 1]] X (Did (.int .i64 4) X))
    (hLoads : ∀ k3 A c X, Es enC X X.heap.size A exC → Rows3 X X.heap.size (some ⟨k3, 0, none⟩) exK.ws → Calls Try.prog 20 #[.slice A 4 c, .agg #[.string ⟨#[99]⟩, .slice (some ⟨k3, 0, none⟩) 1 1]] X (fun e w' => ∃ A c, e = .returned (.slice A 2 c) ∧ Rows2 w' w'.heap.size A [[0, 2], [1, 3]] ∧ Below X.heap.size X w'))
    (hTakeY : ∀ k3 A c A2 c2 X, Es enC X X.heap.size A exC → Rows3 X X.heap.size (some ⟨k3, 0, none⟩) exK.ws → Its X X.heap.size A2 [1, 3] → Calls Try.prog 22 #[.slice A 4 c, .agg #[.string ⟨#[99]⟩, .slice (some ⟨k3, 0, none⟩) 1 1], .slice A2 2 c2] X (Did (.bool true) X))
    (hTakeN : ∀ k3 A c A2 c2 X, Es enC X X.heap.size A exC → Rows3 X X.heap.size (some ⟨k3, 0, none⟩) exK.ws → Its X X.heap.size A2 [0, 3] → Calls Try.prog 22 #[.slice A 4 c, .agg #[.string ⟨#[99]⟩, .slice (some ⟨k3, 0, none⟩) 1 1], .slice A2 2 c2] X (Did (.bool false) X))
    (hAbove : ∀ A c X, Es enC X X.heap.size A exC → Calls Try.prog 23 #[.slice A 4 c, .int .i64 3] X (fun e w' => ∃ A c, e = .returned (.slice A 1 c) ∧ Its w' w'.heap.size A [1] ∧ Below X.heap.size X w'))
    (hClasses : ∀ k3 X, Rows3 X X.heap.size (some ⟨k3, 0, none⟩) exK.ws → Calls Try.prog 14 #[.agg #[.string ⟨#[99]⟩, .slice (some ⟨k3, 0, none⟩) 1 1]] X (fun e w' => ∃ A c, e = .returned (.slice A 4 c) ∧ Its w' w'.heap.size A [0, 1, 2, 3] ∧ Below X.heap.size X w'))
    (w : World) : Calls Try.prog 10 #[] w (Did (.bool true) w) := by
  obtain ⟨k0, W0, hk0, hW0, K0, z0⟩ := (Mem.nil w).one [.int .i64 0, .int .i64 1] 3
  obtain ⟨k1, W1, hk1, hW1, K1, z1⟩ := K0.out.one [.int .i64 2, .int .i64 3] 3
  obtain ⟨k2, W2, hk2, hW2, K2, z2⟩ := K1.out.one [.slice (some ⟨k0, 0, none⟩) 2 2, .slice (some ⟨k1, 0, none⟩) 2 2] 29
  obtain ⟨k3, W3, hk3, hW3, K3, z3⟩ := K2.out.one [.slice (some ⟨k2, 0, none⟩) 2 2] 42
  obtain ⟨kc, W, hkc, hW, K4, z4⟩ := K3.out.one [.string ⟨#[99]⟩, .slice (some ⟨k3, 0, none⟩) 1 1] 24
  have HX := hid (ex_rows (K4.out.at_ (b := k0) (cs := [.int .i64 0, .int .i64 1]) (t := 3) (by simp)) (K4.out.at_ (b := k1) (cs := [.int .i64 2, .int .i64 3]) (t := 3) (by simp)) (K4.out.at_ (b := k2) (cs := [.slice (some ⟨k0, 0, none⟩) 2 2, .slice (some ⟨k1, 0, none⟩) 2 2]) (t := 29) (by simp)) (K4.out.at_ (b := k3) (cs := [.slice (some ⟨k2, 0, none⟩) 2 2]) (t := 42) (by simp)))
  have Hc := hid (K4.out.at_ (b := kc) (cs := [.string ⟨#[99]⟩, .slice (some ⟨k3, 0, none⟩) 1 1]) (t := 24) (by simp))
  have HwW := hid K4.out.2
  clear z0 z1 z2 z3 z4 K0 K1 K2 K3 K4
  have HXf := hid (fun X (h : Below W.heap.size W X) => (HX.out.below h (Nat.le_refl _)).more h.size)
  have c0 := Hc.out.cell (k := 0) rfl
  have c1 := Hc.out.cell (k := 1) rfl
  have hkcW : kc < W.heap.size := Hc.out.lt
  clear HX Hc
  go_enter Try.func10, Try.ntmps10
  go_wp2_with fail
  have hS0 : Below W.heap.size W W.drew := (Below.refl _ W).drew
  refine wp_region_held_drew (S := fun X => Below W.heap.size W X) (by kernel_rfl) hS0 (fun hHeld => ?_)
  refine takeH 0 8 (.agg #[.string ⟨#[99]⟩, .slice (some ⟨k3, 0, none⟩) 1 1]) rfl rfl (by kernel_rfl) (by kernel_rfl) (by kernel_rfl) (fun _ _ _ h => h) (by kernel_rfl) (fun X hX => by have q0 := (hX.cell (p := ⟨kc, 0, none⟩) hkcW).trans c0; have q1 := (hX.cell (p := ⟨kc, 1, none⟩) hkcW).trans c1; clear hX; go_simp) hHeld ?_
  simp only [Act.put, List.setIfInBounds_toArray, List.set_cons_zero, List.set_cons_succ]
  refine wpAnyH_ready (rs := [1]) (by kernel_rfl) (by simp) ?_
  refine AllReadyH.cons rfl (fun KK hK => ?_) AllReadyH.nil
  simp only [List.getElem_toArray, List.getElem_cons_succ, List.getElem_cons_zero]
  go_simp
  refine (hRight k3 _ (HXf.out _ hS0)).mono ?_
  rintro e1 Y1 ⟨rfl, b1⟩
  have hS2 := below2 hS0 b1
  clear b1
  refine hK.out _ _ hS2 (fun hHeld => ?_)
  clear hK KK
  try simp only [Act.put, List.setIfInBounds_toArray, List.set_cons_zero, List.set_cons_succ]
  refine takeH 2 10 (.bool true) rfl rfl (by kernel_rfl) (by kernel_rfl) (by kernel_rfl) (fun _ _ _ h => h) (by kernel_rfl) (fun X hX => by clear hX; first | rfl | go_simp) hHeld ?_
  simp only [Act.put, List.setIfInBounds_toArray, List.set_cons_zero, List.set_cons_succ]
  refine takeH 4 12 (.agg #[.string ⟨#[99]⟩, .slice (some ⟨k3, 0, none⟩) 1 1]) rfl rfl (by kernel_rfl) (by kernel_rfl) (by kernel_rfl) (fun _ _ _ h => h) (by kernel_rfl) (fun X hX => by have q0 := (hX.cell (p := ⟨kc, 0, none⟩) hkcW).trans c0; have q1 := (hX.cell (p := ⟨kc, 1, none⟩) hkcW).trans c1; clear hX; go_simp) hHeld ?_
  simp only [Act.put, List.setIfInBounds_toArray, List.set_cons_zero, List.set_cons_succ]
  refine wpAnyH_cut 32 #[true, true, true, true, true, true, true, true, true, true, false, false, false, false, false, false, false, false, false, false, false, false, false, false, false, false, false, false, false, false, false, false, false, false, false, false, false, false, false, false, false, false] (fun a1 w1 => ∃ v11 v13 v14 v15 v16 : Value, a1 = (⟨#[.bool false, .pointer (some ⟨kc, 0, none⟩), .slice (some ⟨k0, 0, none⟩) 2 2, .slice (some ⟨k1, 0, none⟩) 2 2, .slice (some ⟨k2, 0, none⟩) 2 2, .agg #[.slice (some ⟨k2, 0, none⟩) 2 2], .slice (some ⟨k3, 0, none⟩) 1 1, .agg #[.string ⟨#[99]⟩, .slice (some ⟨k3, 0, none⟩) 1 1], .agg #[.string ⟨#[99]⟩, .slice (some ⟨k3, 0, none⟩) 1 1], .bool true, .bool true, v11, .agg #[.string ⟨#[99]⟩, .slice (some ⟨k3, 0, none⟩) 1 1], v13, v14, v15, v16, .bool true, undef, undef, undef, undef, undef, undef, undef, undef, undef, undef, undef, undef, undef, undef, undef, undef, undef, undef, undef, undef, undef, undef, undef, undef, undef, undef, undef, undef, undef, undef, undef], []⟩ : Act) ∧ Below W.heap.size W w1) ?_ (fun hrest => ?_)
  rotate_left
  · skip
    refine wpAnyH_ready (rs := [3, 6, 7]) (by kernel_rfl) (by simp) ?_
    refine (AllReadyH.cons rfl (fun KK hK => ?_) (AllReadyH.cons rfl (fun KK hK => ?_) (AllReadyH.cons rfl (fun KK hK => ?_) AllReadyH.nil)))
    · skip
      simp only [List.getElem_toArray, List.getElem_cons_succ, List.getElem_cons_zero]
      go_simp
      refine (hq_classes _).mono ?_
      rintro e3 Y3 ⟨A3, q3, rfl, h3, b3⟩
      have hS4 := below2 hS2 b3
      clear hS2
      clear b3
      have f20003 := hid h3
      clear h3
      refine hK.out _ _ hS4 (fun hHeld => ?_)
      clear hK KK
      try simp only [Act.put, List.setIfInBounds_toArray, List.set_cons_zero, List.set_cons_succ]
      refine wpAnyH_ready (rs := [5, 6, 7]) (by kernel_rfl) (by simp) ?_
      refine (AllReadyH.cons rfl (fun KK hK => ?_) (AllReadyH.cons rfl (fun KK hK => ?_) (AllReadyH.cons rfl (fun KK hK => ?_) AllReadyH.nil)))
      · skip
        simp only [List.getElem_toArray, List.getElem_cons_succ, List.getElem_cons_zero]
        go_simp
        refine (hLoads k3 _ _ _ f20003.out (HXf.out _ hS4)).mono ?_
        rintro e5 Y5 ⟨A5, q5, rfl, h5, b5⟩
        have f6 := hid (rd_next f20003.out b5)
        clear f20003
        have hS7 := below2 hS4 b5
        clear hS4
        clear b5
        have f20005 := hid h5
        clear h5
        refine hK.out _ _ hS7 (fun hHeld => ?_)
        clear hK KK
        try simp only [Act.put, List.setIfInBounds_toArray, List.set_cons_zero, List.set_cons_succ]
        refine wpAnyH_ready (rs := [6, 7]) (by kernel_rfl) (by simp) ?_
        refine (AllReadyH.cons rfl (fun KK hK => ?_) (AllReadyH.cons rfl (fun KK hK => ?_) AllReadyH.nil))
        · skip
          obtain ⟨g8, U8, hg8, hU8⟩ : ∃ (g : Nat) (U : World), Y5.heap.size = g ∧ World.alloc Y5 (.cells #[.int .i64 0, .int .i64 2] 3) = U := ⟨_, _, rfl, rfl⟩
          have o8 : Ob U8 g8 [.int .i64 0, .int .i64 2] 3 := by rw [← hU8, ← hg8]; exact Ob.new Y5 _ _
          have b8 : Below Y5.heap.size Y5 U8 := by rw [← hU8]; exact below_alloc Y5 _
          simp only [List.getElem_toArray, List.getElem_cons_succ, List.getElem_cons_zero]
          go_simp
          try simp only [hU8, hg8]
          clear hU8 hg8
          have f9 := hid (rd_next f6.out b8)
          clear f6
          have f10 := hid ((f20005.out.below b8 (Nat.le_refl _)).more b8.size)
          clear f20005
          have hS11 := below2 hS7 b8
          clear hS7
          clear b8
          have f10008 := hid o8
          clear o8
          refine hK.out _ _ hS11 (fun hHeld => ?_)
          clear hK KK
          try simp only [Act.put, List.setIfInBounds_toArray, List.set_cons_zero, List.set_cons_succ]
          refine wpAnyH_ready (rs := [7]) (by kernel_rfl) (by simp) ?_
          refine (AllReadyH.cons rfl (fun KK hK => ?_) AllReadyH.nil)
          obtain ⟨g12, U12, hg12, hU12⟩ : ∃ (g : Nat) (U : World), U8.heap.size = g ∧ World.alloc U8 (.cells #[.int .i64 1, .int .i64 3] 3) = U := ⟨_, _, rfl, rfl⟩
          have o12 : Ob U12 g12 [.int .i64 1, .int .i64 3] 3 := by rw [← hU12, ← hg12]; exact Ob.new U8 _ _
          have b12 : Below U8.heap.size U8 U12 := by rw [← hU12]; exact below_alloc U8 _
          simp only [List.getElem_toArray, List.getElem_cons_succ, List.getElem_cons_zero]
          go_simp
          try simp only [hU12, hg12]
          clear hU12 hg12
          have f13 := hid (rd_next f9.out b12)
          clear f9
          have f14 := hid ((f10.out.below b12 (Nat.le_refl _)).more b12.size)
          clear f10
          have f15 := hid (f10008.out.next b12)
          clear f10008
          have hS16 := below2 hS11 b12
          clear hS11
          clear b12
          have f10012 := hid o12
          clear o12
          refine hK.out _ _ hS16 (fun hHeld => ?_)
          clear hK KK
          try simp only [Act.put, List.setIfInBounds_toArray, List.set_cons_zero, List.set_cons_succ]
          refine wpAnyH_ready (rs := [8]) (by kernel_rfl) (by simp) ?_
          refine (AllReadyH.cons rfl (fun KK hK => ?_) AllReadyH.nil)
          obtain ⟨g17, U17, hg17, hU17⟩ : ∃ (g : Nat) (U : World), U12.heap.size = g ∧ World.alloc U12 (.cells #[.slice (some ⟨g8, 0, none⟩) 2 2, .slice (some ⟨g12, 0, none⟩) 2 2] 29) = U := ⟨_, _, rfl, rfl⟩
          have o17 : Ob U17 g17 [.slice (some ⟨g8, 0, none⟩) 2 2, .slice (some ⟨g12, 0, none⟩) 2 2] 29 := by rw [← hU17, ← hg17]; exact Ob.new U12 _ _
          have b17 : Below U12.heap.size U12 U17 := by rw [← hU17]; exact below_alloc U12 _
          simp only [List.getElem_toArray, List.getElem_cons_succ, List.getElem_cons_zero]
          go_simp
          try simp only [hU17, hg17]
          clear hU17 hg17
          have f18 := hid (rd_next f13.out b17)
          clear f13
          have f19 := hid ((f14.out.below b17 (Nat.le_refl _)).more b17.size)
          clear f14
          have f20 := hid (f15.out.next b17)
          clear f15
          have f21 := hid (f10012.out.next b17)
          clear f10012
          have hS22 := below2 hS16 b17
          clear hS16
          clear b17
          have f10017 := hid o17
          clear o17
          refine hK.out _ _ hS22 (fun hHeld => ?_)
          clear hK KK
          try simp only [Act.put, List.setIfInBounds_toArray, List.set_cons_zero, List.set_cons_succ]
          refine wpAnyH_ready (rs := [9]) (by kernel_rfl) (by simp) ?_
          refine (AllReadyH.cons rfl (fun KK hK => ?_) AllReadyH.nil)
          simp only [List.getElem_toArray, List.getElem_cons_succ, List.getElem_cons_zero]
          go_simp
          refine (hq_rows _ _ _ _ _ f19.out (ob_rows2 f20.out f21.out f10017.out)).mono ?_
          rintro e23 Y23 ⟨rfl, b23⟩
          have f24 := hid (rd_next f18.out b23)
          clear f18
          have f25 := hid ((f19.out.below b23 (Nat.le_refl _)).more b23.size)
          clear f19
          have f26 := hid (f20.out.next b23)
          clear f20
          have f27 := hid (f21.out.next b23)
          clear f21
          have f28 := hid (f10017.out.next b23)
          clear f10017
          have hS29 := below2 hS22 b23
          clear hS22
          clear b23
          refine hK.out _ _ hS29 (fun hHeld => ?_)
          clear hK KK
          try simp only [Act.put, List.setIfInBounds_toArray, List.set_cons_zero, List.set_cons_succ]
          exact wpAnyH_at (by kernel_rfl) (hrest _ _ ⟨(.slice A3 4 q3), (.slice A5 2 q5), (.slice (some ⟨g8, 0, none⟩) 2 2), (.slice (some ⟨g12, 0, none⟩) 2 2), (.slice (some ⟨g17, 0, none⟩) 2 2), rfl, hS29⟩)
        · skip
          obtain ⟨g30, U30, hg30, hU30⟩ : ∃ (g : Nat) (U : World), Y5.heap.size = g ∧ World.alloc Y5 (.cells #[.int .i64 1, .int .i64 3] 3) = U := ⟨_, _, rfl, rfl⟩
          have o30 : Ob U30 g30 [.int .i64 1, .int .i64 3] 3 := by rw [← hU30, ← hg30]; exact Ob.new Y5 _ _
          have b30 : Below Y5.heap.size Y5 U30 := by rw [← hU30]; exact below_alloc Y5 _
          simp only [List.getElem_toArray, List.getElem_cons_succ, List.getElem_cons_zero]
          go_simp
          try simp only [hU30, hg30]
          clear hU30 hg30
          have f31 := hid (rd_next f6.out b30)
          clear f6
          have f32 := hid ((f20005.out.below b30 (Nat.le_refl _)).more b30.size)
          clear f20005
          have hS33 := below2 hS7 b30
          clear hS7
          clear b30
          have f10030 := hid o30
          clear o30
          refine hK.out _ _ hS33 (fun hHeld => ?_)
          clear hK KK
          try simp only [Act.put, List.setIfInBounds_toArray, List.set_cons_zero, List.set_cons_succ]
          refine wpAnyH_ready (rs := [6]) (by kernel_rfl) (by simp) ?_
          refine (AllReadyH.cons rfl (fun KK hK => ?_) AllReadyH.nil)
          obtain ⟨g34, U34, hg34, hU34⟩ : ∃ (g : Nat) (U : World), U30.heap.size = g ∧ World.alloc U30 (.cells #[.int .i64 0, .int .i64 2] 3) = U := ⟨_, _, rfl, rfl⟩
          have o34 : Ob U34 g34 [.int .i64 0, .int .i64 2] 3 := by rw [← hU34, ← hg34]; exact Ob.new U30 _ _
          have b34 : Below U30.heap.size U30 U34 := by rw [← hU34]; exact below_alloc U30 _
          simp only [List.getElem_toArray, List.getElem_cons_succ, List.getElem_cons_zero]
          go_simp
          try simp only [hU34, hg34]
          clear hU34 hg34
          have f35 := hid (rd_next f31.out b34)
          clear f31
          have f36 := hid ((f32.out.below b34 (Nat.le_refl _)).more b34.size)
          clear f32
          have f37 := hid (f10030.out.next b34)
          clear f10030
          have hS38 := below2 hS33 b34
          clear hS33
          clear b34
          have f10034 := hid o34
          clear o34
          refine hK.out _ _ hS38 (fun hHeld => ?_)
          clear hK KK
          try simp only [Act.put, List.setIfInBounds_toArray, List.set_cons_zero, List.set_cons_succ]
          refine wpAnyH_ready (rs := [8]) (by kernel_rfl) (by simp) ?_
          refine (AllReadyH.cons rfl (fun KK hK => ?_) AllReadyH.nil)
          obtain ⟨g39, U39, hg39, hU39⟩ : ∃ (g : Nat) (U : World), U34.heap.size = g ∧ World.alloc U34 (.cells #[.slice (some ⟨g34, 0, none⟩) 2 2, .slice (some ⟨g30, 0, none⟩) 2 2] 29) = U := ⟨_, _, rfl, rfl⟩
          have o39 : Ob U39 g39 [.slice (some ⟨g34, 0, none⟩) 2 2, .slice (some ⟨g30, 0, none⟩) 2 2] 29 := by rw [← hU39, ← hg39]; exact Ob.new U34 _ _
          have b39 : Below U34.heap.size U34 U39 := by rw [← hU39]; exact below_alloc U34 _
          simp only [List.getElem_toArray, List.getElem_cons_succ, List.getElem_cons_zero]
          go_simp
          try simp only [hU39, hg39]
          clear hU39 hg39
          have f40 := hid (rd_next f35.out b39)
          clear f35
          have f41 := hid ((f36.out.below b39 (Nat.le_refl _)).more b39.size)
          clear f36
          have f42 := hid (f37.out.next b39)
          clear f37
          have f43 := hid (f10034.out.next b39)
          clear f10034
          have hS44 := below2 hS38 b39
          clear hS38
          clear b39
          have f10039 := hid o39
          clear o39
          refine hK.out _ _ hS44 (fun hHeld => ?_)
          clear hK KK
          try simp only [Act.put, List.setIfInBounds_toArray, List.set_cons_zero, List.set_cons_succ]
          refine wpAnyH_ready (rs := [9]) (by kernel_rfl) (by simp) ?_
          refine (AllReadyH.cons rfl (fun KK hK => ?_) AllReadyH.nil)
          simp only [List.getElem_toArray, List.getElem_cons_succ, List.getElem_cons_zero]
          go_simp
          refine (hq_rows _ _ _ _ _ f41.out (ob_rows2 f43.out f42.out f10039.out)).mono ?_
          rintro e45 Y45 ⟨rfl, b45⟩
          have f46 := hid (rd_next f40.out b45)
          clear f40
          have f47 := hid ((f41.out.below b45 (Nat.le_refl _)).more b45.size)
          clear f41
          have f48 := hid (f42.out.next b45)
          clear f42
          have f49 := hid (f43.out.next b45)
          clear f43
          have f50 := hid (f10039.out.next b45)
          clear f10039
          have hS51 := below2 hS44 b45
          clear hS44
          clear b45
          refine hK.out _ _ hS51 (fun hHeld => ?_)
          clear hK KK
          try simp only [Act.put, List.setIfInBounds_toArray, List.set_cons_zero, List.set_cons_succ]
          exact wpAnyH_at (by kernel_rfl) (hrest _ _ ⟨(.slice A3 4 q3), (.slice A5 2 q5), (.slice (some ⟨g34, 0, none⟩) 2 2), (.slice (some ⟨g30, 0, none⟩) 2 2), (.slice (some ⟨g39, 0, none⟩) 2 2), rfl, hS51⟩)
      · skip
        obtain ⟨g52, U52, hg52, hU52⟩ : ∃ (g : Nat) (U : World), Y3.heap.size = g ∧ World.alloc Y3 (.cells #[.int .i64 0, .int .i64 2] 3) = U := ⟨_, _, rfl, rfl⟩
        have o52 : Ob U52 g52 [.int .i64 0, .int .i64 2] 3 := by rw [← hU52, ← hg52]; exact Ob.new Y3 _ _
        have b52 : Below Y3.heap.size Y3 U52 := by rw [← hU52]; exact below_alloc Y3 _
        simp only [List.getElem_toArray, List.getElem_cons_succ, List.getElem_cons_zero]
        go_simp
        try simp only [hU52, hg52]
        clear hU52 hg52
        have f53 := hid (rd_next f20003.out b52)
        clear f20003
        have hS54 := below2 hS4 b52
        clear hS4
        clear b52
        have f10052 := hid o52
        clear o52
        refine hK.out _ _ hS54 (fun hHeld => ?_)
        clear hK KK
        try simp only [Act.put, List.setIfInBounds_toArray, List.set_cons_zero, List.set_cons_succ]
        refine wpAnyH_ready (rs := [5, 7]) (by kernel_rfl) (by simp) ?_
        refine (AllReadyH.cons rfl (fun KK hK => ?_) (AllReadyH.cons rfl (fun KK hK => ?_) AllReadyH.nil))
        · skip
          simp only [List.getElem_toArray, List.getElem_cons_succ, List.getElem_cons_zero]
          go_simp
          refine (hLoads k3 _ _ _ f53.out (HXf.out _ hS54)).mono ?_
          rintro e55 Y55 ⟨A55, q55, rfl, h55, b55⟩
          have f56 := hid (rd_next f53.out b55)
          clear f53
          have f57 := hid (f10052.out.next b55)
          clear f10052
          have hS58 := below2 hS54 b55
          clear hS54
          clear b55
          have f20055 := hid h55
          clear h55
          refine hK.out _ _ hS58 (fun hHeld => ?_)
          clear hK KK
          try simp only [Act.put, List.setIfInBounds_toArray, List.set_cons_zero, List.set_cons_succ]
          refine wpAnyH_ready (rs := [7]) (by kernel_rfl) (by simp) ?_
          refine (AllReadyH.cons rfl (fun KK hK => ?_) AllReadyH.nil)
          obtain ⟨g59, U59, hg59, hU59⟩ : ∃ (g : Nat) (U : World), Y55.heap.size = g ∧ World.alloc Y55 (.cells #[.int .i64 1, .int .i64 3] 3) = U := ⟨_, _, rfl, rfl⟩
          have o59 : Ob U59 g59 [.int .i64 1, .int .i64 3] 3 := by rw [← hU59, ← hg59]; exact Ob.new Y55 _ _
          have b59 : Below Y55.heap.size Y55 U59 := by rw [← hU59]; exact below_alloc Y55 _
          simp only [List.getElem_toArray, List.getElem_cons_succ, List.getElem_cons_zero]
          go_simp
          try simp only [hU59, hg59]
          clear hU59 hg59
          have f60 := hid (rd_next f56.out b59)
          clear f56
          have f61 := hid (f57.out.next b59)
          clear f57
          have f62 := hid ((f20055.out.below b59 (Nat.le_refl _)).more b59.size)
          clear f20055
          have hS63 := below2 hS58 b59
          clear hS58
          clear b59
          have f10059 := hid o59
          clear o59
          refine hK.out _ _ hS63 (fun hHeld => ?_)
          clear hK KK
          try simp only [Act.put, List.setIfInBounds_toArray, List.set_cons_zero, List.set_cons_succ]
          refine wpAnyH_ready (rs := [8]) (by kernel_rfl) (by simp) ?_
          refine (AllReadyH.cons rfl (fun KK hK => ?_) AllReadyH.nil)
          obtain ⟨g64, U64, hg64, hU64⟩ : ∃ (g : Nat) (U : World), U59.heap.size = g ∧ World.alloc U59 (.cells #[.slice (some ⟨g52, 0, none⟩) 2 2, .slice (some ⟨g59, 0, none⟩) 2 2] 29) = U := ⟨_, _, rfl, rfl⟩
          have o64 : Ob U64 g64 [.slice (some ⟨g52, 0, none⟩) 2 2, .slice (some ⟨g59, 0, none⟩) 2 2] 29 := by rw [← hU64, ← hg64]; exact Ob.new U59 _ _
          have b64 : Below U59.heap.size U59 U64 := by rw [← hU64]; exact below_alloc U59 _
          simp only [List.getElem_toArray, List.getElem_cons_succ, List.getElem_cons_zero]
          go_simp
          try simp only [hU64, hg64]
          clear hU64 hg64
          have f65 := hid (rd_next f60.out b64)
          clear f60
          have f66 := hid (f61.out.next b64)
          clear f61
          have f67 := hid ((f62.out.below b64 (Nat.le_refl _)).more b64.size)
          clear f62
          have f68 := hid (f10059.out.next b64)
          clear f10059
          have hS69 := below2 hS63 b64
          clear hS63
          clear b64
          have f10064 := hid o64
          clear o64
          refine hK.out _ _ hS69 (fun hHeld => ?_)
          clear hK KK
          try simp only [Act.put, List.setIfInBounds_toArray, List.set_cons_zero, List.set_cons_succ]
          refine wpAnyH_ready (rs := [9]) (by kernel_rfl) (by simp) ?_
          refine (AllReadyH.cons rfl (fun KK hK => ?_) AllReadyH.nil)
          simp only [List.getElem_toArray, List.getElem_cons_succ, List.getElem_cons_zero]
          go_simp
          refine (hq_rows _ _ _ _ _ f67.out (ob_rows2 f66.out f68.out f10064.out)).mono ?_
          rintro e70 Y70 ⟨rfl, b70⟩
          have f71 := hid (rd_next f65.out b70)
          clear f65
          have f72 := hid (f66.out.next b70)
          clear f66
          have f73 := hid ((f67.out.below b70 (Nat.le_refl _)).more b70.size)
          clear f67
          have f74 := hid (f68.out.next b70)
          clear f68
          have f75 := hid (f10064.out.next b70)
          clear f10064
          have hS76 := below2 hS69 b70
          clear hS69
          clear b70
          refine hK.out _ _ hS76 (fun hHeld => ?_)
          clear hK KK
          try simp only [Act.put, List.setIfInBounds_toArray, List.set_cons_zero, List.set_cons_succ]
          exact wpAnyH_at (by kernel_rfl) (hrest _ _ ⟨(.slice A3 4 q3), (.slice A55 2 q55), (.slice (some ⟨g52, 0, none⟩) 2 2), (.slice (some ⟨g59, 0, none⟩) 2 2), (.slice (some ⟨g64, 0, none⟩) 2 2), rfl, hS76⟩)
        · skip
          obtain ⟨g77, U77, hg77, hU77⟩ : ∃ (g : Nat) (U : World), U52.heap.size = g ∧ World.alloc U52 (.cells #[.int .i64 1, .int .i64 3] 3) = U := ⟨_, _, rfl, rfl⟩
          have o77 : Ob U77 g77 [.int .i64 1, .int .i64 3] 3 := by rw [← hU77, ← hg77]; exact Ob.new U52 _ _
          have b77 : Below U52.heap.size U52 U77 := by rw [← hU77]; exact below_alloc U52 _
          simp only [List.getElem_toArray, List.getElem_cons_succ, List.getElem_cons_zero]
          go_simp
          try simp only [hU77, hg77]
          clear hU77 hg77
          have f78 := hid (rd_next f53.out b77)
          clear f53
          have f79 := hid (f10052.out.next b77)
          clear f10052
          have hS80 := below2 hS54 b77
          clear hS54
          clear b77
          have f10077 := hid o77
          clear o77
          refine hK.out _ _ hS80 (fun hHeld => ?_)
          clear hK KK
          try simp only [Act.put, List.setIfInBounds_toArray, List.set_cons_zero, List.set_cons_succ]
          refine wpAnyH_ready (rs := [5, 8]) (by kernel_rfl) (by simp) ?_
          refine (AllReadyH.cons rfl (fun KK hK => ?_) (AllReadyH.cons rfl (fun KK hK => ?_) AllReadyH.nil))
          · skip
            simp only [List.getElem_toArray, List.getElem_cons_succ, List.getElem_cons_zero]
            go_simp
            refine (hLoads k3 _ _ _ f78.out (HXf.out _ hS80)).mono ?_
            rintro e81 Y81 ⟨A81, q81, rfl, h81, b81⟩
            have f82 := hid (rd_next f78.out b81)
            clear f78
            have f83 := hid (f79.out.next b81)
            clear f79
            have f84 := hid (f10077.out.next b81)
            clear f10077
            have hS85 := below2 hS80 b81
            clear hS80
            clear b81
            have f20081 := hid h81
            clear h81
            refine hK.out _ _ hS85 (fun hHeld => ?_)
            clear hK KK
            try simp only [Act.put, List.setIfInBounds_toArray, List.set_cons_zero, List.set_cons_succ]
            refine wpAnyH_ready (rs := [8]) (by kernel_rfl) (by simp) ?_
            refine (AllReadyH.cons rfl (fun KK hK => ?_) AllReadyH.nil)
            obtain ⟨g86, U86, hg86, hU86⟩ : ∃ (g : Nat) (U : World), Y81.heap.size = g ∧ World.alloc Y81 (.cells #[.slice (some ⟨g52, 0, none⟩) 2 2, .slice (some ⟨g77, 0, none⟩) 2 2] 29) = U := ⟨_, _, rfl, rfl⟩
            have o86 : Ob U86 g86 [.slice (some ⟨g52, 0, none⟩) 2 2, .slice (some ⟨g77, 0, none⟩) 2 2] 29 := by rw [← hU86, ← hg86]; exact Ob.new Y81 _ _
            have b86 : Below Y81.heap.size Y81 U86 := by rw [← hU86]; exact below_alloc Y81 _
            simp only [List.getElem_toArray, List.getElem_cons_succ, List.getElem_cons_zero]
            go_simp
            try simp only [hU86, hg86]
            clear hU86 hg86
            have f87 := hid (rd_next f82.out b86)
            clear f82
            have f88 := hid (f83.out.next b86)
            clear f83
            have f89 := hid (f84.out.next b86)
            clear f84
            have f90 := hid ((f20081.out.below b86 (Nat.le_refl _)).more b86.size)
            clear f20081
            have hS91 := below2 hS85 b86
            clear hS85
            clear b86
            have f10086 := hid o86
            clear o86
            refine hK.out _ _ hS91 (fun hHeld => ?_)
            clear hK KK
            try simp only [Act.put, List.setIfInBounds_toArray, List.set_cons_zero, List.set_cons_succ]
            refine wpAnyH_ready (rs := [9]) (by kernel_rfl) (by simp) ?_
            refine (AllReadyH.cons rfl (fun KK hK => ?_) AllReadyH.nil)
            simp only [List.getElem_toArray, List.getElem_cons_succ, List.getElem_cons_zero]
            go_simp
            refine (hq_rows _ _ _ _ _ f90.out (ob_rows2 f88.out f89.out f10086.out)).mono ?_
            rintro e92 Y92 ⟨rfl, b92⟩
            have f93 := hid (rd_next f87.out b92)
            clear f87
            have f94 := hid (f88.out.next b92)
            clear f88
            have f95 := hid (f89.out.next b92)
            clear f89
            have f96 := hid ((f90.out.below b92 (Nat.le_refl _)).more b92.size)
            clear f90
            have f97 := hid (f10086.out.next b92)
            clear f10086
            have hS98 := below2 hS91 b92
            clear hS91
            clear b92
            refine hK.out _ _ hS98 (fun hHeld => ?_)
            clear hK KK
            try simp only [Act.put, List.setIfInBounds_toArray, List.set_cons_zero, List.set_cons_succ]
            exact wpAnyH_at (by kernel_rfl) (hrest _ _ ⟨(.slice A3 4 q3), (.slice A81 2 q81), (.slice (some ⟨g52, 0, none⟩) 2 2), (.slice (some ⟨g77, 0, none⟩) 2 2), (.slice (some ⟨g86, 0, none⟩) 2 2), rfl, hS98⟩)
          · skip
            obtain ⟨g99, U99, hg99, hU99⟩ : ∃ (g : Nat) (U : World), U77.heap.size = g ∧ World.alloc U77 (.cells #[.slice (some ⟨g52, 0, none⟩) 2 2, .slice (some ⟨g77, 0, none⟩) 2 2] 29) = U := ⟨_, _, rfl, rfl⟩
            have o99 : Ob U99 g99 [.slice (some ⟨g52, 0, none⟩) 2 2, .slice (some ⟨g77, 0, none⟩) 2 2] 29 := by rw [← hU99, ← hg99]; exact Ob.new U77 _ _
            have b99 : Below U77.heap.size U77 U99 := by rw [← hU99]; exact below_alloc U77 _
            simp only [List.getElem_toArray, List.getElem_cons_succ, List.getElem_cons_zero]
            go_simp
            try simp only [hU99, hg99]
            clear hU99 hg99
            have f100 := hid (rd_next f78.out b99)
            clear f78
            have f101 := hid (f79.out.next b99)
            clear f79
            have f102 := hid (f10077.out.next b99)
            clear f10077
            have hS103 := below2 hS80 b99
            clear hS80
            clear b99
            have f10099 := hid o99
            clear o99
            refine hK.out _ _ hS103 (fun hHeld => ?_)
            clear hK KK
            try simp only [Act.put, List.setIfInBounds_toArray, List.set_cons_zero, List.set_cons_succ]
            refine wpAnyH_ready (rs := [5]) (by kernel_rfl) (by simp) ?_
            refine (AllReadyH.cons rfl (fun KK hK => ?_) AllReadyH.nil)
            simp only [List.getElem_toArray, List.getElem_cons_succ, List.getElem_cons_zero]
            go_simp
            refine (hLoads k3 _ _ _ f100.out (HXf.out _ hS103)).mono ?_
            rintro e104 Y104 ⟨A104, q104, rfl, h104, b104⟩
            have f105 := hid (rd_next f100.out b104)
            clear f100
            have f106 := hid (f101.out.next b104)
            clear f101
            have f107 := hid (f102.out.next b104)
            clear f102
            have f108 := hid (f10099.out.next b104)
            clear f10099
            have hS109 := below2 hS103 b104
            clear hS103
            clear b104
            have f20104 := hid h104
            clear h104
            refine hK.out _ _ hS109 (fun hHeld => ?_)
            clear hK KK
            try simp only [Act.put, List.setIfInBounds_toArray, List.set_cons_zero, List.set_cons_succ]
            refine wpAnyH_ready (rs := [9]) (by kernel_rfl) (by simp) ?_
            refine (AllReadyH.cons rfl (fun KK hK => ?_) AllReadyH.nil)
            simp only [List.getElem_toArray, List.getElem_cons_succ, List.getElem_cons_zero]
            go_simp
            refine (hq_rows _ _ _ _ _ f20104.out (ob_rows2 f106.out f107.out f108.out)).mono ?_
            rintro e110 Y110 ⟨rfl, b110⟩
            have f111 := hid (rd_next f105.out b110)
            clear f105
            have f112 := hid (f106.out.next b110)
            clear f106
            have f113 := hid (f107.out.next b110)
            clear f107
            have f114 := hid (f108.out.next b110)
            clear f108
            have f115 := hid ((f20104.out.below b110 (Nat.le_refl _)).more b110.size)
            clear f20104
            have hS116 := below2 hS109 b110
            clear hS109
            clear b110
            refine hK.out _ _ hS116 (fun hHeld => ?_)
            clear hK KK
            try simp only [Act.put, List.setIfInBounds_toArray, List.set_cons_zero, List.set_cons_succ]
            exact wpAnyH_at (by kernel_rfl) (hrest _ _ ⟨(.slice A3 4 q3), (.slice A104 2 q104), (.slice (some ⟨g52, 0, none⟩) 2 2), (.slice (some ⟨g77, 0, none⟩) 2 2), (.slice (some ⟨g99, 0, none⟩) 2 2), rfl, hS116⟩)
      · skip
        obtain ⟨g117, U117, hg117, hU117⟩ : ∃ (g : Nat) (U : World), Y3.heap.size = g ∧ World.alloc Y3 (.cells #[.int .i64 1, .int .i64 3] 3) = U := ⟨_, _, rfl, rfl⟩
        have o117 : Ob U117 g117 [.int .i64 1, .int .i64 3] 3 := by rw [← hU117, ← hg117]; exact Ob.new Y3 _ _
        have b117 : Below Y3.heap.size Y3 U117 := by rw [← hU117]; exact below_alloc Y3 _
        simp only [List.getElem_toArray, List.getElem_cons_succ, List.getElem_cons_zero]
        go_simp
        try simp only [hU117, hg117]
        clear hU117 hg117
        have f118 := hid (rd_next f20003.out b117)
        clear f20003
        have hS119 := below2 hS4 b117
        clear hS4
        clear b117
        have f10117 := hid o117
        clear o117
        refine hK.out _ _ hS119 (fun hHeld => ?_)
        clear hK KK
        try simp only [Act.put, List.setIfInBounds_toArray, List.set_cons_zero, List.set_cons_succ]
        refine wpAnyH_ready (rs := [5, 6]) (by kernel_rfl) (by simp) ?_
        refine (AllReadyH.cons rfl (fun KK hK => ?_) (AllReadyH.cons rfl (fun KK hK => ?_) AllReadyH.nil))
        · skip
          simp only [List.getElem_toArray, List.getElem_cons_succ, List.getElem_cons_zero]
          go_simp
          refine (hLoads k3 _ _ _ f118.out (HXf.out _ hS119)).mono ?_
          rintro e120 Y120 ⟨A120, q120, rfl, h120, b120⟩
          have f121 := hid (rd_next f118.out b120)
          clear f118
          have f122 := hid (f10117.out.next b120)
          clear f10117
          have hS123 := below2 hS119 b120
          clear hS119
          clear b120
          have f20120 := hid h120
          clear h120
          refine hK.out _ _ hS123 (fun hHeld => ?_)
          clear hK KK
          try simp only [Act.put, List.setIfInBounds_toArray, List.set_cons_zero, List.set_cons_succ]
          refine wpAnyH_ready (rs := [6]) (by kernel_rfl) (by simp) ?_
          refine (AllReadyH.cons rfl (fun KK hK => ?_) AllReadyH.nil)
          obtain ⟨g124, U124, hg124, hU124⟩ : ∃ (g : Nat) (U : World), Y120.heap.size = g ∧ World.alloc Y120 (.cells #[.int .i64 0, .int .i64 2] 3) = U := ⟨_, _, rfl, rfl⟩
          have o124 : Ob U124 g124 [.int .i64 0, .int .i64 2] 3 := by rw [← hU124, ← hg124]; exact Ob.new Y120 _ _
          have b124 : Below Y120.heap.size Y120 U124 := by rw [← hU124]; exact below_alloc Y120 _
          simp only [List.getElem_toArray, List.getElem_cons_succ, List.getElem_cons_zero]
          go_simp
          try simp only [hU124, hg124]
          clear hU124 hg124
          have f125 := hid (rd_next f121.out b124)
          clear f121
          have f126 := hid (f122.out.next b124)
          clear f122
          have f127 := hid ((f20120.out.below b124 (Nat.le_refl _)).more b124.size)
          clear f20120
          have hS128 := below2 hS123 b124
          clear hS123
          clear b124
          have f10124 := hid o124
          clear o124
          refine hK.out _ _ hS128 (fun hHeld => ?_)
          clear hK KK
          try simp only [Act.put, List.setIfInBounds_toArray, List.set_cons_zero, List.set_cons_succ]
          refine wpAnyH_ready (rs := [8]) (by kernel_rfl) (by simp) ?_
          refine (AllReadyH.cons rfl (fun KK hK => ?_) AllReadyH.nil)
          obtain ⟨g129, U129, hg129, hU129⟩ : ∃ (g : Nat) (U : World), U124.heap.size = g ∧ World.alloc U124 (.cells #[.slice (some ⟨g124, 0, none⟩) 2 2, .slice (some ⟨g117, 0, none⟩) 2 2] 29) = U := ⟨_, _, rfl, rfl⟩
          have o129 : Ob U129 g129 [.slice (some ⟨g124, 0, none⟩) 2 2, .slice (some ⟨g117, 0, none⟩) 2 2] 29 := by rw [← hU129, ← hg129]; exact Ob.new U124 _ _
          have b129 : Below U124.heap.size U124 U129 := by rw [← hU129]; exact below_alloc U124 _
          simp only [List.getElem_toArray, List.getElem_cons_succ, List.getElem_cons_zero]
          go_simp
          try simp only [hU129, hg129]
          clear hU129 hg129
          have f130 := hid (rd_next f125.out b129)
          clear f125
          have f131 := hid (f126.out.next b129)
          clear f126
          have f132 := hid ((f127.out.below b129 (Nat.le_refl _)).more b129.size)
          clear f127
          have f133 := hid (f10124.out.next b129)
          clear f10124
          have hS134 := below2 hS128 b129
          clear hS128
          clear b129
          have f10129 := hid o129
          clear o129
          refine hK.out _ _ hS134 (fun hHeld => ?_)
          clear hK KK
          try simp only [Act.put, List.setIfInBounds_toArray, List.set_cons_zero, List.set_cons_succ]
          refine wpAnyH_ready (rs := [9]) (by kernel_rfl) (by simp) ?_
          refine (AllReadyH.cons rfl (fun KK hK => ?_) AllReadyH.nil)
          simp only [List.getElem_toArray, List.getElem_cons_succ, List.getElem_cons_zero]
          go_simp
          refine (hq_rows _ _ _ _ _ f132.out (ob_rows2 f133.out f131.out f10129.out)).mono ?_
          rintro e135 Y135 ⟨rfl, b135⟩
          have f136 := hid (rd_next f130.out b135)
          clear f130
          have f137 := hid (f131.out.next b135)
          clear f131
          have f138 := hid ((f132.out.below b135 (Nat.le_refl _)).more b135.size)
          clear f132
          have f139 := hid (f133.out.next b135)
          clear f133
          have f140 := hid (f10129.out.next b135)
          clear f10129
          have hS141 := below2 hS134 b135
          clear hS134
          clear b135
          refine hK.out _ _ hS141 (fun hHeld => ?_)
          clear hK KK
          try simp only [Act.put, List.setIfInBounds_toArray, List.set_cons_zero, List.set_cons_succ]
          exact wpAnyH_at (by kernel_rfl) (hrest _ _ ⟨(.slice A3 4 q3), (.slice A120 2 q120), (.slice (some ⟨g124, 0, none⟩) 2 2), (.slice (some ⟨g117, 0, none⟩) 2 2), (.slice (some ⟨g129, 0, none⟩) 2 2), rfl, hS141⟩)
        · skip
          obtain ⟨g142, U142, hg142, hU142⟩ : ∃ (g : Nat) (U : World), U117.heap.size = g ∧ World.alloc U117 (.cells #[.int .i64 0, .int .i64 2] 3) = U := ⟨_, _, rfl, rfl⟩
          have o142 : Ob U142 g142 [.int .i64 0, .int .i64 2] 3 := by rw [← hU142, ← hg142]; exact Ob.new U117 _ _
          have b142 : Below U117.heap.size U117 U142 := by rw [← hU142]; exact below_alloc U117 _
          simp only [List.getElem_toArray, List.getElem_cons_succ, List.getElem_cons_zero]
          go_simp
          try simp only [hU142, hg142]
          clear hU142 hg142
          have f143 := hid (rd_next f118.out b142)
          clear f118
          have f144 := hid (f10117.out.next b142)
          clear f10117
          have hS145 := below2 hS119 b142
          clear hS119
          clear b142
          have f10142 := hid o142
          clear o142
          refine hK.out _ _ hS145 (fun hHeld => ?_)
          clear hK KK
          try simp only [Act.put, List.setIfInBounds_toArray, List.set_cons_zero, List.set_cons_succ]
          refine wpAnyH_ready (rs := [5, 8]) (by kernel_rfl) (by simp) ?_
          refine (AllReadyH.cons rfl (fun KK hK => ?_) (AllReadyH.cons rfl (fun KK hK => ?_) AllReadyH.nil))
          · skip
            simp only [List.getElem_toArray, List.getElem_cons_succ, List.getElem_cons_zero]
            go_simp
            refine (hLoads k3 _ _ _ f143.out (HXf.out _ hS145)).mono ?_
            rintro e146 Y146 ⟨A146, q146, rfl, h146, b146⟩
            have f147 := hid (rd_next f143.out b146)
            clear f143
            have f148 := hid (f144.out.next b146)
            clear f144
            have f149 := hid (f10142.out.next b146)
            clear f10142
            have hS150 := below2 hS145 b146
            clear hS145
            clear b146
            have f20146 := hid h146
            clear h146
            refine hK.out _ _ hS150 (fun hHeld => ?_)
            clear hK KK
            try simp only [Act.put, List.setIfInBounds_toArray, List.set_cons_zero, List.set_cons_succ]
            refine wpAnyH_ready (rs := [8]) (by kernel_rfl) (by simp) ?_
            refine (AllReadyH.cons rfl (fun KK hK => ?_) AllReadyH.nil)
            obtain ⟨g151, U151, hg151, hU151⟩ : ∃ (g : Nat) (U : World), Y146.heap.size = g ∧ World.alloc Y146 (.cells #[.slice (some ⟨g142, 0, none⟩) 2 2, .slice (some ⟨g117, 0, none⟩) 2 2] 29) = U := ⟨_, _, rfl, rfl⟩
            have o151 : Ob U151 g151 [.slice (some ⟨g142, 0, none⟩) 2 2, .slice (some ⟨g117, 0, none⟩) 2 2] 29 := by rw [← hU151, ← hg151]; exact Ob.new Y146 _ _
            have b151 : Below Y146.heap.size Y146 U151 := by rw [← hU151]; exact below_alloc Y146 _
            simp only [List.getElem_toArray, List.getElem_cons_succ, List.getElem_cons_zero]
            go_simp
            try simp only [hU151, hg151]
            clear hU151 hg151
            have f152 := hid (rd_next f147.out b151)
            clear f147
            have f153 := hid (f148.out.next b151)
            clear f148
            have f154 := hid (f149.out.next b151)
            clear f149
            have f155 := hid ((f20146.out.below b151 (Nat.le_refl _)).more b151.size)
            clear f20146
            have hS156 := below2 hS150 b151
            clear hS150
            clear b151
            have f10151 := hid o151
            clear o151
            refine hK.out _ _ hS156 (fun hHeld => ?_)
            clear hK KK
            try simp only [Act.put, List.setIfInBounds_toArray, List.set_cons_zero, List.set_cons_succ]
            refine wpAnyH_ready (rs := [9]) (by kernel_rfl) (by simp) ?_
            refine (AllReadyH.cons rfl (fun KK hK => ?_) AllReadyH.nil)
            simp only [List.getElem_toArray, List.getElem_cons_succ, List.getElem_cons_zero]
            go_simp
            refine (hq_rows _ _ _ _ _ f155.out (ob_rows2 f154.out f153.out f10151.out)).mono ?_
            rintro e157 Y157 ⟨rfl, b157⟩
            have f158 := hid (rd_next f152.out b157)
            clear f152
            have f159 := hid (f153.out.next b157)
            clear f153
            have f160 := hid (f154.out.next b157)
            clear f154
            have f161 := hid ((f155.out.below b157 (Nat.le_refl _)).more b157.size)
            clear f155
            have f162 := hid (f10151.out.next b157)
            clear f10151
            have hS163 := below2 hS156 b157
            clear hS156
            clear b157
            refine hK.out _ _ hS163 (fun hHeld => ?_)
            clear hK KK
            try simp only [Act.put, List.setIfInBounds_toArray, List.set_cons_zero, List.set_cons_succ]
            exact wpAnyH_at (by kernel_rfl) (hrest _ _ ⟨(.slice A3 4 q3), (.slice A146 2 q146), (.slice (some ⟨g142, 0, none⟩) 2 2), (.slice (some ⟨g117, 0, none⟩) 2 2), (.slice (some ⟨g151, 0, none⟩) 2 2), rfl, hS163⟩)
          · skip
            obtain ⟨g164, U164, hg164, hU164⟩ : ∃ (g : Nat) (U : World), U142.heap.size = g ∧ World.alloc U142 (.cells #[.slice (some ⟨g142, 0, none⟩) 2 2, .slice (some ⟨g117, 0, none⟩) 2 2] 29) = U := ⟨_, _, rfl, rfl⟩
            have o164 : Ob U164 g164 [.slice (some ⟨g142, 0, none⟩) 2 2, .slice (some ⟨g117, 0, none⟩) 2 2] 29 := by rw [← hU164, ← hg164]; exact Ob.new U142 _ _
            have b164 : Below U142.heap.size U142 U164 := by rw [← hU164]; exact below_alloc U142 _
            simp only [List.getElem_toArray, List.getElem_cons_succ, List.getElem_cons_zero]
            go_simp
            try simp only [hU164, hg164]
            clear hU164 hg164
            have f165 := hid (rd_next f143.out b164)
            clear f143
            have f166 := hid (f144.out.next b164)
            clear f144
            have f167 := hid (f10142.out.next b164)
            clear f10142
            have hS168 := below2 hS145 b164
            clear hS145
            clear b164
            have f10164 := hid o164
            clear o164
            refine hK.out _ _ hS168 (fun hHeld => ?_)
            clear hK KK
            try simp only [Act.put, List.setIfInBounds_toArray, List.set_cons_zero, List.set_cons_succ]
            refine wpAnyH_ready (rs := [5]) (by kernel_rfl) (by simp) ?_
            refine (AllReadyH.cons rfl (fun KK hK => ?_) AllReadyH.nil)
            simp only [List.getElem_toArray, List.getElem_cons_succ, List.getElem_cons_zero]
            go_simp
            refine (hLoads k3 _ _ _ f165.out (HXf.out _ hS168)).mono ?_
            rintro e169 Y169 ⟨A169, q169, rfl, h169, b169⟩
            have f170 := hid (rd_next f165.out b169)
            clear f165
            have f171 := hid (f166.out.next b169)
            clear f166
            have f172 := hid (f167.out.next b169)
            clear f167
            have f173 := hid (f10164.out.next b169)
            clear f10164
            have hS174 := below2 hS168 b169
            clear hS168
            clear b169
            have f20169 := hid h169
            clear h169
            refine hK.out _ _ hS174 (fun hHeld => ?_)
            clear hK KK
            try simp only [Act.put, List.setIfInBounds_toArray, List.set_cons_zero, List.set_cons_succ]
            refine wpAnyH_ready (rs := [9]) (by kernel_rfl) (by simp) ?_
            refine (AllReadyH.cons rfl (fun KK hK => ?_) AllReadyH.nil)
            simp only [List.getElem_toArray, List.getElem_cons_succ, List.getElem_cons_zero]
            go_simp
            refine (hq_rows _ _ _ _ _ f20169.out (ob_rows2 f172.out f171.out f173.out)).mono ?_
            rintro e175 Y175 ⟨rfl, b175⟩
            have f176 := hid (rd_next f170.out b175)
            clear f170
            have f177 := hid (f171.out.next b175)
            clear f171
            have f178 := hid (f172.out.next b175)
            clear f172
            have f179 := hid (f173.out.next b175)
            clear f173
            have f180 := hid ((f20169.out.below b175 (Nat.le_refl _)).more b175.size)
            clear f20169
            have hS181 := below2 hS174 b175
            clear hS174
            clear b175
            refine hK.out _ _ hS181 (fun hHeld => ?_)
            clear hK KK
            try simp only [Act.put, List.setIfInBounds_toArray, List.set_cons_zero, List.set_cons_succ]
            exact wpAnyH_at (by kernel_rfl) (hrest _ _ ⟨(.slice A3 4 q3), (.slice A169 2 q169), (.slice (some ⟨g142, 0, none⟩) 2 2), (.slice (some ⟨g117, 0, none⟩) 2 2), (.slice (some ⟨g164, 0, none⟩) 2 2), rfl, hS181⟩)
    · skip
      obtain ⟨g182, U182, hg182, hU182⟩ : ∃ (g : Nat) (U : World), Y1.heap.size = g ∧ World.alloc Y1 (.cells #[.int .i64 0, .int .i64 2] 3) = U := ⟨_, _, rfl, rfl⟩
      have o182 : Ob U182 g182 [.int .i64 0, .int .i64 2] 3 := by rw [← hU182, ← hg182]; exact Ob.new Y1 _ _
      have b182 : Below Y1.heap.size Y1 U182 := by rw [← hU182]; exact below_alloc Y1 _
      simp only [List.getElem_toArray, List.getElem_cons_succ, List.getElem_cons_zero]
      go_simp
      try simp only [hU182, hg182]
      clear hU182 hg182
      have hS183 := below2 hS2 b182
      clear hS2
      clear b182
      have f10182 := hid o182
      clear o182
      refine hK.out _ _ hS183 (fun hHeld => ?_)
      clear hK KK
      try simp only [Act.put, List.setIfInBounds_toArray, List.set_cons_zero, List.set_cons_succ]
      refine wpAnyH_ready (rs := [3, 7]) (by kernel_rfl) (by simp) ?_
      refine (AllReadyH.cons rfl (fun KK hK => ?_) (AllReadyH.cons rfl (fun KK hK => ?_) AllReadyH.nil))
      · skip
        simp only [List.getElem_toArray, List.getElem_cons_succ, List.getElem_cons_zero]
        go_simp
        refine (hq_classes _).mono ?_
        rintro e184 Y184 ⟨A184, q184, rfl, h184, b184⟩
        have f185 := hid (f10182.out.next b184)
        clear f10182
        have hS186 := below2 hS183 b184
        clear hS183
        clear b184
        have f20184 := hid h184
        clear h184
        refine hK.out _ _ hS186 (fun hHeld => ?_)
        clear hK KK
        try simp only [Act.put, List.setIfInBounds_toArray, List.set_cons_zero, List.set_cons_succ]
        refine wpAnyH_ready (rs := [5, 7]) (by kernel_rfl) (by simp) ?_
        refine (AllReadyH.cons rfl (fun KK hK => ?_) (AllReadyH.cons rfl (fun KK hK => ?_) AllReadyH.nil))
        · skip
          simp only [List.getElem_toArray, List.getElem_cons_succ, List.getElem_cons_zero]
          go_simp
          refine (hLoads k3 _ _ _ f20184.out (HXf.out _ hS186)).mono ?_
          rintro e187 Y187 ⟨A187, q187, rfl, h187, b187⟩
          have f188 := hid (f185.out.next b187)
          clear f185
          have f189 := hid (rd_next f20184.out b187)
          clear f20184
          have hS190 := below2 hS186 b187
          clear hS186
          clear b187
          have f20187 := hid h187
          clear h187
          refine hK.out _ _ hS190 (fun hHeld => ?_)
          clear hK KK
          try simp only [Act.put, List.setIfInBounds_toArray, List.set_cons_zero, List.set_cons_succ]
          refine wpAnyH_ready (rs := [7]) (by kernel_rfl) (by simp) ?_
          refine (AllReadyH.cons rfl (fun KK hK => ?_) AllReadyH.nil)
          obtain ⟨g191, U191, hg191, hU191⟩ : ∃ (g : Nat) (U : World), Y187.heap.size = g ∧ World.alloc Y187 (.cells #[.int .i64 1, .int .i64 3] 3) = U := ⟨_, _, rfl, rfl⟩
          have o191 : Ob U191 g191 [.int .i64 1, .int .i64 3] 3 := by rw [← hU191, ← hg191]; exact Ob.new Y187 _ _
          have b191 : Below Y187.heap.size Y187 U191 := by rw [← hU191]; exact below_alloc Y187 _
          simp only [List.getElem_toArray, List.getElem_cons_succ, List.getElem_cons_zero]
          go_simp
          try simp only [hU191, hg191]
          clear hU191 hg191
          have f192 := hid (f188.out.next b191)
          clear f188
          have f193 := hid (rd_next f189.out b191)
          clear f189
          have f194 := hid ((f20187.out.below b191 (Nat.le_refl _)).more b191.size)
          clear f20187
          have hS195 := below2 hS190 b191
          clear hS190
          clear b191
          have f10191 := hid o191
          clear o191
          refine hK.out _ _ hS195 (fun hHeld => ?_)
          clear hK KK
          try simp only [Act.put, List.setIfInBounds_toArray, List.set_cons_zero, List.set_cons_succ]
          refine wpAnyH_ready (rs := [8]) (by kernel_rfl) (by simp) ?_
          refine (AllReadyH.cons rfl (fun KK hK => ?_) AllReadyH.nil)
          obtain ⟨g196, U196, hg196, hU196⟩ : ∃ (g : Nat) (U : World), U191.heap.size = g ∧ World.alloc U191 (.cells #[.slice (some ⟨g182, 0, none⟩) 2 2, .slice (some ⟨g191, 0, none⟩) 2 2] 29) = U := ⟨_, _, rfl, rfl⟩
          have o196 : Ob U196 g196 [.slice (some ⟨g182, 0, none⟩) 2 2, .slice (some ⟨g191, 0, none⟩) 2 2] 29 := by rw [← hU196, ← hg196]; exact Ob.new U191 _ _
          have b196 : Below U191.heap.size U191 U196 := by rw [← hU196]; exact below_alloc U191 _
          simp only [List.getElem_toArray, List.getElem_cons_succ, List.getElem_cons_zero]
          go_simp
          try simp only [hU196, hg196]
          clear hU196 hg196
          have f197 := hid (f192.out.next b196)
          clear f192
          have f198 := hid (rd_next f193.out b196)
          clear f193
          have f199 := hid ((f194.out.below b196 (Nat.le_refl _)).more b196.size)
          clear f194
          have f200 := hid (f10191.out.next b196)
          clear f10191
          have hS201 := below2 hS195 b196
          clear hS195
          clear b196
          have f10196 := hid o196
          clear o196
          refine hK.out _ _ hS201 (fun hHeld => ?_)
          clear hK KK
          try simp only [Act.put, List.setIfInBounds_toArray, List.set_cons_zero, List.set_cons_succ]
          refine wpAnyH_ready (rs := [9]) (by kernel_rfl) (by simp) ?_
          refine (AllReadyH.cons rfl (fun KK hK => ?_) AllReadyH.nil)
          simp only [List.getElem_toArray, List.getElem_cons_succ, List.getElem_cons_zero]
          go_simp
          refine (hq_rows _ _ _ _ _ f199.out (ob_rows2 f197.out f200.out f10196.out)).mono ?_
          rintro e202 Y202 ⟨rfl, b202⟩
          have f203 := hid (f197.out.next b202)
          clear f197
          have f204 := hid (rd_next f198.out b202)
          clear f198
          have f205 := hid ((f199.out.below b202 (Nat.le_refl _)).more b202.size)
          clear f199
          have f206 := hid (f200.out.next b202)
          clear f200
          have f207 := hid (f10196.out.next b202)
          clear f10196
          have hS208 := below2 hS201 b202
          clear hS201
          clear b202
          refine hK.out _ _ hS208 (fun hHeld => ?_)
          clear hK KK
          try simp only [Act.put, List.setIfInBounds_toArray, List.set_cons_zero, List.set_cons_succ]
          exact wpAnyH_at (by kernel_rfl) (hrest _ _ ⟨(.slice A184 4 q184), (.slice A187 2 q187), (.slice (some ⟨g182, 0, none⟩) 2 2), (.slice (some ⟨g191, 0, none⟩) 2 2), (.slice (some ⟨g196, 0, none⟩) 2 2), rfl, hS208⟩)
        · skip
          obtain ⟨g209, U209, hg209, hU209⟩ : ∃ (g : Nat) (U : World), Y184.heap.size = g ∧ World.alloc Y184 (.cells #[.int .i64 1, .int .i64 3] 3) = U := ⟨_, _, rfl, rfl⟩
          have o209 : Ob U209 g209 [.int .i64 1, .int .i64 3] 3 := by rw [← hU209, ← hg209]; exact Ob.new Y184 _ _
          have b209 : Below Y184.heap.size Y184 U209 := by rw [← hU209]; exact below_alloc Y184 _
          simp only [List.getElem_toArray, List.getElem_cons_succ, List.getElem_cons_zero]
          go_simp
          try simp only [hU209, hg209]
          clear hU209 hg209
          have f210 := hid (f185.out.next b209)
          clear f185
          have f211 := hid (rd_next f20184.out b209)
          clear f20184
          have hS212 := below2 hS186 b209
          clear hS186
          clear b209
          have f10209 := hid o209
          clear o209
          refine hK.out _ _ hS212 (fun hHeld => ?_)
          clear hK KK
          try simp only [Act.put, List.setIfInBounds_toArray, List.set_cons_zero, List.set_cons_succ]
          refine wpAnyH_ready (rs := [5, 8]) (by kernel_rfl) (by simp) ?_
          refine (AllReadyH.cons rfl (fun KK hK => ?_) (AllReadyH.cons rfl (fun KK hK => ?_) AllReadyH.nil))
          · skip
            simp only [List.getElem_toArray, List.getElem_cons_succ, List.getElem_cons_zero]
            go_simp
            refine (hLoads k3 _ _ _ f211.out (HXf.out _ hS212)).mono ?_
            rintro e213 Y213 ⟨A213, q213, rfl, h213, b213⟩
            have f214 := hid (f210.out.next b213)
            clear f210
            have f215 := hid (rd_next f211.out b213)
            clear f211
            have f216 := hid (f10209.out.next b213)
            clear f10209
            have hS217 := below2 hS212 b213
            clear hS212
            clear b213
            have f20213 := hid h213
            clear h213
            refine hK.out _ _ hS217 (fun hHeld => ?_)
            clear hK KK
            try simp only [Act.put, List.setIfInBounds_toArray, List.set_cons_zero, List.set_cons_succ]
            refine wpAnyH_ready (rs := [8]) (by kernel_rfl) (by simp) ?_
            refine (AllReadyH.cons rfl (fun KK hK => ?_) AllReadyH.nil)
            obtain ⟨g218, U218, hg218, hU218⟩ : ∃ (g : Nat) (U : World), Y213.heap.size = g ∧ World.alloc Y213 (.cells #[.slice (some ⟨g182, 0, none⟩) 2 2, .slice (some ⟨g209, 0, none⟩) 2 2] 29) = U := ⟨_, _, rfl, rfl⟩
            have o218 : Ob U218 g218 [.slice (some ⟨g182, 0, none⟩) 2 2, .slice (some ⟨g209, 0, none⟩) 2 2] 29 := by rw [← hU218, ← hg218]; exact Ob.new Y213 _ _
            have b218 : Below Y213.heap.size Y213 U218 := by rw [← hU218]; exact below_alloc Y213 _
            simp only [List.getElem_toArray, List.getElem_cons_succ, List.getElem_cons_zero]
            go_simp
            try simp only [hU218, hg218]
            clear hU218 hg218
            have f219 := hid (f214.out.next b218)
            clear f214
            have f220 := hid (rd_next f215.out b218)
            clear f215
            have f221 := hid (f216.out.next b218)
            clear f216
            have f222 := hid ((f20213.out.below b218 (Nat.le_refl _)).more b218.size)
            clear f20213
            have hS223 := below2 hS217 b218
            clear hS217
            clear b218
            have f10218 := hid o218
            clear o218
            refine hK.out _ _ hS223 (fun hHeld => ?_)
            clear hK KK
            try simp only [Act.put, List.setIfInBounds_toArray, List.set_cons_zero, List.set_cons_succ]
            refine wpAnyH_ready (rs := [9]) (by kernel_rfl) (by simp) ?_
            refine (AllReadyH.cons rfl (fun KK hK => ?_) AllReadyH.nil)
            simp only [List.getElem_toArray, List.getElem_cons_succ, List.getElem_cons_zero]
            go_simp
            refine (hq_rows _ _ _ _ _ f222.out (ob_rows2 f219.out f221.out f10218.out)).mono ?_
            rintro e224 Y224 ⟨rfl, b224⟩
            have f225 := hid (f219.out.next b224)
            clear f219
            have f226 := hid (rd_next f220.out b224)
            clear f220
            have f227 := hid (f221.out.next b224)
            clear f221
            have f228 := hid ((f222.out.below b224 (Nat.le_refl _)).more b224.size)
            clear f222
            have f229 := hid (f10218.out.next b224)
            clear f10218
            have hS230 := below2 hS223 b224
            clear hS223
            clear b224
            refine hK.out _ _ hS230 (fun hHeld => ?_)
            clear hK KK
            try simp only [Act.put, List.setIfInBounds_toArray, List.set_cons_zero, List.set_cons_succ]
            exact wpAnyH_at (by kernel_rfl) (hrest _ _ ⟨(.slice A184 4 q184), (.slice A213 2 q213), (.slice (some ⟨g182, 0, none⟩) 2 2), (.slice (some ⟨g209, 0, none⟩) 2 2), (.slice (some ⟨g218, 0, none⟩) 2 2), rfl, hS230⟩)
          · skip
            obtain ⟨g231, U231, hg231, hU231⟩ : ∃ (g : Nat) (U : World), U209.heap.size = g ∧ World.alloc U209 (.cells #[.slice (some ⟨g182, 0, none⟩) 2 2, .slice (some ⟨g209, 0, none⟩) 2 2] 29) = U := ⟨_, _, rfl, rfl⟩
            have o231 : Ob U231 g231 [.slice (some ⟨g182, 0, none⟩) 2 2, .slice (some ⟨g209, 0, none⟩) 2 2] 29 := by rw [← hU231, ← hg231]; exact Ob.new U209 _ _
            have b231 : Below U209.heap.size U209 U231 := by rw [← hU231]; exact below_alloc U209 _
            simp only [List.getElem_toArray, List.getElem_cons_succ, List.getElem_cons_zero]
            go_simp
            try simp only [hU231, hg231]
            clear hU231 hg231
            have f232 := hid (f210.out.next b231)
            clear f210
            have f233 := hid (rd_next f211.out b231)
            clear f211
            have f234 := hid (f10209.out.next b231)
            clear f10209
            have hS235 := below2 hS212 b231
            clear hS212
            clear b231
            have f10231 := hid o231
            clear o231
            refine hK.out _ _ hS235 (fun hHeld => ?_)
            clear hK KK
            try simp only [Act.put, List.setIfInBounds_toArray, List.set_cons_zero, List.set_cons_succ]
            refine wpAnyH_ready (rs := [5]) (by kernel_rfl) (by simp) ?_
            refine (AllReadyH.cons rfl (fun KK hK => ?_) AllReadyH.nil)
            simp only [List.getElem_toArray, List.getElem_cons_succ, List.getElem_cons_zero]
            go_simp
            refine (hLoads k3 _ _ _ f233.out (HXf.out _ hS235)).mono ?_
            rintro e236 Y236 ⟨A236, q236, rfl, h236, b236⟩
            have f237 := hid (f232.out.next b236)
            clear f232
            have f238 := hid (rd_next f233.out b236)
            clear f233
            have f239 := hid (f234.out.next b236)
            clear f234
            have f240 := hid (f10231.out.next b236)
            clear f10231
            have hS241 := below2 hS235 b236
            clear hS235
            clear b236
            have f20236 := hid h236
            clear h236
            refine hK.out _ _ hS241 (fun hHeld => ?_)
            clear hK KK
            try simp only [Act.put, List.setIfInBounds_toArray, List.set_cons_zero, List.set_cons_succ]
            refine wpAnyH_ready (rs := [9]) (by kernel_rfl) (by simp) ?_
            refine (AllReadyH.cons rfl (fun KK hK => ?_) AllReadyH.nil)
            simp only [List.getElem_toArray, List.getElem_cons_succ, List.getElem_cons_zero]
            go_simp
            refine (hq_rows _ _ _ _ _ f20236.out (ob_rows2 f237.out f239.out f240.out)).mono ?_
            rintro e242 Y242 ⟨rfl, b242⟩
            have f243 := hid (f237.out.next b242)
            clear f237
            have f244 := hid (rd_next f238.out b242)
            clear f238
            have f245 := hid (f239.out.next b242)
            clear f239
            have f246 := hid (f240.out.next b242)
            clear f240
            have f247 := hid ((f20236.out.below b242 (Nat.le_refl _)).more b242.size)
            clear f20236
            have hS248 := below2 hS241 b242
            clear hS241
            clear b242
            refine hK.out _ _ hS248 (fun hHeld => ?_)
            clear hK KK
            try simp only [Act.put, List.setIfInBounds_toArray, List.set_cons_zero, List.set_cons_succ]
            exact wpAnyH_at (by kernel_rfl) (hrest _ _ ⟨(.slice A184 4 q184), (.slice A236 2 q236), (.slice (some ⟨g182, 0, none⟩) 2 2), (.slice (some ⟨g209, 0, none⟩) 2 2), (.slice (some ⟨g231, 0, none⟩) 2 2), rfl, hS248⟩)
      · skip
        obtain ⟨g249, U249, hg249, hU249⟩ : ∃ (g : Nat) (U : World), U182.heap.size = g ∧ World.alloc U182 (.cells #[.int .i64 1, .int .i64 3] 3) = U := ⟨_, _, rfl, rfl⟩
        have o249 : Ob U249 g249 [.int .i64 1, .int .i64 3] 3 := by rw [← hU249, ← hg249]; exact Ob.new U182 _ _
        have b249 : Below U182.heap.size U182 U249 := by rw [← hU249]; exact below_alloc U182 _
        simp only [List.getElem_toArray, List.getElem_cons_succ, List.getElem_cons_zero]
        go_simp
        try simp only [hU249, hg249]
        clear hU249 hg249
        have f250 := hid (f10182.out.next b249)
        clear f10182
        have hS251 := below2 hS183 b249
        clear hS183
        clear b249
        have f10249 := hid o249
        clear o249
        refine hK.out _ _ hS251 (fun hHeld => ?_)
        clear hK KK
        try simp only [Act.put, List.setIfInBounds_toArray, List.set_cons_zero, List.set_cons_succ]
        refine wpAnyH_ready (rs := [3, 8]) (by kernel_rfl) (by simp) ?_
        refine (AllReadyH.cons rfl (fun KK hK => ?_) (AllReadyH.cons rfl (fun KK hK => ?_) AllReadyH.nil))
        · skip
          simp only [List.getElem_toArray, List.getElem_cons_succ, List.getElem_cons_zero]
          go_simp
          refine (hq_classes _).mono ?_
          rintro e252 Y252 ⟨A252, q252, rfl, h252, b252⟩
          have f253 := hid (f250.out.next b252)
          clear f250
          have f254 := hid (f10249.out.next b252)
          clear f10249
          have hS255 := below2 hS251 b252
          clear hS251
          clear b252
          have f20252 := hid h252
          clear h252
          refine hK.out _ _ hS255 (fun hHeld => ?_)
          clear hK KK
          try simp only [Act.put, List.setIfInBounds_toArray, List.set_cons_zero, List.set_cons_succ]
          refine wpAnyH_ready (rs := [5, 8]) (by kernel_rfl) (by simp) ?_
          refine (AllReadyH.cons rfl (fun KK hK => ?_) (AllReadyH.cons rfl (fun KK hK => ?_) AllReadyH.nil))
          · skip
            simp only [List.getElem_toArray, List.getElem_cons_succ, List.getElem_cons_zero]
            go_simp
            refine (hLoads k3 _ _ _ f20252.out (HXf.out _ hS255)).mono ?_
            rintro e256 Y256 ⟨A256, q256, rfl, h256, b256⟩
            have f257 := hid (f253.out.next b256)
            clear f253
            have f258 := hid (f254.out.next b256)
            clear f254
            have f259 := hid (rd_next f20252.out b256)
            clear f20252
            have hS260 := below2 hS255 b256
            clear hS255
            clear b256
            have f20256 := hid h256
            clear h256
            refine hK.out _ _ hS260 (fun hHeld => ?_)
            clear hK KK
            try simp only [Act.put, List.setIfInBounds_toArray, List.set_cons_zero, List.set_cons_succ]
            refine wpAnyH_ready (rs := [8]) (by kernel_rfl) (by simp) ?_
            refine (AllReadyH.cons rfl (fun KK hK => ?_) AllReadyH.nil)
            obtain ⟨g261, U261, hg261, hU261⟩ : ∃ (g : Nat) (U : World), Y256.heap.size = g ∧ World.alloc Y256 (.cells #[.slice (some ⟨g182, 0, none⟩) 2 2, .slice (some ⟨g249, 0, none⟩) 2 2] 29) = U := ⟨_, _, rfl, rfl⟩
            have o261 : Ob U261 g261 [.slice (some ⟨g182, 0, none⟩) 2 2, .slice (some ⟨g249, 0, none⟩) 2 2] 29 := by rw [← hU261, ← hg261]; exact Ob.new Y256 _ _
            have b261 : Below Y256.heap.size Y256 U261 := by rw [← hU261]; exact below_alloc Y256 _
            simp only [List.getElem_toArray, List.getElem_cons_succ, List.getElem_cons_zero]
            go_simp
            try simp only [hU261, hg261]
            clear hU261 hg261
            have f262 := hid (f257.out.next b261)
            clear f257
            have f263 := hid (f258.out.next b261)
            clear f258
            have f264 := hid (rd_next f259.out b261)
            clear f259
            have f265 := hid ((f20256.out.below b261 (Nat.le_refl _)).more b261.size)
            clear f20256
            have hS266 := below2 hS260 b261
            clear hS260
            clear b261
            have f10261 := hid o261
            clear o261
            refine hK.out _ _ hS266 (fun hHeld => ?_)
            clear hK KK
            try simp only [Act.put, List.setIfInBounds_toArray, List.set_cons_zero, List.set_cons_succ]
            refine wpAnyH_ready (rs := [9]) (by kernel_rfl) (by simp) ?_
            refine (AllReadyH.cons rfl (fun KK hK => ?_) AllReadyH.nil)
            simp only [List.getElem_toArray, List.getElem_cons_succ, List.getElem_cons_zero]
            go_simp
            refine (hq_rows _ _ _ _ _ f265.out (ob_rows2 f262.out f263.out f10261.out)).mono ?_
            rintro e267 Y267 ⟨rfl, b267⟩
            have f268 := hid (f262.out.next b267)
            clear f262
            have f269 := hid (f263.out.next b267)
            clear f263
            have f270 := hid (rd_next f264.out b267)
            clear f264
            have f271 := hid ((f265.out.below b267 (Nat.le_refl _)).more b267.size)
            clear f265
            have f272 := hid (f10261.out.next b267)
            clear f10261
            have hS273 := below2 hS266 b267
            clear hS266
            clear b267
            refine hK.out _ _ hS273 (fun hHeld => ?_)
            clear hK KK
            try simp only [Act.put, List.setIfInBounds_toArray, List.set_cons_zero, List.set_cons_succ]
            exact wpAnyH_at (by kernel_rfl) (hrest _ _ ⟨(.slice A252 4 q252), (.slice A256 2 q256), (.slice (some ⟨g182, 0, none⟩) 2 2), (.slice (some ⟨g249, 0, none⟩) 2 2), (.slice (some ⟨g261, 0, none⟩) 2 2), rfl, hS273⟩)
          · skip
            obtain ⟨g274, U274, hg274, hU274⟩ : ∃ (g : Nat) (U : World), Y252.heap.size = g ∧ World.alloc Y252 (.cells #[.slice (some ⟨g182, 0, none⟩) 2 2, .slice (some ⟨g249, 0, none⟩) 2 2] 29) = U := ⟨_, _, rfl, rfl⟩
            have o274 : Ob U274 g274 [.slice (some ⟨g182, 0, none⟩) 2 2, .slice (some ⟨g249, 0, none⟩) 2 2] 29 := by rw [← hU274, ← hg274]; exact Ob.new Y252 _ _
            have b274 : Below Y252.heap.size Y252 U274 := by rw [← hU274]; exact below_alloc Y252 _
            simp only [List.getElem_toArray, List.getElem_cons_succ, List.getElem_cons_zero]
            go_simp
            try simp only [hU274, hg274]
            clear hU274 hg274
            have f275 := hid (f253.out.next b274)
            clear f253
            have f276 := hid (f254.out.next b274)
            clear f254
            have f277 := hid (rd_next f20252.out b274)
            clear f20252
            have hS278 := below2 hS255 b274
            clear hS255
            clear b274
            have f10274 := hid o274
            clear o274
            refine hK.out _ _ hS278 (fun hHeld => ?_)
            clear hK KK
            try simp only [Act.put, List.setIfInBounds_toArray, List.set_cons_zero, List.set_cons_succ]
            refine wpAnyH_ready (rs := [5]) (by kernel_rfl) (by simp) ?_
            refine (AllReadyH.cons rfl (fun KK hK => ?_) AllReadyH.nil)
            simp only [List.getElem_toArray, List.getElem_cons_succ, List.getElem_cons_zero]
            go_simp
            refine (hLoads k3 _ _ _ f277.out (HXf.out _ hS278)).mono ?_
            rintro e279 Y279 ⟨A279, q279, rfl, h279, b279⟩
            have f280 := hid (f275.out.next b279)
            clear f275
            have f281 := hid (f276.out.next b279)
            clear f276
            have f282 := hid (rd_next f277.out b279)
            clear f277
            have f283 := hid (f10274.out.next b279)
            clear f10274
            have hS284 := below2 hS278 b279
            clear hS278
            clear b279
            have f20279 := hid h279
            clear h279
            refine hK.out _ _ hS284 (fun hHeld => ?_)
            clear hK KK
            try simp only [Act.put, List.setIfInBounds_toArray, List.set_cons_zero, List.set_cons_succ]
            refine wpAnyH_ready (rs := [9]) (by kernel_rfl) (by simp) ?_
            refine (AllReadyH.cons rfl (fun KK hK => ?_) AllReadyH.nil)
            simp only [List.getElem_toArray, List.getElem_cons_succ, List.getElem_cons_zero]
            go_simp
            refine (hq_rows _ _ _ _ _ f20279.out (ob_rows2 f280.out f281.out f283.out)).mono ?_
            rintro e285 Y285 ⟨rfl, b285⟩
            have f286 := hid (f280.out.next b285)
            clear f280
            have f287 := hid (f281.out.next b285)
            clear f281
            have f288 := hid (rd_next f282.out b285)
            clear f282
            have f289 := hid (f283.out.next b285)
            clear f283
            have f290 := hid ((f20279.out.below b285 (Nat.le_refl _)).more b285.size)
            clear f20279
            have hS291 := below2 hS284 b285
            clear hS284
            clear b285
            refine hK.out _ _ hS291 (fun hHeld => ?_)
            clear hK KK
            try simp only [Act.put, List.setIfInBounds_toArray, List.set_cons_zero, List.set_cons_succ]
            exact wpAnyH_at (by kernel_rfl) (hrest _ _ ⟨(.slice A252 4 q252), (.slice A279 2 q279), (.slice (some ⟨g182, 0, none⟩) 2 2), (.slice (some ⟨g249, 0, none⟩) 2 2), (.slice (some ⟨g274, 0, none⟩) 2 2), rfl, hS291⟩)
        · skip
          obtain ⟨g292, U292, hg292, hU292⟩ : ∃ (g : Nat) (U : World), U249.heap.size = g ∧ World.alloc U249 (.cells #[.slice (some ⟨g182, 0, none⟩) 2 2, .slice (some ⟨g249, 0, none⟩) 2 2] 29) = U := ⟨_, _, rfl, rfl⟩
          have o292 : Ob U292 g292 [.slice (some ⟨g182, 0, none⟩) 2 2, .slice (some ⟨g249, 0, none⟩) 2 2] 29 := by rw [← hU292, ← hg292]; exact Ob.new U249 _ _
          have b292 : Below U249.heap.size U249 U292 := by rw [← hU292]; exact below_alloc U249 _
          simp only [List.getElem_toArray, List.getElem_cons_succ, List.getElem_cons_zero]
          go_simp
          try simp only [hU292, hg292]
          clear hU292 hg292
          have f293 := hid (f250.out.next b292)
          clear f250
          have f294 := hid (f10249.out.next b292)
          clear f10249
          have hS295 := below2 hS251 b292
          clear hS251
          clear b292
          have f10292 := hid o292
          clear o292
          refine hK.out _ _ hS295 (fun hHeld => ?_)
          clear hK KK
          try simp only [Act.put, List.setIfInBounds_toArray, List.set_cons_zero, List.set_cons_succ]
          refine wpAnyH_ready (rs := [3]) (by kernel_rfl) (by simp) ?_
          refine (AllReadyH.cons rfl (fun KK hK => ?_) AllReadyH.nil)
          simp only [List.getElem_toArray, List.getElem_cons_succ, List.getElem_cons_zero]
          go_simp
          refine (hq_classes _).mono ?_
          rintro e296 Y296 ⟨A296, q296, rfl, h296, b296⟩
          have f297 := hid (f293.out.next b296)
          clear f293
          have f298 := hid (f294.out.next b296)
          clear f294
          have f299 := hid (f10292.out.next b296)
          clear f10292
          have hS300 := below2 hS295 b296
          clear hS295
          clear b296
          have f20296 := hid h296
          clear h296
          refine hK.out _ _ hS300 (fun hHeld => ?_)
          clear hK KK
          try simp only [Act.put, List.setIfInBounds_toArray, List.set_cons_zero, List.set_cons_succ]
          refine wpAnyH_ready (rs := [5]) (by kernel_rfl) (by simp) ?_
          refine (AllReadyH.cons rfl (fun KK hK => ?_) AllReadyH.nil)
          simp only [List.getElem_toArray, List.getElem_cons_succ, List.getElem_cons_zero]
          go_simp
          refine (hLoads k3 _ _ _ f20296.out (HXf.out _ hS300)).mono ?_
          rintro e301 Y301 ⟨A301, q301, rfl, h301, b301⟩
          have f302 := hid (f297.out.next b301)
          clear f297
          have f303 := hid (f298.out.next b301)
          clear f298
          have f304 := hid (f299.out.next b301)
          clear f299
          have f305 := hid (rd_next f20296.out b301)
          clear f20296
          have hS306 := below2 hS300 b301
          clear hS300
          clear b301
          have f20301 := hid h301
          clear h301
          refine hK.out _ _ hS306 (fun hHeld => ?_)
          clear hK KK
          try simp only [Act.put, List.setIfInBounds_toArray, List.set_cons_zero, List.set_cons_succ]
          refine wpAnyH_ready (rs := [9]) (by kernel_rfl) (by simp) ?_
          refine (AllReadyH.cons rfl (fun KK hK => ?_) AllReadyH.nil)
          simp only [List.getElem_toArray, List.getElem_cons_succ, List.getElem_cons_zero]
          go_simp
          refine (hq_rows _ _ _ _ _ f20301.out (ob_rows2 f302.out f303.out f304.out)).mono ?_
          rintro e307 Y307 ⟨rfl, b307⟩
          have f308 := hid (f302.out.next b307)
          clear f302
          have f309 := hid (f303.out.next b307)
          clear f303
          have f310 := hid (f304.out.next b307)
          clear f304
          have f311 := hid (rd_next f305.out b307)
          clear f305
          have f312 := hid ((f20301.out.below b307 (Nat.le_refl _)).more b307.size)
          clear f20301
          have hS313 := below2 hS306 b307
          clear hS306
          clear b307
          refine hK.out _ _ hS313 (fun hHeld => ?_)
          clear hK KK
          try simp only [Act.put, List.setIfInBounds_toArray, List.set_cons_zero, List.set_cons_succ]
          exact wpAnyH_at (by kernel_rfl) (hrest _ _ ⟨(.slice A296 4 q296), (.slice A301 2 q301), (.slice (some ⟨g182, 0, none⟩) 2 2), (.slice (some ⟨g249, 0, none⟩) 2 2), (.slice (some ⟨g292, 0, none⟩) 2 2), rfl, hS313⟩)
    · skip
      obtain ⟨g314, U314, hg314, hU314⟩ : ∃ (g : Nat) (U : World), Y1.heap.size = g ∧ World.alloc Y1 (.cells #[.int .i64 1, .int .i64 3] 3) = U := ⟨_, _, rfl, rfl⟩
      have o314 : Ob U314 g314 [.int .i64 1, .int .i64 3] 3 := by rw [← hU314, ← hg314]; exact Ob.new Y1 _ _
      have b314 : Below Y1.heap.size Y1 U314 := by rw [← hU314]; exact below_alloc Y1 _
      simp only [List.getElem_toArray, List.getElem_cons_succ, List.getElem_cons_zero]
      go_simp
      try simp only [hU314, hg314]
      clear hU314 hg314
      have hS315 := below2 hS2 b314
      clear hS2
      clear b314
      have f10314 := hid o314
      clear o314
      refine hK.out _ _ hS315 (fun hHeld => ?_)
      clear hK KK
      try simp only [Act.put, List.setIfInBounds_toArray, List.set_cons_zero, List.set_cons_succ]
      refine wpAnyH_ready (rs := [3, 6]) (by kernel_rfl) (by simp) ?_
      refine (AllReadyH.cons rfl (fun KK hK => ?_) (AllReadyH.cons rfl (fun KK hK => ?_) AllReadyH.nil))
      · skip
        simp only [List.getElem_toArray, List.getElem_cons_succ, List.getElem_cons_zero]
        go_simp
        refine (hq_classes _).mono ?_
        rintro e316 Y316 ⟨A316, q316, rfl, h316, b316⟩
        have f317 := hid (f10314.out.next b316)
        clear f10314
        have hS318 := below2 hS315 b316
        clear hS315
        clear b316
        have f20316 := hid h316
        clear h316
        refine hK.out _ _ hS318 (fun hHeld => ?_)
        clear hK KK
        try simp only [Act.put, List.setIfInBounds_toArray, List.set_cons_zero, List.set_cons_succ]
        refine wpAnyH_ready (rs := [5, 6]) (by kernel_rfl) (by simp) ?_
        refine (AllReadyH.cons rfl (fun KK hK => ?_) (AllReadyH.cons rfl (fun KK hK => ?_) AllReadyH.nil))
        · skip
          simp only [List.getElem_toArray, List.getElem_cons_succ, List.getElem_cons_zero]
          go_simp
          refine (hLoads k3 _ _ _ f20316.out (HXf.out _ hS318)).mono ?_
          rintro e319 Y319 ⟨A319, q319, rfl, h319, b319⟩
          have f320 := hid (f317.out.next b319)
          clear f317
          have f321 := hid (rd_next f20316.out b319)
          clear f20316
          have hS322 := below2 hS318 b319
          clear hS318
          clear b319
          have f20319 := hid h319
          clear h319
          refine hK.out _ _ hS322 (fun hHeld => ?_)
          clear hK KK
          try simp only [Act.put, List.setIfInBounds_toArray, List.set_cons_zero, List.set_cons_succ]
          refine wpAnyH_ready (rs := [6]) (by kernel_rfl) (by simp) ?_
          refine (AllReadyH.cons rfl (fun KK hK => ?_) AllReadyH.nil)
          obtain ⟨g323, U323, hg323, hU323⟩ : ∃ (g : Nat) (U : World), Y319.heap.size = g ∧ World.alloc Y319 (.cells #[.int .i64 0, .int .i64 2] 3) = U := ⟨_, _, rfl, rfl⟩
          have o323 : Ob U323 g323 [.int .i64 0, .int .i64 2] 3 := by rw [← hU323, ← hg323]; exact Ob.new Y319 _ _
          have b323 : Below Y319.heap.size Y319 U323 := by rw [← hU323]; exact below_alloc Y319 _
          simp only [List.getElem_toArray, List.getElem_cons_succ, List.getElem_cons_zero]
          go_simp
          try simp only [hU323, hg323]
          clear hU323 hg323
          have f324 := hid (f320.out.next b323)
          clear f320
          have f325 := hid (rd_next f321.out b323)
          clear f321
          have f326 := hid ((f20319.out.below b323 (Nat.le_refl _)).more b323.size)
          clear f20319
          have hS327 := below2 hS322 b323
          clear hS322
          clear b323
          have f10323 := hid o323
          clear o323
          refine hK.out _ _ hS327 (fun hHeld => ?_)
          clear hK KK
          try simp only [Act.put, List.setIfInBounds_toArray, List.set_cons_zero, List.set_cons_succ]
          refine wpAnyH_ready (rs := [8]) (by kernel_rfl) (by simp) ?_
          refine (AllReadyH.cons rfl (fun KK hK => ?_) AllReadyH.nil)
          obtain ⟨g328, U328, hg328, hU328⟩ : ∃ (g : Nat) (U : World), U323.heap.size = g ∧ World.alloc U323 (.cells #[.slice (some ⟨g323, 0, none⟩) 2 2, .slice (some ⟨g314, 0, none⟩) 2 2] 29) = U := ⟨_, _, rfl, rfl⟩
          have o328 : Ob U328 g328 [.slice (some ⟨g323, 0, none⟩) 2 2, .slice (some ⟨g314, 0, none⟩) 2 2] 29 := by rw [← hU328, ← hg328]; exact Ob.new U323 _ _
          have b328 : Below U323.heap.size U323 U328 := by rw [← hU328]; exact below_alloc U323 _
          simp only [List.getElem_toArray, List.getElem_cons_succ, List.getElem_cons_zero]
          go_simp
          try simp only [hU328, hg328]
          clear hU328 hg328
          have f329 := hid (f324.out.next b328)
          clear f324
          have f330 := hid (rd_next f325.out b328)
          clear f325
          have f331 := hid ((f326.out.below b328 (Nat.le_refl _)).more b328.size)
          clear f326
          have f332 := hid (f10323.out.next b328)
          clear f10323
          have hS333 := below2 hS327 b328
          clear hS327
          clear b328
          have f10328 := hid o328
          clear o328
          refine hK.out _ _ hS333 (fun hHeld => ?_)
          clear hK KK
          try simp only [Act.put, List.setIfInBounds_toArray, List.set_cons_zero, List.set_cons_succ]
          refine wpAnyH_ready (rs := [9]) (by kernel_rfl) (by simp) ?_
          refine (AllReadyH.cons rfl (fun KK hK => ?_) AllReadyH.nil)
          simp only [List.getElem_toArray, List.getElem_cons_succ, List.getElem_cons_zero]
          go_simp
          refine (hq_rows _ _ _ _ _ f331.out (ob_rows2 f332.out f329.out f10328.out)).mono ?_
          rintro e334 Y334 ⟨rfl, b334⟩
          have f335 := hid (f329.out.next b334)
          clear f329
          have f336 := hid (rd_next f330.out b334)
          clear f330
          have f337 := hid ((f331.out.below b334 (Nat.le_refl _)).more b334.size)
          clear f331
          have f338 := hid (f332.out.next b334)
          clear f332
          have f339 := hid (f10328.out.next b334)
          clear f10328
          have hS340 := below2 hS333 b334
          clear hS333
          clear b334
          refine hK.out _ _ hS340 (fun hHeld => ?_)
          clear hK KK
          try simp only [Act.put, List.setIfInBounds_toArray, List.set_cons_zero, List.set_cons_succ]
          exact wpAnyH_at (by kernel_rfl) (hrest _ _ ⟨(.slice A316 4 q316), (.slice A319 2 q319), (.slice (some ⟨g323, 0, none⟩) 2 2), (.slice (some ⟨g314, 0, none⟩) 2 2), (.slice (some ⟨g328, 0, none⟩) 2 2), rfl, hS340⟩)
        · skip
          obtain ⟨g341, U341, hg341, hU341⟩ : ∃ (g : Nat) (U : World), Y316.heap.size = g ∧ World.alloc Y316 (.cells #[.int .i64 0, .int .i64 2] 3) = U := ⟨_, _, rfl, rfl⟩
          have o341 : Ob U341 g341 [.int .i64 0, .int .i64 2] 3 := by rw [← hU341, ← hg341]; exact Ob.new Y316 _ _
          have b341 : Below Y316.heap.size Y316 U341 := by rw [← hU341]; exact below_alloc Y316 _
          simp only [List.getElem_toArray, List.getElem_cons_succ, List.getElem_cons_zero]
          go_simp
          try simp only [hU341, hg341]
          clear hU341 hg341
          have f342 := hid (f317.out.next b341)
          clear f317
          have f343 := hid (rd_next f20316.out b341)
          clear f20316
          have hS344 := below2 hS318 b341
          clear hS318
          clear b341
          have f10341 := hid o341
          clear o341
          refine hK.out _ _ hS344 (fun hHeld => ?_)
          clear hK KK
          try simp only [Act.put, List.setIfInBounds_toArray, List.set_cons_zero, List.set_cons_succ]
          refine wpAnyH_ready (rs := [5, 8]) (by kernel_rfl) (by simp) ?_
          refine (AllReadyH.cons rfl (fun KK hK => ?_) (AllReadyH.cons rfl (fun KK hK => ?_) AllReadyH.nil))
          · skip
            simp only [List.getElem_toArray, List.getElem_cons_succ, List.getElem_cons_zero]
            go_simp
            refine (hLoads k3 _ _ _ f343.out (HXf.out _ hS344)).mono ?_
            rintro e345 Y345 ⟨A345, q345, rfl, h345, b345⟩
            have f346 := hid (f342.out.next b345)
            clear f342
            have f347 := hid (rd_next f343.out b345)
            clear f343
            have f348 := hid (f10341.out.next b345)
            clear f10341
            have hS349 := below2 hS344 b345
            clear hS344
            clear b345
            have f20345 := hid h345
            clear h345
            refine hK.out _ _ hS349 (fun hHeld => ?_)
            clear hK KK
            try simp only [Act.put, List.setIfInBounds_toArray, List.set_cons_zero, List.set_cons_succ]
            refine wpAnyH_ready (rs := [8]) (by kernel_rfl) (by simp) ?_
            refine (AllReadyH.cons rfl (fun KK hK => ?_) AllReadyH.nil)
            obtain ⟨g350, U350, hg350, hU350⟩ : ∃ (g : Nat) (U : World), Y345.heap.size = g ∧ World.alloc Y345 (.cells #[.slice (some ⟨g341, 0, none⟩) 2 2, .slice (some ⟨g314, 0, none⟩) 2 2] 29) = U := ⟨_, _, rfl, rfl⟩
            have o350 : Ob U350 g350 [.slice (some ⟨g341, 0, none⟩) 2 2, .slice (some ⟨g314, 0, none⟩) 2 2] 29 := by rw [← hU350, ← hg350]; exact Ob.new Y345 _ _
            have b350 : Below Y345.heap.size Y345 U350 := by rw [← hU350]; exact below_alloc Y345 _
            simp only [List.getElem_toArray, List.getElem_cons_succ, List.getElem_cons_zero]
            go_simp
            try simp only [hU350, hg350]
            clear hU350 hg350
            have f351 := hid (f346.out.next b350)
            clear f346
            have f352 := hid (rd_next f347.out b350)
            clear f347
            have f353 := hid (f348.out.next b350)
            clear f348
            have f354 := hid ((f20345.out.below b350 (Nat.le_refl _)).more b350.size)
            clear f20345
            have hS355 := below2 hS349 b350
            clear hS349
            clear b350
            have f10350 := hid o350
            clear o350
            refine hK.out _ _ hS355 (fun hHeld => ?_)
            clear hK KK
            try simp only [Act.put, List.setIfInBounds_toArray, List.set_cons_zero, List.set_cons_succ]
            refine wpAnyH_ready (rs := [9]) (by kernel_rfl) (by simp) ?_
            refine (AllReadyH.cons rfl (fun KK hK => ?_) AllReadyH.nil)
            simp only [List.getElem_toArray, List.getElem_cons_succ, List.getElem_cons_zero]
            go_simp
            refine (hq_rows _ _ _ _ _ f354.out (ob_rows2 f353.out f351.out f10350.out)).mono ?_
            rintro e356 Y356 ⟨rfl, b356⟩
            have f357 := hid (f351.out.next b356)
            clear f351
            have f358 := hid (rd_next f352.out b356)
            clear f352
            have f359 := hid (f353.out.next b356)
            clear f353
            have f360 := hid ((f354.out.below b356 (Nat.le_refl _)).more b356.size)
            clear f354
            have f361 := hid (f10350.out.next b356)
            clear f10350
            have hS362 := below2 hS355 b356
            clear hS355
            clear b356
            refine hK.out _ _ hS362 (fun hHeld => ?_)
            clear hK KK
            try simp only [Act.put, List.setIfInBounds_toArray, List.set_cons_zero, List.set_cons_succ]
            exact wpAnyH_at (by kernel_rfl) (hrest _ _ ⟨(.slice A316 4 q316), (.slice A345 2 q345), (.slice (some ⟨g341, 0, none⟩) 2 2), (.slice (some ⟨g314, 0, none⟩) 2 2), (.slice (some ⟨g350, 0, none⟩) 2 2), rfl, hS362⟩)
          · skip
            obtain ⟨g363, U363, hg363, hU363⟩ : ∃ (g : Nat) (U : World), U341.heap.size = g ∧ World.alloc U341 (.cells #[.slice (some ⟨g341, 0, none⟩) 2 2, .slice (some ⟨g314, 0, none⟩) 2 2] 29) = U := ⟨_, _, rfl, rfl⟩
            have o363 : Ob U363 g363 [.slice (some ⟨g341, 0, none⟩) 2 2, .slice (some ⟨g314, 0, none⟩) 2 2] 29 := by rw [← hU363, ← hg363]; exact Ob.new U341 _ _
            have b363 : Below U341.heap.size U341 U363 := by rw [← hU363]; exact below_alloc U341 _
            simp only [List.getElem_toArray, List.getElem_cons_succ, List.getElem_cons_zero]
            go_simp
            try simp only [hU363, hg363]
            clear hU363 hg363
            have f364 := hid (f342.out.next b363)
            clear f342
            have f365 := hid (rd_next f343.out b363)
            clear f343
            have f366 := hid (f10341.out.next b363)
            clear f10341
            have hS367 := below2 hS344 b363
            clear hS344
            clear b363
            have f10363 := hid o363
            clear o363
            refine hK.out _ _ hS367 (fun hHeld => ?_)
            clear hK KK
            try simp only [Act.put, List.setIfInBounds_toArray, List.set_cons_zero, List.set_cons_succ]
            refine wpAnyH_ready (rs := [5]) (by kernel_rfl) (by simp) ?_
            refine (AllReadyH.cons rfl (fun KK hK => ?_) AllReadyH.nil)
            simp only [List.getElem_toArray, List.getElem_cons_succ, List.getElem_cons_zero]
            go_simp
            refine (hLoads k3 _ _ _ f365.out (HXf.out _ hS367)).mono ?_
            rintro e368 Y368 ⟨A368, q368, rfl, h368, b368⟩
            have f369 := hid (f364.out.next b368)
            clear f364
            have f370 := hid (rd_next f365.out b368)
            clear f365
            have f371 := hid (f366.out.next b368)
            clear f366
            have f372 := hid (f10363.out.next b368)
            clear f10363
            have hS373 := below2 hS367 b368
            clear hS367
            clear b368
            have f20368 := hid h368
            clear h368
            refine hK.out _ _ hS373 (fun hHeld => ?_)
            clear hK KK
            try simp only [Act.put, List.setIfInBounds_toArray, List.set_cons_zero, List.set_cons_succ]
            refine wpAnyH_ready (rs := [9]) (by kernel_rfl) (by simp) ?_
            refine (AllReadyH.cons rfl (fun KK hK => ?_) AllReadyH.nil)
            simp only [List.getElem_toArray, List.getElem_cons_succ, List.getElem_cons_zero]
            go_simp
            refine (hq_rows _ _ _ _ _ f20368.out (ob_rows2 f371.out f369.out f372.out)).mono ?_
            rintro e374 Y374 ⟨rfl, b374⟩
            have f375 := hid (f369.out.next b374)
            clear f369
            have f376 := hid (rd_next f370.out b374)
            clear f370
            have f377 := hid (f371.out.next b374)
            clear f371
            have f378 := hid (f372.out.next b374)
            clear f372
            have f379 := hid ((f20368.out.below b374 (Nat.le_refl _)).more b374.size)
            clear f20368
            have hS380 := below2 hS373 b374
            clear hS373
            clear b374
            refine hK.out _ _ hS380 (fun hHeld => ?_)
            clear hK KK
            try simp only [Act.put, List.setIfInBounds_toArray, List.set_cons_zero, List.set_cons_succ]
            exact wpAnyH_at (by kernel_rfl) (hrest _ _ ⟨(.slice A316 4 q316), (.slice A368 2 q368), (.slice (some ⟨g341, 0, none⟩) 2 2), (.slice (some ⟨g314, 0, none⟩) 2 2), (.slice (some ⟨g363, 0, none⟩) 2 2), rfl, hS380⟩)
      · skip
        obtain ⟨g381, U381, hg381, hU381⟩ : ∃ (g : Nat) (U : World), U314.heap.size = g ∧ World.alloc U314 (.cells #[.int .i64 0, .int .i64 2] 3) = U := ⟨_, _, rfl, rfl⟩
        have o381 : Ob U381 g381 [.int .i64 0, .int .i64 2] 3 := by rw [← hU381, ← hg381]; exact Ob.new U314 _ _
        have b381 : Below U314.heap.size U314 U381 := by rw [← hU381]; exact below_alloc U314 _
        simp only [List.getElem_toArray, List.getElem_cons_succ, List.getElem_cons_zero]
        go_simp
        try simp only [hU381, hg381]
        clear hU381 hg381
        have f382 := hid (f10314.out.next b381)
        clear f10314
        have hS383 := below2 hS315 b381
        clear hS315
        clear b381
        have f10381 := hid o381
        clear o381
        refine hK.out _ _ hS383 (fun hHeld => ?_)
        clear hK KK
        try simp only [Act.put, List.setIfInBounds_toArray, List.set_cons_zero, List.set_cons_succ]
        refine wpAnyH_ready (rs := [3, 8]) (by kernel_rfl) (by simp) ?_
        refine (AllReadyH.cons rfl (fun KK hK => ?_) (AllReadyH.cons rfl (fun KK hK => ?_) AllReadyH.nil))
        · skip
          simp only [List.getElem_toArray, List.getElem_cons_succ, List.getElem_cons_zero]
          go_simp
          refine (hq_classes _).mono ?_
          rintro e384 Y384 ⟨A384, q384, rfl, h384, b384⟩
          have f385 := hid (f382.out.next b384)
          clear f382
          have f386 := hid (f10381.out.next b384)
          clear f10381
          have hS387 := below2 hS383 b384
          clear hS383
          clear b384
          have f20384 := hid h384
          clear h384
          refine hK.out _ _ hS387 (fun hHeld => ?_)
          clear hK KK
          try simp only [Act.put, List.setIfInBounds_toArray, List.set_cons_zero, List.set_cons_succ]
          refine wpAnyH_ready (rs := [5, 8]) (by kernel_rfl) (by simp) ?_
          refine (AllReadyH.cons rfl (fun KK hK => ?_) (AllReadyH.cons rfl (fun KK hK => ?_) AllReadyH.nil))
          · skip
            simp only [List.getElem_toArray, List.getElem_cons_succ, List.getElem_cons_zero]
            go_simp
            refine (hLoads k3 _ _ _ f20384.out (HXf.out _ hS387)).mono ?_
            rintro e388 Y388 ⟨A388, q388, rfl, h388, b388⟩
            have f389 := hid (f385.out.next b388)
            clear f385
            have f390 := hid (f386.out.next b388)
            clear f386
            have f391 := hid (rd_next f20384.out b388)
            clear f20384
            have hS392 := below2 hS387 b388
            clear hS387
            clear b388
            have f20388 := hid h388
            clear h388
            refine hK.out _ _ hS392 (fun hHeld => ?_)
            clear hK KK
            try simp only [Act.put, List.setIfInBounds_toArray, List.set_cons_zero, List.set_cons_succ]
            refine wpAnyH_ready (rs := [8]) (by kernel_rfl) (by simp) ?_
            refine (AllReadyH.cons rfl (fun KK hK => ?_) AllReadyH.nil)
            obtain ⟨g393, U393, hg393, hU393⟩ : ∃ (g : Nat) (U : World), Y388.heap.size = g ∧ World.alloc Y388 (.cells #[.slice (some ⟨g381, 0, none⟩) 2 2, .slice (some ⟨g314, 0, none⟩) 2 2] 29) = U := ⟨_, _, rfl, rfl⟩
            have o393 : Ob U393 g393 [.slice (some ⟨g381, 0, none⟩) 2 2, .slice (some ⟨g314, 0, none⟩) 2 2] 29 := by rw [← hU393, ← hg393]; exact Ob.new Y388 _ _
            have b393 : Below Y388.heap.size Y388 U393 := by rw [← hU393]; exact below_alloc Y388 _
            simp only [List.getElem_toArray, List.getElem_cons_succ, List.getElem_cons_zero]
            go_simp
            try simp only [hU393, hg393]
            clear hU393 hg393
            have f394 := hid (f389.out.next b393)
            clear f389
            have f395 := hid (f390.out.next b393)
            clear f390
            have f396 := hid (rd_next f391.out b393)
            clear f391
            have f397 := hid ((f20388.out.below b393 (Nat.le_refl _)).more b393.size)
            clear f20388
            have hS398 := below2 hS392 b393
            clear hS392
            clear b393
            have f10393 := hid o393
            clear o393
            refine hK.out _ _ hS398 (fun hHeld => ?_)
            clear hK KK
            try simp only [Act.put, List.setIfInBounds_toArray, List.set_cons_zero, List.set_cons_succ]
            refine wpAnyH_ready (rs := [9]) (by kernel_rfl) (by simp) ?_
            refine (AllReadyH.cons rfl (fun KK hK => ?_) AllReadyH.nil)
            simp only [List.getElem_toArray, List.getElem_cons_succ, List.getElem_cons_zero]
            go_simp
            refine (hq_rows _ _ _ _ _ f397.out (ob_rows2 f395.out f394.out f10393.out)).mono ?_
            rintro e399 Y399 ⟨rfl, b399⟩
            have f400 := hid (f394.out.next b399)
            clear f394
            have f401 := hid (f395.out.next b399)
            clear f395
            have f402 := hid (rd_next f396.out b399)
            clear f396
            have f403 := hid ((f397.out.below b399 (Nat.le_refl _)).more b399.size)
            clear f397
            have f404 := hid (f10393.out.next b399)
            clear f10393
            have hS405 := below2 hS398 b399
            clear hS398
            clear b399
            refine hK.out _ _ hS405 (fun hHeld => ?_)
            clear hK KK
            try simp only [Act.put, List.setIfInBounds_toArray, List.set_cons_zero, List.set_cons_succ]
            exact wpAnyH_at (by kernel_rfl) (hrest _ _ ⟨(.slice A384 4 q384), (.slice A388 2 q388), (.slice (some ⟨g381, 0, none⟩) 2 2), (.slice (some ⟨g314, 0, none⟩) 2 2), (.slice (some ⟨g393, 0, none⟩) 2 2), rfl, hS405⟩)
          · skip
            obtain ⟨g406, U406, hg406, hU406⟩ : ∃ (g : Nat) (U : World), Y384.heap.size = g ∧ World.alloc Y384 (.cells #[.slice (some ⟨g381, 0, none⟩) 2 2, .slice (some ⟨g314, 0, none⟩) 2 2] 29) = U := ⟨_, _, rfl, rfl⟩
            have o406 : Ob U406 g406 [.slice (some ⟨g381, 0, none⟩) 2 2, .slice (some ⟨g314, 0, none⟩) 2 2] 29 := by rw [← hU406, ← hg406]; exact Ob.new Y384 _ _
            have b406 : Below Y384.heap.size Y384 U406 := by rw [← hU406]; exact below_alloc Y384 _
            simp only [List.getElem_toArray, List.getElem_cons_succ, List.getElem_cons_zero]
            go_simp
            try simp only [hU406, hg406]
            clear hU406 hg406
            have f407 := hid (f385.out.next b406)
            clear f385
            have f408 := hid (f386.out.next b406)
            clear f386
            have f409 := hid (rd_next f20384.out b406)
            clear f20384
            have hS410 := below2 hS387 b406
            clear hS387
            clear b406
            have f10406 := hid o406
            clear o406
            refine hK.out _ _ hS410 (fun hHeld => ?_)
            clear hK KK
            try simp only [Act.put, List.setIfInBounds_toArray, List.set_cons_zero, List.set_cons_succ]
            refine wpAnyH_ready (rs := [5]) (by kernel_rfl) (by simp) ?_
            refine (AllReadyH.cons rfl (fun KK hK => ?_) AllReadyH.nil)
            simp only [List.getElem_toArray, List.getElem_cons_succ, List.getElem_cons_zero]
            go_simp
            refine (hLoads k3 _ _ _ f409.out (HXf.out _ hS410)).mono ?_
            rintro e411 Y411 ⟨A411, q411, rfl, h411, b411⟩
            have f412 := hid (f407.out.next b411)
            clear f407
            have f413 := hid (f408.out.next b411)
            clear f408
            have f414 := hid (rd_next f409.out b411)
            clear f409
            have f415 := hid (f10406.out.next b411)
            clear f10406
            have hS416 := below2 hS410 b411
            clear hS410
            clear b411
            have f20411 := hid h411
            clear h411
            refine hK.out _ _ hS416 (fun hHeld => ?_)
            clear hK KK
            try simp only [Act.put, List.setIfInBounds_toArray, List.set_cons_zero, List.set_cons_succ]
            refine wpAnyH_ready (rs := [9]) (by kernel_rfl) (by simp) ?_
            refine (AllReadyH.cons rfl (fun KK hK => ?_) AllReadyH.nil)
            simp only [List.getElem_toArray, List.getElem_cons_succ, List.getElem_cons_zero]
            go_simp
            refine (hq_rows _ _ _ _ _ f20411.out (ob_rows2 f413.out f412.out f415.out)).mono ?_
            rintro e417 Y417 ⟨rfl, b417⟩
            have f418 := hid (f412.out.next b417)
            clear f412
            have f419 := hid (f413.out.next b417)
            clear f413
            have f420 := hid (rd_next f414.out b417)
            clear f414
            have f421 := hid (f415.out.next b417)
            clear f415
            have f422 := hid ((f20411.out.below b417 (Nat.le_refl _)).more b417.size)
            clear f20411
            have hS423 := below2 hS416 b417
            clear hS416
            clear b417
            refine hK.out _ _ hS423 (fun hHeld => ?_)
            clear hK KK
            try simp only [Act.put, List.setIfInBounds_toArray, List.set_cons_zero, List.set_cons_succ]
            exact wpAnyH_at (by kernel_rfl) (hrest _ _ ⟨(.slice A384 4 q384), (.slice A411 2 q411), (.slice (some ⟨g381, 0, none⟩) 2 2), (.slice (some ⟨g314, 0, none⟩) 2 2), (.slice (some ⟨g406, 0, none⟩) 2 2), rfl, hS423⟩)
        · skip
          obtain ⟨g424, U424, hg424, hU424⟩ : ∃ (g : Nat) (U : World), U381.heap.size = g ∧ World.alloc U381 (.cells #[.slice (some ⟨g381, 0, none⟩) 2 2, .slice (some ⟨g314, 0, none⟩) 2 2] 29) = U := ⟨_, _, rfl, rfl⟩
          have o424 : Ob U424 g424 [.slice (some ⟨g381, 0, none⟩) 2 2, .slice (some ⟨g314, 0, none⟩) 2 2] 29 := by rw [← hU424, ← hg424]; exact Ob.new U381 _ _
          have b424 : Below U381.heap.size U381 U424 := by rw [← hU424]; exact below_alloc U381 _
          simp only [List.getElem_toArray, List.getElem_cons_succ, List.getElem_cons_zero]
          go_simp
          try simp only [hU424, hg424]
          clear hU424 hg424
          have f425 := hid (f382.out.next b424)
          clear f382
          have f426 := hid (f10381.out.next b424)
          clear f10381
          have hS427 := below2 hS383 b424
          clear hS383
          clear b424
          have f10424 := hid o424
          clear o424
          refine hK.out _ _ hS427 (fun hHeld => ?_)
          clear hK KK
          try simp only [Act.put, List.setIfInBounds_toArray, List.set_cons_zero, List.set_cons_succ]
          refine wpAnyH_ready (rs := [3]) (by kernel_rfl) (by simp) ?_
          refine (AllReadyH.cons rfl (fun KK hK => ?_) AllReadyH.nil)
          simp only [List.getElem_toArray, List.getElem_cons_succ, List.getElem_cons_zero]
          go_simp
          refine (hq_classes _).mono ?_
          rintro e428 Y428 ⟨A428, q428, rfl, h428, b428⟩
          have f429 := hid (f425.out.next b428)
          clear f425
          have f430 := hid (f426.out.next b428)
          clear f426
          have f431 := hid (f10424.out.next b428)
          clear f10424
          have hS432 := below2 hS427 b428
          clear hS427
          clear b428
          have f20428 := hid h428
          clear h428
          refine hK.out _ _ hS432 (fun hHeld => ?_)
          clear hK KK
          try simp only [Act.put, List.setIfInBounds_toArray, List.set_cons_zero, List.set_cons_succ]
          refine wpAnyH_ready (rs := [5]) (by kernel_rfl) (by simp) ?_
          refine (AllReadyH.cons rfl (fun KK hK => ?_) AllReadyH.nil)
          simp only [List.getElem_toArray, List.getElem_cons_succ, List.getElem_cons_zero]
          go_simp
          refine (hLoads k3 _ _ _ f20428.out (HXf.out _ hS432)).mono ?_
          rintro e433 Y433 ⟨A433, q433, rfl, h433, b433⟩
          have f434 := hid (f429.out.next b433)
          clear f429
          have f435 := hid (f430.out.next b433)
          clear f430
          have f436 := hid (f431.out.next b433)
          clear f431
          have f437 := hid (rd_next f20428.out b433)
          clear f20428
          have hS438 := below2 hS432 b433
          clear hS432
          clear b433
          have f20433 := hid h433
          clear h433
          refine hK.out _ _ hS438 (fun hHeld => ?_)
          clear hK KK
          try simp only [Act.put, List.setIfInBounds_toArray, List.set_cons_zero, List.set_cons_succ]
          refine wpAnyH_ready (rs := [9]) (by kernel_rfl) (by simp) ?_
          refine (AllReadyH.cons rfl (fun KK hK => ?_) AllReadyH.nil)
          simp only [List.getElem_toArray, List.getElem_cons_succ, List.getElem_cons_zero]
          go_simp
          refine (hq_rows _ _ _ _ _ f20433.out (ob_rows2 f435.out f434.out f436.out)).mono ?_
          rintro e439 Y439 ⟨rfl, b439⟩
          have f440 := hid (f434.out.next b439)
          clear f434
          have f441 := hid (f435.out.next b439)
          clear f435
          have f442 := hid (f436.out.next b439)
          clear f436
          have f443 := hid (rd_next f437.out b439)
          clear f437
          have f444 := hid ((f20433.out.below b439 (Nat.le_refl _)).more b439.size)
          clear f20433
          have hS445 := below2 hS438 b439
          clear hS438
          clear b439
          refine hK.out _ _ hS445 (fun hHeld => ?_)
          clear hK KK
          try simp only [Act.put, List.setIfInBounds_toArray, List.set_cons_zero, List.set_cons_succ]
          exact wpAnyH_at (by kernel_rfl) (hrest _ _ ⟨(.slice A428 4 q428), (.slice A433 2 q433), (.slice (some ⟨g381, 0, none⟩) 2 2), (.slice (some ⟨g314, 0, none⟩) 2 2), (.slice (some ⟨g424, 0, none⟩) 2 2), rfl, hS445⟩)
  rintro a1 X447 ⟨v11, v13, v14, v15, v16, rfl, hS446⟩
  have hHeld := hS446
  refine takeH 10 18 (.bool true) rfl rfl (by kernel_rfl) (by kernel_rfl) (by kernel_rfl) (fun _ _ _ h => h) (by kernel_rfl) (fun X hX => by clear hX; first | rfl | go_simp) hHeld ?_
  simp only [Act.put, List.setIfInBounds_toArray, List.set_cons_zero, List.set_cons_succ]
  refine takeH 11 19 (.bool true) rfl rfl (by kernel_rfl) (by kernel_rfl) (by kernel_rfl) (fun _ _ _ h => h) (by kernel_rfl) (fun X hX => by clear hX; first | rfl | go_simp) hHeld ?_
  simp only [Act.put, List.setIfInBounds_toArray, List.set_cons_zero, List.set_cons_succ]
  refine takeH 12 20 (.agg #[.string ⟨#[99]⟩, .slice (some ⟨k3, 0, none⟩) 1 1]) rfl rfl (by kernel_rfl) (by kernel_rfl) (by kernel_rfl) (fun _ _ _ h => h) (by kernel_rfl) (fun X hX => by have q0 := (hX.cell (p := ⟨kc, 0, none⟩) hkcW).trans c0; have q1 := (hX.cell (p := ⟨kc, 1, none⟩) hkcW).trans c1; clear hX; go_simp) hHeld ?_
  simp only [Act.put, List.setIfInBounds_toArray, List.set_cons_zero, List.set_cons_succ]
  refine wpAnyH_ready (rs := [13]) (by kernel_rfl) (by simp) ?_
  refine AllReadyH.cons rfl (fun KK hK => ?_) AllReadyH.nil
  simp only [List.getElem_toArray, List.getElem_cons_succ, List.getElem_cons_zero]
  go_simp
  refine (hCount k3 _ (HXf.out _ hS446)).mono ?_
  rintro e448 Y448 ⟨rfl, b448⟩
  have hS449 := below2 hS446 b448
  clear hS446
  clear b448
  refine hK.out _ _ hS449 (fun hHeld => ?_)
  clear hK KK
  try simp only [Act.put, List.setIfInBounds_toArray, List.set_cons_zero, List.set_cons_succ]
  refine takeH 14 22 (.bool true) rfl rfl (by kernel_rfl) (by kernel_rfl) (by kernel_rfl) (fun _ _ _ h => h) (by kernel_rfl) (fun X hX => by clear hX; first | rfl | go_simp) hHeld ?_
  simp only [Act.put, List.setIfInBounds_toArray, List.set_cons_zero, List.set_cons_succ]
  refine takeH 15 23 (.bool true) rfl rfl (by kernel_rfl) (by kernel_rfl) (by kernel_rfl) (fun _ _ _ h => h) (by kernel_rfl) (fun X hX => by clear hX; first | rfl | go_simp) hHeld ?_
  simp only [Act.put, List.setIfInBounds_toArray, List.set_cons_zero, List.set_cons_succ]
  refine takeH 16 24 (.bool true) rfl rfl (by kernel_rfl) (by kernel_rfl) (by kernel_rfl) (fun _ _ _ h => h) (by kernel_rfl) (fun X hX => by clear hX; first | rfl | go_simp) hHeld ?_
  simp only [Act.put, List.setIfInBounds_toArray, List.set_cons_zero, List.set_cons_succ]
  refine takeH 18 26 (.agg #[.string ⟨#[99]⟩, .slice (some ⟨k3, 0, none⟩) 1 1]) rfl rfl (by kernel_rfl) (by kernel_rfl) (by kernel_rfl) (fun _ _ _ h => h) (by kernel_rfl) (fun X hX => by have q0 := (hX.cell (p := ⟨kc, 0, none⟩) hkcW).trans c0; have q1 := (hX.cell (p := ⟨kc, 1, none⟩) hkcW).trans c1; clear hX; go_simp) hHeld ?_
  simp only [Act.put, List.setIfInBounds_toArray, List.set_cons_zero, List.set_cons_succ]
  refine wpAnyH_cut 21 #[true, true, true, true, true, true, true, true, true, true, true, true, true, true, true, true, true, true, true, true, true, false, false, false, false, false, false, false, false, false, false, false, false, false, false, false, false, false, false, false, false, false] (fun a1 w1 => ∃ v25 v27 : Value, a1 = (⟨#[.bool false, .pointer (some ⟨kc, 0, none⟩), .slice (some ⟨k0, 0, none⟩) 2 2, .slice (some ⟨k1, 0, none⟩) 2 2, .slice (some ⟨k2, 0, none⟩) 2 2, .agg #[.slice (some ⟨k2, 0, none⟩) 2 2], .slice (some ⟨k3, 0, none⟩) 1 1, .agg #[.string ⟨#[99]⟩, .slice (some ⟨k3, 0, none⟩) 1 1], .agg #[.string ⟨#[99]⟩, .slice (some ⟨k3, 0, none⟩) 1 1], .bool true, .bool true, v11, .agg #[.string ⟨#[99]⟩, .slice (some ⟨k3, 0, none⟩) 1 1], v13, v14, v15, v16, .bool true, .bool true, .bool true, .agg #[.string ⟨#[99]⟩, .slice (some ⟨k3, 0, none⟩) 1 1], .int .i64 4, .bool true, .bool true, .bool true, v25, .agg #[.string ⟨#[99]⟩, .slice (some ⟨k3, 0, none⟩) 1 1], v27, .bool true, undef, undef, undef, undef, undef, undef, undef, undef, undef, undef, undef, undef, undef, undef, undef, undef, undef, undef, undef, undef], []⟩ : Act) ∧ Below W.heap.size W w1) ?_ (fun hrest => ?_)
  rotate_left
  · skip
    refine wpAnyH_ready (rs := [17, 19]) (by kernel_rfl) (by simp) ?_
    refine (AllReadyH.cons rfl (fun KK hK => ?_) (AllReadyH.cons rfl (fun KK hK => ?_) AllReadyH.nil))
    · skip
      simp only [List.getElem_toArray, List.getElem_cons_succ, List.getElem_cons_zero]
      go_simp
      refine (hq_classes _).mono ?_
      rintro e450 Y450 ⟨A450, q450, rfl, h450, b450⟩
      have hS451 := below2 hS449 b450
      clear hS449
      clear b450
      have f20450 := hid h450
      clear h450
      refine hK.out _ _ hS451 (fun hHeld => ?_)
      clear hK KK
      try simp only [Act.put, List.setIfInBounds_toArray, List.set_cons_zero, List.set_cons_succ]
      refine wpAnyH_ready (rs := [19]) (by kernel_rfl) (by simp) ?_
      refine (AllReadyH.cons rfl (fun KK hK => ?_) AllReadyH.nil)
      obtain ⟨g452, U452, hg452, hU452⟩ : ∃ (g : Nat) (U : World), Y450.heap.size = g ∧ World.alloc Y450 (.cells #[.int .i64 1, .int .i64 3] 3) = U := ⟨_, _, rfl, rfl⟩
      have o452 : Ob U452 g452 [.int .i64 1, .int .i64 3] 3 := by rw [← hU452, ← hg452]; exact Ob.new Y450 _ _
      have b452 : Below Y450.heap.size Y450 U452 := by rw [← hU452]; exact below_alloc Y450 _
      simp only [List.getElem_toArray, List.getElem_cons_succ, List.getElem_cons_zero]
      go_simp
      try simp only [hU452, hg452]
      clear hU452 hg452
      have f453 := hid (rd_next f20450.out b452)
      clear f20450
      have hS454 := below2 hS451 b452
      clear hS451
      clear b452
      have f10452 := hid o452
      clear o452
      refine hK.out _ _ hS454 (fun hHeld => ?_)
      clear hK KK
      try simp only [Act.put, List.setIfInBounds_toArray, List.set_cons_zero, List.set_cons_succ]
      refine wpAnyH_ready (rs := [20]) (by kernel_rfl) (by simp) ?_
      refine (AllReadyH.cons rfl (fun KK hK => ?_) AllReadyH.nil)
      simp only [List.getElem_toArray, List.getElem_cons_succ, List.getElem_cons_zero]
      go_simp
      refine (hTakeY k3 _ _ _ _ _ f453.out (HXf.out _ hS454) (ob_rdC f10452.out)).mono ?_
      rintro e455 Y455 ⟨rfl, b455⟩
      have f456 := hid (rd_next f453.out b455)
      clear f453
      have f457 := hid (f10452.out.next b455)
      clear f10452
      have hS458 := below2 hS454 b455
      clear hS454
      clear b455
      refine hK.out _ _ hS458 (fun hHeld => ?_)
      clear hK KK
      try simp only [Act.put, List.setIfInBounds_toArray, List.set_cons_zero, List.set_cons_succ]
      exact wpAnyH_at (by kernel_rfl) (hrest _ _ ⟨(.slice A450 4 q450), (.slice (some ⟨g452, 0, none⟩) 2 2), rfl, hS458⟩)
    · skip
      obtain ⟨g459, U459, hg459, hU459⟩ : ∃ (g : Nat) (U : World), Y448.heap.size = g ∧ World.alloc Y448 (.cells #[.int .i64 1, .int .i64 3] 3) = U := ⟨_, _, rfl, rfl⟩
      have o459 : Ob U459 g459 [.int .i64 1, .int .i64 3] 3 := by rw [← hU459, ← hg459]; exact Ob.new Y448 _ _
      have b459 : Below Y448.heap.size Y448 U459 := by rw [← hU459]; exact below_alloc Y448 _
      simp only [List.getElem_toArray, List.getElem_cons_succ, List.getElem_cons_zero]
      go_simp
      try simp only [hU459, hg459]
      clear hU459 hg459
      have hS460 := below2 hS449 b459
      clear hS449
      clear b459
      have f10459 := hid o459
      clear o459
      refine hK.out _ _ hS460 (fun hHeld => ?_)
      clear hK KK
      try simp only [Act.put, List.setIfInBounds_toArray, List.set_cons_zero, List.set_cons_succ]
      refine wpAnyH_ready (rs := [17]) (by kernel_rfl) (by simp) ?_
      refine (AllReadyH.cons rfl (fun KK hK => ?_) AllReadyH.nil)
      simp only [List.getElem_toArray, List.getElem_cons_succ, List.getElem_cons_zero]
      go_simp
      refine (hq_classes _).mono ?_
      rintro e461 Y461 ⟨A461, q461, rfl, h461, b461⟩
      have f462 := hid (f10459.out.next b461)
      clear f10459
      have hS463 := below2 hS460 b461
      clear hS460
      clear b461
      have f20461 := hid h461
      clear h461
      refine hK.out _ _ hS463 (fun hHeld => ?_)
      clear hK KK
      try simp only [Act.put, List.setIfInBounds_toArray, List.set_cons_zero, List.set_cons_succ]
      refine wpAnyH_ready (rs := [20]) (by kernel_rfl) (by simp) ?_
      refine (AllReadyH.cons rfl (fun KK hK => ?_) AllReadyH.nil)
      simp only [List.getElem_toArray, List.getElem_cons_succ, List.getElem_cons_zero]
      go_simp
      refine (hTakeY k3 _ _ _ _ _ f20461.out (HXf.out _ hS463) (ob_rdC f462.out)).mono ?_
      rintro e464 Y464 ⟨rfl, b464⟩
      have f465 := hid (f462.out.next b464)
      clear f462
      have f466 := hid (rd_next f20461.out b464)
      clear f20461
      have hS467 := below2 hS463 b464
      clear hS463
      clear b464
      refine hK.out _ _ hS467 (fun hHeld => ?_)
      clear hK KK
      try simp only [Act.put, List.setIfInBounds_toArray, List.set_cons_zero, List.set_cons_succ]
      exact wpAnyH_at (by kernel_rfl) (hrest _ _ ⟨(.slice A461 4 q461), (.slice (some ⟨g459, 0, none⟩) 2 2), rfl, hS467⟩)
  rintro a1 X469 ⟨v25, v27, rfl, hS468⟩
  have hHeld := hS468
  refine takeH 21 29 (.bool true) rfl rfl (by kernel_rfl) (by kernel_rfl) (by kernel_rfl) (fun _ _ _ h => h) (by kernel_rfl) (fun X hX => by clear hX; first | rfl | go_simp) hHeld ?_
  simp only [Act.put, List.setIfInBounds_toArray, List.set_cons_zero, List.set_cons_succ]
  refine takeH 22 30 (.bool true) rfl rfl (by kernel_rfl) (by kernel_rfl) (by kernel_rfl) (fun _ _ _ h => h) (by kernel_rfl) (fun X hX => by clear hX; first | rfl | go_simp) hHeld ?_
  simp only [Act.put, List.setIfInBounds_toArray, List.set_cons_zero, List.set_cons_succ]
  refine takeH 24 32 (.agg #[.string ⟨#[99]⟩, .slice (some ⟨k3, 0, none⟩) 1 1]) rfl rfl (by kernel_rfl) (by kernel_rfl) (by kernel_rfl) (fun _ _ _ h => h) (by kernel_rfl) (fun X hX => by have q0 := (hX.cell (p := ⟨kc, 0, none⟩) hkcW).trans c0; have q1 := (hX.cell (p := ⟨kc, 1, none⟩) hkcW).trans c1; clear hX; go_simp) hHeld ?_
  simp only [Act.put, List.setIfInBounds_toArray, List.set_cons_zero, List.set_cons_succ]
  refine wpAnyH_cut 15 #[true, true, true, true, true, true, true, true, true, true, true, true, true, true, true, true, true, true, true, true, true, true, true, true, true, true, true, false, false, false, false, false, false, false, false, false, false, false, false, false, false, false] (fun a1 w1 => ∃ v31 v33 : Value, a1 = (⟨#[.bool false, .pointer (some ⟨kc, 0, none⟩), .slice (some ⟨k0, 0, none⟩) 2 2, .slice (some ⟨k1, 0, none⟩) 2 2, .slice (some ⟨k2, 0, none⟩) 2 2, .agg #[.slice (some ⟨k2, 0, none⟩) 2 2], .slice (some ⟨k3, 0, none⟩) 1 1, .agg #[.string ⟨#[99]⟩, .slice (some ⟨k3, 0, none⟩) 1 1], .agg #[.string ⟨#[99]⟩, .slice (some ⟨k3, 0, none⟩) 1 1], .bool true, .bool true, v11, .agg #[.string ⟨#[99]⟩, .slice (some ⟨k3, 0, none⟩) 1 1], v13, v14, v15, v16, .bool true, .bool true, .bool true, .agg #[.string ⟨#[99]⟩, .slice (some ⟨k3, 0, none⟩) 1 1], .int .i64 4, .bool true, .bool true, .bool true, v25, .agg #[.string ⟨#[99]⟩, .slice (some ⟨k3, 0, none⟩) 1 1], v27, .bool true, .bool true, .bool true, v31, .agg #[.string ⟨#[99]⟩, .slice (some ⟨k3, 0, none⟩) 1 1], v33, .bool false, undef, undef, undef, undef, undef, undef, undef, undef, undef, undef, undef, undef, undef, undef], []⟩ : Act) ∧ Below W.heap.size W w1) ?_ (fun hrest => ?_)
  rotate_left
  · skip
    refine wpAnyH_ready (rs := [23, 25]) (by kernel_rfl) (by simp) ?_
    refine (AllReadyH.cons rfl (fun KK hK => ?_) (AllReadyH.cons rfl (fun KK hK => ?_) AllReadyH.nil))
    · skip
      simp only [List.getElem_toArray, List.getElem_cons_succ, List.getElem_cons_zero]
      go_simp
      refine (hq_classes _).mono ?_
      rintro e470 Y470 ⟨A470, q470, rfl, h470, b470⟩
      have hS471 := below2 hS468 b470
      clear hS468
      clear b470
      have f20470 := hid h470
      clear h470
      refine hK.out _ _ hS471 (fun hHeld => ?_)
      clear hK KK
      try simp only [Act.put, List.setIfInBounds_toArray, List.set_cons_zero, List.set_cons_succ]
      refine wpAnyH_ready (rs := [25]) (by kernel_rfl) (by simp) ?_
      refine (AllReadyH.cons rfl (fun KK hK => ?_) AllReadyH.nil)
      obtain ⟨g472, U472, hg472, hU472⟩ : ∃ (g : Nat) (U : World), Y470.heap.size = g ∧ World.alloc Y470 (.cells #[.int .i64 0, .int .i64 3] 3) = U := ⟨_, _, rfl, rfl⟩
      have o472 : Ob U472 g472 [.int .i64 0, .int .i64 3] 3 := by rw [← hU472, ← hg472]; exact Ob.new Y470 _ _
      have b472 : Below Y470.heap.size Y470 U472 := by rw [← hU472]; exact below_alloc Y470 _
      simp only [List.getElem_toArray, List.getElem_cons_succ, List.getElem_cons_zero]
      go_simp
      try simp only [hU472, hg472]
      clear hU472 hg472
      have f473 := hid (rd_next f20470.out b472)
      clear f20470
      have hS474 := below2 hS471 b472
      clear hS471
      clear b472
      have f10472 := hid o472
      clear o472
      refine hK.out _ _ hS474 (fun hHeld => ?_)
      clear hK KK
      try simp only [Act.put, List.setIfInBounds_toArray, List.set_cons_zero, List.set_cons_succ]
      refine wpAnyH_ready (rs := [26]) (by kernel_rfl) (by simp) ?_
      refine (AllReadyH.cons rfl (fun KK hK => ?_) AllReadyH.nil)
      simp only [List.getElem_toArray, List.getElem_cons_succ, List.getElem_cons_zero]
      go_simp
      refine (hTakeN k3 _ _ _ _ _ f473.out (HXf.out _ hS474) (ob_rdC f10472.out)).mono ?_
      rintro e475 Y475 ⟨rfl, b475⟩
      have f476 := hid (rd_next f473.out b475)
      clear f473
      have f477 := hid (f10472.out.next b475)
      clear f10472
      have hS478 := below2 hS474 b475
      clear hS474
      clear b475
      refine hK.out _ _ hS478 (fun hHeld => ?_)
      clear hK KK
      try simp only [Act.put, List.setIfInBounds_toArray, List.set_cons_zero, List.set_cons_succ]
      exact wpAnyH_at (by kernel_rfl) (hrest _ _ ⟨(.slice A470 4 q470), (.slice (some ⟨g472, 0, none⟩) 2 2), rfl, hS478⟩)
    · skip
      obtain ⟨g479, U479, hg479, hU479⟩ : ∃ (g : Nat) (U : World), X469.heap.size = g ∧ World.alloc X469 (.cells #[.int .i64 0, .int .i64 3] 3) = U := ⟨_, _, rfl, rfl⟩
      have o479 : Ob U479 g479 [.int .i64 0, .int .i64 3] 3 := by rw [← hU479, ← hg479]; exact Ob.new X469 _ _
      have b479 : Below X469.heap.size X469 U479 := by rw [← hU479]; exact below_alloc X469 _
      simp only [List.getElem_toArray, List.getElem_cons_succ, List.getElem_cons_zero]
      go_simp
      try simp only [hU479, hg479]
      clear hU479 hg479
      have hS480 := below2 hS468 b479
      clear hS468
      clear b479
      have f10479 := hid o479
      clear o479
      refine hK.out _ _ hS480 (fun hHeld => ?_)
      clear hK KK
      try simp only [Act.put, List.setIfInBounds_toArray, List.set_cons_zero, List.set_cons_succ]
      refine wpAnyH_ready (rs := [23]) (by kernel_rfl) (by simp) ?_
      refine (AllReadyH.cons rfl (fun KK hK => ?_) AllReadyH.nil)
      simp only [List.getElem_toArray, List.getElem_cons_succ, List.getElem_cons_zero]
      go_simp
      refine (hq_classes _).mono ?_
      rintro e481 Y481 ⟨A481, q481, rfl, h481, b481⟩
      have f482 := hid (f10479.out.next b481)
      clear f10479
      have hS483 := below2 hS480 b481
      clear hS480
      clear b481
      have f20481 := hid h481
      clear h481
      refine hK.out _ _ hS483 (fun hHeld => ?_)
      clear hK KK
      try simp only [Act.put, List.setIfInBounds_toArray, List.set_cons_zero, List.set_cons_succ]
      refine wpAnyH_ready (rs := [26]) (by kernel_rfl) (by simp) ?_
      refine (AllReadyH.cons rfl (fun KK hK => ?_) AllReadyH.nil)
      simp only [List.getElem_toArray, List.getElem_cons_succ, List.getElem_cons_zero]
      go_simp
      refine (hTakeN k3 _ _ _ _ _ f20481.out (HXf.out _ hS483) (ob_rdC f482.out)).mono ?_
      rintro e484 Y484 ⟨rfl, b484⟩
      have f485 := hid (f482.out.next b484)
      clear f482
      have f486 := hid (rd_next f20481.out b484)
      clear f20481
      have hS487 := below2 hS483 b484
      clear hS483
      clear b484
      refine hK.out _ _ hS487 (fun hHeld => ?_)
      clear hK KK
      try simp only [Act.put, List.setIfInBounds_toArray, List.set_cons_zero, List.set_cons_succ]
      exact wpAnyH_at (by kernel_rfl) (hrest _ _ ⟨(.slice A481 4 q481), (.slice (some ⟨g479, 0, none⟩) 2 2), rfl, hS487⟩)
  rintro a1 X489 ⟨v31, v33, rfl, hS488⟩
  have hHeld := hS488
  refine takeH 27 35 (.bool true) rfl rfl (by kernel_rfl) (by kernel_rfl) (by kernel_rfl) (fun _ _ _ h => h) (by kernel_rfl) (fun X hX => by clear hX; first | rfl | go_simp) hHeld ?_
  simp only [Act.put, List.setIfInBounds_toArray, List.set_cons_zero, List.set_cons_succ]
  refine takeH 28 36 (.bool true) rfl rfl (by kernel_rfl) (by kernel_rfl) (by kernel_rfl) (fun _ _ _ h => h) (by kernel_rfl) (fun X hX => by clear hX; first | rfl | go_simp) hHeld ?_
  simp only [Act.put, List.setIfInBounds_toArray, List.set_cons_zero, List.set_cons_succ]
  refine takeH 29 37 (.bool true) rfl rfl (by kernel_rfl) (by kernel_rfl) (by kernel_rfl) (fun _ _ _ h => h) (by kernel_rfl) (fun X hX => by clear hX; first | rfl | go_simp) hHeld ?_
  simp only [Act.put, List.setIfInBounds_toArray, List.set_cons_zero, List.set_cons_succ]
  refine wpAnyH_cut 8 #[true, true, true, true, true, true, true, true, true, true, true, true, true, true, true, true, true, true, true, true, true, true, true, true, true, true, true, true, true, true, true, true, true, true, false, false, false, false, false, false, false, false] (fun a1 w1 => ∃ v38 v39 v40 : Value, a1 = (⟨#[.bool false, .pointer (some ⟨kc, 0, none⟩), .slice (some ⟨k0, 0, none⟩) 2 2, .slice (some ⟨k1, 0, none⟩) 2 2, .slice (some ⟨k2, 0, none⟩) 2 2, .agg #[.slice (some ⟨k2, 0, none⟩) 2 2], .slice (some ⟨k3, 0, none⟩) 1 1, .agg #[.string ⟨#[99]⟩, .slice (some ⟨k3, 0, none⟩) 1 1], .agg #[.string ⟨#[99]⟩, .slice (some ⟨k3, 0, none⟩) 1 1], .bool true, .bool true, v11, .agg #[.string ⟨#[99]⟩, .slice (some ⟨k3, 0, none⟩) 1 1], v13, v14, v15, v16, .bool true, .bool true, .bool true, .agg #[.string ⟨#[99]⟩, .slice (some ⟨k3, 0, none⟩) 1 1], .int .i64 4, .bool true, .bool true, .bool true, v25, .agg #[.string ⟨#[99]⟩, .slice (some ⟨k3, 0, none⟩) 1 1], v27, .bool true, .bool true, .bool true, v31, .agg #[.string ⟨#[99]⟩, .slice (some ⟨k3, 0, none⟩) 1 1], v33, .bool false, .bool true, .bool true, .bool true, v38, v39, v40, .bool true, undef, undef, undef, undef, undef, undef, undef], []⟩ : Act) ∧ Below W.heap.size W w1) ?_ (fun hrest => ?_)
  rotate_left
  · skip
    refine wpAnyH_ready (rs := [30, 32]) (by kernel_rfl) (by simp) ?_
    refine (AllReadyH.cons rfl (fun KK hK => ?_) (AllReadyH.cons rfl (fun KK hK => ?_) AllReadyH.nil))
    · skip
      simp only [List.getElem_toArray, List.getElem_cons_succ, List.getElem_cons_zero]
      go_simp
      refine (hq_classes _).mono ?_
      rintro e490 Y490 ⟨A490, q490, rfl, h490, b490⟩
      have hS491 := below2 hS488 b490
      clear hS488
      clear b490
      have f20490 := hid h490
      clear h490
      refine hK.out _ _ hS491 (fun hHeld => ?_)
      clear hK KK
      try simp only [Act.put, List.setIfInBounds_toArray, List.set_cons_zero, List.set_cons_succ]
      refine wpAnyH_ready (rs := [31, 32]) (by kernel_rfl) (by simp) ?_
      refine (AllReadyH.cons rfl (fun KK hK => ?_) (AllReadyH.cons rfl (fun KK hK => ?_) AllReadyH.nil))
      · skip
        simp only [List.getElem_toArray, List.getElem_cons_succ, List.getElem_cons_zero]
        go_simp
        refine (hAbove _ _ _ f20490.out).mono ?_
        rintro e492 Y492 ⟨A492, q492, rfl, h492, b492⟩
        have f493 := hid (rd_next f20490.out b492)
        clear f20490
        have hS494 := below2 hS491 b492
        clear hS491
        clear b492
        have f20492 := hid h492
        clear h492
        refine hK.out _ _ hS494 (fun hHeld => ?_)
        clear hK KK
        try simp only [Act.put, List.setIfInBounds_toArray, List.set_cons_zero, List.set_cons_succ]
        refine wpAnyH_ready (rs := [32]) (by kernel_rfl) (by simp) ?_
        refine (AllReadyH.cons rfl (fun KK hK => ?_) AllReadyH.nil)
        obtain ⟨g495, U495, hg495, hU495⟩ : ∃ (g : Nat) (U : World), Y492.heap.size = g ∧ World.alloc Y492 (.cells #[.int .i64 1] 3) = U := ⟨_, _, rfl, rfl⟩
        have o495 : Ob U495 g495 [.int .i64 1] 3 := by rw [← hU495, ← hg495]; exact Ob.new Y492 _ _
        have b495 : Below Y492.heap.size Y492 U495 := by rw [← hU495]; exact below_alloc Y492 _
        simp only [List.getElem_toArray, List.getElem_cons_succ, List.getElem_cons_zero]
        go_simp
        try simp only [hU495, hg495]
        clear hU495 hg495
        have f496 := hid (rd_next f493.out b495)
        clear f493
        have f497 := hid (rd_next f20492.out b495)
        clear f20492
        have hS498 := below2 hS494 b495
        clear hS494
        clear b495
        have f10495 := hid o495
        clear o495
        refine hK.out _ _ hS498 (fun hHeld => ?_)
        clear hK KK
        try simp only [Act.put, List.setIfInBounds_toArray, List.set_cons_zero, List.set_cons_succ]
        refine wpAnyH_ready (rs := [33]) (by kernel_rfl) (by simp) ?_
        refine (AllReadyH.cons rfl (fun KK hK => ?_) AllReadyH.nil)
        simp only [List.getElem_toArray, List.getElem_cons_succ, List.getElem_cons_zero]
        go_simp
        refine (hq_ints _ _ _ _ [1] (by decide) _ f497.out (ob_rdC f10495.out)).mono ?_
        rintro e499 Y499 ⟨rfl, b499⟩
        have f500 := hid (rd_next f496.out b499)
        clear f496
        have f501 := hid (rd_next f497.out b499)
        clear f497
        have f502 := hid (f10495.out.next b499)
        clear f10495
        have hS503 := below2 hS498 b499
        clear hS498
        clear b499
        refine hK.out _ _ hS503 (fun hHeld => ?_)
        clear hK KK
        try simp only [Act.put, List.setIfInBounds_toArray, List.set_cons_zero, List.set_cons_succ]
        exact wpAnyH_at (by kernel_rfl) (hrest _ _ ⟨(.slice A490 4 q490), (.slice A492 1 q492), (.slice (some ⟨g495, 0, none⟩) 1 1), rfl, hS503⟩)
      · skip
        obtain ⟨g504, U504, hg504, hU504⟩ : ∃ (g : Nat) (U : World), Y490.heap.size = g ∧ World.alloc Y490 (.cells #[.int .i64 1] 3) = U := ⟨_, _, rfl, rfl⟩
        have o504 : Ob U504 g504 [.int .i64 1] 3 := by rw [← hU504, ← hg504]; exact Ob.new Y490 _ _
        have b504 : Below Y490.heap.size Y490 U504 := by rw [← hU504]; exact below_alloc Y490 _
        simp only [List.getElem_toArray, List.getElem_cons_succ, List.getElem_cons_zero]
        go_simp
        try simp only [hU504, hg504]
        clear hU504 hg504
        have f505 := hid (rd_next f20490.out b504)
        clear f20490
        have hS506 := below2 hS491 b504
        clear hS491
        clear b504
        have f10504 := hid o504
        clear o504
        refine hK.out _ _ hS506 (fun hHeld => ?_)
        clear hK KK
        try simp only [Act.put, List.setIfInBounds_toArray, List.set_cons_zero, List.set_cons_succ]
        refine wpAnyH_ready (rs := [31]) (by kernel_rfl) (by simp) ?_
        refine (AllReadyH.cons rfl (fun KK hK => ?_) AllReadyH.nil)
        simp only [List.getElem_toArray, List.getElem_cons_succ, List.getElem_cons_zero]
        go_simp
        refine (hAbove _ _ _ f505.out).mono ?_
        rintro e507 Y507 ⟨A507, q507, rfl, h507, b507⟩
        have f508 := hid (rd_next f505.out b507)
        clear f505
        have f509 := hid (f10504.out.next b507)
        clear f10504
        have hS510 := below2 hS506 b507
        clear hS506
        clear b507
        have f20507 := hid h507
        clear h507
        refine hK.out _ _ hS510 (fun hHeld => ?_)
        clear hK KK
        try simp only [Act.put, List.setIfInBounds_toArray, List.set_cons_zero, List.set_cons_succ]
        refine wpAnyH_ready (rs := [33]) (by kernel_rfl) (by simp) ?_
        refine (AllReadyH.cons rfl (fun KK hK => ?_) AllReadyH.nil)
        simp only [List.getElem_toArray, List.getElem_cons_succ, List.getElem_cons_zero]
        go_simp
        refine (hq_ints _ _ _ _ [1] (by decide) _ f20507.out (ob_rdC f509.out)).mono ?_
        rintro e511 Y511 ⟨rfl, b511⟩
        have f512 := hid (rd_next f508.out b511)
        clear f508
        have f513 := hid (f509.out.next b511)
        clear f509
        have f514 := hid (rd_next f20507.out b511)
        clear f20507
        have hS515 := below2 hS510 b511
        clear hS510
        clear b511
        refine hK.out _ _ hS515 (fun hHeld => ?_)
        clear hK KK
        try simp only [Act.put, List.setIfInBounds_toArray, List.set_cons_zero, List.set_cons_succ]
        exact wpAnyH_at (by kernel_rfl) (hrest _ _ ⟨(.slice A490 4 q490), (.slice A507 1 q507), (.slice (some ⟨g504, 0, none⟩) 1 1), rfl, hS515⟩)
    · skip
      obtain ⟨g516, U516, hg516, hU516⟩ : ∃ (g : Nat) (U : World), X489.heap.size = g ∧ World.alloc X489 (.cells #[.int .i64 1] 3) = U := ⟨_, _, rfl, rfl⟩
      have o516 : Ob U516 g516 [.int .i64 1] 3 := by rw [← hU516, ← hg516]; exact Ob.new X489 _ _
      have b516 : Below X489.heap.size X489 U516 := by rw [← hU516]; exact below_alloc X489 _
      simp only [List.getElem_toArray, List.getElem_cons_succ, List.getElem_cons_zero]
      go_simp
      try simp only [hU516, hg516]
      clear hU516 hg516
      have hS517 := below2 hS488 b516
      clear hS488
      clear b516
      have f10516 := hid o516
      clear o516
      refine hK.out _ _ hS517 (fun hHeld => ?_)
      clear hK KK
      try simp only [Act.put, List.setIfInBounds_toArray, List.set_cons_zero, List.set_cons_succ]
      refine wpAnyH_ready (rs := [30]) (by kernel_rfl) (by simp) ?_
      refine (AllReadyH.cons rfl (fun KK hK => ?_) AllReadyH.nil)
      simp only [List.getElem_toArray, List.getElem_cons_succ, List.getElem_cons_zero]
      go_simp
      refine (hq_classes _).mono ?_
      rintro e518 Y518 ⟨A518, q518, rfl, h518, b518⟩
      have f519 := hid (f10516.out.next b518)
      clear f10516
      have hS520 := below2 hS517 b518
      clear hS517
      clear b518
      have f20518 := hid h518
      clear h518
      refine hK.out _ _ hS520 (fun hHeld => ?_)
      clear hK KK
      try simp only [Act.put, List.setIfInBounds_toArray, List.set_cons_zero, List.set_cons_succ]
      refine wpAnyH_ready (rs := [31]) (by kernel_rfl) (by simp) ?_
      refine (AllReadyH.cons rfl (fun KK hK => ?_) AllReadyH.nil)
      simp only [List.getElem_toArray, List.getElem_cons_succ, List.getElem_cons_zero]
      go_simp
      refine (hAbove _ _ _ f20518.out).mono ?_
      rintro e521 Y521 ⟨A521, q521, rfl, h521, b521⟩
      have f522 := hid (f519.out.next b521)
      clear f519
      have f523 := hid (rd_next f20518.out b521)
      clear f20518
      have hS524 := below2 hS520 b521
      clear hS520
      clear b521
      have f20521 := hid h521
      clear h521
      refine hK.out _ _ hS524 (fun hHeld => ?_)
      clear hK KK
      try simp only [Act.put, List.setIfInBounds_toArray, List.set_cons_zero, List.set_cons_succ]
      refine wpAnyH_ready (rs := [33]) (by kernel_rfl) (by simp) ?_
      refine (AllReadyH.cons rfl (fun KK hK => ?_) AllReadyH.nil)
      simp only [List.getElem_toArray, List.getElem_cons_succ, List.getElem_cons_zero]
      go_simp
      refine (hq_ints _ _ _ _ [1] (by decide) _ f20521.out (ob_rdC f522.out)).mono ?_
      rintro e525 Y525 ⟨rfl, b525⟩
      have f526 := hid (f522.out.next b525)
      clear f522
      have f527 := hid (rd_next f523.out b525)
      clear f523
      have f528 := hid (rd_next f20521.out b525)
      clear f20521
      have hS529 := below2 hS524 b525
      clear hS524
      clear b525
      refine hK.out _ _ hS529 (fun hHeld => ?_)
      clear hK KK
      try simp only [Act.put, List.setIfInBounds_toArray, List.set_cons_zero, List.set_cons_succ]
      exact wpAnyH_at (by kernel_rfl) (hrest _ _ ⟨(.slice A518 4 q518), (.slice A521 1 q521), (.slice (some ⟨g516, 0, none⟩) 1 1), rfl, hS529⟩)
  rintro a1 X531 ⟨v38, v39, v40, rfl, hS530⟩
  have hHeld := hS530
  refine takeH 34 42 (.bool true) rfl rfl (by kernel_rfl) (by kernel_rfl) (by kernel_rfl) (fun _ _ _ h => h) (by kernel_rfl) (fun X hX => by clear hX; first | rfl | go_simp) hHeld ?_
  simp only [Act.put, List.setIfInBounds_toArray, List.set_cons_zero, List.set_cons_succ]
  refine takeH 35 43 (.bool true) rfl rfl (by kernel_rfl) (by kernel_rfl) (by kernel_rfl) (fun _ _ _ h => h) (by kernel_rfl) (fun X hX => by clear hX; first | rfl | go_simp) hHeld ?_
  simp only [Act.put, List.setIfInBounds_toArray, List.set_cons_zero, List.set_cons_succ]
  refine takeH 36 44 (.agg #[.string ⟨#[99]⟩, .slice (some ⟨k3, 0, none⟩) 1 1]) rfl rfl (by kernel_rfl) (by kernel_rfl) (by kernel_rfl) (fun _ _ _ h => h) (by kernel_rfl) (fun X hX => by have q0 := (hX.cell (p := ⟨kc, 0, none⟩) hkcW).trans c0; have q1 := (hX.cell (p := ⟨kc, 1, none⟩) hkcW).trans c1; clear hX; go_simp) hHeld ?_
  simp only [Act.put, List.setIfInBounds_toArray, List.set_cons_zero, List.set_cons_succ]
  refine wpAnyH_cut 2 #[true, true, true, true, true, true, true, true, true, true, true, true, true, true, true, true, true, true, true, true, true, true, true, true, true, true, true, true, true, true, true, true, true, true, true, true, true, true, true, true, false, false] (fun a1 w1 => ∃ v45 v46 : Value, a1 = (⟨#[.bool false, .pointer (some ⟨kc, 0, none⟩), .slice (some ⟨k0, 0, none⟩) 2 2, .slice (some ⟨k1, 0, none⟩) 2 2, .slice (some ⟨k2, 0, none⟩) 2 2, .agg #[.slice (some ⟨k2, 0, none⟩) 2 2], .slice (some ⟨k3, 0, none⟩) 1 1, .agg #[.string ⟨#[99]⟩, .slice (some ⟨k3, 0, none⟩) 1 1], .agg #[.string ⟨#[99]⟩, .slice (some ⟨k3, 0, none⟩) 1 1], .bool true, .bool true, v11, .agg #[.string ⟨#[99]⟩, .slice (some ⟨k3, 0, none⟩) 1 1], v13, v14, v15, v16, .bool true, .bool true, .bool true, .agg #[.string ⟨#[99]⟩, .slice (some ⟨k3, 0, none⟩) 1 1], .int .i64 4, .bool true, .bool true, .bool true, v25, .agg #[.string ⟨#[99]⟩, .slice (some ⟨k3, 0, none⟩) 1 1], v27, .bool true, .bool true, .bool true, v31, .agg #[.string ⟨#[99]⟩, .slice (some ⟨k3, 0, none⟩) 1 1], v33, .bool false, .bool true, .bool true, .bool true, v38, v39, v40, .bool true, .bool true, .bool true, .agg #[.string ⟨#[99]⟩, .slice (some ⟨k3, 0, none⟩) 1 1], v45, v46, .bool true, undef], []⟩ : Act) ∧ Below W.heap.size W w1) ?_ (fun hrest => ?_)
  rotate_left
  · skip
    refine wpAnyH_ready (rs := [37, 38]) (by kernel_rfl) (by simp) ?_
    refine (AllReadyH.cons rfl (fun KK hK => ?_) (AllReadyH.cons rfl (fun KK hK => ?_) AllReadyH.nil))
    · skip
      simp only [List.getElem_toArray, List.getElem_cons_succ, List.getElem_cons_zero]
      go_simp
      refine (hClasses k3 _ (HXf.out _ hS530)).mono ?_
      rintro e532 Y532 ⟨A532, q532, rfl, h532, b532⟩
      have hS533 := below2 hS530 b532
      clear hS530
      clear b532
      have f20532 := hid h532
      clear h532
      refine hK.out _ _ hS533 (fun hHeld => ?_)
      clear hK KK
      try simp only [Act.put, List.setIfInBounds_toArray, List.set_cons_zero, List.set_cons_succ]
      refine wpAnyH_ready (rs := [38]) (by kernel_rfl) (by simp) ?_
      refine (AllReadyH.cons rfl (fun KK hK => ?_) AllReadyH.nil)
      obtain ⟨g534, U534, hg534, hU534⟩ : ∃ (g : Nat) (U : World), Y532.heap.size = g ∧ World.alloc Y532 (.cells #[.int .i64 0, .int .i64 1, .int .i64 2, .int .i64 3] 3) = U := ⟨_, _, rfl, rfl⟩
      have o534 : Ob U534 g534 [.int .i64 0, .int .i64 1, .int .i64 2, .int .i64 3] 3 := by rw [← hU534, ← hg534]; exact Ob.new Y532 _ _
      have b534 : Below Y532.heap.size Y532 U534 := by rw [← hU534]; exact below_alloc Y532 _
      simp only [List.getElem_toArray, List.getElem_cons_succ, List.getElem_cons_zero]
      go_simp
      try simp only [hU534, hg534]
      clear hU534 hg534
      have f535 := hid (rd_next f20532.out b534)
      clear f20532
      have hS536 := below2 hS533 b534
      clear hS533
      clear b534
      have f10534 := hid o534
      clear o534
      refine hK.out _ _ hS536 (fun hHeld => ?_)
      clear hK KK
      try simp only [Act.put, List.setIfInBounds_toArray, List.set_cons_zero, List.set_cons_succ]
      refine wpAnyH_ready (rs := [39]) (by kernel_rfl) (by simp) ?_
      refine (AllReadyH.cons rfl (fun KK hK => ?_) AllReadyH.nil)
      simp only [List.getElem_toArray, List.getElem_cons_succ, List.getElem_cons_zero]
      go_simp
      refine (hq_ints _ _ _ _ [0, 1, 2, 3] (by decide) _ f535.out (ob_rdC f10534.out)).mono ?_
      rintro e537 Y537 ⟨rfl, b537⟩
      have f538 := hid (rd_next f535.out b537)
      clear f535
      have f539 := hid (f10534.out.next b537)
      clear f10534
      have hS540 := below2 hS536 b537
      clear hS536
      clear b537
      refine hK.out _ _ hS540 (fun hHeld => ?_)
      clear hK KK
      try simp only [Act.put, List.setIfInBounds_toArray, List.set_cons_zero, List.set_cons_succ]
      exact wpAnyH_at (by kernel_rfl) (hrest _ _ ⟨(.slice A532 4 q532), (.slice (some ⟨g534, 0, none⟩) 4 4), rfl, hS540⟩)
    · skip
      obtain ⟨g541, U541, hg541, hU541⟩ : ∃ (g : Nat) (U : World), X531.heap.size = g ∧ World.alloc X531 (.cells #[.int .i64 0, .int .i64 1, .int .i64 2, .int .i64 3] 3) = U := ⟨_, _, rfl, rfl⟩
      have o541 : Ob U541 g541 [.int .i64 0, .int .i64 1, .int .i64 2, .int .i64 3] 3 := by rw [← hU541, ← hg541]; exact Ob.new X531 _ _
      have b541 : Below X531.heap.size X531 U541 := by rw [← hU541]; exact below_alloc X531 _
      simp only [List.getElem_toArray, List.getElem_cons_succ, List.getElem_cons_zero]
      go_simp
      try simp only [hU541, hg541]
      clear hU541 hg541
      have hS542 := below2 hS530 b541
      clear hS530
      clear b541
      have f10541 := hid o541
      clear o541
      refine hK.out _ _ hS542 (fun hHeld => ?_)
      clear hK KK
      try simp only [Act.put, List.setIfInBounds_toArray, List.set_cons_zero, List.set_cons_succ]
      refine wpAnyH_ready (rs := [37]) (by kernel_rfl) (by simp) ?_
      refine (AllReadyH.cons rfl (fun KK hK => ?_) AllReadyH.nil)
      simp only [List.getElem_toArray, List.getElem_cons_succ, List.getElem_cons_zero]
      go_simp
      refine (hClasses k3 _ (HXf.out _ hS542)).mono ?_
      rintro e543 Y543 ⟨A543, q543, rfl, h543, b543⟩
      have f544 := hid (f10541.out.next b543)
      clear f10541
      have hS545 := below2 hS542 b543
      clear hS542
      clear b543
      have f20543 := hid h543
      clear h543
      refine hK.out _ _ hS545 (fun hHeld => ?_)
      clear hK KK
      try simp only [Act.put, List.setIfInBounds_toArray, List.set_cons_zero, List.set_cons_succ]
      refine wpAnyH_ready (rs := [39]) (by kernel_rfl) (by simp) ?_
      refine (AllReadyH.cons rfl (fun KK hK => ?_) AllReadyH.nil)
      simp only [List.getElem_toArray, List.getElem_cons_succ, List.getElem_cons_zero]
      go_simp
      refine (hq_ints _ _ _ _ [0, 1, 2, 3] (by decide) _ f20543.out (ob_rdC f544.out)).mono ?_
      rintro e546 Y546 ⟨rfl, b546⟩
      have f547 := hid (f544.out.next b546)
      clear f544
      have f548 := hid (rd_next f20543.out b546)
      clear f20543
      have hS549 := below2 hS545 b546
      clear hS545
      clear b546
      refine hK.out _ _ hS549 (fun hHeld => ?_)
      clear hK KK
      try simp only [Act.put, List.setIfInBounds_toArray, List.set_cons_zero, List.set_cons_succ]
      exact wpAnyH_at (by kernel_rfl) (hrest _ _ ⟨(.slice A543 4 q543), (.slice (some ⟨g541, 0, none⟩) 4 4), rfl, hS549⟩)
  rintro a1 X551 ⟨v45, v46, rfl, hS550⟩
  have hHeld := hS550
  refine takeH 40 48 (.bool true) rfl rfl (by kernel_rfl) (by kernel_rfl) (by kernel_rfl) (fun _ _ _ h => h) (by kernel_rfl) (fun X hX => by clear hX; first | rfl | go_simp) hHeld ?_
  simp only [Act.put, List.setIfInBounds_toArray, List.set_cons_zero, List.set_cons_succ]
  refine wpAnyH_ready (rs := [41]) (by kernel_rfl) (by simp) ?_
  refine AllReadyH.cons rfl (fun KK hK => ?_) AllReadyH.nil
  simp only [List.getElem_toArray, List.getElem_cons_succ, List.getElem_cons_zero]
  go_simp
  refine hK.out _ _ hS550 (fun hHeld => ?_)
  clear hK KK
  try simp only [Act.put, List.setIfInBounds_toArray, List.set_cons_zero, List.set_cons_succ]
  refine wpAnyH_done (by kernel_rfl) ?_ _
  clear hHeld
  go_wp2_with fail
  go_ret
  exact Did.mk rfl (HwW.out.trans (hS550.mono HwW.out.size))
end Go.Proofs.Ytgkplcipplpobaa
