/- Contract of the program's own Cheapest (layer 13, class). -/
import Derived.Test.YtcnpfchopjopeaaClsY
import Derived.Test.YtcnpfchopjopeaaClsQ
namespace Go.Proofs.Ytcnpfchopjopeaa
open Go.RowKit
open Whn (Gr Wh)

set_option maxRecDepth 20000 in
set_option maxHeartbeats 4000000 in
theorem p_Cheapest (x : Cl) (r : Cw) (hN : x.t.length ≤ 1000) (hM : x.l.length ≤ 1000) (ht : Tame x) (w : World) (h : Clw w w.heap.size x r) : Calls Try.prog 24 #[cv x r] w (Did (.tuple #[sv (cheapS x), .int .i64 (cheapN x)]) w) := by
  have hN2 : x.t.length ≤ maxLen := by unfold maxLen; omega
  have hM2 : x.l.length ≤ maxLen := by unfold maxLen; omega
  have HT := hid (fun X (h : Clw X X.heap.size x r) => p_cheapT r.b r.bc x.t hN2 X h.2.1)
  have HP := hid (fun X (h : Clw X X.heap.size x r) => p_cheapP r.c r.cc x.l hM2 X h.2.2)
  have HW := hid (fun X => p_Whole x r (bestS x) hN2 hM2 X)
  have HCo := hid (fun X h => p_Cost x r (bestS x) hN2 hM2 X h)
  have bt := costT_bnd ht (bestS x)
  have bp := costP_bnd ht (bestS x)
  have HTg := hid (fun X => p_together (costT x (bestS x)) (costP x (bestS x)) (by omega) (by omega) (by unfold I64; omega) X)
  have HS := hid (show cheapS x = if wholeB x (bestS x) = true then bestS x else ⟨0, 0⟩ by
    rw [best_whole]
    by_cases h0 : 0 < x.t.length
    · rw [decide_eq_true h0, if_pos rfl, best_eq h0]
    · rw [decide_eq_false h0, if_neg (by decide)]
      exact (cheap_none (by omega)).1)
  have HN := hid (show cheapN x = if wholeB x (bestS x) = true then costT x (bestS x) + costP x (bestS x) else 0 by
    rw [best_whole]
    by_cases h0 : 0 < x.t.length
    · rw [decide_eq_true h0, if_pos rfl, best_eq h0]
      obtain ⟨_, _, h, _⟩ := cheap_some h0
      exact h
    · rw [decide_eq_false h0, if_neg (by decide)]
      exact (cheap_none (by omega)).2)
  have HC := hid h
  generalize wholeB x (bestS x) = wq at *
  generalize costT x (bestS x) = ca at *
  generalize costP x (bestS x) = cb at *
  have hbs : bestS x = ⟨amin Tm.c x.t x.t.length, amin Pl.c x.l x.l.length⟩ := rfl
  rw [hbs] at HW HCo HS
  clear hbs
  generalize amin Tm.c x.t x.t.length = aT at *
  generalize amin Pl.c x.l x.l.length = aP at *
  generalize cheapS x = cS at *
  generalize cheapN x = cN at *
  clear h ht hN2 hM2 bt bp hN hM
  obtain ⟨ra, rac, rb, rbc, rc, rcc⟩ := r
  obtain ⟨B, W, hB, hW, K, z0⟩ := (Mem.nil w).one (ccl x ⟨ra, rac, rb, rbc, rc, rcc⟩) 30
  obtain ⟨R, V, hR, hV, K1, z1⟩ := K.out.one (sc ⟨0, 0⟩) 41
  have HBR := hid (show w.heap.size ≤ B ∧ B < R from by
    have q1 := (K.out.at_ (b := B) (cs := ccl x ⟨ra, rac, rb, rbc, rc, rcc⟩) (t := 30) (by simp)).lt
    omega)
  clear K z0 z1
  go_enter Try.func24, Try.ntmps24
  go_wp2_with fail
  refine wp_region_held_drew (S := fun X => Mem w X [(R, sc ⟨0, 0⟩, 41), (B, ccl x ⟨ra, rac, rb, rbc, rc, rcc⟩, 30)]) (by kernel_rfl) K1.out.drew (fun hHeld => ?_)
  refine takeH 0 5 (.pointer (some ⟨B, 4, none⟩)) rfl rfl (by kernel_rfl) (by kernel_rfl) (by kernel_rfl) (fun _ _ _ h => h) (by kernel_rfl) (fun X hX => by clear hX; first | rfl | go_simp) hHeld ?_
  simp only [Act.put, List.setIfInBounds_toArray, List.set_cons_zero, List.set_cons_succ]
  refine takeH 1 6 (.slice rb x.t.length rbc) rfl rfl (by kernel_rfl) (by kernel_rfl) (by kernel_rfl) (fun _ _ _ h => h) (by kernel_rfl) (fun X hX => by obtain ⟨q0, q1, q2, q3, q4, q5, q6⟩ := hX.cl (B := B) (x := x) (r := ⟨ra, rac, rb, rbc, rc, rcc⟩) (t := 30) (by simp); simp only at q0 q1 q2 q3 q4 q5 q6; clear hX; go_simp) hHeld ?_
  simp only [Act.put, List.setIfInBounds_toArray, List.set_cons_zero, List.set_cons_succ]
  refine takeH 3 8 (.pointer (some ⟨B, 5, none⟩)) rfl rfl (by kernel_rfl) (by kernel_rfl) (by kernel_rfl) (fun _ _ _ h => h) (by kernel_rfl) (fun X hX => by clear hX; first | rfl | go_simp) hHeld ?_
  simp only [Act.put, List.setIfInBounds_toArray, List.set_cons_zero, List.set_cons_succ]
  refine takeH 4 9 (.slice rc x.l.length rcc) rfl rfl (by kernel_rfl) (by kernel_rfl) (by kernel_rfl) (fun _ _ _ h => h) (by kernel_rfl) (fun X hX => by obtain ⟨q0, q1, q2, q3, q4, q5, q6⟩ := hX.cl (B := B) (x := x) (r := ⟨ra, rac, rb, rbc, rc, rcc⟩) (t := 30) (by simp); simp only at q0 q1 q2 q3 q4 q5 q6; clear hX; go_simp) hHeld ?_
  simp only [Act.put, List.setIfInBounds_toArray, List.set_cons_zero, List.set_cons_succ]
  have K2 := hid K1.out.drew
  clear K1
  refine wpAnyH_ready (rs := [2, 7]) (by kernel_rfl) (by simp) ?_
  refine (AllReadyH.cons rfl (fun KK hK => ?_) (AllReadyH.cons rfl (fun KK hK => ?_) AllReadyH.nil))
  · skip
    simp only [List.getElem_toArray, List.getElem_cons_succ, List.getElem_cons_zero]
    go_simp
    refine (HT.out _ (HC.out.next K2.out.2)).mono ?_
    rintro e Y0 ⟨rfl, bz⟩
    have K3 := hid (K2.out.next bz)
    refine hK.out _ _ K3.out (fun hHeld => ?_)
    clear hK KK
    try simp only [Act.put, List.setIfInBounds_toArray, List.set_cons_zero, List.set_cons_succ]
    clear bz K2
    refine wpAnyH_ready (rs := [5, 7]) (by kernel_rfl) (by simp) ?_
    refine (AllReadyH.cons rfl (fun KK hK => ?_) (AllReadyH.cons rfl (fun KK hK => ?_) AllReadyH.nil))
    · skip
      simp only [List.getElem_toArray, List.getElem_cons_succ, List.getElem_cons_zero]
      go_simp
      refine (HP.out _ (HC.out.next K3.out.2)).mono ?_
      rintro e Y00 ⟨rfl, bz⟩
      have K4 := hid (K3.out.next bz)
      refine hK.out _ _ K4.out (fun hHeld => ?_)
      clear hK KK
      try simp only [Act.put, List.setIfInBounds_toArray, List.set_cons_zero, List.set_cons_succ]
      clear bz K3
      refine takeH 6 11 (sv ⟨aT, aP⟩) rfl rfl (by kernel_rfl) (by kernel_rfl) (by kernel_rfl) (fun _ _ _ h => h) (by kernel_rfl) (fun X hX => by clear hX; first | rfl | go_simp) hHeld ?_
      simp only [Act.put, List.setIfInBounds_toArray, List.set_cons_zero, List.set_cons_succ]
      refine wpAnyH_ready (rs := [7]) (by kernel_rfl) (by simp) ?_
      refine (AllReadyH.cons rfl (fun KK hK => ?_) AllReadyH.nil)
      simp only [List.getElem_toArray, List.getElem_cons_succ, List.getElem_cons_zero]
      obtain ⟨S, U, hS, hU, K5, zz⟩ := K4.out.one (sc ⟨0, 0⟩) 41
      have HRS := hid (show R < S from by
        have q1 := (K4.out.at_ (b := R) (cs := sc ⟨0, 0⟩) (t := 41) (by simp)).lt
        omega)
      clear zz
      go_simp
      refine hK.out _ _ (K5.out.sub (by simp)) (fun hHeld => ?_)
      clear hK KK
      try simp only [Act.put, List.setIfInBounds_toArray, List.set_cons_zero, List.set_cons_succ]
      clear hS hU K4
      have hOS := K5.out.at_ (b := S) (cs := sc ⟨0, 0⟩) (t := 41) (by simp)
      have s0 := hOS.free 0
      have s1 := hOS.free 1
      have c0 := hOS.cell (k := 0) rfl
      have c1 := hOS.cell (k := 1) rfl
      have hwS : w.heap.size ≤ S := by have := HBR.out; have := HRS.out; omega
      have Hne := hid (show ∀ p ∈ ([(R, sc ⟨0, 0⟩, 41), (B, ccl x ⟨ra, rac, rb, rbc, rc, rcc⟩, 30)] : Obs), p.1 ≠ S from by
        intro p hp
        have hq := HBR.out
        have hr := HRS.out
        simp only [List.mem_cons, List.not_mem_nil, or_false] at hp
        rcases hp with rfl | rfl
        · show R ≠ S; omega
        · show B ≠ S; omega)
      have KS := hid (((K5.out.sub (l' := [(S, sc ⟨0, 0⟩, 41), (R, sc ⟨0, 0⟩, 41), (B, ccl x ⟨ra, rac, rb, rbc, rc, rcc⟩, 30)]) (by simp)).set hwS Hne.out 0 (.int .i64 aT)).set hwS Hne.out 1 (.int .i64 aP))
      refine wpAnyH_ready (rs := [8]) (by kernel_rfl) (by simp) ?_
      refine (AllReadyH.cons rfl (fun KK hK => ?_) AllReadyH.nil)
      simp only [List.getElem_toArray, List.getElem_cons_succ, List.getElem_cons_zero]
      go_simp
      refine hK.out _ _ (KS.out.sub (by simp)) (fun hHeld => ?_)
      clear hK KK
      try simp only [Act.put, List.setIfInBounds_toArray, List.set_cons_zero, List.set_cons_succ]
      refine wpAnyH_done (by kernel_rfl) ?_ _
      have KT := hid (show Mem w _ [(S, sc ⟨aT, aP⟩, 41), (R, sc ⟨0, 0⟩, 41), (B, ccl x ⟨ra, rac, rb, rbc, rc, rcc⟩, 30)] from KS.out)
      clear hHeld KS hOS s0 s1 c0 c1 K5 Hne
      obtain ⟨Z, hZ⟩ : ∃ Z, (U.setCell ⟨S, 0, none⟩ (.int .i64 aT)).setCell ⟨S, 1, none⟩ (.int .i64 aP) = Z := ⟨_, rfl⟩
      rw [hZ] at KT ⊢
      clear hZ
      obtain ⟨e0, e1, e2, e3, e4, e5, e6⟩ := KT.out.cl (B := B) (x := x) (r := ⟨ra, rac, rb, rbc, rc, rcc⟩) (t := 30) (by simp)
      obtain ⟨d0, d1⟩ := KT.out.se (B := S) (s := ⟨aT, aP⟩) (t := 41) (by simp)
      simp only at e0 e1 e2 e3 e4 e5 e6 d0 d1
      go_wp2_with fail
      refine (HW.out _).mono ?_
      rintro e Y1 ⟨rfl, bz⟩
      have KU := hid (KT.out.next bz)
      clear e0 e1 e2 e3 e4 e5 e6 d0 d1 bz KT
      cases wq with
      | false =>
        have hS := HS.out
        have hN := HN.out
        rw [if_neg (by decide)] at hS hN
        subst hS
        subst hN
        have hOR := KU.out.at_ (b := R) (cs := sc ⟨0, 0⟩) (t := 41) (by simp)
        have r0 := hOR.cell (k := 0) rfl
        have r1 := hOR.cell (k := 1) rfl
        have s0 := hOR.free 0
        have s1 := hOR.free 1
        clear hOR
        have K8 := hid (((KU.out.sub (l' := [(R, sc ⟨0, 0⟩, 41)]) (by simp)).set (by have := HBR.out; omega) (by intro p hp; cases hp) 0 (.int .i64 0)).set (by have := HBR.out; omega) (by intro p hp; cases hp) 1 (.int .i64 0))
        go_wp2_with fail
        obtain ⟨y0, y1⟩ := K8.out.se (B := R) (s := ⟨0, 0⟩) (t := 41) (by simp)
        simp only at y0 y1
        exact bodyPost_ret (v := .tuple #[.agg #[.int .i64 0, .int .i64 0], .int .i64 0]) (by simp [results, Try.results24, go_sem, y0, y1]) rfl (Did.mk rfl K8.out.2)
      | true =>
        have hS := HS.out
        have hN := HN.out
        rw [if_pos rfl] at hS hN
        subst hS
        subst hN
        go_wp2_with fail
        refine wp_region_held_drew (S := fun X => Mem w X [(S, sc ⟨aT, aP⟩, 41), (B, ccl x ⟨ra, rac, rb, rbc, rc, rcc⟩, 30)]) (by kernel_rfl) (KU.out.drew.sub (by simp)) (fun hHeld => ?_)
        refine takeH 0 17 (sv ⟨aT, aP⟩) rfl rfl (by kernel_rfl) (by kernel_rfl) (by kernel_rfl) (fun _ _ _ h => h) (by kernel_rfl) (fun X hX => by obtain ⟨q0, q1⟩ := hX.se (B := S) (s := ⟨aT, aP⟩) (t := 41) (by simp); simp only at q0 q1; clear hX; go_simp) hHeld ?_
        simp only [Act.put, List.setIfInBounds_toArray, List.set_cons_zero, List.set_cons_succ]
        refine takeH 1 18 (cv x ⟨ra, rac, rb, rbc, rc, rcc⟩) rfl rfl (by kernel_rfl) (by kernel_rfl) (by kernel_rfl) (fun _ _ _ h => h) (by kernel_rfl) (fun X hX => by obtain ⟨q0, q1, q2, q3, q4, q5, q6⟩ := hX.cl (B := B) (x := x) (r := ⟨ra, rac, rb, rbc, rc, rcc⟩) (t := 30) (by simp); simp only at q0 q1 q2 q3 q4 q5 q6; clear hX; go_simp) hHeld ?_
        simp only [Act.put, List.setIfInBounds_toArray, List.set_cons_zero, List.set_cons_succ]
        refine takeH 2 19 (sv ⟨aT, aP⟩) rfl rfl (by kernel_rfl) (by kernel_rfl) (by kernel_rfl) (fun _ _ _ h => h) (by kernel_rfl) (fun X hX => by obtain ⟨q0, q1⟩ := hX.se (B := S) (s := ⟨aT, aP⟩) (t := 41) (by simp); simp only at q0 q1; clear hX; go_simp) hHeld ?_
        simp only [Act.put, List.setIfInBounds_toArray, List.set_cons_zero, List.set_cons_succ]
        refine wpAnyH_ready (rs := [3]) (by kernel_rfl) (by simp) ?_
        refine (AllReadyH.cons rfl (fun KK hK => ?_) AllReadyH.nil)
        simp only [List.getElem_toArray, List.getElem_cons_succ, List.getElem_cons_zero]
        go_simp
        refine (HCo.out _ (HC.out.next KU.out.drew.2)).mono ?_
        rintro e Y2 ⟨rfl, bz⟩
        have KV := hid (KU.out.drew.next bz)
        refine hK.out _ _ (KV.out.sub (by simp)) (fun hHeld => ?_)
        clear hK KK
        try simp only [Act.put, List.setIfInBounds_toArray, List.set_cons_zero, List.set_cons_succ]
        clear bz KU
        refine takeH 4 21 (.int .i64 ca) rfl rfl (by kernel_rfl) (by kernel_rfl) (by kernel_rfl) (fun _ _ _ h => h) (by kernel_rfl) (fun X hX => by clear hX; first | rfl | go_simp) hHeld ?_
        simp only [Act.put, List.setIfInBounds_toArray, List.set_cons_zero, List.set_cons_succ]
        refine takeH 5 22 (.int .i64 cb) rfl rfl (by kernel_rfl) (by kernel_rfl) (by kernel_rfl) (fun _ _ _ h => h) (by kernel_rfl) (fun X hX => by clear hX; first | rfl | go_simp) hHeld ?_
        simp only [Act.put, List.setIfInBounds_toArray, List.set_cons_zero, List.set_cons_succ]
        refine wpAnyH_ready (rs := [6]) (by kernel_rfl) (by simp) ?_
        refine (AllReadyH.cons rfl (fun KK hK => ?_) AllReadyH.nil)
        simp only [List.getElem_toArray, List.getElem_cons_succ, List.getElem_cons_zero]
        go_simp
        refine (HTg.out _).mono ?_
        rintro e Y3 ⟨rfl, rfl⟩
        refine hK.out _ _ (KV.out.sub (by simp)) (fun hHeld => ?_)
        clear hK KK
        try simp only [Act.put, List.setIfInBounds_toArray, List.set_cons_zero, List.set_cons_succ]
        have hOR := KV.out.at_ (b := R) (cs := sc ⟨0, 0⟩) (t := 41) (by simp)
        have r0 := hOR.cell (k := 0) rfl
        have r1 := hOR.cell (k := 1) rfl
        have s0 := hOR.free 0
        have s1 := hOR.free 1
        clear hOR
        have K8 := hid (((KV.out.sub (l' := [(R, sc ⟨0, 0⟩, 41)]) (by simp)).set (by have := HBR.out; omega) (by intro p hp; cases hp) 0 (.int .i64 aT)).set (by have := HBR.out; omega) (by intro p hp; cases hp) 1 (.int .i64 aP))
        have hSc : Mem w ((Y2.setCell ⟨R, 0, none⟩ (.int .i64 aT)).setCell ⟨R, 1, none⟩ (.int .i64 aP)) [(R, sc ⟨aT, aP⟩, 41), (S, sc ⟨aT, aP⟩, 41), (B, ccl x ⟨ra, rac, rb, rbc, rc, rcc⟩, 30)] := ((KV.out.sub (l' := [(R, sc ⟨0, 0⟩, 41), (S, sc ⟨aT, aP⟩, 41), (B, ccl x ⟨ra, rac, rb, rbc, rc, rcc⟩, 30)]) (by simp)).set (by have := HBR.out; omega) (by
      intro p hp
      have hq := HBR.out
      have hr := HRS.out
      simp only [List.mem_cons, List.not_mem_nil, or_false] at hp
      rcases hp with rfl | rfl
      · show S ≠ R; omega
      · show B ≠ R; omega) 0 (.int .i64 aT)).set (by have := HBR.out; omega) (by
      intro p hp
      have hq := HBR.out
      have hr := HRS.out
      simp only [List.mem_cons, List.not_mem_nil, or_false] at hp
      rcases hp with rfl | rfl
      · show S ≠ R; omega
      · show B ≠ R; omega) 1 (.int .i64 aP)
        refine wpAnyH_ready (rs := [7]) (by kernel_rfl) (by simp) ?_
        refine (AllReadyH.cons rfl (fun KK hK => ?_) AllReadyH.nil)
        simp only [List.getElem_toArray, List.getElem_cons_succ, List.getElem_cons_zero]
        go_simp
        refine hK.out _ _ (hSc.sub (by simp)) (fun hHeld => ?_)
        clear hK KK
        try simp only [Act.put, List.setIfInBounds_toArray, List.set_cons_zero, List.set_cons_succ]
        refine wpAnyH_ready (rs := [8]) (by kernel_rfl) (by simp) ?_
        refine (AllReadyH.cons rfl (fun KK hK => ?_) AllReadyH.nil)
        simp only [List.getElem_toArray, List.getElem_cons_succ, List.getElem_cons_zero]
        go_simp
        refine hK.out _ _ (hSc.sub (by simp)) (fun hHeld => ?_)
        clear hK KK
        try simp only [Act.put, List.setIfInBounds_toArray, List.set_cons_zero, List.set_cons_succ]
        refine wpAnyH_done (by kernel_rfl) ?_ _
        clear hHeld hSc KV r0 r1 s0 s1
        go_wp2_with fail
        obtain ⟨y0, y1⟩ := K8.out.se (B := R) (s := ⟨aT, aP⟩) (t := 41) (by simp)
        simp only at y0 y1
        exact bodyPost_ret (v := .tuple #[sv ⟨aT, aP⟩, .int .i64 (ca + cb)]) (by simp [results, Try.results24, go_sem, y0, y1]) rfl (Did.mk rfl K8.out.2)
    · skip
      simp only [List.getElem_toArray, List.getElem_cons_succ, List.getElem_cons_zero]
      obtain ⟨S, U, hS, hU, K6, zz⟩ := K3.out.one (sc ⟨0, 0⟩) 41
      have HRS := hid (show R < S from by
        have q1 := (K3.out.at_ (b := R) (cs := sc ⟨0, 0⟩) (t := 41) (by simp)).lt
        omega)
      clear zz
      go_simp
      refine hK.out _ _ (K6.out.sub (by simp)) (fun hHeld => ?_)
      clear hK KK
      try simp only [Act.put, List.setIfInBounds_toArray, List.set_cons_zero, List.set_cons_succ]
      clear hS hU K3
      refine wpAnyH_ready (rs := [5]) (by kernel_rfl) (by simp) ?_
      refine (AllReadyH.cons rfl (fun KK hK => ?_) AllReadyH.nil)
      simp only [List.getElem_toArray, List.getElem_cons_succ, List.getElem_cons_zero]
      go_simp
      refine (HP.out _ (HC.out.next K6.out.2)).mono ?_
      rintro e Y00 ⟨rfl, bz⟩
      have K7 := hid (K6.out.next bz)
      refine hK.out _ _ (K7.out.sub (by simp)) (fun hHeld => ?_)
      clear hK KK
      try simp only [Act.put, List.setIfInBounds_toArray, List.set_cons_zero, List.set_cons_succ]
      clear bz K6
      refine takeH 6 11 (sv ⟨aT, aP⟩) rfl rfl (by kernel_rfl) (by kernel_rfl) (by kernel_rfl) (fun _ _ _ h => h) (by kernel_rfl) (fun X hX => by clear hX; first | rfl | go_simp) hHeld ?_
      simp only [Act.put, List.setIfInBounds_toArray, List.set_cons_zero, List.set_cons_succ]
      have hOS := K7.out.at_ (b := S) (cs := sc ⟨0, 0⟩) (t := 41) (by simp)
      have s0 := hOS.free 0
      have s1 := hOS.free 1
      have c0 := hOS.cell (k := 0) rfl
      have c1 := hOS.cell (k := 1) rfl
      have hwS : w.heap.size ≤ S := by have := HBR.out; have := HRS.out; omega
      have Hne := hid (show ∀ p ∈ ([(R, sc ⟨0, 0⟩, 41), (B, ccl x ⟨ra, rac, rb, rbc, rc, rcc⟩, 30)] : Obs), p.1 ≠ S from by
        intro p hp
        have hq := HBR.out
        have hr := HRS.out
        simp only [List.mem_cons, List.not_mem_nil, or_false] at hp
        rcases hp with rfl | rfl
        · show R ≠ S; omega
        · show B ≠ S; omega)
      have KS := hid (((K7.out.sub (l' := [(S, sc ⟨0, 0⟩, 41), (R, sc ⟨0, 0⟩, 41), (B, ccl x ⟨ra, rac, rb, rbc, rc, rcc⟩, 30)]) (by simp)).set hwS Hne.out 0 (.int .i64 aT)).set hwS Hne.out 1 (.int .i64 aP))
      refine wpAnyH_ready (rs := [8]) (by kernel_rfl) (by simp) ?_
      refine (AllReadyH.cons rfl (fun KK hK => ?_) AllReadyH.nil)
      simp only [List.getElem_toArray, List.getElem_cons_succ, List.getElem_cons_zero]
      go_simp
      refine hK.out _ _ (KS.out.sub (by simp)) (fun hHeld => ?_)
      clear hK KK
      try simp only [Act.put, List.setIfInBounds_toArray, List.set_cons_zero, List.set_cons_succ]
      refine wpAnyH_done (by kernel_rfl) ?_ _
      have KT := hid (show Mem w _ [(S, sc ⟨aT, aP⟩, 41), (R, sc ⟨0, 0⟩, 41), (B, ccl x ⟨ra, rac, rb, rbc, rc, rcc⟩, 30)] from KS.out)
      clear hHeld KS hOS s0 s1 c0 c1 K7 Hne
      obtain ⟨Z, hZ⟩ : ∃ Z, (Y00.setCell ⟨S, 0, none⟩ (.int .i64 aT)).setCell ⟨S, 1, none⟩ (.int .i64 aP) = Z := ⟨_, rfl⟩
      rw [hZ] at KT ⊢
      clear hZ
      obtain ⟨e0, e1, e2, e3, e4, e5, e6⟩ := KT.out.cl (B := B) (x := x) (r := ⟨ra, rac, rb, rbc, rc, rcc⟩) (t := 30) (by simp)
      obtain ⟨d0, d1⟩ := KT.out.se (B := S) (s := ⟨aT, aP⟩) (t := 41) (by simp)
      simp only at e0 e1 e2 e3 e4 e5 e6 d0 d1
      go_wp2_with fail
      refine (HW.out _).mono ?_
      rintro e Y1 ⟨rfl, bz⟩
      have KU := hid (KT.out.next bz)
      clear e0 e1 e2 e3 e4 e5 e6 d0 d1 bz KT
      cases wq with
      | false =>
        have hS := HS.out
        have hN := HN.out
        rw [if_neg (by decide)] at hS hN
        subst hS
        subst hN
        have hOR := KU.out.at_ (b := R) (cs := sc ⟨0, 0⟩) (t := 41) (by simp)
        have r0 := hOR.cell (k := 0) rfl
        have r1 := hOR.cell (k := 1) rfl
        have s0 := hOR.free 0
        have s1 := hOR.free 1
        clear hOR
        have K8 := hid (((KU.out.sub (l' := [(R, sc ⟨0, 0⟩, 41)]) (by simp)).set (by have := HBR.out; omega) (by intro p hp; cases hp) 0 (.int .i64 0)).set (by have := HBR.out; omega) (by intro p hp; cases hp) 1 (.int .i64 0))
        go_wp2_with fail
        obtain ⟨y0, y1⟩ := K8.out.se (B := R) (s := ⟨0, 0⟩) (t := 41) (by simp)
        simp only at y0 y1
        exact bodyPost_ret (v := .tuple #[.agg #[.int .i64 0, .int .i64 0], .int .i64 0]) (by simp [results, Try.results24, go_sem, y0, y1]) rfl (Did.mk rfl K8.out.2)
      | true =>
        have hS := HS.out
        have hN := HN.out
        rw [if_pos rfl] at hS hN
        subst hS
        subst hN
        go_wp2_with fail
        refine wp_region_held_drew (S := fun X => Mem w X [(S, sc ⟨aT, aP⟩, 41), (B, ccl x ⟨ra, rac, rb, rbc, rc, rcc⟩, 30)]) (by kernel_rfl) (KU.out.drew.sub (by simp)) (fun hHeld => ?_)
        refine takeH 0 17 (sv ⟨aT, aP⟩) rfl rfl (by kernel_rfl) (by kernel_rfl) (by kernel_rfl) (fun _ _ _ h => h) (by kernel_rfl) (fun X hX => by obtain ⟨q0, q1⟩ := hX.se (B := S) (s := ⟨aT, aP⟩) (t := 41) (by simp); simp only at q0 q1; clear hX; go_simp) hHeld ?_
        simp only [Act.put, List.setIfInBounds_toArray, List.set_cons_zero, List.set_cons_succ]
        refine takeH 1 18 (cv x ⟨ra, rac, rb, rbc, rc, rcc⟩) rfl rfl (by kernel_rfl) (by kernel_rfl) (by kernel_rfl) (fun _ _ _ h => h) (by kernel_rfl) (fun X hX => by obtain ⟨q0, q1, q2, q3, q4, q5, q6⟩ := hX.cl (B := B) (x := x) (r := ⟨ra, rac, rb, rbc, rc, rcc⟩) (t := 30) (by simp); simp only at q0 q1 q2 q3 q4 q5 q6; clear hX; go_simp) hHeld ?_
        simp only [Act.put, List.setIfInBounds_toArray, List.set_cons_zero, List.set_cons_succ]
        refine takeH 2 19 (sv ⟨aT, aP⟩) rfl rfl (by kernel_rfl) (by kernel_rfl) (by kernel_rfl) (fun _ _ _ h => h) (by kernel_rfl) (fun X hX => by obtain ⟨q0, q1⟩ := hX.se (B := S) (s := ⟨aT, aP⟩) (t := 41) (by simp); simp only at q0 q1; clear hX; go_simp) hHeld ?_
        simp only [Act.put, List.setIfInBounds_toArray, List.set_cons_zero, List.set_cons_succ]
        refine wpAnyH_ready (rs := [3]) (by kernel_rfl) (by simp) ?_
        refine (AllReadyH.cons rfl (fun KK hK => ?_) AllReadyH.nil)
        simp only [List.getElem_toArray, List.getElem_cons_succ, List.getElem_cons_zero]
        go_simp
        refine (HCo.out _ (HC.out.next KU.out.drew.2)).mono ?_
        rintro e Y2 ⟨rfl, bz⟩
        have KV := hid (KU.out.drew.next bz)
        refine hK.out _ _ (KV.out.sub (by simp)) (fun hHeld => ?_)
        clear hK KK
        try simp only [Act.put, List.setIfInBounds_toArray, List.set_cons_zero, List.set_cons_succ]
        clear bz KU
        refine takeH 4 21 (.int .i64 ca) rfl rfl (by kernel_rfl) (by kernel_rfl) (by kernel_rfl) (fun _ _ _ h => h) (by kernel_rfl) (fun X hX => by clear hX; first | rfl | go_simp) hHeld ?_
        simp only [Act.put, List.setIfInBounds_toArray, List.set_cons_zero, List.set_cons_succ]
        refine takeH 5 22 (.int .i64 cb) rfl rfl (by kernel_rfl) (by kernel_rfl) (by kernel_rfl) (fun _ _ _ h => h) (by kernel_rfl) (fun X hX => by clear hX; first | rfl | go_simp) hHeld ?_
        simp only [Act.put, List.setIfInBounds_toArray, List.set_cons_zero, List.set_cons_succ]
        refine wpAnyH_ready (rs := [6]) (by kernel_rfl) (by simp) ?_
        refine (AllReadyH.cons rfl (fun KK hK => ?_) AllReadyH.nil)
        simp only [List.getElem_toArray, List.getElem_cons_succ, List.getElem_cons_zero]
        go_simp
        refine (HTg.out _).mono ?_
        rintro e Y3 ⟨rfl, rfl⟩
        refine hK.out _ _ (KV.out.sub (by simp)) (fun hHeld => ?_)
        clear hK KK
        try simp only [Act.put, List.setIfInBounds_toArray, List.set_cons_zero, List.set_cons_succ]
        have hOR := KV.out.at_ (b := R) (cs := sc ⟨0, 0⟩) (t := 41) (by simp)
        have r0 := hOR.cell (k := 0) rfl
        have r1 := hOR.cell (k := 1) rfl
        have s0 := hOR.free 0
        have s1 := hOR.free 1
        clear hOR
        have K8 := hid (((KV.out.sub (l' := [(R, sc ⟨0, 0⟩, 41)]) (by simp)).set (by have := HBR.out; omega) (by intro p hp; cases hp) 0 (.int .i64 aT)).set (by have := HBR.out; omega) (by intro p hp; cases hp) 1 (.int .i64 aP))
        have hSc : Mem w ((Y2.setCell ⟨R, 0, none⟩ (.int .i64 aT)).setCell ⟨R, 1, none⟩ (.int .i64 aP)) [(R, sc ⟨aT, aP⟩, 41), (S, sc ⟨aT, aP⟩, 41), (B, ccl x ⟨ra, rac, rb, rbc, rc, rcc⟩, 30)] := ((KV.out.sub (l' := [(R, sc ⟨0, 0⟩, 41), (S, sc ⟨aT, aP⟩, 41), (B, ccl x ⟨ra, rac, rb, rbc, rc, rcc⟩, 30)]) (by simp)).set (by have := HBR.out; omega) (by
      intro p hp
      have hq := HBR.out
      have hr := HRS.out
      simp only [List.mem_cons, List.not_mem_nil, or_false] at hp
      rcases hp with rfl | rfl
      · show S ≠ R; omega
      · show B ≠ R; omega) 0 (.int .i64 aT)).set (by have := HBR.out; omega) (by
      intro p hp
      have hq := HBR.out
      have hr := HRS.out
      simp only [List.mem_cons, List.not_mem_nil, or_false] at hp
      rcases hp with rfl | rfl
      · show S ≠ R; omega
      · show B ≠ R; omega) 1 (.int .i64 aP)
        refine wpAnyH_ready (rs := [7]) (by kernel_rfl) (by simp) ?_
        refine (AllReadyH.cons rfl (fun KK hK => ?_) AllReadyH.nil)
        simp only [List.getElem_toArray, List.getElem_cons_succ, List.getElem_cons_zero]
        go_simp
        refine hK.out _ _ (hSc.sub (by simp)) (fun hHeld => ?_)
        clear hK KK
        try simp only [Act.put, List.setIfInBounds_toArray, List.set_cons_zero, List.set_cons_succ]
        refine wpAnyH_ready (rs := [8]) (by kernel_rfl) (by simp) ?_
        refine (AllReadyH.cons rfl (fun KK hK => ?_) AllReadyH.nil)
        simp only [List.getElem_toArray, List.getElem_cons_succ, List.getElem_cons_zero]
        go_simp
        refine hK.out _ _ (hSc.sub (by simp)) (fun hHeld => ?_)
        clear hK KK
        try simp only [Act.put, List.setIfInBounds_toArray, List.set_cons_zero, List.set_cons_succ]
        refine wpAnyH_done (by kernel_rfl) ?_ _
        clear hHeld hSc KV r0 r1 s0 s1
        go_wp2_with fail
        obtain ⟨y0, y1⟩ := K8.out.se (B := R) (s := ⟨aT, aP⟩) (t := 41) (by simp)
        simp only at y0 y1
        exact bodyPost_ret (v := .tuple #[sv ⟨aT, aP⟩, .int .i64 (ca + cb)]) (by simp [results, Try.results24, go_sem, y0, y1]) rfl (Did.mk rfl K8.out.2)
  · skip
    simp only [List.getElem_toArray, List.getElem_cons_succ, List.getElem_cons_zero]
    obtain ⟨S, U, hS, hU, K8, zz⟩ := K2.out.one (sc ⟨0, 0⟩) 41
    have HRS := hid (show R < S from by
      have q1 := (K2.out.at_ (b := R) (cs := sc ⟨0, 0⟩) (t := 41) (by simp)).lt
      omega)
    clear zz
    go_simp
    refine hK.out _ _ (K8.out.sub (by simp)) (fun hHeld => ?_)
    clear hK KK
    try simp only [Act.put, List.setIfInBounds_toArray, List.set_cons_zero, List.set_cons_succ]
    clear hS hU K2
    refine wpAnyH_ready (rs := [2]) (by kernel_rfl) (by simp) ?_
    refine (AllReadyH.cons rfl (fun KK hK => ?_) AllReadyH.nil)
    simp only [List.getElem_toArray, List.getElem_cons_succ, List.getElem_cons_zero]
    go_simp
    refine (HT.out _ (HC.out.next K8.out.2)).mono ?_
    rintro e Y0 ⟨rfl, bz⟩
    have K9 := hid (K8.out.next bz)
    refine hK.out _ _ (K9.out.sub (by simp)) (fun hHeld => ?_)
    clear hK KK
    try simp only [Act.put, List.setIfInBounds_toArray, List.set_cons_zero, List.set_cons_succ]
    clear bz K8
    refine wpAnyH_ready (rs := [5]) (by kernel_rfl) (by simp) ?_
    refine (AllReadyH.cons rfl (fun KK hK => ?_) AllReadyH.nil)
    simp only [List.getElem_toArray, List.getElem_cons_succ, List.getElem_cons_zero]
    go_simp
    refine (HP.out _ (HC.out.next K9.out.2)).mono ?_
    rintro e Y00 ⟨rfl, bz⟩
    have K10 := hid (K9.out.next bz)
    refine hK.out _ _ (K10.out.sub (by simp)) (fun hHeld => ?_)
    clear hK KK
    try simp only [Act.put, List.setIfInBounds_toArray, List.set_cons_zero, List.set_cons_succ]
    clear bz K9
    refine takeH 6 11 (sv ⟨aT, aP⟩) rfl rfl (by kernel_rfl) (by kernel_rfl) (by kernel_rfl) (fun _ _ _ h => h) (by kernel_rfl) (fun X hX => by clear hX; first | rfl | go_simp) hHeld ?_
    simp only [Act.put, List.setIfInBounds_toArray, List.set_cons_zero, List.set_cons_succ]
    have hOS := K10.out.at_ (b := S) (cs := sc ⟨0, 0⟩) (t := 41) (by simp)
    have s0 := hOS.free 0
    have s1 := hOS.free 1
    have c0 := hOS.cell (k := 0) rfl
    have c1 := hOS.cell (k := 1) rfl
    have hwS : w.heap.size ≤ S := by have := HBR.out; have := HRS.out; omega
    have Hne := hid (show ∀ p ∈ ([(R, sc ⟨0, 0⟩, 41), (B, ccl x ⟨ra, rac, rb, rbc, rc, rcc⟩, 30)] : Obs), p.1 ≠ S from by
      intro p hp
      have hq := HBR.out
      have hr := HRS.out
      simp only [List.mem_cons, List.not_mem_nil, or_false] at hp
      rcases hp with rfl | rfl
      · show R ≠ S; omega
      · show B ≠ S; omega)
    have KS := hid (((K10.out.sub (l' := [(S, sc ⟨0, 0⟩, 41), (R, sc ⟨0, 0⟩, 41), (B, ccl x ⟨ra, rac, rb, rbc, rc, rcc⟩, 30)]) (by simp)).set hwS Hne.out 0 (.int .i64 aT)).set hwS Hne.out 1 (.int .i64 aP))
    refine wpAnyH_ready (rs := [8]) (by kernel_rfl) (by simp) ?_
    refine (AllReadyH.cons rfl (fun KK hK => ?_) AllReadyH.nil)
    simp only [List.getElem_toArray, List.getElem_cons_succ, List.getElem_cons_zero]
    go_simp
    refine hK.out _ _ (KS.out.sub (by simp)) (fun hHeld => ?_)
    clear hK KK
    try simp only [Act.put, List.setIfInBounds_toArray, List.set_cons_zero, List.set_cons_succ]
    refine wpAnyH_done (by kernel_rfl) ?_ _
    have KT := hid (show Mem w _ [(S, sc ⟨aT, aP⟩, 41), (R, sc ⟨0, 0⟩, 41), (B, ccl x ⟨ra, rac, rb, rbc, rc, rcc⟩, 30)] from KS.out)
    clear hHeld KS hOS s0 s1 c0 c1 K10 Hne
    obtain ⟨Z, hZ⟩ : ∃ Z, (Y00.setCell ⟨S, 0, none⟩ (.int .i64 aT)).setCell ⟨S, 1, none⟩ (.int .i64 aP) = Z := ⟨_, rfl⟩
    rw [hZ] at KT ⊢
    clear hZ
    obtain ⟨e0, e1, e2, e3, e4, e5, e6⟩ := KT.out.cl (B := B) (x := x) (r := ⟨ra, rac, rb, rbc, rc, rcc⟩) (t := 30) (by simp)
    obtain ⟨d0, d1⟩ := KT.out.se (B := S) (s := ⟨aT, aP⟩) (t := 41) (by simp)
    simp only at e0 e1 e2 e3 e4 e5 e6 d0 d1
    go_wp2_with fail
    refine (HW.out _).mono ?_
    rintro e Y1 ⟨rfl, bz⟩
    have KU := hid (KT.out.next bz)
    clear e0 e1 e2 e3 e4 e5 e6 d0 d1 bz KT
    cases wq with
    | false =>
      have hS := HS.out
      have hN := HN.out
      rw [if_neg (by decide)] at hS hN
      subst hS
      subst hN
      have hOR := KU.out.at_ (b := R) (cs := sc ⟨0, 0⟩) (t := 41) (by simp)
      have r0 := hOR.cell (k := 0) rfl
      have r1 := hOR.cell (k := 1) rfl
      have s0 := hOR.free 0
      have s1 := hOR.free 1
      clear hOR
      have K8 := hid (((KU.out.sub (l' := [(R, sc ⟨0, 0⟩, 41)]) (by simp)).set (by have := HBR.out; omega) (by intro p hp; cases hp) 0 (.int .i64 0)).set (by have := HBR.out; omega) (by intro p hp; cases hp) 1 (.int .i64 0))
      go_wp2_with fail
      obtain ⟨y0, y1⟩ := K8.out.se (B := R) (s := ⟨0, 0⟩) (t := 41) (by simp)
      simp only at y0 y1
      exact bodyPost_ret (v := .tuple #[.agg #[.int .i64 0, .int .i64 0], .int .i64 0]) (by simp [results, Try.results24, go_sem, y0, y1]) rfl (Did.mk rfl K8.out.2)
    | true =>
      have hS := HS.out
      have hN := HN.out
      rw [if_pos rfl] at hS hN
      subst hS
      subst hN
      go_wp2_with fail
      refine wp_region_held_drew (S := fun X => Mem w X [(S, sc ⟨aT, aP⟩, 41), (B, ccl x ⟨ra, rac, rb, rbc, rc, rcc⟩, 30)]) (by kernel_rfl) (KU.out.drew.sub (by simp)) (fun hHeld => ?_)
      refine takeH 0 17 (sv ⟨aT, aP⟩) rfl rfl (by kernel_rfl) (by kernel_rfl) (by kernel_rfl) (fun _ _ _ h => h) (by kernel_rfl) (fun X hX => by obtain ⟨q0, q1⟩ := hX.se (B := S) (s := ⟨aT, aP⟩) (t := 41) (by simp); simp only at q0 q1; clear hX; go_simp) hHeld ?_
      simp only [Act.put, List.setIfInBounds_toArray, List.set_cons_zero, List.set_cons_succ]
      refine takeH 1 18 (cv x ⟨ra, rac, rb, rbc, rc, rcc⟩) rfl rfl (by kernel_rfl) (by kernel_rfl) (by kernel_rfl) (fun _ _ _ h => h) (by kernel_rfl) (fun X hX => by obtain ⟨q0, q1, q2, q3, q4, q5, q6⟩ := hX.cl (B := B) (x := x) (r := ⟨ra, rac, rb, rbc, rc, rcc⟩) (t := 30) (by simp); simp only at q0 q1 q2 q3 q4 q5 q6; clear hX; go_simp) hHeld ?_
      simp only [Act.put, List.setIfInBounds_toArray, List.set_cons_zero, List.set_cons_succ]
      refine takeH 2 19 (sv ⟨aT, aP⟩) rfl rfl (by kernel_rfl) (by kernel_rfl) (by kernel_rfl) (fun _ _ _ h => h) (by kernel_rfl) (fun X hX => by obtain ⟨q0, q1⟩ := hX.se (B := S) (s := ⟨aT, aP⟩) (t := 41) (by simp); simp only at q0 q1; clear hX; go_simp) hHeld ?_
      simp only [Act.put, List.setIfInBounds_toArray, List.set_cons_zero, List.set_cons_succ]
      refine wpAnyH_ready (rs := [3]) (by kernel_rfl) (by simp) ?_
      refine (AllReadyH.cons rfl (fun KK hK => ?_) AllReadyH.nil)
      simp only [List.getElem_toArray, List.getElem_cons_succ, List.getElem_cons_zero]
      go_simp
      refine (HCo.out _ (HC.out.next KU.out.drew.2)).mono ?_
      rintro e Y2 ⟨rfl, bz⟩
      have KV := hid (KU.out.drew.next bz)
      refine hK.out _ _ (KV.out.sub (by simp)) (fun hHeld => ?_)
      clear hK KK
      try simp only [Act.put, List.setIfInBounds_toArray, List.set_cons_zero, List.set_cons_succ]
      clear bz KU
      refine takeH 4 21 (.int .i64 ca) rfl rfl (by kernel_rfl) (by kernel_rfl) (by kernel_rfl) (fun _ _ _ h => h) (by kernel_rfl) (fun X hX => by clear hX; first | rfl | go_simp) hHeld ?_
      simp only [Act.put, List.setIfInBounds_toArray, List.set_cons_zero, List.set_cons_succ]
      refine takeH 5 22 (.int .i64 cb) rfl rfl (by kernel_rfl) (by kernel_rfl) (by kernel_rfl) (fun _ _ _ h => h) (by kernel_rfl) (fun X hX => by clear hX; first | rfl | go_simp) hHeld ?_
      simp only [Act.put, List.setIfInBounds_toArray, List.set_cons_zero, List.set_cons_succ]
      refine wpAnyH_ready (rs := [6]) (by kernel_rfl) (by simp) ?_
      refine (AllReadyH.cons rfl (fun KK hK => ?_) AllReadyH.nil)
      simp only [List.getElem_toArray, List.getElem_cons_succ, List.getElem_cons_zero]
      go_simp
      refine (HTg.out _).mono ?_
      rintro e Y3 ⟨rfl, rfl⟩
      refine hK.out _ _ (KV.out.sub (by simp)) (fun hHeld => ?_)
      clear hK KK
      try simp only [Act.put, List.setIfInBounds_toArray, List.set_cons_zero, List.set_cons_succ]
      have hOR := KV.out.at_ (b := R) (cs := sc ⟨0, 0⟩) (t := 41) (by simp)
      have r0 := hOR.cell (k := 0) rfl
      have r1 := hOR.cell (k := 1) rfl
      have s0 := hOR.free 0
      have s1 := hOR.free 1
      clear hOR
      have K8 := hid (((KV.out.sub (l' := [(R, sc ⟨0, 0⟩, 41)]) (by simp)).set (by have := HBR.out; omega) (by intro p hp; cases hp) 0 (.int .i64 aT)).set (by have := HBR.out; omega) (by intro p hp; cases hp) 1 (.int .i64 aP))
      have hSc : Mem w ((Y2.setCell ⟨R, 0, none⟩ (.int .i64 aT)).setCell ⟨R, 1, none⟩ (.int .i64 aP)) [(R, sc ⟨aT, aP⟩, 41), (S, sc ⟨aT, aP⟩, 41), (B, ccl x ⟨ra, rac, rb, rbc, rc, rcc⟩, 30)] := ((KV.out.sub (l' := [(R, sc ⟨0, 0⟩, 41), (S, sc ⟨aT, aP⟩, 41), (B, ccl x ⟨ra, rac, rb, rbc, rc, rcc⟩, 30)]) (by simp)).set (by have := HBR.out; omega) (by
      intro p hp
      have hq := HBR.out
      have hr := HRS.out
      simp only [List.mem_cons, List.not_mem_nil, or_false] at hp
      rcases hp with rfl | rfl
      · show S ≠ R; omega
      · show B ≠ R; omega) 0 (.int .i64 aT)).set (by have := HBR.out; omega) (by
      intro p hp
      have hq := HBR.out
      have hr := HRS.out
      simp only [List.mem_cons, List.not_mem_nil, or_false] at hp
      rcases hp with rfl | rfl
      · show S ≠ R; omega
      · show B ≠ R; omega) 1 (.int .i64 aP)
      refine wpAnyH_ready (rs := [7]) (by kernel_rfl) (by simp) ?_
      refine (AllReadyH.cons rfl (fun KK hK => ?_) AllReadyH.nil)
      simp only [List.getElem_toArray, List.getElem_cons_succ, List.getElem_cons_zero]
      go_simp
      refine hK.out _ _ (hSc.sub (by simp)) (fun hHeld => ?_)
      clear hK KK
      try simp only [Act.put, List.setIfInBounds_toArray, List.set_cons_zero, List.set_cons_succ]
      refine wpAnyH_ready (rs := [8]) (by kernel_rfl) (by simp) ?_
      refine (AllReadyH.cons rfl (fun KK hK => ?_) AllReadyH.nil)
      simp only [List.getElem_toArray, List.getElem_cons_succ, List.getElem_cons_zero]
      go_simp
      refine hK.out _ _ (hSc.sub (by simp)) (fun hHeld => ?_)
      clear hK KK
      try simp only [Act.put, List.setIfInBounds_toArray, List.set_cons_zero, List.set_cons_succ]
      refine wpAnyH_done (by kernel_rfl) ?_ _
      clear hHeld hSc KV r0 r1 s0 s1
      go_wp2_with fail
      obtain ⟨y0, y1⟩ := K8.out.se (B := R) (s := ⟨aT, aP⟩) (t := 41) (by simp)
      simp only at y0 y1
      exact bodyPost_ret (v := .tuple #[sv ⟨aT, aP⟩, .int .i64 (ca + cb)]) (by simp [results, Try.results24, go_sem, y0, y1]) rfl (Did.mk rfl K8.out.2)
end Go.Proofs.Ytcnpfchopjopeaa
