/- Contract of the program's own Seats (layer 13, class). -/
import Derived.Test.YtcnpfchopjopeaaClsP
import Derived.Test.YtcnpfchopjopeaaClsD
namespace Go.Proofs.Ytcnpfchopjopeaa
open Go.RowKit
open Whn (Gr Wh)

/-- where the places begin -/
def fst (x : Cl) : Int := if x.l.length = 0 then -1 else 0
theorem fst_bnd (x : Cl) : -1 ≤ fst x ∧ fst x ≤ 0 ∧ fst x + (max 1 x.l.length : Nat) = (x.l.length : Int) := by
  unfold fst
  split <;> omega
/-- hands out what goes over the seats, over three boxes of its own -/
def SqRet (x : Cl) (w : World) (e : Ending) (w' : World) : Prop := ∃ T F P, e = .returned (.func (.func 38) #[] #[.pointer (some ⟨T, 0, none⟩), .pointer (some ⟨F, 0, none⟩), .pointer (some ⟨P, 0, none⟩)]) ∧
  Mem w w' [(T, [.int .i64 (x.t.length : Nat)], 3), (F, [.int .i64 (fst x)], 3), (P, [.int .i64 (x.l.length : Nat)], 3)] ∧ w.heap.size ≤ T ∧ w.heap.size ≤ F ∧ w.heap.size ≤ P
set_option maxRecDepth 20000 in
set_option maxHeartbeats 4000000 in
theorem p_Seats (x : Cl) (r : Cw) (w : World) : Calls Try.prog 14 #[cv x r] w (SqRet x w) := by
  obtain ⟨B, W, hB, hW, K1, z0⟩ := (Mem.nil w).one (ccl x r) 30
  clear z0
  have HBw := hid (show w.heap.size ≤ B from by omega)
  have HBl := hid (K1.out.at_ (b := B) (cs := ccl x r) (t := 30) (by simp)).lt
  go_enter Try.func14, Try.ntmps14
  go_wp2_with fail
  refine wp_region_held_drew (S := fun X => Mem w X [(B, ccl x r, 30)]) (by kernel_rfl) K1.out.drew (fun hHeld => ?_)
  refine takeH 0 6 (.pointer (some ⟨B, 4, none⟩)) rfl rfl (by kernel_rfl) (by kernel_rfl) (by kernel_rfl) (fun _ _ _ h => h) (by kernel_rfl) (fun X hX => by clear hX; first | rfl | go_simp) hHeld ?_
  simp only [Act.put, List.setIfInBounds_toArray, List.set_cons_zero, List.set_cons_succ]
  refine takeH 1 7 (.slice r.b x.t.length r.bc) rfl rfl (by kernel_rfl) (by kernel_rfl) (by kernel_rfl) (fun _ _ _ h => h) (by kernel_rfl) (fun X hX => by obtain ⟨q0, q1, q2, q3, q4, q5, q6⟩ := hX.cl (B := B) (x := x) (r := r) (t := 30) (by simp); clear hX; go_simp) hHeld ?_
  simp only [Act.put, List.setIfInBounds_toArray, List.set_cons_zero, List.set_cons_succ]
  refine takeH 2 8 (.int .i64 (x.t.length : Nat)) rfl rfl (by kernel_rfl) (by kernel_rfl) (by kernel_rfl) (fun _ _ _ h => h) (by kernel_rfl) (fun X hX => by clear hX; first | rfl | go_simp) hHeld ?_
  simp only [Act.put, List.setIfInBounds_toArray, List.set_cons_zero, List.set_cons_succ]
  refine takeH 3 9 (.pointer (some ⟨B, 5, none⟩)) rfl rfl (by kernel_rfl) (by kernel_rfl) (by kernel_rfl) (fun _ _ _ h => h) (by kernel_rfl) (fun X hX => by clear hX; first | rfl | go_simp) hHeld ?_
  simp only [Act.put, List.setIfInBounds_toArray, List.set_cons_zero, List.set_cons_succ]
  refine takeH 4 10 (.slice r.c x.l.length r.cc) rfl rfl (by kernel_rfl) (by kernel_rfl) (by kernel_rfl) (fun _ _ _ h => h) (by kernel_rfl) (fun X hX => by obtain ⟨q0, q1, q2, q3, q4, q5, q6⟩ := hX.cl (B := B) (x := x) (r := r) (t := 30) (by simp); clear hX; go_simp) hHeld ?_
  simp only [Act.put, List.setIfInBounds_toArray, List.set_cons_zero, List.set_cons_succ]
  refine takeH 5 11 (.int .i64 (x.l.length : Nat)) rfl rfl (by kernel_rfl) (by kernel_rfl) (by kernel_rfl) (fun _ _ _ h => h) (by kernel_rfl) (fun X hX => by clear hX; first | rfl | go_simp) hHeld ?_
  simp only [Act.put, List.setIfInBounds_toArray, List.set_cons_zero, List.set_cons_succ]
  have K2 := hid K1.out.drew
  clear K1
  refine wpAnyH_ready (rs := [6, 7]) (by kernel_rfl) (by simp) ?_
  refine (AllReadyH.cons rfl (fun KK hK => ?_) (AllReadyH.cons rfl (fun KK hK => ?_) AllReadyH.nil))
  · skip
    simp only [List.getElem_toArray, List.getElem_cons_succ, List.getElem_cons_zero]
    obtain ⟨T, U1, hT, hU1, K3, zz⟩ := K2.out.one [.int .i64 0] 3
    have HVT := hid (show B < T from by have := (K2.out.at_ (b := B) (cs := ccl x r) (t := 30) (by simp)).lt; omega)
    go_simp
    refine hK.out _ _ (K3.out.sub (by simp)) (fun hHeld => ?_)
    clear hK KK
    try simp only [Act.put, List.setIfInBounds_toArray, List.set_cons_zero, List.set_cons_succ]
    clear zz hT hU1
    refine wpAnyH_ready (rs := [7]) (by kernel_rfl) (by simp) ?_
    refine (AllReadyH.cons rfl (fun KK hK => ?_) AllReadyH.nil)
    simp only [List.getElem_toArray, List.getElem_cons_succ, List.getElem_cons_zero]
    obtain ⟨P, U2, hP, hU2, K4, zz⟩ := K3.out.one [.int .i64 0] 3
    have HV2 := hid (show T < P from by have := (K3.out.at_ (b := T) (cs := [.int .i64 0]) (t := 3) (by simp)).lt; omega)
    go_simp
    refine hK.out _ _ (K4.out.sub (by simp)) (fun hHeld => ?_)
    clear hK KK
    try simp only [Act.put, List.setIfInBounds_toArray, List.set_cons_zero, List.set_cons_succ]
    clear zz hP hU2 K2 K3
    have hTB : B < T ∧ B < P ∧ T ≠ P ∧ w.heap.size ≤ T ∧ w.heap.size ≤ P := by have := HBw.out; have := HVT.out; have := HV2.out; omega
    have HTB := hid hTB
    clear hTB
    have KS := hid ((K4.out.sub (l' := [(T, [.int .i64 0], 3), (P, [.int .i64 0], 3), (B, ccl x r, 30)]) (by simp)).set (by have := HTB.out; omega) (by
      intro p hp
      have hq := HTB.out
      simp only [List.mem_cons, List.not_mem_nil, or_false] at hp
      rcases hp with rfl | rfl
      · show P ≠ T; omega
      · show B ≠ T; omega) 0 (.int .i64 (x.t.length : Nat)))
    have o0 := K4.out.at_ (b := T) (cs := [.int .i64 0]) (t := 3) (by simp)
    have o1 := o0.free 0
    have o2 := o0.cell (k := 0) rfl
    refine wpAnyH_ready (rs := [8]) (by kernel_rfl) (by simp) ?_
    refine (AllReadyH.cons rfl (fun KK hK => ?_) AllReadyH.nil)
    simp only [List.getElem_toArray, List.getElem_cons_succ, List.getElem_cons_zero]
    go_simp
    refine hK.out _ _ (KS.out.sub (by simp)) (fun hHeld => ?_)
    clear hK KK
    try simp only [Act.put, List.setIfInBounds_toArray, List.set_cons_zero, List.set_cons_succ]
    have KT := hid ((KS.out.sub (l' := [(P, [.int .i64 0], 3), (T, [.int .i64 (x.t.length : Nat)], 3), (B, ccl x r, 30)]) (by simp)).set (by have := HTB.out; omega) (by
      intro p hp
      have hq := HTB.out
      simp only [List.mem_cons, List.not_mem_nil, or_false] at hp
      rcases hp with rfl | rfl
      · show T ≠ P; omega
      · show B ≠ P; omega) 0 (.int .i64 (x.l.length : Nat)))
    have o0 := KS.out.at_ (b := P) (cs := [.int .i64 0]) (t := 3) (by simp)
    have o3 := o0.free 0
    have o4 := o0.cell (k := 0) rfl
    refine wpAnyH_ready (rs := [9]) (by kernel_rfl) (by simp) ?_
    refine (AllReadyH.cons rfl (fun KK hK => ?_) AllReadyH.nil)
    simp only [List.getElem_toArray, List.getElem_cons_succ, List.getElem_cons_zero]
    go_simp
    refine hK.out _ _ (KT.out.sub (by simp)) (fun hHeld => ?_)
    clear hK KK
    try simp only [Act.put, List.setIfInBounds_toArray, List.set_cons_zero, List.set_cons_succ]
    refine wpAnyH_done (by kernel_rfl) ?_ _
    have KU := hid (show Mem w _ [(P, [.int .i64 (x.l.length : Nat)], 3), (T, [.int .i64 (x.t.length : Nat)], 3)] from KT.out.sub (by simp))
    clear hHeld KS KT o0 o1 o2 o3 o4 K4
    obtain ⟨Z, hZ⟩ : ∃ Z, (U2.setCell ⟨T, 0, none⟩ (.int .i64 (x.t.length : Nat))).setCell ⟨P, 0, none⟩ (.int .i64 (x.l.length : Nat)) = Z := ⟨_, rfl⟩
    rw [hZ] at KU ⊢
    clear hZ
    obtain ⟨F, Y, hF, hY, KF, zz⟩ := KU.out.one [.int .i64 0] 3
    have HF := hid (show T < F ∧ P < F from ⟨by have := (KU.out.at_ (b := T) (cs := [.int .i64 (x.t.length : Nat)]) (t := 3) (by simp)).lt; omega, by have := (KU.out.at_ (b := P) (cs := [.int .i64 (x.l.length : Nat)]) (t := 3) (by simp)).lt; omega⟩)
    have c1 := KF.out.cell (b := P) (cs := [.int .i64 (x.l.length : Nat)]) (t := 3) (by simp) (k := 0) rfl
    have o1 := KF.out.at_ (b := F) (cs := [.int .i64 0]) (t := 3) (by simp)
    have c2 := o1.cell (k := 0) rfl
    have c3 := o1.free 0
    have Hne := hid (show ∀ p ∈ ([(P, [.int .i64 (x.l.length : Nat)], 3), (T, [.int .i64 (x.t.length : Nat)], 3)] : Obs), p.1 ≠ F from by
      intro p hp
      have hq := HF.out
      simp only [List.mem_cons, List.not_mem_nil, or_false] at hp
      rcases hp with rfl | rfl
      · show P ≠ F; omega
      · show T ≠ F; omega)
    clear zz o1 KU
    have HwF : w.heap.size ≤ F := by have := HTB.out; have := HF.out; omega
    have K0 := hid (KF.out.set HwF Hne.out 0 (.int .i64 0))
    go_upto_region 3 with fail
    obtain ⟨Z2, hZ2⟩ : ∃ Z, Y.setCell ⟨F, 0, none⟩ (.int .i64 0) = Z := ⟨_, rfl⟩
    rw [hZ2] at K0 ⊢
    clear hZ2 KF c1 c2 c3
    have K0 := hid (show Mem w Z2 [(F, [.int .i64 0], 3), (P, [.int .i64 (x.l.length : Nat)], 3), (T, [.int .i64 (x.t.length : Nat)], 3)] from K0.out)
    have c1 := K0.out.cell (b := P) (cs := [.int .i64 (x.l.length : Nat)]) (t := 3) (by simp) (k := 0) rfl
    have o1 := K0.out.at_ (b := F) (cs := [.int .i64 0]) (t := 3) (by simp)
    have c2 := o1.cell (k := 0) rfl
    have c3 := o1.free 0
    clear o1
    by_cases h0 : x.l.length = 0
    · have q0 : ((x.l.length : Int) == 0) = true := by rw [beq_iff_eq]; omega
      have K9 := hid (K0.out.set HwF Hne.out 0 (.int .i64 (-1)))
      have hfs := hid (show fst x = -1 by unfold fst; rw [if_pos h0])
      clear h0 K0
      go_wp2_with fail
      go_ret
      exact ⟨T, F, P, rfl, by rw [hfs.out]; exact K9.out.sub (by simp), HTB.out.2.2.2.1, HwF, HTB.out.2.2.2.2⟩
    · have q0 : ((x.l.length : Int) == 0) = false := by rw [beq_eq_false_iff_ne]; omega
      have hfs := hid (show fst x = 0 by unfold fst; rw [if_neg h0])
      clear h0
      go_wp2_with fail
      go_ret
      exact ⟨T, F, P, rfl, by rw [hfs.out]; exact K0.out.sub (by simp), HTB.out.2.2.2.1, HwF, HTB.out.2.2.2.2⟩
  · skip
    simp only [List.getElem_toArray, List.getElem_cons_succ, List.getElem_cons_zero]
    obtain ⟨P, U1, hP, hU1, K3, zz⟩ := K2.out.one [.int .i64 0] 3
    have HVP := hid (show B < P from by have := (K2.out.at_ (b := B) (cs := ccl x r) (t := 30) (by simp)).lt; omega)
    go_simp
    refine hK.out _ _ (K3.out.sub (by simp)) (fun hHeld => ?_)
    clear hK KK
    try simp only [Act.put, List.setIfInBounds_toArray, List.set_cons_zero, List.set_cons_succ]
    clear zz hP hU1
    refine wpAnyH_ready (rs := [6]) (by kernel_rfl) (by simp) ?_
    refine (AllReadyH.cons rfl (fun KK hK => ?_) AllReadyH.nil)
    simp only [List.getElem_toArray, List.getElem_cons_succ, List.getElem_cons_zero]
    obtain ⟨T, U2, hT, hU2, K4, zz⟩ := K3.out.one [.int .i64 0] 3
    have HV2 := hid (show P < T from by have := (K3.out.at_ (b := P) (cs := [.int .i64 0]) (t := 3) (by simp)).lt; omega)
    go_simp
    refine hK.out _ _ (K4.out.sub (by simp)) (fun hHeld => ?_)
    clear hK KK
    try simp only [Act.put, List.setIfInBounds_toArray, List.set_cons_zero, List.set_cons_succ]
    clear zz hT hU2 K2 K3
    have hTB : B < T ∧ B < P ∧ T ≠ P ∧ w.heap.size ≤ T ∧ w.heap.size ≤ P := by have := HBw.out; have := HVP.out; have := HV2.out; omega
    have HTB := hid hTB
    clear hTB
    have KS := hid ((K4.out.sub (l' := [(T, [.int .i64 0], 3), (P, [.int .i64 0], 3), (B, ccl x r, 30)]) (by simp)).set (by have := HTB.out; omega) (by
      intro p hp
      have hq := HTB.out
      simp only [List.mem_cons, List.not_mem_nil, or_false] at hp
      rcases hp with rfl | rfl
      · show P ≠ T; omega
      · show B ≠ T; omega) 0 (.int .i64 (x.t.length : Nat)))
    have o0 := K4.out.at_ (b := T) (cs := [.int .i64 0]) (t := 3) (by simp)
    have o1 := o0.free 0
    have o2 := o0.cell (k := 0) rfl
    refine wpAnyH_ready (rs := [8]) (by kernel_rfl) (by simp) ?_
    refine (AllReadyH.cons rfl (fun KK hK => ?_) AllReadyH.nil)
    simp only [List.getElem_toArray, List.getElem_cons_succ, List.getElem_cons_zero]
    go_simp
    refine hK.out _ _ (KS.out.sub (by simp)) (fun hHeld => ?_)
    clear hK KK
    try simp only [Act.put, List.setIfInBounds_toArray, List.set_cons_zero, List.set_cons_succ]
    have KT := hid ((KS.out.sub (l' := [(P, [.int .i64 0], 3), (T, [.int .i64 (x.t.length : Nat)], 3), (B, ccl x r, 30)]) (by simp)).set (by have := HTB.out; omega) (by
      intro p hp
      have hq := HTB.out
      simp only [List.mem_cons, List.not_mem_nil, or_false] at hp
      rcases hp with rfl | rfl
      · show T ≠ P; omega
      · show B ≠ P; omega) 0 (.int .i64 (x.l.length : Nat)))
    have o0 := KS.out.at_ (b := P) (cs := [.int .i64 0]) (t := 3) (by simp)
    have o3 := o0.free 0
    have o4 := o0.cell (k := 0) rfl
    refine wpAnyH_ready (rs := [9]) (by kernel_rfl) (by simp) ?_
    refine (AllReadyH.cons rfl (fun KK hK => ?_) AllReadyH.nil)
    simp only [List.getElem_toArray, List.getElem_cons_succ, List.getElem_cons_zero]
    go_simp
    refine hK.out _ _ (KT.out.sub (by simp)) (fun hHeld => ?_)
    clear hK KK
    try simp only [Act.put, List.setIfInBounds_toArray, List.set_cons_zero, List.set_cons_succ]
    refine wpAnyH_done (by kernel_rfl) ?_ _
    have KU := hid (show Mem w _ [(P, [.int .i64 (x.l.length : Nat)], 3), (T, [.int .i64 (x.t.length : Nat)], 3)] from KT.out.sub (by simp))
    clear hHeld KS KT o0 o1 o2 o3 o4 K4
    obtain ⟨Z, hZ⟩ : ∃ Z, (U2.setCell ⟨T, 0, none⟩ (.int .i64 (x.t.length : Nat))).setCell ⟨P, 0, none⟩ (.int .i64 (x.l.length : Nat)) = Z := ⟨_, rfl⟩
    rw [hZ] at KU ⊢
    clear hZ
    obtain ⟨F, Y, hF, hY, KF, zz⟩ := KU.out.one [.int .i64 0] 3
    have HF := hid (show T < F ∧ P < F from ⟨by have := (KU.out.at_ (b := T) (cs := [.int .i64 (x.t.length : Nat)]) (t := 3) (by simp)).lt; omega, by have := (KU.out.at_ (b := P) (cs := [.int .i64 (x.l.length : Nat)]) (t := 3) (by simp)).lt; omega⟩)
    have c1 := KF.out.cell (b := P) (cs := [.int .i64 (x.l.length : Nat)]) (t := 3) (by simp) (k := 0) rfl
    have o1 := KF.out.at_ (b := F) (cs := [.int .i64 0]) (t := 3) (by simp)
    have c2 := o1.cell (k := 0) rfl
    have c3 := o1.free 0
    have Hne := hid (show ∀ p ∈ ([(P, [.int .i64 (x.l.length : Nat)], 3), (T, [.int .i64 (x.t.length : Nat)], 3)] : Obs), p.1 ≠ F from by
      intro p hp
      have hq := HF.out
      simp only [List.mem_cons, List.not_mem_nil, or_false] at hp
      rcases hp with rfl | rfl
      · show P ≠ F; omega
      · show T ≠ F; omega)
    clear zz o1 KU
    have HwF : w.heap.size ≤ F := by have := HTB.out; have := HF.out; omega
    have K0 := hid (KF.out.set HwF Hne.out 0 (.int .i64 0))
    go_upto_region 3 with fail
    obtain ⟨Z2, hZ2⟩ : ∃ Z, Y.setCell ⟨F, 0, none⟩ (.int .i64 0) = Z := ⟨_, rfl⟩
    rw [hZ2] at K0 ⊢
    clear hZ2 KF c1 c2 c3
    have K0 := hid (show Mem w Z2 [(F, [.int .i64 0], 3), (P, [.int .i64 (x.l.length : Nat)], 3), (T, [.int .i64 (x.t.length : Nat)], 3)] from K0.out)
    have c1 := K0.out.cell (b := P) (cs := [.int .i64 (x.l.length : Nat)]) (t := 3) (by simp) (k := 0) rfl
    have o1 := K0.out.at_ (b := F) (cs := [.int .i64 0]) (t := 3) (by simp)
    have c2 := o1.cell (k := 0) rfl
    have c3 := o1.free 0
    clear o1
    by_cases h0 : x.l.length = 0
    · have q0 : ((x.l.length : Int) == 0) = true := by rw [beq_iff_eq]; omega
      have K9 := hid (K0.out.set HwF Hne.out 0 (.int .i64 (-1)))
      have hfs := hid (show fst x = -1 by unfold fst; rw [if_pos h0])
      clear h0 K0
      go_wp2_with fail
      go_ret
      exact ⟨T, F, P, rfl, by rw [hfs.out]; exact K9.out.sub (by simp), HTB.out.2.2.2.1, HwF, HTB.out.2.2.2.2⟩
    · have q0 : ((x.l.length : Int) == 0) = false := by rw [beq_eq_false_iff_ne]; omega
      have hfs := hid (show fst x = 0 by unfold fst; rw [if_neg h0])
      clear h0
      go_wp2_with fail
      go_ret
      exact ⟨T, F, P, rfl, by rw [hfs.out]; exact K0.out.sub (by simp), HTB.out.2.2.2.1, HwF, HTB.out.2.2.2.2⟩
end Go.Proofs.Ytcnpfchopjopeaa
