/- What the proof of ProblemCopies stands on, part 9. -/
import Derived.WalkKit
import Derived.Deep.DeepCutAuto
import Derived.RangeFuncNested
import Derived.RangeFuncBound
import Derived.RangeFuncCalls
import Derived.RangeFuncLeaves
import Derived.RangeFuncBox
import Derived.Shelf.Abstract
import Derived.OwnWalkIn
import Derived.TacticsInMore
import Derived.LoopNIn
import Derived.LoopIn
import Derived.Test.YtgmgccepmalahaaGreatCpAE
namespace Go.Proofs.YtgmgccepmalahaaGreat
open Go.RowKit
open Whn (Gr Wh)
def fst (x : Cl) : Int := if x.l.length = 0 then -1 else 0
theorem fst_bnd (x : Cl) : -1 ≤ fst x ∧ fst x ≤ 0 ∧ fst x + (max 1 x.l.length : Nat) = (x.l.length : Int) := by
 unfold fst
 split <;> omega
def SqRet (x : Cl) (w : World) (e : Ending) (w' : World) : Prop := ∃ T F P, e = .returned (.func (.func 193) #[] #[.pointer (some ⟨T, 0, none⟩), .pointer (some ⟨F, 0, none⟩), .pointer (some ⟨P, 0, none⟩)]) ∧
 Mem w w' [(T, [.int .i64 (x.t.length : Nat)], 3), (F, [.int .i64 (fst x)], 3), (P, [.int .i64 (x.l.length : Nat)], 3)] ∧ w.heap.size ≤ T ∧ w.heap.size ≤ F ∧ w.heap.size ≤ P
set_option maxRecDepth 20000 in
set_option maxHeartbeats 4000000 in
theorem p_Seats (x : Cl) (r : Cw) (w : World) : Calls Tryz.prog 162 #[cv x r] w (SqRet x w) := by
 obtain ⟨B, W, hB, hW, K1, z0⟩ := (Mem.nil w).one (ccl x r) 62
 clear z0
 have HBw := hid (show w.heap.size ≤ B from by omega)
 have HBl := hid (K1.out.at_ (b := B) (cs := ccl x r) (t := 62) (by simp)).lt
 go_enter Tryz.func162, Tryz.ntmps162
 go_wp2_with fail
 refine wp_region_held_drew (S := fun X => Mem w X [(B, ccl x r, 62)]) (by kernel_rfl) K1.out.drew (fun hHeld => ?_)
 refine tkD 0 6 (.pointer (some ⟨B, 4, none⟩)) rfl rfl hHeld ?_
 simp only [pt, List.set]
 refine tkH 1 7 (.slice r.b x.t.length r.bc) rfl rfl (fun X hX => by obtain ⟨q0, q1, q2, q3, q4, q5, q6⟩ := hX.cl (B := B) (x := x) (r := r) (t := 62) (by simp); clear hX; go_simp) hHeld ?_
 simp only [pt, List.set]
 refine tkD 2 8 (.int .i64 (x.t.length : Nat)) rfl rfl hHeld ?_
 simp only [pt, List.set]
 refine tkD 3 9 (.pointer (some ⟨B, 5, none⟩)) rfl rfl hHeld ?_
 simp only [pt, List.set]
 refine tkH 4 10 (.slice r.c x.l.length r.cc) rfl rfl (fun X hX => by obtain ⟨q0, q1, q2, q3, q4, q5, q6⟩ := hX.cl (B := B) (x := x) (r := r) (t := 62) (by simp); clear hX; go_simp) hHeld ?_
 simp only [pt, List.set]
 refine tkD 5 11 (.int .i64 (x.l.length : Nat)) rfl rfl hHeld ?_
 simp only [pt, List.set]
 have K2 := hid K1.out.drew
 clear K1
 refine wpAnyH_ready (rs := [6, 7]) (by kernel_rfl) (by simp) ?_
 refine (AllReadyH.cons rfl (fun KK hK => ?_) (AllReadyH.cons rfl (fun KK hK => ?_) AllReadyH.nil))
 · skip
   simp only [List.getElem_toArray, List.getElem_cons_succ, List.getElem_cons_zero]
   obtain ⟨T, U1, hT, hU1, K3, zz⟩ := K2.out.one [.int .i64 0] 3
   have HVT := hid (show B < T from by have := (K2.out.at_ (b := B) (cs := ccl x r) (t := 62) (by simp)).lt; omega)
   go_simp
   refine hK.out _ _ (K3.out.sub (by simp)) (fun hHeld => ?_)
   clear hK KK
   try simp only [pt, List.set]
   clear zz hT hU1
   refine wpAnyH_ready (rs := [7]) (by kernel_rfl) (by simp) ?_
   refine (AllReadyH.cons rfl (fun KK hK => ?_) AllReadyH.nil)
   simp only [List.getElem_toArray, List.getElem_cons_succ, List.getElem_cons_zero]
   obtain ⟨P, U2, hP, hU2, K4, zz⟩ := K3.out.one [.int .i64 0] 3
   have HV2 := hid (show T < P from by have := (K3.out.at_ (b := T) (cs := [.int .i64 0]) (t := 3) (by simp)).lt; omega)
   go_simp
   refine hK.out _ _ (K4.out.sub (by simp)) (fun hHeld => ?_)
   clear hK KK
   try simp only [pt, List.set]
   clear zz hP hU2 K2 K3
   have hTB : B < T ∧ B < P ∧ T ≠ P ∧ w.heap.size ≤ T ∧ w.heap.size ≤ P := by have := HBw.out; have := HVT.out; have := HV2.out; omega
   have HTB := hid hTB
   clear hTB
   have KS := hid ((K4.out.sub (l' := [(T, [.int .i64 0], 3), (P, [.int .i64 0], 3), (B, ccl x r, 62)]) (by simp)).set (by have := HTB.out; omega) (by
    intro p hp
    have hq := HTB.out
    simp only [List.mem_cons, List.not_mem_nil, or_false] at hp
    rcases hp with rfl | rfl
    · show P ≠ T; omega
    · show B ≠ T; omega) 0 (.int .i64 (x.t.length : Nat)))
   have o0 := K4.out.at_ (b := T) (cs := [.int .i64 0]) (t := 3) (by simp)
   have o1 := o0.free 0
   have o2 := o0.cell (k := 0) rfl
   refine wpAnyH_ready (rs := [8]) (by kernel_rfl) (by simp) ?_
   refine (AllReadyH.cons rfl (fun KK hK => ?_) AllReadyH.nil)
   simp only [List.getElem_toArray, List.getElem_cons_succ, List.getElem_cons_zero]
   go_simp
   refine hK.out _ _ (KS.out.sub (by simp)) (fun hHeld => ?_)
   clear hK KK
   try simp only [pt, List.set]
   have KT := hid ((KS.out.sub (l' := [(P, [.int .i64 0], 3), (T, [.int .i64 (x.t.length : Nat)], 3), (B, ccl x r, 62)]) (by simp)).set (by have := HTB.out; omega) (by
    intro p hp
    have hq := HTB.out
    simp only [List.mem_cons, List.not_mem_nil, or_false] at hp
    rcases hp with rfl | rfl
    · show T ≠ P; omega
    · show B ≠ P; omega) 0 (.int .i64 (x.l.length : Nat)))
   have o0 := KS.out.at_ (b := P) (cs := [.int .i64 0]) (t := 3) (by simp)
   have o3 := o0.free 0
   have o4 := o0.cell (k := 0) rfl
   refine wpAnyH_ready (rs := [9]) (by kernel_rfl) (by simp) ?_
   refine (AllReadyH.cons rfl (fun KK hK => ?_) AllReadyH.nil)
   simp only [List.getElem_toArray, List.getElem_cons_succ, List.getElem_cons_zero]
   go_simp
   refine hK.out _ _ (KT.out.sub (by simp)) (fun hHeld => ?_)
   clear hK KK
   try simp only [pt, List.set]
   refine wpAnyH_done (by kernel_rfl) ?_ _
   have KU := hid (show Mem w _ [(P, [.int .i64 (x.l.length : Nat)], 3), (T, [.int .i64 (x.t.length : Nat)], 3)] from KT.out.sub (by simp))
   clear hHeld KS KT o0 o1 o2 o3 o4 K4
   obtain ⟨Z, hZ⟩ : ∃ Z, (U2.setCell ⟨T, 0, none⟩ (.int .i64 (x.t.length : Nat))).setCell ⟨P, 0, none⟩ (.int .i64 (x.l.length : Nat)) = Z := ⟨_, rfl⟩
   rw [hZ] at KU ⊢
   clear hZ
   obtain ⟨F, Y, hF, hY, KF, zz⟩ := KU.out.one [.int .i64 0] 3
   have HF := hid (show T < F ∧ P < F from ⟨by have := (KU.out.at_ (b := T) (cs := [.int .i64 (x.t.length : Nat)]) (t := 3) (by simp)).lt; omega, by have := (KU.out.at_ (b := P) (cs := [.int .i64 (x.l.length : Nat)]) (t := 3) (by simp)).lt; omega⟩)
   have c1 := KF.out.cell (b := P) (cs := [.int .i64 (x.l.length : Nat)]) (t := 3) (by simp) (k := 0) rfl
   have o1 := KF.out.at_ (b := F) (cs := [.int .i64 0]) (t := 3) (by simp)
   have c2 := o1.cell (k := 0) rfl
   have c3 := o1.free 0
   have Hne := hid (show ∀ p ∈ ([(P, [.int .i64 (x.l.length : Nat)], 3), (T, [.int .i64 (x.t.length : Nat)], 3)] : Obs), p.1 ≠ F from by
    intro p hp
    have hq := HF.out
    simp only [List.mem_cons, List.not_mem_nil, or_false] at hp
    rcases hp with rfl | rfl
    · show P ≠ F; omega
    · show T ≠ F; omega)
   clear zz o1 KU
   have HwF : w.heap.size ≤ F := by have := HTB.out; have := HF.out; omega
   have K0 := hid (KF.out.set HwF Hne.out 0 (.int .i64 0))
   go_upto_region 3 with fail
   obtain ⟨Z2, hZ2⟩ : ∃ Z, Y.setCell ⟨F, 0, none⟩ (.int .i64 0) = Z := ⟨_, rfl⟩
   rw [hZ2] at K0 ⊢
   clear hZ2 KF c1 c2 c3
   have K0 := hid (show Mem w Z2 [(F, [.int .i64 0], 3), (P, [.int .i64 (x.l.length : Nat)], 3), (T, [.int .i64 (x.t.length : Nat)], 3)] from K0.out)
   have c1 := K0.out.cell (b := P) (cs := [.int .i64 (x.l.length : Nat)]) (t := 3) (by simp) (k := 0) rfl
   have o1 := K0.out.at_ (b := F) (cs := [.int .i64 0]) (t := 3) (by simp)
   have c2 := o1.cell (k := 0) rfl
   have c3 := o1.free 0
   clear o1
   by_cases h0 : x.l.length = 0
   · have q0 : ((x.l.length : Int) == 0) = true := by rw [beq_iff_eq]; omega
     have K9 := hid (K0.out.set HwF Hne.out 0 (.int .i64 (-1)))
     have hfs := hid (show fst x = -1 by unfold fst; rw [if_pos h0])
     clear h0 K0
     go_wp2_with fail
     go_ret
     exact ⟨T, F, P, rfl, by rw [hfs.out]; exact K9.out.sub (by simp), HTB.out.2.2.2.1, HwF, HTB.out.2.2.2.2⟩
   · have q0 : ((x.l.length : Int) == 0) = false := by rw [beq_eq_false_iff_ne]; omega
     have hfs := hid (show fst x = 0 by unfold fst; rw [if_neg h0])
     clear h0
     go_wp2_with fail
     go_ret
     exact ⟨T, F, P, rfl, by rw [hfs.out]; exact K0.out.sub (by simp), HTB.out.2.2.2.1, HwF, HTB.out.2.2.2.2⟩
 · skip
   simp only [List.getElem_toArray, List.getElem_cons_succ, List.getElem_cons_zero]
   obtain ⟨P, U1, hP, hU1, K3, zz⟩ := K2.out.one [.int .i64 0] 3
   have HVP := hid (show B < P from by have := (K2.out.at_ (b := B) (cs := ccl x r) (t := 62) (by simp)).lt; omega)
   go_simp
   refine hK.out _ _ (K3.out.sub (by simp)) (fun hHeld => ?_)
   clear hK KK
   try simp only [pt, List.set]
   clear zz hP hU1
   refine wpAnyH_ready (rs := [6]) (by kernel_rfl) (by simp) ?_
   refine (AllReadyH.cons rfl (fun KK hK => ?_) AllReadyH.nil)
   simp only [List.getElem_toArray, List.getElem_cons_succ, List.getElem_cons_zero]
   obtain ⟨T, U2, hT, hU2, K4, zz⟩ := K3.out.one [.int .i64 0] 3
   have HV2 := hid (show P < T from by have := (K3.out.at_ (b := P) (cs := [.int .i64 0]) (t := 3) (by simp)).lt; omega)
   go_simp
   refine hK.out _ _ (K4.out.sub (by simp)) (fun hHeld => ?_)
   clear hK KK
   try simp only [pt, List.set]
   clear zz hT hU2 K2 K3
   have hTB : B < T ∧ B < P ∧ T ≠ P ∧ w.heap.size ≤ T ∧ w.heap.size ≤ P := by have := HBw.out; have := HVP.out; have := HV2.out; omega
   have HTB := hid hTB
   clear hTB
   have KS := hid ((K4.out.sub (l' := [(T, [.int .i64 0], 3), (P, [.int .i64 0], 3), (B, ccl x r, 62)]) (by simp)).set (by have := HTB.out; omega) (by
    intro p hp
    have hq := HTB.out
    simp only [List.mem_cons, List.not_mem_nil, or_false] at hp
    rcases hp with rfl | rfl
    · show P ≠ T; omega
    · show B ≠ T; omega) 0 (.int .i64 (x.t.length : Nat)))
   have o0 := K4.out.at_ (b := T) (cs := [.int .i64 0]) (t := 3) (by simp)
   have o1 := o0.free 0
   have o2 := o0.cell (k := 0) rfl
   refine wpAnyH_ready (rs := [8]) (by kernel_rfl) (by simp) ?_
   refine (AllReadyH.cons rfl (fun KK hK => ?_) AllReadyH.nil)
   simp only [List.getElem_toArray, List.getElem_cons_succ, List.getElem_cons_zero]
   go_simp
   refine hK.out _ _ (KS.out.sub (by simp)) (fun hHeld => ?_)
   clear hK KK
   try simp only [pt, List.set]
   have KT := hid ((KS.out.sub (l' := [(P, [.int .i64 0], 3), (T, [.int .i64 (x.t.length : Nat)], 3), (B, ccl x r, 62)]) (by simp)).set (by have := HTB.out; omega) (by
    intro p hp
    have hq := HTB.out
    simp only [List.mem_cons, List.not_mem_nil, or_false] at hp
    rcases hp with rfl | rfl
    · show T ≠ P; omega
    · show B ≠ P; omega) 0 (.int .i64 (x.l.length : Nat)))
   have o0 := KS.out.at_ (b := P) (cs := [.int .i64 0]) (t := 3) (by simp)
   have o3 := o0.free 0
   have o4 := o0.cell (k := 0) rfl
   refine wpAnyH_ready (rs := [9]) (by kernel_rfl) (by simp) ?_
   refine (AllReadyH.cons rfl (fun KK hK => ?_) AllReadyH.nil)
   simp only [List.getElem_toArray, List.getElem_cons_succ, List.getElem_cons_zero]
   go_simp
   refine hK.out _ _ (KT.out.sub (by simp)) (fun hHeld => ?_)
   clear hK KK
   try simp only [pt, List.set]
   refine wpAnyH_done (by kernel_rfl) ?_ _
   have KU := hid (show Mem w _ [(P, [.int .i64 (x.l.length : Nat)], 3), (T, [.int .i64 (x.t.length : Nat)], 3)] from KT.out.sub (by simp))
   clear hHeld KS KT o0 o1 o2 o3 o4 K4
   obtain ⟨Z, hZ⟩ : ∃ Z, (U2.setCell ⟨T, 0, none⟩ (.int .i64 (x.t.length : Nat))).setCell ⟨P, 0, none⟩ (.int .i64 (x.l.length : Nat)) = Z := ⟨_, rfl⟩
   rw [hZ] at KU ⊢
   clear hZ
   obtain ⟨F, Y, hF, hY, KF, zz⟩ := KU.out.one [.int .i64 0] 3
   have HF := hid (show T < F ∧ P < F from ⟨by have := (KU.out.at_ (b := T) (cs := [.int .i64 (x.t.length : Nat)]) (t := 3) (by simp)).lt; omega, by have := (KU.out.at_ (b := P) (cs := [.int .i64 (x.l.length : Nat)]) (t := 3) (by simp)).lt; omega⟩)
   have c1 := KF.out.cell (b := P) (cs := [.int .i64 (x.l.length : Nat)]) (t := 3) (by simp) (k := 0) rfl
   have o1 := KF.out.at_ (b := F) (cs := [.int .i64 0]) (t := 3) (by simp)
   have c2 := o1.cell (k := 0) rfl
   have c3 := o1.free 0
   have Hne := hid (show ∀ p ∈ ([(P, [.int .i64 (x.l.length : Nat)], 3), (T, [.int .i64 (x.t.length : Nat)], 3)] : Obs), p.1 ≠ F from by
    intro p hp
    have hq := HF.out
    simp only [List.mem_cons, List.not_mem_nil, or_false] at hp
    rcases hp with rfl | rfl
    · show P ≠ F; omega
    · show T ≠ F; omega)
   clear zz o1 KU
   have HwF : w.heap.size ≤ F := by have := HTB.out; have := HF.out; omega
   have K0 := hid (KF.out.set HwF Hne.out 0 (.int .i64 0))
   go_upto_region 3 with fail
   obtain ⟨Z2, hZ2⟩ : ∃ Z, Y.setCell ⟨F, 0, none⟩ (.int .i64 0) = Z := ⟨_, rfl⟩
   rw [hZ2] at K0 ⊢
   clear hZ2 KF c1 c2 c3
   have K0 := hid (show Mem w Z2 [(F, [.int .i64 0], 3), (P, [.int .i64 (x.l.length : Nat)], 3), (T, [.int .i64 (x.t.length : Nat)], 3)] from K0.out)
   have c1 := K0.out.cell (b := P) (cs := [.int .i64 (x.l.length : Nat)]) (t := 3) (by simp) (k := 0) rfl
   have o1 := K0.out.at_ (b := F) (cs := [.int .i64 0]) (t := 3) (by simp)
   have c2 := o1.cell (k := 0) rfl
   have c3 := o1.free 0
   clear o1
   by_cases h0 : x.l.length = 0
   · have q0 : ((x.l.length : Int) == 0) = true := by rw [beq_iff_eq]; omega
     have K9 := hid (K0.out.set HwF Hne.out 0 (.int .i64 (-1)))
     have hfs := hid (show fst x = -1 by unfold fst; rw [if_pos h0])
     clear h0 K0
     go_wp2_with fail
     go_ret
     exact ⟨T, F, P, rfl, by rw [hfs.out]; exact K9.out.sub (by simp), HTB.out.2.2.2.1, HwF, HTB.out.2.2.2.2⟩
   · have q0 : ((x.l.length : Int) == 0) = false := by rw [beq_eq_false_iff_ne]; omega
     have hfs := hid (show fst x = 0 by unfold fst; rw [if_neg h0])
     clear h0
     go_wp2_with fail
     go_ret
     exact ⟨T, F, P, rfl, by rw [hfs.out]; exact K0.out.sub (by simp), HTB.out.2.2.2.1, HwF, HTB.out.2.2.2.2⟩
end Go.Proofs.YtgmgccepmalahaaGreat
namespace Go.Proofs.YtgmgccepmalahaaGreat
open Go.RowKit Go.Shelf
open Whn (Gr Wh)
attribute [local go_sem] Oper.semAt_some
def KpS (n₀ : Nat) (S : Nat → Prop) (W W' : World) : Prop := Below n₀ W W' ∧ ∀ b, S b → W'.heap[b]? = W.heap[b]?
theorem KpS.t {n₀ : Nat} {S : Nat → Prop} {A B C : World} (h : KpS n₀ S A B) (k : KpS n₀ S B C) : KpS n₀ S A C := ⟨h.1.trans k.1, fun b hb => (k.2 b hb).trans (h.2 b hb)⟩
theorem belowK_b {n₀ : Nat} {w : World} (hn : n₀ ≤ w.heap.size) (W : World) (l : Nat) (o o' : Obj) (hl : w.heap.size ≤ l) (h : W.heap[l]? = some o) (_ : o.isCells = false) (_ : o.isWalk = false) : Below n₀ W (W.putObj l o') :=
 (Below.refl n₀ W).grown (grownBy_putObj' W l o') (Nat.le_trans hn (Nat.le_trans hl (Nat.le_of_lt (Array.getElem?_eq_some_iff.1 h).1))) (fun k e => by cases e; omega)
theorem KpS.b {n₀ : Nat} {S : Nat → Prop} {w : World} (hn : n₀ ≤ w.heap.size) (hS : ∀ b, S b → b < w.heap.size) (W : World) (l : Nat) (o o' : Obj) (hl : w.heap.size ≤ l) (h : W.heap[l]? = some o) (h1 : o.isCells = false) (h2 : o.isWalk = false) : KpS n₀ S W (W.putObj l o') :=
 ⟨belowK_b hn W l o o' hl h h1 h2, fun b hb => World.putObj_heap_other (by have := hS b hb; omega)⟩
theorem KpS.refl (n₀ : Nat) (S : Nat → Prop) (W : World) : KpS n₀ S W W := ⟨Below.refl _ _, fun _ _ => rfl⟩
theorem mem_ownFrom {β : Type} {w : World} {B : Nat} (hB : w.heap.size ≤ B) (L : β → Obs) : OwnFrom B (fun (s : β) W => Mem w W (L s)) := by
 rintro s W W' row ⟨h1, h2⟩ hg hr
 refine ⟨fun q hq => ?_, h2.grown hg h2.size (fun k e => Nat.le_trans hB (hr k e).1)⟩
 have hob := h1 q hq
 refine (hg.block q.1 hob.lt (fun e => ?_)).trans hob
 obtain ⟨_, o, ho, hc⟩ := hr q.1 e.symm
 rw [show W.heap[q.1]? = _ from hob] at ho
 cases ho; cases hc
theorem mem_putObj {w W : World} {L : Obs} (h : Mem w W L) {l : Nat} {o : Obj} (o' : Obj) (hB : w.heap.size ≤ l) (hl : W.heap[l]? = some o) (ho : o.isCells = false) : Mem w (W.putObj l o') L :=
 (mem_ownFrom (β := Unit) (Nat.le_refl _) (fun _ => L)).putObj o' (s := ()) h hB hl ho
theorem seatsAt_get (x : Cl) (t j : Nat) (h : j < max 1 x.l.length) : (seatsAt x t)[j]? = some ⟨(t : Int), fst x + (j : Int)⟩ := by
 unfold seatsAt fst
 split
 · next h0 =>
   rw [h0] at h
   obtain rfl : j = 0 := by omega
   rfl
 · next h0 =>
   rw [List.getElem?_map, List.getElem?_range (by omega)]
   show some (⟨(t : Int), (j : Int)⟩ : Se) = _
   rw [Int.zero_add]
def sq (x : Cl) (i : Nat) : List Se := (List.range i).flatMap (seatsAt x)
theorem sq_succ (x : Cl) (i : Nat) : sq x (i + 1) = sq x i ++ seatsAt x i := by unfold sq; rw [List.range_succ, List.flatMap_append]; simp
theorem sq_all (x : Cl) : sq x x.t.length = seats x := (seats_eq x).symm
theorem sq_pre (x : Cl) (i k : Nat) : sq x i <+: sq x (i + k) := by
 induction k with
 | zero => exact List.prefix_rfl
 | succ k ih => rw [← Nat.add_assoc, sq_succ]; exact ih.trans (List.prefix_append _ _)
theorem sq_next (x : Cl) (i j : Nat) (hi : i < x.t.length) (hj : j < max 1 x.l.length) : sq x i ++ (seatsAt x i).take (j + 1) = (sq x i ++ (seatsAt x i).take j) ++ [⟨(i : Int), fst x + (j : Int)⟩] ∧ sq x i ++ (seatsAt x i).take (j + 1) <+: seats x := by
 refine ⟨by rw [List.take_add_one, seatsAt_get x i j hj, List.append_assoc]; rfl, ?_⟩
 have h1 : sq x (i + 1) <+: seats x := by
  rw [← sq_all]
  have := sq_pre x (i + 1) (x.t.length - (i + 1))
  rwa [show i + 1 + (x.t.length - (i + 1)) = x.t.length by omega] at this
 rw [sq_succ] at h1
 refine List.IsPrefix.trans ?_ h1
 exact (List.prefix_append_right_inj _).2 (List.take_prefix _ _)
set_option maxRecDepth 100000 in
set_option maxHeartbeats 2000000 in
theorem seats1_in (m : Nat) (hm1 : 1 ≤ m) (l T F P n₀ : Nat) (x : Cl) (hN : x.t.length ≤ 1000000) (hM : x.l.length ≤ 1000000) (S : Nat → Prop) (hST : S T) (hSF : S F) (hSP : S P) (J Jx : List Se → World → Prop)
 (hY : ∀ (pre : List Se) (s : Se) (W : World), J pre W → pre.length < (seats x).length → YieldAt Fence.wide (m - 1) Tryz.prog l #[sv s] W fun e W' =>
  (e = .returned (.bool true) ∧ J (pre ++ [s]) W' ∧ KpS n₀ S W W') ∨ (e = .returned (.bool false) ∧ Jx (pre ++ [s]) W'))
 (W : World) (hT : Ob W T [.int .i64 (x.t.length : Nat)] 3) (hF : Ob W F [.int .i64 (fst x)] 3) (hP : Ob W P [.int .i64 (x.l.length : Nat)] 3) (h0 : J [] W) :
 CallsIn Fence.wide m Tryz.prog 193 #[.func (.yield l) #[] #[], .pointer (some ⟨T, 0, none⟩), .pointer (some ⟨F, 0, none⟩), .pointer (some ⟨P, 0, none⟩)] W fun e W' => (∃ v, e = .returned v) ∧
  ((∃ ys, ys = seats x ∧ J ys W') ∨ (∃ pre, pre <+: seats x ∧ Jx pre W')) := by
 obtain ⟨f0, f1, f2⟩ := fst_bnd x
 have HT : ∀ V, KpS n₀ S W V → V.cell? ⟨T, 0, none⟩ = some (.int .i64 (x.t.length : Nat)) := fun V h => Ob.cell (show Ob V T _ _ from (h.2 T hST).trans hT) rfl
 have HF : ∀ V, KpS n₀ S W V → V.cell? ⟨F, 0, none⟩ = some (.int .i64 (fst x)) := fun V h => Ob.cell (show Ob V F _ _ from (h.2 F hSF).trans hF) rfl
 have HP : ∀ V, KpS n₀ S W V → V.cell? ⟨P, 0, none⟩ = some (.int .i64 (x.l.length : Nat)) := fun V h => Ob.cell (show Ob V P _ _ from (h.2 P hSP).trans hP) rfl
 have HT := hid HT; have HF := hid HF; have HP := hid HP
 have Hnx := hid (fun i j hi hj => sq_next x i j hi hj)
 have Hsu := hid (fun i => sq_succ x i)
 have Hal := hid (sq_all x)
 have Hz := hid (show sq x 0 = [] from rfl)
 have Hfl := hid (fun t => show (seatsAt x t).take (max 1 x.l.length) = seatsAt x t from List.take_of_length_le (by rw [seatsAt_len]; exact Nat.le_refl _))
 clear hT hF hP
 generalize fst x = fs at *
 generalize sq x = sqx at *
 generalize seats x = sx at *
 generalize seatsAt x = sa at *
 obtain ⟨LL, hLL⟩ : ∃ LL, max 1 x.l.length = LL := ⟨_, rfl⟩
 rw [hLL] at f2
 simp only [hLL] at Hnx Hfl
 have hL1 : LL ≤ 1000001 := by omega
 clear hLL
 refine callsIn_of_wp Tryz.func193 rfl trivial ?_ rfl
 simp only [Tryz.ntmps193, List.size_toArray, List.length_cons, List.length_nil, Nat.reduceAdd, Nat.reduceSub, Array.replicate_succ, Array.replicate_zero, List.push_toArray, List.append_toArray, List.nil_append, List.cons_append]
 have t0 := HT.out W (KpS.refl _ _ _)
 gi_wp2
 gi_loopw [8] (fun iv wr => ∃ i : Nat, i ≤ x.t.length ∧ iv = .int .i64 i ∧ J (sqx i) wr ∧ KpS n₀ S W wr) (fun iv _ => x.t.length - (intOf iv).toNat)
 case atStart => exact ⟨0, Nat.zero_le _, rfl, by rw [Hz.out]; exact h0, KpS.refl _ _ _⟩
 case round =>
  clear t0
  obtain ⟨i, hi, rfl, hJ, hkp⟩ := hrel
  by_cases hlt : i < x.t.length
  · have t2 := HF.out wr hkp
    have i1 : (0 : Int) ≤ (i : Int) := by omega
    have i2 : (i : Int) < (x.t.length : Int) := by omega
    gi_wp2
    gi_loopw [6] (fun pv wr2 => ∃ (j : Nat), j ≤ LL ∧ pv = .int .i64 (fs + (j : Int)) ∧ J (sqx i ++ (sa i).take j) wr2 ∧ KpS n₀ S W wr2) (fun pv _ => (x.l.length - (intOf pv)).toNat)
    case atStart => exact ⟨0, Nat.zero_le _, by rw [Int.natCast_zero, Int.add_zero], by rw [List.take_zero, List.append_nil]; exact hJ, hkp⟩
    case round =>
     clear hJ hkp t2
     obtain ⟨j, hj, rfl, hJ, hkp⟩ := hrel
     have t3 := HP.out wr hkp
     obtain ⟨z, hz⟩ : ∃ z, fs + (j : Int) = z := ⟨_, rfl⟩
     rw [hz]
     by_cases hjl : j < LL
     · have q1 : z < (x.l.length : Int) := by omega
       have qw : IntKind.i64.wrap (z + 1) = z + 1 := by rw [IntKind.wrap_i64]; omega
       have hnx := Hnx.out i j hlt hjl
       rw [hz] at hnx
       have Hn1 := hid hnx.1
       have Hpp := hid hnx.2
       have hlen := hnx.2.length_le
       rw [hnx.1, List.length_append] at hlen
       simp only [List.length_cons, List.length_nil] at hlen
       obtain ⟨fn, tmps, assign, body, hy, hR⟩ := hY (sqx i ++ (sa i).take j) ⟨(i : Int), z⟩ wr hJ (by omega)
       clear hnx hlen
       gi_wp2
       refine hR.mono ?_
       rintro e W3 (⟨rfl, hJ3, hk3⟩ | ⟨rfl, hJx3⟩)
       · gi_wp2
         exact ⟨⟨j + 1, by omega, by rw [← hz]; go_num, by rw [Hn1.out]; exact hJ3, hkp.t hk3⟩, by simp only [intOf]; omega⟩
       · gi_wp2
         refine bodyPost_ret (results_none rfl _ _ _) rfl ?_
         exact ⟨⟨_, rfl⟩, .inr ⟨_, Hpp.out, by rw [Hn1.out]; exact hJx3⟩⟩
     · obtain rfl : j = LL := by omega
       have q1 : ¬ z < (x.l.length : Int) := by omega
       rw [Hfl.out, ← Hsu.out] at hJ
       gi_wp2
       exact ⟨⟨i + 1, by omega, by go_num, hJ, hkp⟩, by simp [intOf]; omega⟩
  · obtain rfl : i = x.t.length := by omega
    rw [Hal.out] at hJ
    gi_wp2
    go_end0
    exact ⟨⟨_, rfl⟩, .inl ⟨_, rfl, hJ⟩⟩
def SeqAt (T F P : Nat) (b : Nat) : Prop := b = T ∨ b = F ∨ b = P
theorem seats_stops (m : Nat) (hm1 : 1 ≤ m) (T F P n₀ : Nat) (x : Cl) (hN : x.t.length ≤ 1000000) (hM : x.l.length ≤ 1000000) (w0 w : World)
 (h : Mem w0 w [(T, [.int .i64 (x.t.length : Nat)], 3), (F, [.int .i64 (fst x)], 3), (P, [.int .i64 (x.l.length : Nat)], 3)]) :
 SeqStopsK Fence.wide m Tryz.prog 193 #[.pointer (some ⟨T, 0, none⟩), .pointer (some ⟨F, 0, none⟩), .pointer (some ⟨P, 0, none⟩)] (fun s : Se => #[sv s]) (KpS n₀ (SeqAt T F P)) (fun ys => ys = seats x) (fun pre => pre <+: seats x) (seats x).length w := fun l J Jx W hW _ _ hY h0 =>
 seats1_in m hm1 l T F P n₀ x hN hM (SeqAt T F P) (.inl rfl) (.inr (.inl rfl)) (.inr (.inr rfl)) J Jx hY W
  ((h.at_ (b := T) (cs := [.int .i64 (x.t.length : Nat)]) (t := 3) (by simp)).next hW) ((h.at_ (b := F) (cs := [.int .i64 (fst x)]) (t := 3) (by simp)).next hW) ((h.at_ (b := P) (cs := [.int .i64 (x.l.length : Nat)]) (t := 3) (by simp)).next hW) h0
abbrev seqM (x : Cl) (T F P : Nat) : Obs := [(T, [.int .i64 (x.t.length : Nat)], 3), (F, [.int .i64 (fst x)], 3), (P, [.int .i64 (x.l.length : Nat)], 3)]
theorem kp_of {x : Cl} {T F P n₀ : Nat} {W X : World} (h : ∀ p ∈ seqM x T F P, Ob W p.1 p.2.1 p.2.2) (h' : ∀ p ∈ seqM x T F P, Ob X p.1 p.2.1 p.2.2) (hb : Below n₀ W X) : KpS n₀ (SeqAt T F P) W X :=
 ⟨hb, fun b hb => by
  rcases hb with rfl | rfl | rfl
  · exact (h' (b, [.int .i64 (x.t.length : Nat)], 3) (by simp)).trans (h (b, [.int .i64 (x.t.length : Nat)], 3) (by simp)).symm
  · exact (h' (b, [.int .i64 (fst x)], 3) (by simp)).trans (h (b, [.int .i64 (fst x)], 3) (by simp)).symm
  · exact (h' (b, [.int .i64 (x.l.length : Nat)], 3) (by simp)).trans (h (b, [.int .i64 (x.l.length : Nat)], 3) (by simp)).symm⟩
theorem seqM_lt {x : Cl} {T F P : Nat} {W : World} (h : ∀ p ∈ seqM x T F P, Ob W p.1 p.2.1 p.2.2) (b : Nat) (hb : SeqAt T F P b) : b < W.heap.size := by
 rcases hb with rfl | rfl | rfl
 · exact (h (b, [.int .i64 (x.t.length : Nat)], 3) (by simp)).lt
 · exact (h (b, [.int .i64 (fst x)], 3) (by simp)).lt
 · exact (h (b, [.int .i64 (x.l.length : Nat)], 3) (by simp)).lt
theorem fold_one (A : Array Value) (k : Tmp) (v : Value) : ((#[k] : Array Tmp).zip #[v]).foldl (fun t (p : Tmp × Value) => t.setIfInBounds p.1 p.2) A = A.setIfInBounds k v := by
 have e : (#[k] : Array Tmp).zip #[v] = #[(k, v)] := by simp
 rw [e]
 rfl
set_option maxRecDepth 100000 in
set_option maxHeartbeats 2000000 in
theorem p_CountC (x : Cl) (r : Cw) (hN : x.t.length ≤ 1000000) (hM : x.l.length ≤ 1000000) (w : World) :
 Calls Tryz.prog 103 #[cv x r] w (Did (.int .i64 ((seats x).length : Nat)) w) := by
 obtain ⟨B, W, hB, hW, K1, z0⟩ := (Mem.nil w).one (ccl x r) 62
 have HBw := hid (show w.heap.size ≤ B from by omega)
 have hll : (seats x).length ≤ 1100000000000 := by
  have h1 := seats_len x
  have h2 := Nat.mul_le_mul hN (show max 1 x.l.length ≤ 1000001 by omega)
  omega
 clear z0
 refine (callsIn_wide (n := 5)).1 ?_
 refine callsIn_of_wp_marks Tryz.func103 rfl trivial ?_ rfl
 simp only [Tryz.ntmps103, List.size_toArray, List.length_cons, List.length_nil, Nat.reduceAdd, Nat.reduceSub, Array.replicate_succ, Array.replicate_zero, List.push_toArray, List.append_toArray, List.nil_append, List.cons_append]
 have HBl := hid (K1.out.at_ (b := B) (cs := ccl x r) (t := 62) (by simp)).lt
 obtain ⟨C, U, hC, hU, K2, zz⟩ := K1.out.one [.int .i64 0] 3
 have HBC := hid (show w.heap.size ≤ C from by have := HBw.out; have := HBl.out; omega)
 subst hU
 obtain ⟨e0, e1, e2, e3, e4, e5, e6⟩ := K2.out.cl (B := B) (x := x) (r := r) (t := 62) (by simp)
 gi_wp2
 obtain ⟨U, hU⟩ : ∃ U, W.alloc (.cells #[.int .i64 0] 3) = U := ⟨_, rfl⟩
 rw [hU] at K2 ⊢
 try rw [hC]
 clear e0 e1 e2 e3 e4 e5 e6 zz K1 hU hC hW hB
 refine ⟨trivial, (callsIn_wide.2 (p_Seats x r _)).mono ?_⟩
 rintro e W2 ⟨T, F, P, rfl, hMS, hT, hF, hP⟩
 have K3 := hid (show Mem w W2 ((C, [.int .i64 0], 3) :: seqM x T F P) from ⟨fun p hp => by
  rcases List.mem_cons.1 hp with rfl | hp
  · exact (K2.out.at_ (b := C) (cs := [.int .i64 0]) (t := 3) (by simp)).next hMS.2
  · exact hMS.1 p hp, (K2.out.next hMS.2).2⟩)
 have HC := hid (show C < T ∧ C < F ∧ C < P from by have := (K2.out.at_ (b := C) (cs := [.int .i64 0]) (t := 3) (by simp)).lt; omega)
 have hs2 := K3.out.2.size
 clear K2 hMS hT hF hP
 gi_wp2
 refine wpIn_rangeFunc_ownG rfl (by decide) (gf := 193) (lb := #[.pointer (some ⟨T, 0, none⟩), .pointer (some ⟨F, 0, none⟩), .pointer (some ⟨P, 0, none⟩)]) rfl trivial (enters_of Tryz.func193 (by kernel_rfl) rfl)
  (seats_stops (5 - 1) (by decide) T F P w.heap.size x hN hM w W2 (K3.out.sub (fun p hp => List.mem_cons_of_mem _ hp))) KpS.t (KpS.b hs2 (seqM_lt (x := x) fun p hp => K3.out.1 p (List.mem_cons_of_mem _ hp))) (Below.refl _ _) (fun _ => rfl)
  (fun pre X => Mem w X ((C, [.int .i64 (pre.length : Nat)], 3) :: seqM x T F P))
  (fun _ _ _ => False)
  (mem_ownFrom hs2 (fun pre : List Se => (C, [.int .i64 (pre.length : Nat)], 3) :: seqM x T F P))
  (fun _ _ _ _ _ hs _ _ => hs)
  K3.out
  (fun s => { tmps := #[cv x r, .pointer (some ⟨B, 0, none⟩), .int .i64 0, .pointer (some ⟨C, 0, none⟩), cv x r, .func (.func 193) #[] #[.pointer (some ⟨T, 0, none⟩), .pointer (some ⟨F, 0, none⟩), .pointer (some ⟨P, 0, none⟩)], sv s, undef, undef, undef], defers := [] }) ?assign ?body ?done ?stop
 case assign =>
  intro l x W K hK
  gi_wp2
  rw [fold_one]
  exact hK
 case body =>
  rintro l pre s X hI hlt
  have hOC := hI.at_ (b := C) (cs := [.int .i64 (pre.length : Nat)]) (t := 3) (by simp)
  have c0 := hOC.cell (k := 0) rfl
  have c1 := hOC.free 0
  have qw : IntKind.i64.wrap ((pre.length : Nat) + 1) = ((pre.length + 1 : Nat) : Int) := by rw [IntKind.wrap_i64]; omega
  have HI := hid hI
  clear hOC hI
  gi_wp2
  have hI2 := HI.out.set HBC.out (by
   intro p hp
   have hq := HC.out
   simp only [List.mem_cons, List.not_mem_nil, or_false] at hp
   rcases hp with rfl | rfl | rfl
   · show T ≠ C; omega
   · show F ≠ C; omega
   · show P ≠ C; omega) 0 (.int .i64 ((pre.length + 1 : Nat) : Int))
  exact ⟨(KeepsOthers.setCell _ _ _).from _, kp_of (x := x) (fun p hp => HI.out.1 p (List.mem_cons_of_mem _ hp)) (fun p hp => hI2.1 p (List.mem_cons_of_mem _ hp)) ((Below.refl _ X).setCell (p := ⟨C, 0, none⟩) HBC.out _), by show Mem w _ ((C, [.int .i64 (((pre ++ [s]).length : Nat) : Int)], 3) :: seqM x T F P); rw [List.length_append]; exact hI2⟩
 case done =>
  rintro D ys X hD rfl hI hK
  have c0 := hI.cell (b := C) (cs := [.int .i64 ((seats x).length : Nat)]) (t := 3) (by simp) (k := 0) rfl
  gi_wp2
  refine ⟨by simp, .inl ⟨_, _, rfl, run_takeDeferred hK, ?_⟩⟩
  exact ⟨_, results_tmp rfl _ _ _, rfl, (mem_putObj hI (.deferred none) (by omega) hK rfl).2⟩
 case stop =>
  rintro D c pre X _ _ h _
  exact h.elim
end Go.Proofs.YtgmgccepmalahaaGreat
