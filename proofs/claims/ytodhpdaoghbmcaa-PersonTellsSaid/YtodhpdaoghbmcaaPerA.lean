/- Persons in memory, and contracts of the program's own functions of layer 12 (person) that are as room's (layer 11). -/
import Derived.Test.YtodhpdaoghbmcaaRomX
import Derived.Test.YtodhpdaoghbmcaaRomW
import Derived.Handy
namespace Go.Proofs.Ytodhpdaoghbmcaa
open Go.RowKit Go.ChangeShapes Go.WideShapes
open Whn (Gr Wh)

structure Ps where
  n : List UInt8
  l : List Wh
abbrev pv (p : Ps) (A : Option Addr) (c : Nat) : Value := .agg #[txt p.n, .slice A p.l.length c]
abbrev pc (p : Ps) (A : Option Addr) (c : Nat) : List Value := [txt p.n, .slice A p.l.length c]
def Pok (p : Ps) : Prop := p.n.length ≤ maxLen ∧ ∀ y ∈ p.l, Wok y
def rmOf (p : Ps) : Rm := ⟨p.n, 0, 0, p.l⟩
def psOf (r : Rm) : Ps := ⟨r.n, r.l⟩
theorem rmOf_ok {p : Ps} (h : Pok p) : Rok (rmOf p) := ⟨h.1, by unfold I64 rmOf; simp only; omega, by show 0 < 65536; omega, h.2⟩
theorem Mem.ps {w X : World} {l : Obs} (h : Mem w X l) {B : Nat} {p : Ps} {A : Option Addr} {c : Nat} (hm : (B, pc p A c, 26) ∈ l) : X.cell? ⟨B, 0, none⟩ = some (txt p.n) ∧ X.cell? ⟨B, 1, none⟩ = some (.slice A p.l.length c) :=
  ⟨h.cell hm rfl, h.cell hm rfl⟩
set_option maxRecDepth 4000 in
set_option maxHeartbeats 1000000 in
theorem p_asRoom (p : Ps) (A : Option Addr) (c : Nat) (w : World) : Calls Try.prog 41 #[pv p A c] w (Did (rv (rmOf p) A c) w) := by
  go_enter Try.func41, Try.ntmps41
  go_wp2_with fail
  go_returns
  exact Did.mk rfl ((below_alloc _ _).alloc (below_alloc _ _).size _)
set_option maxRecDepth 4000 in
set_option maxHeartbeats 1000000 in
theorem p_asPerson (r : Rm) (A : Option Addr) (c : Nat) (w : World) : Calls Try.prog 55 #[rv r A c] w (Did (pv (psOf r) A c) w) := by
  go_enter Try.func55, Try.ntmps55
  go_wp2_with fail
  go_returns
  exact Did.mk rfl ((below_alloc _ _).alloc (below_alloc _ _).size _)
set_option maxRecDepth 8000 in
set_option maxHeartbeats 4000000 in
theorem p_RightP (g : Gr) (p : Ps) (A : Option Addr) (c : Nat) (hok : Pok p) (hm : p.l.length ≤ maxLen) (w : World) (h : Whs w w.heap.size A p.l) :
    Calls Try.prog 13 #[gv g, pv p A c] w (Did (.bool (rmRight g (rmOf p))) w) := by
  have HA := hid (fun X => p_asRoom p A c X)
  have HR := hid (fun X h => p_RightRoom g (rmOf p) A c (rmOf_ok hok) hm X h)
  have H := hid h
  clear h
  obtain ⟨G, W, hG, hW, K0, z0⟩ := (Mem.nil w).one (gc g) 23
  obtain ⟨P, V, hP, hV, K1, z1⟩ := K0.out.one (pc p A c) 26
  clear K0 z0 z1
  change Hid (∀ (X : World) (h : Whs X X.heap.size A p.l), Calls Try.prog 40 #[gv g, rv (rmOf p) A c] X (Did (.bool (rmRight g (rmOf p))) X)) at HR
  generalize rmRight g (rmOf p) = ll at *
  go_enter Try.func13, Try.ntmps13
  go_wp2_with fail
  refine wp_region_held_drew (S := fun X => Mem w X [(P, pc p A c, 26), (G, gc g, 23)]) (by kernel_rfl) K1.out.drew (fun hHeld => ?_)
  refine takeH 0 5 (gv g) rfl rfl (by kernel_rfl) (by kernel_rfl) (by kernel_rfl) (fun _ _ _ h => h) (by kernel_rfl) (fun X hX => by obtain ⟨q0, q1, q2⟩ := hX.gr (B := G) (g := g) (by simp); clear hX; go_simp) hHeld ?_
  simp only [Act.put, List.setIfInBounds_toArray, List.set_cons_zero, List.set_cons_succ]
  refine takeH 1 6 (pv p A c) rfl rfl (by kernel_rfl) (by kernel_rfl) (by kernel_rfl) (fun _ _ _ h => h) (by kernel_rfl) (fun X hX => by obtain ⟨q0, q1⟩ := hX.ps (B := P) (p := p) (A := A) (c := c) (by simp); clear hX; go_simp) hHeld ?_
  simp only [Act.put, List.setIfInBounds_toArray, List.set_cons_zero, List.set_cons_succ]
  refine wpAnyH_ready (rs := [2]) (by kernel_rfl) (by simp) ?_
  refine AllReadyH.cons rfl (fun KK hK => ?_) AllReadyH.nil
  simp only [List.getElem_toArray, List.getElem_cons_succ, List.getElem_cons_zero]
  go_simp
  refine (HA.out _).mono ?_
  rintro e X1 ⟨rfl, b1⟩
  have K2 := K1.out.drew.next b1
  refine hK.out _ _ K2 (fun hHeld => ?_)
  clear hK KK
  try simp only [Act.put, List.setIfInBounds_toArray, List.set_cons_zero, List.set_cons_succ]
  refine wpAnyH_ready (rs := [3]) (by kernel_rfl) (by simp) ?_
  refine AllReadyH.cons rfl (fun KK hK => ?_) AllReadyH.nil
  simp only [List.getElem_toArray, List.getElem_cons_succ, List.getElem_cons_zero]
  go_simp
  refine (HR.out _ ((H.out.below K2.2 (Nat.le_refl _)).more K2.2.size)).mono ?_
  rintro e X2 ⟨rfl, b2⟩
  have K3 := K2.next b2
  refine hK.out _ _ K3 (fun hHeld => ?_)
  clear hK KK
  try simp only [Act.put, List.setIfInBounds_toArray, List.set_cons_zero, List.set_cons_succ]
  refine takeH 4 4 (.bool ll) rfl rfl (by kernel_rfl) (by kernel_rfl) (by kernel_rfl) (fun _ _ _ h => h) (by kernel_rfl) (fun X hX => by clear hX; first | rfl | go_simp) hHeld ?_
  simp only [Act.put, List.setIfInBounds_toArray, List.set_cons_zero, List.set_cons_succ]
  refine wpAnyH_done (by kernel_rfl) ?_ _
  go_wp2_with fail
  go_ret
  exact Did.mk rfl K3.2
set_option maxRecDepth 8000 in
set_option maxHeartbeats 4000000 in
theorem p_FreeP (g : Gr) (p : Ps) (A : Option Addr) (c : Nat) (hok : Pok p) (hm : p.l.length ≤ maxLen) (w : World) (h : Whs w w.heap.size A p.l) :
    Calls Try.prog 17 #[gv g, pv p A c] w (ItRet (if rmRight g (rmOf p) then opn g p.l (Whn.all g).toNat else []) w) := by
  have HA := hid (fun X => p_asRoom p A c X)
  have HR := hid (fun X h => p_Open g (rmOf p) A c (rmOf_ok hok) hm X h)
  have H := hid h
  clear h
  obtain ⟨G, W, hG, hW, K0, z0⟩ := (Mem.nil w).one (gc g) 23
  obtain ⟨P, V, hP, hV, K1, z1⟩ := K0.out.one (pc p A c) 26
  clear K0 z0 z1
  change Hid (∀ (X : World) (h : Whs X X.heap.size A p.l), Calls Try.prog 43 #[gv g, rv (rmOf p) A c] X (ItRet (if rmRight g (rmOf p) then opn g p.l (Whn.all g).toNat else []) X)) at HR
  generalize (if rmRight g (rmOf p) then opn g p.l (Whn.all g).toNat else []) = ll at *
  go_enter Try.func17, Try.ntmps17
  go_wp2_with fail
  refine wp_region_held_drew (S := fun X => Mem w X [(P, pc p A c, 26), (G, gc g, 23)]) (by kernel_rfl) K1.out.drew (fun hHeld => ?_)
  refine takeH 0 5 (gv g) rfl rfl (by kernel_rfl) (by kernel_rfl) (by kernel_rfl) (fun _ _ _ h => h) (by kernel_rfl) (fun X hX => by obtain ⟨q0, q1, q2⟩ := hX.gr (B := G) (g := g) (by simp); clear hX; go_simp) hHeld ?_
  simp only [Act.put, List.setIfInBounds_toArray, List.set_cons_zero, List.set_cons_succ]
  refine takeH 1 6 (pv p A c) rfl rfl (by kernel_rfl) (by kernel_rfl) (by kernel_rfl) (fun _ _ _ h => h) (by kernel_rfl) (fun X hX => by obtain ⟨q0, q1⟩ := hX.ps (B := P) (p := p) (A := A) (c := c) (by simp); clear hX; go_simp) hHeld ?_
  simp only [Act.put, List.setIfInBounds_toArray, List.set_cons_zero, List.set_cons_succ]
  refine wpAnyH_ready (rs := [2]) (by kernel_rfl) (by simp) ?_
  refine AllReadyH.cons rfl (fun KK hK => ?_) AllReadyH.nil
  simp only [List.getElem_toArray, List.getElem_cons_succ, List.getElem_cons_zero]
  go_simp
  refine (HA.out _).mono ?_
  rintro e X1 ⟨rfl, b1⟩
  have K2 := K1.out.drew.next b1
  refine hK.out _ _ K2 (fun hHeld => ?_)
  clear hK KK
  try simp only [Act.put, List.setIfInBounds_toArray, List.set_cons_zero, List.set_cons_succ]
  refine wpAnyH_ready (rs := [3]) (by kernel_rfl) (by simp) ?_
  refine AllReadyH.cons rfl (fun KK hK => ?_) AllReadyH.nil
  simp only [List.getElem_toArray, List.getElem_cons_succ, List.getElem_cons_zero]
  go_simp
  refine (HR.out _ ((H.out.below K2.2 (Nat.le_refl _)).more K2.2.size)).mono ?_
  rintro e X2 ⟨A1, c1, rfl, hits, b2⟩
  have K3 := K2.next b2
  refine hK.out _ _ K3 (fun hHeld => ?_)
  clear hK KK
  try simp only [Act.put, List.setIfInBounds_toArray, List.set_cons_zero, List.set_cons_succ]
  refine takeH 4 4 (.slice A1 ll.length c1) rfl rfl (by kernel_rfl) (by kernel_rfl) (by kernel_rfl) (fun _ _ _ h => h) (by kernel_rfl) (fun X hX => by clear hX; first | rfl | go_simp) hHeld ?_
  simp only [Act.put, List.setIfInBounds_toArray, List.set_cons_zero, List.set_cons_succ]
  refine wpAnyH_done (by kernel_rfl) ?_ _
  go_wp2_with fail
  go_ret
  exact ⟨A1, c1, rfl, hits, K3.2⟩
set_option maxRecDepth 8000 in
set_option maxHeartbeats 4000000 in
theorem p_AwayP (p : Ps) (A : Option Addr) (c : Nat) (hok : Pok p) (hm : p.l.length ≤ maxLen) (x : Wh) (hx : Wok x) (w : World) (h : Whs w w.heap.size A p.l) :
    Calls Try.prog 14 #[pv p A c, wv x] w (Did (.bool (p.l.any (fun y => Whn.meet y x))) w) := by
  have HA := hid (fun X => p_asRoom p A c X)
  have HR : Hid (∀ (X : World) (h : Whs X X.heap.size A p.l), Calls Try.prog 42 #[rv (rmOf p) A c, wv x] X (Did (.bool (p.l.any (fun y => Whn.meet y x))) X)) := hid (fun X h => p_Shut (rmOf p) A c (rmOf_ok hok) hm x hx X h)
  have H := hid h
  clear h
  obtain ⟨P, W, hP, hW, K0, z0⟩ := (Mem.nil w).one (pc p A c) 26
  obtain ⟨D, V, hD, hV, K1, z1⟩ := K0.out.one (wc x) 29
  clear K0 z0 z1
  generalize (p.l.any (fun y => Whn.meet y x)) = ll at *
  go_enter Try.func14, Try.ntmps14
  go_wp2_with fail
  refine wp_region_held_drew (S := fun X => Mem w X [(D, wc x, 29), (P, pc p A c, 26)]) (by kernel_rfl) K1.out.drew (fun hHeld => ?_)
  refine takeH 0 5 (pv p A c) rfl rfl (by kernel_rfl) (by kernel_rfl) (by kernel_rfl) (fun _ _ _ h => h) (by kernel_rfl) (fun X hX => by obtain ⟨q0, q1⟩ := hX.ps (B := P) (p := p) (A := A) (c := c) (by simp); clear hX; go_simp) hHeld ?_
  simp only [Act.put, List.setIfInBounds_toArray, List.set_cons_zero, List.set_cons_succ]
  refine takeH 2 7 (wv x) rfl rfl (by kernel_rfl) (by kernel_rfl) (by kernel_rfl) (fun _ _ _ h => h) (by kernel_rfl) (fun X hX => by obtain ⟨q0, q1, q2, q3⟩ := hX.wh (B := D) (x := x) (by simp); clear hX; go_simp) hHeld ?_
  simp only [Act.put, List.setIfInBounds_toArray, List.set_cons_zero, List.set_cons_succ]
  refine wpAnyH_ready (rs := [1]) (by kernel_rfl) (by simp) ?_
  refine AllReadyH.cons rfl (fun KK hK => ?_) AllReadyH.nil
  simp only [List.getElem_toArray, List.getElem_cons_succ, List.getElem_cons_zero]
  go_simp
  refine (HA.out _).mono ?_
  rintro e X1 ⟨rfl, b1⟩
  have K2 := K1.out.drew.next b1
  refine hK.out _ _ K2 (fun hHeld => ?_)
  clear hK KK
  try simp only [Act.put, List.setIfInBounds_toArray, List.set_cons_zero, List.set_cons_succ]
  refine wpAnyH_ready (rs := [3]) (by kernel_rfl) (by simp) ?_
  refine AllReadyH.cons rfl (fun KK hK => ?_) AllReadyH.nil
  simp only [List.getElem_toArray, List.getElem_cons_succ, List.getElem_cons_zero]
  go_simp
  refine (HR.out _ ((H.out.below K2.2 (Nat.le_refl _)).more K2.2.size)).mono ?_
  rintro e X2 ⟨rfl, b2⟩
  have K3 := K2.next b2
  refine hK.out _ _ K3 (fun hHeld => ?_)
  clear hK KK
  try simp only [Act.put, List.setIfInBounds_toArray, List.set_cons_zero, List.set_cons_succ]
  refine takeH 4 4 (.bool ll) rfl rfl (by kernel_rfl) (by kernel_rfl) (by kernel_rfl) (fun _ _ _ h => h) (by kernel_rfl) (fun X hX => by clear hX; first | rfl | go_simp) hHeld ?_
  simp only [Act.put, List.setIfInBounds_toArray, List.set_cons_zero, List.set_cons_succ]
  refine wpAnyH_done (by kernel_rfl) ?_ _
  go_wp2_with fail
  go_ret
  exact Did.mk rfl K3.2
def psEq (x y : Ps) : Bool := rmEq (rmOf x) (rmOf y)
theorem psEq_iff (x y : Ps) : psEq x y = true ↔ x = y := by
  unfold psEq
  rw [rmEq_iff]
  unfold rmOf
  cases x; cases y
  simp
set_option maxRecDepth 8000 in
set_option maxHeartbeats 4000000 in
theorem p_SameP (x y : Ps) (A A2 : Option Addr) (c c2 : Nat) (hm : x.l.length ≤ maxLen) (w : World) (h : Whs w w.heap.size A x.l) (h2 : Whs w w.heap.size A2 y.l) :
    Calls Try.prog 31 #[pv x A c, pv y A2 c2] w (Did (.bool (psEq x y)) w) := by
  have HA := hid (fun X => p_asRoom x A c X)
  have HB := hid (fun X => p_asRoom y A2 c2 X)
  have HR : Hid (∀ (X : World) (h : Whs X X.heap.size A x.l) (h2 : Whs X X.heap.size A2 y.l), Calls Try.prog 58 #[rv (rmOf x) A c, rv (rmOf y) A2 c2] X (Did (.bool (psEq x y)) X)) := hid (fun X h h2 => p_SameRoom (rmOf x) (rmOf y) A A2 c c2 hm X h h2)
  have H := hid h
  have H2 := hid h2
  clear h h2
  obtain ⟨P, W, hP, hW, K0, z0⟩ := (Mem.nil w).one (pc x A c) 26
  obtain ⟨D, V, hD, hV, K1, z1⟩ := K0.out.one (pc y A2 c2) 26
  clear K0 z0 z1
  generalize psEq x y = ll at *
  go_enter Try.func31, Try.ntmps31
  go_wp2_with fail
  refine wp_region_held_drew (S := fun X => Mem w X [(D, pc y A2 c2, 26), (P, pc x A c, 26)]) (by kernel_rfl) K1.out.drew (fun hHeld => ?_)
  refine takeH 0 5 (pv x A c) rfl rfl (by kernel_rfl) (by kernel_rfl) (by kernel_rfl) (fun _ _ _ h => h) (by kernel_rfl) (fun X hX => by obtain ⟨q0, q1⟩ := hX.ps (B := P) (p := x) (A := A) (c := c) (by simp); clear hX; go_simp) hHeld ?_
  simp only [Act.put, List.setIfInBounds_toArray, List.set_cons_zero, List.set_cons_succ]
  refine takeH 2 7 (pv y A2 c2) rfl rfl (by kernel_rfl) (by kernel_rfl) (by kernel_rfl) (fun _ _ _ h => h) (by kernel_rfl) (fun X hX => by obtain ⟨q0, q1⟩ := hX.ps (B := D) (p := y) (A := A2) (c := c2) (by simp); clear hX; go_simp) hHeld ?_
  simp only [Act.put, List.setIfInBounds_toArray, List.set_cons_zero, List.set_cons_succ]
  refine wpAnyH_ready (rs := [1]) (by kernel_rfl) (by simp) ?_
  refine AllReadyH.cons rfl (fun KK hK => ?_) AllReadyH.nil
  simp only [List.getElem_toArray, List.getElem_cons_succ, List.getElem_cons_zero]
  go_simp
  refine (HA.out _).mono ?_
  rintro e X1 ⟨rfl, b1⟩
  have K2 := K1.out.drew.next b1
  refine hK.out _ _ K2 (fun hHeld => ?_)
  clear hK KK
  try simp only [Act.put, List.setIfInBounds_toArray, List.set_cons_zero, List.set_cons_succ]
  refine wpAnyH_ready (rs := [3]) (by kernel_rfl) (by simp) ?_
  refine AllReadyH.cons rfl (fun KK hK => ?_) AllReadyH.nil
  simp only [List.getElem_toArray, List.getElem_cons_succ, List.getElem_cons_zero]
  go_simp
  refine (HB.out _).mono ?_
  rintro e X2 ⟨rfl, b2⟩
  have K3 := K2.next b2
  refine hK.out _ _ K3 (fun hHeld => ?_)
  clear hK KK
  try simp only [Act.put, List.setIfInBounds_toArray, List.set_cons_zero, List.set_cons_succ]
  refine wpAnyH_ready (rs := [4]) (by kernel_rfl) (by simp) ?_
  refine AllReadyH.cons rfl (fun KK hK => ?_) AllReadyH.nil
  simp only [List.getElem_toArray, List.getElem_cons_succ, List.getElem_cons_zero]
  go_simp
  refine (HR.out _ ((H.out.below K3.2 (Nat.le_refl _)).more K3.2.size) ((H2.out.below K3.2 (Nat.le_refl _)).more K3.2.size)).mono ?_
  rintro e X3 ⟨rfl, b3⟩
  have K4 := K3.next b3
  refine hK.out _ _ K4 (fun hHeld => ?_)
  clear hK KK
  try simp only [Act.put, List.setIfInBounds_toArray, List.set_cons_zero, List.set_cons_succ]
  refine takeH 5 4 (.bool ll) rfl rfl (by kernel_rfl) (by kernel_rfl) (by kernel_rfl) (fun _ _ _ h => h) (by kernel_rfl) (fun X hX => by clear hX; first | rfl | go_simp) hHeld ?_
  simp only [Act.put, List.setIfInBounds_toArray, List.set_cons_zero, List.set_cons_succ]
  refine wpAnyH_done (by kernel_rfl) ?_ _
  go_wp2_with fail
  go_ret
  exact Did.mk rfl K4.2
end Go.Proofs.Ytodhpdaoghbmcaa
