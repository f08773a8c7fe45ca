/- Contracts of the program's own Leave and Return (layer 12). -/
import Derived.Test.YtodhpdaoghbmcaaPerA
namespace Go.Proofs.Ytodhpdaoghbmcaa
open Go.RowKit
open Whn (Gr Wh)

/-- a person, and an Errno -/
def PsRet (p : Ps) (k : Int) (w : World) (e : Ending) (w' : World) : Prop := ∃ A c, e = .returned (.tuple #[pv p A c, .int .i64 k]) ∧ Whs w' w'.heap.size A p.l ∧ p.l.length ≤ c ∧ Below w.heap.size w w'
def ps0 : Ps := ⟨[], []⟩
abbrev zpc : List Value := [.string ⟨#[]⟩, .slice none 0 0]
theorem Mem.two {w X : World} {l : Obs} {C : Nat} {x0 x1 : Value} {t : TypeId} (h : Mem w X ((C, [x0, x1], t) :: l)) (hC : w.heap.size ≤ C) (hne : ∀ p ∈ l, p.1 ≠ C) (y0 y1 : Value) :
    Mem w ((X.setCell ⟨C, 0, none⟩ y0).setCell ⟨C, 1, none⟩ y1) ((C, [y0, y1], t) :: l) := (h.set hC hne 0 y0).set hC hne 1 y1
theorem Mem.other {w X : World} {l : Obs} (h : Mem w X l) {D : Nat} (hD : w.heap.size ≤ D) (hne : ∀ p ∈ l, p.1 ≠ D) (k : Nat) (v : Value) : Mem w (X.setCell ⟨D, k, none⟩ v) l :=
  ⟨fun p hp => (h.1 p hp).other (fun e => hne p hp e.symm) v, h.2.setCell hD v⟩
/-- a row of times lies in no block that has no numbers of 32 bits -/
def Apart (A : Option Addr) (l : List Wh) (B : Nat) : Prop := l ≠ [] → ∀ ad, A = some ad → ad.block ≠ B
theorem whs_apart {X : World} {C B : Nat} {A : Option Addr} {l : List Wh} (h : Whs X C A l) {cs : List Value} {t : TypeId} (hO : Ob X B cs t) (hcs : ∀ (k : Nat) (z : Int), cs[k]? ≠ some (.int .u32 z)) : Apart A l B := by
  intro hl ad hA hB
  obtain ⟨ad', e, _, hc⟩ := h (wcells_ne hl)
  rw [hA] at e
  injection e with e
  subst e
  cases l with
  | nil => exact hl rfl
  | cons x r =>
    have h0 := hc 0 _ (by rw [wcells_cons]; rfl)
    unfold Ob at hO
    unfold World.cell? at h0
    rw [show (ad.add 0).block = B by rw [add_block]; exact hB, hO] at h0
    simp only at h0
    split at h0
    · cases h0
    · exact hcs _ _ (by simpa using h0)
theorem whs_set {w : World} {C : Nat} {A : Option Addr} {l : List Wh} (h : Whs w C A l) {B : Nat} (ha : Apart A l B) (k : Nat) (v : Value) : Whs (w.setCell ⟨B, k, none⟩ v) C A l := fun hn => by
  obtain ⟨ad, e, hb, hc⟩ := h hn
  have hl : l ≠ [] := by intro e; subst e; exact hn rfl
  refine ⟨ad, e, hb, fun j u hj => (World.cell?_setCell_other _ _ _ _ ?_).trans (hc j u hj)⟩
  intro e2
  refine ha hl ad e ?_
  rw [← add_block ad j, ← e2]
theorem whs_size {w : World} {A : Option Addr} {l : List Wh} {p : Addr} {v : Value} (h : Whs (w.setCell p v) w.heap.size A l) : Whs (w.setCell p v) (w.setCell p v).heap.size A l := by
  have : (w.setCell p v).heap.size = w.heap.size := by simp [World.setCell]
  rwa [this]
theorem whs_at_set {w : World} {A : Option Addr} {l : List Wh} (h : Whs w w.heap.size A l) {B : Nat} (ha : Apart A l B) (k : Nat) (v : Value) : Whs (w.setCell ⟨B, k, none⟩ v) (w.setCell ⟨B, k, none⟩ v).heap.size A l := whs_size (whs_set h ha k v)
theorem whs_four {w : World} {A : Option Addr} {l : List Wh} (h : Whs w w.heap.size A l) {B : Nat} (ha : Apart A l B) (v0 v1 v2 v3 : Value) {Y : World} (hY : ((((w.setCell ⟨B, 0, none⟩ v0).setCell ⟨B, 1, none⟩ v1).setCell ⟨B, 2, none⟩ v2).setCell ⟨B, 3, none⟩ v3) = Y) : Whs Y Y.heap.size A l := by
  subst hY
  exact whs_at_set (whs_at_set (whs_at_set (whs_at_set h ha 0 v0) ha 1 v1) ha 2 v2) ha 3 v3
theorem whs_two {w : World} {A : Option Addr} {l : List Wh} (h : Whs w w.heap.size A l) {B : Nat} (ha : Apart A l B) (v0 v1 : Value) {Y : World} (hY : ((w.setCell ⟨B, 0, none⟩ v0).setCell ⟨B, 1, none⟩ v1) = Y) : Whs Y Y.heap.size A l := by
  subst hY
  exact whs_at_set (whs_at_set h ha 0 v0) ha 1 v1
theorem zrc_no : ∀ (k : Nat) (z : Int), zrc[k]? ≠ some (.int .u32 z) := by
  intro k z
  match k with
  | 0 => simp
  | 1 => simp
  | 2 => simp
  | 3 => simp
  | k + 4 => simp
theorem zpc_no : ∀ (k : Nat) (z : Int), zpc[k]? ≠ some (.int .u32 z) := by
  intro k z
  match k with
  | 0 => simp
  | 1 => simp
  | k + 2 => simp
set_option maxRecDepth 8000 in
set_option maxHeartbeats 4000000 in
theorem p_LeaveOf (p : Ps) (A : Option Addr) (c : Nat) (x : Wh) (ra : Rm) (k : Int) (hR : ∀ X : World, Whs X X.heap.size A p.l → Calls Try.prog 54 #[rv (rmOf p) A c, wv x] X (RmRet ra k X)) (w : World) (h : Whs w w.heap.size A p.l) :
    Calls Try.prog 25 #[pv p A c, wv x] w (PsRet (psOf ra) k w) := by
  have HA := hid (fun X => p_asRoom p A c X)
  have HB : Hid (∀ (A : Option Addr) (c : Nat) (X : World), Calls Try.prog 55 #[rv ra A c] X (Did (.agg #[.string (bs ra.n), .slice A ra.l.length c]) X)) := hid (fun A c X => p_asPerson ra A c X)
  have HR := hid hR
  have H := hid h
  clear h hR
  obtain ⟨P, W, hP, hW, K0, z0⟩ := (Mem.nil w).one (pc p A c) 26
  obtain ⟨D, V, hD, hV, K1, z1⟩ := K0.out.one (wc x) 29
  obtain ⟨R, U, hR, hU, K2, z2⟩ := K1.out.one zpc 26
  have hRw : w.heap.size ≤ R := by have := K1.out.2.size; omega
  have hneR : P ≠ R ∧ D ≠ R := by
    have q1 := (K1.out.at_ (b := P) (cs := pc p A c) (t := 26) (by simp)).lt
    have q2 := (K1.out.at_ (b := D) (cs := wc x) (t := 29) (by simp)).lt
    omega
  clear z0 z1 z2 K0 K1
  go_enter Try.func25, Try.ntmps25
  go_wp2_with fail
  refine wp_region_held_drew (S := fun X => Mem w X [(R, zpc, 26), (D, wc x, 29), (P, pc p A c, 26)]) (by kernel_rfl) K2.out.drew (fun hHeld => ?_)
  refine takeH 0 9 (pv p A c) rfl rfl (by kernel_rfl) (by kernel_rfl) (by kernel_rfl) (fun _ _ _ h => h) (by kernel_rfl) (fun X hX => by obtain ⟨q0, q1⟩ := hX.ps (B := P) (p := p) (A := A) (c := c) (by simp); clear hX; go_simp) hHeld ?_
  simp only [Act.put, List.setIfInBounds_toArray, List.set_cons_zero, List.set_cons_succ]
  refine takeH 2 11 (wv x) rfl rfl (by kernel_rfl) (by kernel_rfl) (by kernel_rfl) (fun _ _ _ h => h) (by kernel_rfl) (fun X hX => by obtain ⟨q0, q1, q2, q3⟩ := hX.wh (B := D) (x := x) (by simp); clear hX; go_simp) hHeld ?_
  simp only [Act.put, List.setIfInBounds_toArray, List.set_cons_zero, List.set_cons_succ]
  refine wpAnyH_ready (rs := [1, 7]) (by kernel_rfl) (by simp) ?_
  refine (AllReadyH.cons rfl (fun KK hK => ?_) (AllReadyH.cons rfl (fun KK hK => ?_) AllReadyH.nil))
  · skip
    simp only [List.getElem_toArray, List.getElem_cons_succ, List.getElem_cons_zero]
    go_simp
    refine (HA.out _).mono ?_
    rintro e X3 ⟨rfl, b3⟩
    have K3 := K2.out.drew.next b3
    refine hK.out _ _ (K3) (fun hHeld => ?_)
    clear hK KK
    try simp only [Act.put, List.setIfInBounds_toArray, List.set_cons_zero, List.set_cons_succ]
    refine wpAnyH_ready (rs := [3, 7]) (by kernel_rfl) (by simp) ?_
    refine (AllReadyH.cons rfl (fun KK hK => ?_) (AllReadyH.cons rfl (fun KK hK => ?_) AllReadyH.nil))
    · skip
      simp only [List.getElem_toArray, List.getElem_cons_succ, List.getElem_cons_zero]
      go_simp
      refine (HR.out _ ((H.out.below K3.2 (Nat.le_refl _)).more K3.2.size)).mono ?_
      rintro e X4 ⟨A1, c1, rfl, hw4, hc1, b4⟩
      have K4 := K3.next b4
      refine hK.out _ _ (K4) (fun hHeld => ?_)
      clear hK KK
      try simp only [Act.put, List.setIfInBounds_toArray, List.set_cons_zero, List.set_cons_succ]
      clear HA HR
      refine takeH 4 8 (.tuple #[rv ra A1 c1, .int .i64 k]) rfl rfl (by kernel_rfl) (by kernel_rfl) (by kernel_rfl) (fun _ _ _ h => h) (by kernel_rfl) (fun X hX => by clear hX; first | rfl | go_simp) hHeld ?_
      simp only [Act.put, List.setIfInBounds_toArray, List.set_cons_zero, List.set_cons_succ]
      refine takeH 5 13 (rv ra A1 c1) rfl rfl (by kernel_rfl) (by kernel_rfl) (by kernel_rfl) (fun _ _ _ h => h) (by kernel_rfl) (fun X hX => by clear hX; first | rfl | go_simp) hHeld ?_
      simp only [Act.put, List.setIfInBounds_toArray, List.set_cons_zero, List.set_cons_succ]
      refine takeH 6 14 (.int .i64 k) rfl rfl (by kernel_rfl) (by kernel_rfl) (by kernel_rfl) (fun _ _ _ h => h) (by kernel_rfl) (fun X hX => by clear hX; first | rfl | go_simp) hHeld ?_
      simp only [Act.put, List.setIfInBounds_toArray, List.set_cons_zero, List.set_cons_succ]
      refine wpAnyH_ready (rs := [7]) (by kernel_rfl) (by simp) ?_
      refine (AllReadyH.cons rfl (fun KK hK => ?_) AllReadyH.nil)
      simp only [List.getElem_toArray, List.getElem_cons_succ, List.getElem_cons_zero]
      have hlt := And.intro (K4.at_ (b := P) (cs := pc p A c) (t := 26) (by simp)).lt (And.intro (K4.at_ (b := D) (cs := wc x) (t := 29) (by simp)).lt (K4.at_ (b := R) (cs := zpc) (t := 26) (by simp)).lt)
      obtain ⟨B, X5, hB, hX5, K5, z5⟩ := K4.one zrc 63
      go_simp
      refine hK.out _ _ (K5.out.sub (by simp)) (fun hHeld => ?_)
      clear hK KK
      try simp only [Act.put, List.setIfInBounds_toArray, List.set_cons_zero, List.set_cons_succ]
      have hw5 := (hw4.below z5 (Nat.le_refl _)).more z5.size
      clear z5
      have hO := K5.out.at_ (b := B) (cs := zrc) (t := 63) (by simp)
      have z00 := hO.cell (k := 0) rfl
      have f00 := hO.free 0
      have z10 := hO.cell (k := 1) rfl
      have f10 := hO.free 1
      have z20 := hO.cell (k := 2) rfl
      have f20 := hO.free 2
      have z30 := hO.cell (k := 3) rfl
      have f30 := hO.free 3
      have KB := K5.out.sub (l' := (B, zrc, 63) :: [(R, zpc, 26), (D, wc x, 29), (P, pc p A c, 26)]) (by simp)
      have hapB := whs_apart hw5 hO zrc_no
      have hapR := whs_apart hw5 (K5.out.at_ (b := R) (cs := zpc) (t := 26) (by simp)) zpc_no
      have KC := hid (KB.four (show w.heap.size ≤ B by omega) (by
        intro q hq
        simp only [List.mem_cons, List.not_mem_nil, or_false] at hq
        rcases hq with rfl | rfl | rfl
        · show R ≠ B; omega
        · show D ≠ B; omega
        · show P ≠ B; omega) (txt ra.n) (.int .i64 ra.s) (.int .u16 (ra.g : Int)) (.slice A1 ra.l.length c1))
      obtain ⟨Y, hY⟩ : ∃ Y, ((((X5.setCell ⟨B, 0, none⟩ (txt ra.n)).setCell ⟨B, 1, none⟩ (.int .i64 ra.s)).setCell ⟨B, 2, none⟩ (.int .u16 (ra.g : Int))).setCell ⟨B, 3, none⟩ (.slice A1 ra.l.length c1)) = Y := ⟨_, rfl⟩
      rw [hY] at KC
      have hr := whs_four hw5 hapB (txt ra.n) (.int .i64 ra.s) (.int .u16 (ra.g : Int)) (.slice A1 ra.l.length c1) hY
      refine wpAnyH_ready (rs := [8]) (by kernel_rfl) (by simp) ?_
      refine (AllReadyH.cons rfl (fun KK hK => ?_) AllReadyH.nil)
      simp only [List.getElem_toArray, List.getElem_cons_succ, List.getElem_cons_zero]
      go_simp
      refine hK.out _ _ (KC.out.sub (by simp)) (fun hHeld => ?_)
      clear hK KK
      try simp only [Act.put, List.setIfInBounds_toArray, List.set_cons_zero, List.set_cons_succ]
      clear z00 f00 z10 f10 z20 f20 z30 f30
      refine wpAnyH_ready (rs := [9]) (by kernel_rfl) (by simp) ?_
      refine (AllReadyH.cons rfl (fun KK hK => ?_) AllReadyH.nil)
      simp only [List.getElem_toArray, List.getElem_cons_succ, List.getElem_cons_zero]
      go_simp
      refine hK.out _ _ (KC.out.sub (by simp)) (fun hHeld => ?_)
      clear hK KK
      try simp only [Act.put, List.setIfInBounds_toArray, List.set_cons_zero, List.set_cons_succ]
      refine wpAnyH_done (by kernel_rfl) ?_ _
      clear hapB hlt
      obtain ⟨q0, q1, q2, q3⟩ := KC.out.rm (B := B) (r := ra) (A := A1) (c := c1) (by simp)
      go_wp2_with fail
      refine (HB.out _ _ _).mono ?_
      rintro e Y1 ⟨rfl, bY⟩
      have KD := KC.out.next bY
      have hr1 := (hr.below bY (Nat.le_refl _)).more bY.size
      clear q0 q1 q2 q3 hr
      have hO := KD.at_ (b := R) (cs := zpc) (t := 26) (by simp)
      have z0 := hO.cell (k := 0) rfl
      have z1 := hO.cell (k := 1) rfl
      have f0 := hO.free 0
      have f1 := hO.free 1
      have KE := hid ((KD.sub (l' := [(R, zpc, 26), (D, wc x, 29), (P, pc p A c, 26)]) (by simp)).two hRw (by
        intro q hq
        simp only [List.mem_cons, List.not_mem_nil, or_false] at hq
        rcases hq with rfl | rfl
        · exact hneR.2
        · exact hneR.1) (.string (bs ra.n)) (.slice A1 ra.l.length c1))
      obtain ⟨Z, hZ⟩ : ∃ Z, ((Y1.setCell ⟨R, 0, none⟩ (.string (bs ra.n))).setCell ⟨R, 1, none⟩ (.slice A1 ra.l.length c1)) = Z := ⟨_, rfl⟩
      rw [hZ] at KE
      have hr2 := whs_two hr1 hapR (.string (bs ra.n)) (.slice A1 ra.l.length c1) hZ
      have y0 := KE.out.cell (b := R) (cs := [.string (bs ra.n), .slice A1 ra.l.length c1]) (t := 26) (by simp) (k := 0) rfl
      have y1 := KE.out.cell (b := R) (cs := [.string (bs ra.n), .slice A1 ra.l.length c1]) (t := 26) (by simp) (k := 1) rfl
      clear hO hr1 KD KC
      go_wp2_with fail
      exact bodyPost_ret (v := .tuple #[pv (psOf ra) A1 c1, .int .i64 k]) (by simp [results, Try.results25, go_sem, y0, y1, psOf]) rfl ⟨A1, c1, rfl, hr2, hc1, KE.out.2⟩
    · skip
      simp only [List.getElem_toArray, List.getElem_cons_succ, List.getElem_cons_zero]
      have hlt := And.intro (K3.at_ (b := P) (cs := pc p A c) (t := 26) (by simp)).lt (And.intro (K3.at_ (b := D) (cs := wc x) (t := 29) (by simp)).lt (K3.at_ (b := R) (cs := zpc) (t := 26) (by simp)).lt)
      obtain ⟨B, X4, hB, hX4, K4, z4⟩ := K3.one zrc 63
      go_simp
      refine hK.out _ _ (K4.out.sub (by simp)) (fun hHeld => ?_)
      clear hK KK
      try simp only [Act.put, List.setIfInBounds_toArray, List.set_cons_zero, List.set_cons_succ]
      clear z4
      refine wpAnyH_ready (rs := [3]) (by kernel_rfl) (by simp) ?_
      refine (AllReadyH.cons rfl (fun KK hK => ?_) AllReadyH.nil)
      simp only [List.getElem_toArray, List.getElem_cons_succ, List.getElem_cons_zero]
      go_simp
      refine (HR.out _ ((H.out.below K4.out.2 (Nat.le_refl _)).more K4.out.2.size)).mono ?_
      rintro e X5 ⟨A1, c1, rfl, hw5, hc1, b5⟩
      have K5 := K4.out.next b5
      refine hK.out _ _ (K5.sub (by simp)) (fun hHeld => ?_)
      clear hK KK
      try simp only [Act.put, List.setIfInBounds_toArray, List.set_cons_zero, List.set_cons_succ]
      clear HA HR
      refine takeH 4 8 (.tuple #[rv ra A1 c1, .int .i64 k]) rfl rfl (by kernel_rfl) (by kernel_rfl) (by kernel_rfl) (fun _ _ _ h => h) (by kernel_rfl) (fun X hX => by clear hX; first | rfl | go_simp) hHeld ?_
      simp only [Act.put, List.setIfInBounds_toArray, List.set_cons_zero, List.set_cons_succ]
      refine takeH 5 13 (rv ra A1 c1) rfl rfl (by kernel_rfl) (by kernel_rfl) (by kernel_rfl) (fun _ _ _ h => h) (by kernel_rfl) (fun X hX => by clear hX; first | rfl | go_simp) hHeld ?_
      simp only [Act.put, List.setIfInBounds_toArray, List.set_cons_zero, List.set_cons_succ]
      refine takeH 6 14 (.int .i64 k) rfl rfl (by kernel_rfl) (by kernel_rfl) (by kernel_rfl) (fun _ _ _ h => h) (by kernel_rfl) (fun X hX => by clear hX; first | rfl | go_simp) hHeld ?_
      simp only [Act.put, List.setIfInBounds_toArray, List.set_cons_zero, List.set_cons_succ]
      have hO := K5.at_ (b := B) (cs := zrc) (t := 63) (by simp)
      have z00 := hO.cell (k := 0) rfl
      have f00 := hO.free 0
      have z10 := hO.cell (k := 1) rfl
      have f10 := hO.free 1
      have z20 := hO.cell (k := 2) rfl
      have f20 := hO.free 2
      have z30 := hO.cell (k := 3) rfl
      have f30 := hO.free 3
      have KB := K5.sub (l' := (B, zrc, 63) :: [(R, zpc, 26), (D, wc x, 29), (P, pc p A c, 26)]) (by simp)
      have hapB := whs_apart hw5 hO zrc_no
      have hapR := whs_apart hw5 (K5.at_ (b := R) (cs := zpc) (t := 26) (by simp)) zpc_no
      have KC := hid (KB.four (show w.heap.size ≤ B by omega) (by
        intro q hq
        simp only [List.mem_cons, List.not_mem_nil, or_false] at hq
        rcases hq with rfl | rfl | rfl
        · show R ≠ B; omega
        · show D ≠ B; omega
        · show P ≠ B; omega) (txt ra.n) (.int .i64 ra.s) (.int .u16 (ra.g : Int)) (.slice A1 ra.l.length c1))
      obtain ⟨Y, hY⟩ : ∃ Y, ((((X5.setCell ⟨B, 0, none⟩ (txt ra.n)).setCell ⟨B, 1, none⟩ (.int .i64 ra.s)).setCell ⟨B, 2, none⟩ (.int .u16 (ra.g : Int))).setCell ⟨B, 3, none⟩ (.slice A1 ra.l.length c1)) = Y := ⟨_, rfl⟩
      rw [hY] at KC
      have hr := whs_four hw5 hapB (txt ra.n) (.int .i64 ra.s) (.int .u16 (ra.g : Int)) (.slice A1 ra.l.length c1) hY
      refine wpAnyH_ready (rs := [8]) (by kernel_rfl) (by simp) ?_
      refine (AllReadyH.cons rfl (fun KK hK => ?_) AllReadyH.nil)
      simp only [List.getElem_toArray, List.getElem_cons_succ, List.getElem_cons_zero]
      go_simp
      refine hK.out _ _ (KC.out.sub (by simp)) (fun hHeld => ?_)
      clear hK KK
      try simp only [Act.put, List.setIfInBounds_toArray, List.set_cons_zero, List.set_cons_succ]
      clear z00 f00 z10 f10 z20 f20 z30 f30
      refine wpAnyH_ready (rs := [9]) (by kernel_rfl) (by simp) ?_
      refine (AllReadyH.cons rfl (fun KK hK => ?_) AllReadyH.nil)
      simp only [List.getElem_toArray, List.getElem_cons_succ, List.getElem_cons_zero]
      go_simp
      refine hK.out _ _ (KC.out.sub (by simp)) (fun hHeld => ?_)
      clear hK KK
      try simp only [Act.put, List.setIfInBounds_toArray, List.set_cons_zero, List.set_cons_succ]
      refine wpAnyH_done (by kernel_rfl) ?_ _
      clear hapB hlt
      obtain ⟨q0, q1, q2, q3⟩ := KC.out.rm (B := B) (r := ra) (A := A1) (c := c1) (by simp)
      go_wp2_with fail
      refine (HB.out _ _ _).mono ?_
      rintro e Y1 ⟨rfl, bY⟩
      have KD := KC.out.next bY
      have hr1 := (hr.below bY (Nat.le_refl _)).more bY.size
      clear q0 q1 q2 q3 hr
      have hO := KD.at_ (b := R) (cs := zpc) (t := 26) (by simp)
      have z0 := hO.cell (k := 0) rfl
      have z1 := hO.cell (k := 1) rfl
      have f0 := hO.free 0
      have f1 := hO.free 1
      have KE := hid ((KD.sub (l' := [(R, zpc, 26), (D, wc x, 29), (P, pc p A c, 26)]) (by simp)).two hRw (by
        intro q hq
        simp only [List.mem_cons, List.not_mem_nil, or_false] at hq
        rcases hq with rfl | rfl
        · exact hneR.2
        · exact hneR.1) (.string (bs ra.n)) (.slice A1 ra.l.length c1))
      obtain ⟨Z, hZ⟩ : ∃ Z, ((Y1.setCell ⟨R, 0, none⟩ (.string (bs ra.n))).setCell ⟨R, 1, none⟩ (.slice A1 ra.l.length c1)) = Z := ⟨_, rfl⟩
      rw [hZ] at KE
      have hr2 := whs_two hr1 hapR (.string (bs ra.n)) (.slice A1 ra.l.length c1) hZ
      have y0 := KE.out.cell (b := R) (cs := [.string (bs ra.n), .slice A1 ra.l.length c1]) (t := 26) (by simp) (k := 0) rfl
      have y1 := KE.out.cell (b := R) (cs := [.string (bs ra.n), .slice A1 ra.l.length c1]) (t := 26) (by simp) (k := 1) rfl
      clear hO hr1 KD KC
      go_wp2_with fail
      exact bodyPost_ret (v := .tuple #[pv (psOf ra) A1 c1, .int .i64 k]) (by simp [results, Try.results25, go_sem, y0, y1, psOf]) rfl ⟨A1, c1, rfl, hr2, hc1, KE.out.2⟩
  · skip
    simp only [List.getElem_toArray, List.getElem_cons_succ, List.getElem_cons_zero]
    have hlt := And.intro (K2.out.drew.at_ (b := P) (cs := pc p A c) (t := 26) (by simp)).lt (And.intro (K2.out.drew.at_ (b := D) (cs := wc x) (t := 29) (by simp)).lt (K2.out.drew.at_ (b := R) (cs := zpc) (t := 26) (by simp)).lt)
    obtain ⟨B, X3, hB, hX3, K3, z3⟩ := K2.out.drew.one zrc 63
    go_simp
    refine hK.out _ _ (K3.out.sub (by simp)) (fun hHeld => ?_)
    clear hK KK
    try simp only [Act.put, List.setIfInBounds_toArray, List.set_cons_zero, List.set_cons_succ]
    clear z3
    refine wpAnyH_ready (rs := [1]) (by kernel_rfl) (by simp) ?_
    refine (AllReadyH.cons rfl (fun KK hK => ?_) AllReadyH.nil)
    simp only [List.getElem_toArray, List.getElem_cons_succ, List.getElem_cons_zero]
    go_simp
    refine (HA.out _).mono ?_
    rintro e X4 ⟨rfl, b4⟩
    have K4 := K3.out.next b4
    refine hK.out _ _ (K4.sub (by simp)) (fun hHeld => ?_)
    clear hK KK
    try simp only [Act.put, List.setIfInBounds_toArray, List.set_cons_zero, List.set_cons_succ]
    refine wpAnyH_ready (rs := [3]) (by kernel_rfl) (by simp) ?_
    refine (AllReadyH.cons rfl (fun KK hK => ?_) AllReadyH.nil)
    simp only [List.getElem_toArray, List.getElem_cons_succ, List.getElem_cons_zero]
    go_simp
    refine (HR.out _ ((H.out.below K4.2 (Nat.le_refl _)).more K4.2.size)).mono ?_
    rintro e X5 ⟨A1, c1, rfl, hw5, hc1, b5⟩
    have K5 := K4.next b5
    refine hK.out _ _ (K5.sub (by simp)) (fun hHeld => ?_)
    clear hK KK
    try simp only [Act.put, List.setIfInBounds_toArray, List.set_cons_zero, List.set_cons_succ]
    clear HA HR
    refine takeH 4 8 (.tuple #[rv ra A1 c1, .int .i64 k]) rfl rfl (by kernel_rfl) (by kernel_rfl) (by kernel_rfl) (fun _ _ _ h => h) (by kernel_rfl) (fun X hX => by clear hX; first | rfl | go_simp) hHeld ?_
    simp only [Act.put, List.setIfInBounds_toArray, List.set_cons_zero, List.set_cons_succ]
    refine takeH 5 13 (rv ra A1 c1) rfl rfl (by kernel_rfl) (by kernel_rfl) (by kernel_rfl) (fun _ _ _ h => h) (by kernel_rfl) (fun X hX => by clear hX; first | rfl | go_simp) hHeld ?_
    simp only [Act.put, List.setIfInBounds_toArray, List.set_cons_zero, List.set_cons_succ]
    refine takeH 6 14 (.int .i64 k) rfl rfl (by kernel_rfl) (by kernel_rfl) (by kernel_rfl) (fun _ _ _ h => h) (by kernel_rfl) (fun X hX => by clear hX; first | rfl | go_simp) hHeld ?_
    simp only [Act.put, List.setIfInBounds_toArray, List.set_cons_zero, List.set_cons_succ]
    have hO := K5.at_ (b := B) (cs := zrc) (t := 63) (by simp)
    have z00 := hO.cell (k := 0) rfl
    have f00 := hO.free 0
    have z10 := hO.cell (k := 1) rfl
    have f10 := hO.free 1
    have z20 := hO.cell (k := 2) rfl
    have f20 := hO.free 2
    have z30 := hO.cell (k := 3) rfl
    have f30 := hO.free 3
    have KB := K5.sub (l' := (B, zrc, 63) :: [(R, zpc, 26), (D, wc x, 29), (P, pc p A c, 26)]) (by simp)
    have hapB := whs_apart hw5 hO zrc_no
    have hapR := whs_apart hw5 (K5.at_ (b := R) (cs := zpc) (t := 26) (by simp)) zpc_no
    have KC := hid (KB.four (show w.heap.size ≤ B by omega) (by
      intro q hq
      simp only [List.mem_cons, List.not_mem_nil, or_false] at hq
      rcases hq with rfl | rfl | rfl
      · show R ≠ B; omega
      · show D ≠ B; omega
      · show P ≠ B; omega) (txt ra.n) (.int .i64 ra.s) (.int .u16 (ra.g : Int)) (.slice A1 ra.l.length c1))
    obtain ⟨Y, hY⟩ : ∃ Y, ((((X5.setCell ⟨B, 0, none⟩ (txt ra.n)).setCell ⟨B, 1, none⟩ (.int .i64 ra.s)).setCell ⟨B, 2, none⟩ (.int .u16 (ra.g : Int))).setCell ⟨B, 3, none⟩ (.slice A1 ra.l.length c1)) = Y := ⟨_, rfl⟩
    rw [hY] at KC
    have hr := whs_four hw5 hapB (txt ra.n) (.int .i64 ra.s) (.int .u16 (ra.g : Int)) (.slice A1 ra.l.length c1) hY
    refine wpAnyH_ready (rs := [8]) (by kernel_rfl) (by simp) ?_
    refine (AllReadyH.cons rfl (fun KK hK => ?_) AllReadyH.nil)
    simp only [List.getElem_toArray, List.getElem_cons_succ, List.getElem_cons_zero]
    go_simp
    refine hK.out _ _ (KC.out.sub (by simp)) (fun hHeld => ?_)
    clear hK KK
    try simp only [Act.put, List.setIfInBounds_toArray, List.set_cons_zero, List.set_cons_succ]
    clear z00 f00 z10 f10 z20 f20 z30 f30
    refine wpAnyH_ready (rs := [9]) (by kernel_rfl) (by simp) ?_
    refine (AllReadyH.cons rfl (fun KK hK => ?_) AllReadyH.nil)
    simp only [List.getElem_toArray, List.getElem_cons_succ, List.getElem_cons_zero]
    go_simp
    refine hK.out _ _ (KC.out.sub (by simp)) (fun hHeld => ?_)
    clear hK KK
    try simp only [Act.put, List.setIfInBounds_toArray, List.set_cons_zero, List.set_cons_succ]
    refine wpAnyH_done (by kernel_rfl) ?_ _
    clear hapB hlt
    obtain ⟨q0, q1, q2, q3⟩ := KC.out.rm (B := B) (r := ra) (A := A1) (c := c1) (by simp)
    go_wp2_with fail
    refine (HB.out _ _ _).mono ?_
    rintro e Y1 ⟨rfl, bY⟩
    have KD := KC.out.next bY
    have hr1 := (hr.below bY (Nat.le_refl _)).more bY.size
    clear q0 q1 q2 q3 hr
    have hO := KD.at_ (b := R) (cs := zpc) (t := 26) (by simp)
    have z0 := hO.cell (k := 0) rfl
    have z1 := hO.cell (k := 1) rfl
    have f0 := hO.free 0
    have f1 := hO.free 1
    have KE := hid ((KD.sub (l' := [(R, zpc, 26), (D, wc x, 29), (P, pc p A c, 26)]) (by simp)).two hRw (by
      intro q hq
      simp only [List.mem_cons, List.not_mem_nil, or_false] at hq
      rcases hq with rfl | rfl
      · exact hneR.2
      · exact hneR.1) (.string (bs ra.n)) (.slice A1 ra.l.length c1))
    obtain ⟨Z, hZ⟩ : ∃ Z, ((Y1.setCell ⟨R, 0, none⟩ (.string (bs ra.n))).setCell ⟨R, 1, none⟩ (.slice A1 ra.l.length c1)) = Z := ⟨_, rfl⟩
    rw [hZ] at KE
    have hr2 := whs_two hr1 hapR (.string (bs ra.n)) (.slice A1 ra.l.length c1) hZ
    have y0 := KE.out.cell (b := R) (cs := [.string (bs ra.n), .slice A1 ra.l.length c1]) (t := 26) (by simp) (k := 0) rfl
    have y1 := KE.out.cell (b := R) (cs := [.string (bs ra.n), .slice A1 ra.l.length c1]) (t := 26) (by simp) (k := 1) rfl
    clear hO hr1 KD KC
    go_wp2_with fail
    exact bodyPost_ret (v := .tuple #[pv (psOf ra) A1 c1, .int .i64 k]) (by simp [results, Try.results25, go_sem, y0, y1, psOf]) rfl ⟨A1, c1, rfl, hr2, hc1, KE.out.2⟩
set_option maxRecDepth 8000 in
set_option maxHeartbeats 4000000 in
theorem p_ReturnOf (p : Ps) (A : Option Addr) (c : Nat) (x : Wh) (ra : Rm) (k : Int) (hR : ∀ X : World, Whs X X.heap.size A p.l → Calls Try.prog 56 #[rv (rmOf p) A c, wv x] X (RmRet ra k X)) (w : World) (h : Whs w w.heap.size A p.l) :
    Calls Try.prog 27 #[pv p A c, wv x] w (PsRet (psOf ra) k w) := by
  have HA := hid (fun X => p_asRoom p A c X)
  have HB : Hid (∀ (A : Option Addr) (c : Nat) (X : World), Calls Try.prog 55 #[rv ra A c] X (Did (.agg #[.string (bs ra.n), .slice A ra.l.length c]) X)) := hid (fun A c X => p_asPerson ra A c X)
  have HR := hid hR
  have H := hid h
  clear h hR
  obtain ⟨P, W, hP, hW, K0, z0⟩ := (Mem.nil w).one (pc p A c) 26
  obtain ⟨D, V, hD, hV, K1, z1⟩ := K0.out.one (wc x) 29
  obtain ⟨R, U, hR, hU, K2, z2⟩ := K1.out.one zpc 26
  have hRw : w.heap.size ≤ R := by have := K1.out.2.size; omega
  have hneR : P ≠ R ∧ D ≠ R := by
    have q1 := (K1.out.at_ (b := P) (cs := pc p A c) (t := 26) (by simp)).lt
    have q2 := (K1.out.at_ (b := D) (cs := wc x) (t := 29) (by simp)).lt
    omega
  clear z0 z1 z2 K0 K1
  go_enter Try.func27, Try.ntmps27
  go_wp2_with fail
  refine wp_region_held_drew (S := fun X => Mem w X [(R, zpc, 26), (D, wc x, 29), (P, pc p A c, 26)]) (by kernel_rfl) K2.out.drew (fun hHeld => ?_)
  refine takeH 0 9 (pv p A c) rfl rfl (by kernel_rfl) (by kernel_rfl) (by kernel_rfl) (fun _ _ _ h => h) (by kernel_rfl) (fun X hX => by obtain ⟨q0, q1⟩ := hX.ps (B := P) (p := p) (A := A) (c := c) (by simp); clear hX; go_simp) hHeld ?_
  simp only [Act.put, List.setIfInBounds_toArray, List.set_cons_zero, List.set_cons_succ]
  refine takeH 2 11 (wv x) rfl rfl (by kernel_rfl) (by kernel_rfl) (by kernel_rfl) (fun _ _ _ h => h) (by kernel_rfl) (fun X hX => by obtain ⟨q0, q1, q2, q3⟩ := hX.wh (B := D) (x := x) (by simp); clear hX; go_simp) hHeld ?_
  simp only [Act.put, List.setIfInBounds_toArray, List.set_cons_zero, List.set_cons_succ]
  refine wpAnyH_ready (rs := [1, 7]) (by kernel_rfl) (by simp) ?_
  refine (AllReadyH.cons rfl (fun KK hK => ?_) (AllReadyH.cons rfl (fun KK hK => ?_) AllReadyH.nil))
  · skip
    simp only [List.getElem_toArray, List.getElem_cons_succ, List.getElem_cons_zero]
    go_simp
    refine (HA.out _).mono ?_
    rintro e X3 ⟨rfl, b3⟩
    have K3 := K2.out.drew.next b3
    refine hK.out _ _ (K3) (fun hHeld => ?_)
    clear hK KK
    try simp only [Act.put, List.setIfInBounds_toArray, List.set_cons_zero, List.set_cons_succ]
    refine wpAnyH_ready (rs := [3, 7]) (by kernel_rfl) (by simp) ?_
    refine (AllReadyH.cons rfl (fun KK hK => ?_) (AllReadyH.cons rfl (fun KK hK => ?_) AllReadyH.nil))
    · skip
      simp only [List.getElem_toArray, List.getElem_cons_succ, List.getElem_cons_zero]
      go_simp
      refine (HR.out _ ((H.out.below K3.2 (Nat.le_refl _)).more K3.2.size)).mono ?_
      rintro e X4 ⟨A1, c1, rfl, hw4, hc1, b4⟩
      have K4 := K3.next b4
      refine hK.out _ _ (K4) (fun hHeld => ?_)
      clear hK KK
      try simp only [Act.put, List.setIfInBounds_toArray, List.set_cons_zero, List.set_cons_succ]
      clear HA HR
      refine takeH 4 8 (.tuple #[rv ra A1 c1, .int .i64 k]) rfl rfl (by kernel_rfl) (by kernel_rfl) (by kernel_rfl) (fun _ _ _ h => h) (by kernel_rfl) (fun X hX => by clear hX; first | rfl | go_simp) hHeld ?_
      simp only [Act.put, List.setIfInBounds_toArray, List.set_cons_zero, List.set_cons_succ]
      refine takeH 5 13 (rv ra A1 c1) rfl rfl (by kernel_rfl) (by kernel_rfl) (by kernel_rfl) (fun _ _ _ h => h) (by kernel_rfl) (fun X hX => by clear hX; first | rfl | go_simp) hHeld ?_
      simp only [Act.put, List.setIfInBounds_toArray, List.set_cons_zero, List.set_cons_succ]
      refine takeH 6 14 (.int .i64 k) rfl rfl (by kernel_rfl) (by kernel_rfl) (by kernel_rfl) (fun _ _ _ h => h) (by kernel_rfl) (fun X hX => by clear hX; first | rfl | go_simp) hHeld ?_
      simp only [Act.put, List.setIfInBounds_toArray, List.set_cons_zero, List.set_cons_succ]
      refine wpAnyH_ready (rs := [7]) (by kernel_rfl) (by simp) ?_
      refine (AllReadyH.cons rfl (fun KK hK => ?_) AllReadyH.nil)
      simp only [List.getElem_toArray, List.getElem_cons_succ, List.getElem_cons_zero]
      have hlt := And.intro (K4.at_ (b := P) (cs := pc p A c) (t := 26) (by simp)).lt (And.intro (K4.at_ (b := D) (cs := wc x) (t := 29) (by simp)).lt (K4.at_ (b := R) (cs := zpc) (t := 26) (by simp)).lt)
      obtain ⟨B, X5, hB, hX5, K5, z5⟩ := K4.one zrc 63
      go_simp
      refine hK.out _ _ (K5.out.sub (by simp)) (fun hHeld => ?_)
      clear hK KK
      try simp only [Act.put, List.setIfInBounds_toArray, List.set_cons_zero, List.set_cons_succ]
      have hw5 := (hw4.below z5 (Nat.le_refl _)).more z5.size
      clear z5
      have hO := K5.out.at_ (b := B) (cs := zrc) (t := 63) (by simp)
      have z00 := hO.cell (k := 0) rfl
      have f00 := hO.free 0
      have z10 := hO.cell (k := 1) rfl
      have f10 := hO.free 1
      have z20 := hO.cell (k := 2) rfl
      have f20 := hO.free 2
      have z30 := hO.cell (k := 3) rfl
      have f30 := hO.free 3
      have KB := K5.out.sub (l' := (B, zrc, 63) :: [(R, zpc, 26), (D, wc x, 29), (P, pc p A c, 26)]) (by simp)
      have hapB := whs_apart hw5 hO zrc_no
      have hapR := whs_apart hw5 (K5.out.at_ (b := R) (cs := zpc) (t := 26) (by simp)) zpc_no
      have KC := hid (KB.four (show w.heap.size ≤ B by omega) (by
        intro q hq
        simp only [List.mem_cons, List.not_mem_nil, or_false] at hq
        rcases hq with rfl | rfl | rfl
        · show R ≠ B; omega
        · show D ≠ B; omega
        · show P ≠ B; omega) (txt ra.n) (.int .i64 ra.s) (.int .u16 (ra.g : Int)) (.slice A1 ra.l.length c1))
      obtain ⟨Y, hY⟩ : ∃ Y, ((((X5.setCell ⟨B, 0, none⟩ (txt ra.n)).setCell ⟨B, 1, none⟩ (.int .i64 ra.s)).setCell ⟨B, 2, none⟩ (.int .u16 (ra.g : Int))).setCell ⟨B, 3, none⟩ (.slice A1 ra.l.length c1)) = Y := ⟨_, rfl⟩
      rw [hY] at KC
      have hr := whs_four hw5 hapB (txt ra.n) (.int .i64 ra.s) (.int .u16 (ra.g : Int)) (.slice A1 ra.l.length c1) hY
      refine wpAnyH_ready (rs := [8]) (by kernel_rfl) (by simp) ?_
      refine (AllReadyH.cons rfl (fun KK hK => ?_) AllReadyH.nil)
      simp only [List.getElem_toArray, List.getElem_cons_succ, List.getElem_cons_zero]
      go_simp
      refine hK.out _ _ (KC.out.sub (by simp)) (fun hHeld => ?_)
      clear hK KK
      try simp only [Act.put, List.setIfInBounds_toArray, List.set_cons_zero, List.set_cons_succ]
      clear z00 f00 z10 f10 z20 f20 z30 f30
      refine wpAnyH_ready (rs := [9]) (by kernel_rfl) (by simp) ?_
      refine (AllReadyH.cons rfl (fun KK hK => ?_) AllReadyH.nil)
      simp only [List.getElem_toArray, List.getElem_cons_succ, List.getElem_cons_zero]
      go_simp
      refine hK.out _ _ (KC.out.sub (by simp)) (fun hHeld => ?_)
      clear hK KK
      try simp only [Act.put, List.setIfInBounds_toArray, List.set_cons_zero, List.set_cons_succ]
      refine wpAnyH_done (by kernel_rfl) ?_ _
      clear hapB hlt
      obtain ⟨q0, q1, q2, q3⟩ := KC.out.rm (B := B) (r := ra) (A := A1) (c := c1) (by simp)
      go_wp2_with fail
      refine (HB.out _ _ _).mono ?_
      rintro e Y1 ⟨rfl, bY⟩
      have KD := KC.out.next bY
      have hr1 := (hr.below bY (Nat.le_refl _)).more bY.size
      clear q0 q1 q2 q3 hr
      have hO := KD.at_ (b := R) (cs := zpc) (t := 26) (by simp)
      have z0 := hO.cell (k := 0) rfl
      have z1 := hO.cell (k := 1) rfl
      have f0 := hO.free 0
      have f1 := hO.free 1
      have KE := hid ((KD.sub (l' := [(R, zpc, 26), (D, wc x, 29), (P, pc p A c, 26)]) (by simp)).two hRw (by
        intro q hq
        simp only [List.mem_cons, List.not_mem_nil, or_false] at hq
        rcases hq with rfl | rfl
        · exact hneR.2
        · exact hneR.1) (.string (bs ra.n)) (.slice A1 ra.l.length c1))
      obtain ⟨Z, hZ⟩ : ∃ Z, ((Y1.setCell ⟨R, 0, none⟩ (.string (bs ra.n))).setCell ⟨R, 1, none⟩ (.slice A1 ra.l.length c1)) = Z := ⟨_, rfl⟩
      rw [hZ] at KE
      have hr2 := whs_two hr1 hapR (.string (bs ra.n)) (.slice A1 ra.l.length c1) hZ
      have y0 := KE.out.cell (b := R) (cs := [.string (bs ra.n), .slice A1 ra.l.length c1]) (t := 26) (by simp) (k := 0) rfl
      have y1 := KE.out.cell (b := R) (cs := [.string (bs ra.n), .slice A1 ra.l.length c1]) (t := 26) (by simp) (k := 1) rfl
      clear hO hr1 KD KC
      go_wp2_with fail
      exact bodyPost_ret (v := .tuple #[pv (psOf ra) A1 c1, .int .i64 k]) (by simp [results, Try.results27, go_sem, y0, y1, psOf]) rfl ⟨A1, c1, rfl, hr2, hc1, KE.out.2⟩
    · skip
      simp only [List.getElem_toArray, List.getElem_cons_succ, List.getElem_cons_zero]
      have hlt := And.intro (K3.at_ (b := P) (cs := pc p A c) (t := 26) (by simp)).lt (And.intro (K3.at_ (b := D) (cs := wc x) (t := 29) (by simp)).lt (K3.at_ (b := R) (cs := zpc) (t := 26) (by simp)).lt)
      obtain ⟨B, X4, hB, hX4, K4, z4⟩ := K3.one zrc 63
      go_simp
      refine hK.out _ _ (K4.out.sub (by simp)) (fun hHeld => ?_)
      clear hK KK
      try simp only [Act.put, List.setIfInBounds_toArray, List.set_cons_zero, List.set_cons_succ]
      clear z4
      refine wpAnyH_ready (rs := [3]) (by kernel_rfl) (by simp) ?_
      refine (AllReadyH.cons rfl (fun KK hK => ?_) AllReadyH.nil)
      simp only [List.getElem_toArray, List.getElem_cons_succ, List.getElem_cons_zero]
      go_simp
      refine (HR.out _ ((H.out.below K4.out.2 (Nat.le_refl _)).more K4.out.2.size)).mono ?_
      rintro e X5 ⟨A1, c1, rfl, hw5, hc1, b5⟩
      have K5 := K4.out.next b5
      refine hK.out _ _ (K5.sub (by simp)) (fun hHeld => ?_)
      clear hK KK
      try simp only [Act.put, List.setIfInBounds_toArray, List.set_cons_zero, List.set_cons_succ]
      clear HA HR
      refine takeH 4 8 (.tuple #[rv ra A1 c1, .int .i64 k]) rfl rfl (by kernel_rfl) (by kernel_rfl) (by kernel_rfl) (fun _ _ _ h => h) (by kernel_rfl) (fun X hX => by clear hX; first | rfl | go_simp) hHeld ?_
      simp only [Act.put, List.setIfInBounds_toArray, List.set_cons_zero, List.set_cons_succ]
      refine takeH 5 13 (rv ra A1 c1) rfl rfl (by kernel_rfl) (by kernel_rfl) (by kernel_rfl) (fun _ _ _ h => h) (by kernel_rfl) (fun X hX => by clear hX; first | rfl | go_simp) hHeld ?_
      simp only [Act.put, List.setIfInBounds_toArray, List.set_cons_zero, List.set_cons_succ]
      refine takeH 6 14 (.int .i64 k) rfl rfl (by kernel_rfl) (by kernel_rfl) (by kernel_rfl) (fun _ _ _ h => h) (by kernel_rfl) (fun X hX => by clear hX; first | rfl | go_simp) hHeld ?_
      simp only [Act.put, List.setIfInBounds_toArray, List.set_cons_zero, List.set_cons_succ]
      have hO := K5.at_ (b := B) (cs := zrc) (t := 63) (by simp)
      have z00 := hO.cell (k := 0) rfl
      have f00 := hO.free 0
      have z10 := hO.cell (k := 1) rfl
      have f10 := hO.free 1
      have z20 := hO.cell (k := 2) rfl
      have f20 := hO.free 2
      have z30 := hO.cell (k := 3) rfl
      have f30 := hO.free 3
      have KB := K5.sub (l' := (B, zrc, 63) :: [(R, zpc, 26), (D, wc x, 29), (P, pc p A c, 26)]) (by simp)
      have hapB := whs_apart hw5 hO zrc_no
      have hapR := whs_apart hw5 (K5.at_ (b := R) (cs := zpc) (t := 26) (by simp)) zpc_no
      have KC := hid (KB.four (show w.heap.size ≤ B by omega) (by
        intro q hq
        simp only [List.mem_cons, List.not_mem_nil, or_false] at hq
        rcases hq with rfl | rfl | rfl
        · show R ≠ B; omega
        · show D ≠ B; omega
        · show P ≠ B; omega) (txt ra.n) (.int .i64 ra.s) (.int .u16 (ra.g : Int)) (.slice A1 ra.l.length c1))
      obtain ⟨Y, hY⟩ : ∃ Y, ((((X5.setCell ⟨B, 0, none⟩ (txt ra.n)).setCell ⟨B, 1, none⟩ (.int .i64 ra.s)).setCell ⟨B, 2, none⟩ (.int .u16 (ra.g : Int))).setCell ⟨B, 3, none⟩ (.slice A1 ra.l.length c1)) = Y := ⟨_, rfl⟩
      rw [hY] at KC
      have hr := whs_four hw5 hapB (txt ra.n) (.int .i64 ra.s) (.int .u16 (ra.g : Int)) (.slice A1 ra.l.length c1) hY
      refine wpAnyH_ready (rs := [8]) (by kernel_rfl) (by simp) ?_
      refine (AllReadyH.cons rfl (fun KK hK => ?_) AllReadyH.nil)
      simp only [List.getElem_toArray, List.getElem_cons_succ, List.getElem_cons_zero]
      go_simp
      refine hK.out _ _ (KC.out.sub (by simp)) (fun hHeld => ?_)
      clear hK KK
      try simp only [Act.put, List.setIfInBounds_toArray, List.set_cons_zero, List.set_cons_succ]
      clear z00 f00 z10 f10 z20 f20 z30 f30
      refine wpAnyH_ready (rs := [9]) (by kernel_rfl) (by simp) ?_
      refine (AllReadyH.cons rfl (fun KK hK => ?_) AllReadyH.nil)
      simp only [List.getElem_toArray, List.getElem_cons_succ, List.getElem_cons_zero]
      go_simp
      refine hK.out _ _ (KC.out.sub (by simp)) (fun hHeld => ?_)
      clear hK KK
      try simp only [Act.put, List.setIfInBounds_toArray, List.set_cons_zero, List.set_cons_succ]
      refine wpAnyH_done (by kernel_rfl) ?_ _
      clear hapB hlt
      obtain ⟨q0, q1, q2, q3⟩ := KC.out.rm (B := B) (r := ra) (A := A1) (c := c1) (by simp)
      go_wp2_with fail
      refine (HB.out _ _ _).mono ?_
      rintro e Y1 ⟨rfl, bY⟩
      have KD := KC.out.next bY
      have hr1 := (hr.below bY (Nat.le_refl _)).more bY.size
      clear q0 q1 q2 q3 hr
      have hO := KD.at_ (b := R) (cs := zpc) (t := 26) (by simp)
      have z0 := hO.cell (k := 0) rfl
      have z1 := hO.cell (k := 1) rfl
      have f0 := hO.free 0
      have f1 := hO.free 1
      have KE := hid ((KD.sub (l' := [(R, zpc, 26), (D, wc x, 29), (P, pc p A c, 26)]) (by simp)).two hRw (by
        intro q hq
        simp only [List.mem_cons, List.not_mem_nil, or_false] at hq
        rcases hq with rfl | rfl
        · exact hneR.2
        · exact hneR.1) (.string (bs ra.n)) (.slice A1 ra.l.length c1))
      obtain ⟨Z, hZ⟩ : ∃ Z, ((Y1.setCell ⟨R, 0, none⟩ (.string (bs ra.n))).setCell ⟨R, 1, none⟩ (.slice A1 ra.l.length c1)) = Z := ⟨_, rfl⟩
      rw [hZ] at KE
      have hr2 := whs_two hr1 hapR (.string (bs ra.n)) (.slice A1 ra.l.length c1) hZ
      have y0 := KE.out.cell (b := R) (cs := [.string (bs ra.n), .slice A1 ra.l.length c1]) (t := 26) (by simp) (k := 0) rfl
      have y1 := KE.out.cell (b := R) (cs := [.string (bs ra.n), .slice A1 ra.l.length c1]) (t := 26) (by simp) (k := 1) rfl
      clear hO hr1 KD KC
      go_wp2_with fail
      exact bodyPost_ret (v := .tuple #[pv (psOf ra) A1 c1, .int .i64 k]) (by simp [results, Try.results27, go_sem, y0, y1, psOf]) rfl ⟨A1, c1, rfl, hr2, hc1, KE.out.2⟩
  · skip
    simp only [List.getElem_toArray, List.getElem_cons_succ, List.getElem_cons_zero]
    have hlt := And.intro (K2.out.drew.at_ (b := P) (cs := pc p A c) (t := 26) (by simp)).lt (And.intro (K2.out.drew.at_ (b := D) (cs := wc x) (t := 29) (by simp)).lt (K2.out.drew.at_ (b := R) (cs := zpc) (t := 26) (by simp)).lt)
    obtain ⟨B, X3, hB, hX3, K3, z3⟩ := K2.out.drew.one zrc 63
    go_simp
    refine hK.out _ _ (K3.out.sub (by simp)) (fun hHeld => ?_)
    clear hK KK
    try simp only [Act.put, List.setIfInBounds_toArray, List.set_cons_zero, List.set_cons_succ]
    clear z3
    refine wpAnyH_ready (rs := [1]) (by kernel_rfl) (by simp) ?_
    refine (AllReadyH.cons rfl (fun KK hK => ?_) AllReadyH.nil)
    simp only [List.getElem_toArray, List.getElem_cons_succ, List.getElem_cons_zero]
    go_simp
    refine (HA.out _).mono ?_
    rintro e X4 ⟨rfl, b4⟩
    have K4 := K3.out.next b4
    refine hK.out _ _ (K4.sub (by simp)) (fun hHeld => ?_)
    clear hK KK
    try simp only [Act.put, List.setIfInBounds_toArray, List.set_cons_zero, List.set_cons_succ]
    refine wpAnyH_ready (rs := [3]) (by kernel_rfl) (by simp) ?_
    refine (AllReadyH.cons rfl (fun KK hK => ?_) AllReadyH.nil)
    simp only [List.getElem_toArray, List.getElem_cons_succ, List.getElem_cons_zero]
    go_simp
    refine (HR.out _ ((H.out.below K4.2 (Nat.le_refl _)).more K4.2.size)).mono ?_
    rintro e X5 ⟨A1, c1, rfl, hw5, hc1, b5⟩
    have K5 := K4.next b5
    refine hK.out _ _ (K5.sub (by simp)) (fun hHeld => ?_)
    clear hK KK
    try simp only [Act.put, List.setIfInBounds_toArray, List.set_cons_zero, List.set_cons_succ]
    clear HA HR
    refine takeH 4 8 (.tuple #[rv ra A1 c1, .int .i64 k]) rfl rfl (by kernel_rfl) (by kernel_rfl) (by kernel_rfl) (fun _ _ _ h => h) (by kernel_rfl) (fun X hX => by clear hX; first | rfl | go_simp) hHeld ?_
    simp only [Act.put, List.setIfInBounds_toArray, List.set_cons_zero, List.set_cons_succ]
    refine takeH 5 13 (rv ra A1 c1) rfl rfl (by kernel_rfl) (by kernel_rfl) (by kernel_rfl) (fun _ _ _ h => h) (by kernel_rfl) (fun X hX => by clear hX; first | rfl | go_simp) hHeld ?_
    simp only [Act.put, List.setIfInBounds_toArray, List.set_cons_zero, List.set_cons_succ]
    refine takeH 6 14 (.int .i64 k) rfl rfl (by kernel_rfl) (by kernel_rfl) (by kernel_rfl) (fun _ _ _ h => h) (by kernel_rfl) (fun X hX => by clear hX; first | rfl | go_simp) hHeld ?_
    simp only [Act.put, List.setIfInBounds_toArray, List.set_cons_zero, List.set_cons_succ]
    have hO := K5.at_ (b := B) (cs := zrc) (t := 63) (by simp)
    have z00 := hO.cell (k := 0) rfl
    have f00 := hO.free 0
    have z10 := hO.cell (k := 1) rfl
    have f10 := hO.free 1
    have z20 := hO.cell (k := 2) rfl
    have f20 := hO.free 2
    have z30 := hO.cell (k := 3) rfl
    have f30 := hO.free 3
    have KB := K5.sub (l' := (B, zrc, 63) :: [(R, zpc, 26), (D, wc x, 29), (P, pc p A c, 26)]) (by simp)
    have hapB := whs_apart hw5 hO zrc_no
    have hapR := whs_apart hw5 (K5.at_ (b := R) (cs := zpc) (t := 26) (by simp)) zpc_no
    have KC := hid (KB.four (show w.heap.size ≤ B by omega) (by
      intro q hq
      simp only [List.mem_cons, List.not_mem_nil, or_false] at hq
      rcases hq with rfl | rfl | rfl
      · show R ≠ B; omega
      · show D ≠ B; omega
      · show P ≠ B; omega) (txt ra.n) (.int .i64 ra.s) (.int .u16 (ra.g : Int)) (.slice A1 ra.l.length c1))
    obtain ⟨Y, hY⟩ : ∃ Y, ((((X5.setCell ⟨B, 0, none⟩ (txt ra.n)).setCell ⟨B, 1, none⟩ (.int .i64 ra.s)).setCell ⟨B, 2, none⟩ (.int .u16 (ra.g : Int))).setCell ⟨B, 3, none⟩ (.slice A1 ra.l.length c1)) = Y := ⟨_, rfl⟩
    rw [hY] at KC
    have hr := whs_four hw5 hapB (txt ra.n) (.int .i64 ra.s) (.int .u16 (ra.g : Int)) (.slice A1 ra.l.length c1) hY
    refine wpAnyH_ready (rs := [8]) (by kernel_rfl) (by simp) ?_
    refine (AllReadyH.cons rfl (fun KK hK => ?_) AllReadyH.nil)
    simp only [List.getElem_toArray, List.getElem_cons_succ, List.getElem_cons_zero]
    go_simp
    refine hK.out _ _ (KC.out.sub (by simp)) (fun hHeld => ?_)
    clear hK KK
    try simp only [Act.put, List.setIfInBounds_toArray, List.set_cons_zero, List.set_cons_succ]
    clear z00 f00 z10 f10 z20 f20 z30 f30
    refine wpAnyH_ready (rs := [9]) (by kernel_rfl) (by simp) ?_
    refine (AllReadyH.cons rfl (fun KK hK => ?_) AllReadyH.nil)
    simp only [List.getElem_toArray, List.getElem_cons_succ, List.getElem_cons_zero]
    go_simp
    refine hK.out _ _ (KC.out.sub (by simp)) (fun hHeld => ?_)
    clear hK KK
    try simp only [Act.put, List.setIfInBounds_toArray, List.set_cons_zero, List.set_cons_succ]
    refine wpAnyH_done (by kernel_rfl) ?_ _
    clear hapB hlt
    obtain ⟨q0, q1, q2, q3⟩ := KC.out.rm (B := B) (r := ra) (A := A1) (c := c1) (by simp)
    go_wp2_with fail
    refine (HB.out _ _ _).mono ?_
    rintro e Y1 ⟨rfl, bY⟩
    have KD := KC.out.next bY
    have hr1 := (hr.below bY (Nat.le_refl _)).more bY.size
    clear q0 q1 q2 q3 hr
    have hO := KD.at_ (b := R) (cs := zpc) (t := 26) (by simp)
    have z0 := hO.cell (k := 0) rfl
    have z1 := hO.cell (k := 1) rfl
    have f0 := hO.free 0
    have f1 := hO.free 1
    have KE := hid ((KD.sub (l' := [(R, zpc, 26), (D, wc x, 29), (P, pc p A c, 26)]) (by simp)).two hRw (by
      intro q hq
      simp only [List.mem_cons, List.not_mem_nil, or_false] at hq
      rcases hq with rfl | rfl
      · exact hneR.2
      · exact hneR.1) (.string (bs ra.n)) (.slice A1 ra.l.length c1))
    obtain ⟨Z, hZ⟩ : ∃ Z, ((Y1.setCell ⟨R, 0, none⟩ (.string (bs ra.n))).setCell ⟨R, 1, none⟩ (.slice A1 ra.l.length c1)) = Z := ⟨_, rfl⟩
    rw [hZ] at KE
    have hr2 := whs_two hr1 hapR (.string (bs ra.n)) (.slice A1 ra.l.length c1) hZ
    have y0 := KE.out.cell (b := R) (cs := [.string (bs ra.n), .slice A1 ra.l.length c1]) (t := 26) (by simp) (k := 0) rfl
    have y1 := KE.out.cell (b := R) (cs := [.string (bs ra.n), .slice A1 ra.l.length c1]) (t := 26) (by simp) (k := 1) rfl
    clear hO hr1 KD KC
    go_wp2_with fail
    exact bodyPost_ret (v := .tuple #[pv (psOf ra) A1 c1, .int .i64 k]) (by simp [results, Try.results27, go_sem, y0, y1, psOf]) rfl ⟨A1, c1, rfl, hr2, hc1, KE.out.2⟩
end Go.Proofs.Ytodhpdaoghbmcaa
