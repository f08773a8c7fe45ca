/- Contracts of the program's own functions of layer 9 (when): Both, Meet, Covers, Gap. -/
import Derived.Test.YteldcaebbmaemaaWhnX
namespace Go.Proofs.Yteldcaebbmaemaa
open Go.RowKit
open Whn (Gr Wh)

def whEq (x y : Wh) : Bool := decide (x.w = y.w ∧ x.d = y.d ∧ x.s = y.s ∧ x.l = y.l)
/-- '==' of two times -/
theorem wh_eql (x y : Wh) (w : World) : (binOp .eql 30 (wv x) (wv y)).run Try.prog w = .ok (.bool (whEq x y)) w := by
  go_simp
  have h1 : ((x.w : Int) = (y.w : Int)) = (x.w = y.w) := propext ⟨fun h => by omega, fun h => by omega⟩
  have h2 : ((x.d : Int) = (y.d : Int)) = (x.d = y.d) := propext ⟨fun h => by omega, fun h => by omega⟩
  simp only [h1, h2]
  unfold whEq
  by_cases a1 : x.w = y.w
  · by_cases a2 : x.d = y.d
    · by_cases a3 : x.s = y.s
      · by_cases a4 : x.l = y.l
        · simp [a1, a2, a3, a4]
        · simp [a1, a2, a3, a4]
      · simp [a1, a2, a3]
    · simp [a1, a2]
  · simp [a1]
/-- what Both hands out -/
def bothV (a b : Wh) : Value := .tuple #[wv (Whn.both a b), .bool (Whn.meet a b)]
theorem Mem.four {w X : World} {l : Obs} {C : Nat} {x0 x1 x2 x3 : Value} {t : TypeId} (h : Mem w X ((C, [x0, x1, x2, x3], t) :: l)) (hC : w.heap.size ≤ C) (hne : ∀ p ∈ l, p.1 ≠ C) (y0 y1 y2 y3 : Value) :
    Mem w ((((X.setCell ⟨C, 0, none⟩ y0).setCell ⟨C, 1, none⟩ y1).setCell ⟨C, 2, none⟩ y2).setCell ⟨C, 3, none⟩ y3) ((C, [y0, y1, y2, y3], t) :: l) :=
  (((h.set hC hne 0 y0).set hC hne 1 y1).set hC hne 2 y2).set hC hne 3 y3
set_option maxRecDepth 20000 in
set_option maxHeartbeats 4000000 in
theorem p_Both (a b : Wh) (ha : Wok a) (hb : Wok b) (w : World) : Calls Try.prog 56 #[wv a, wv b] w (Did (bothV a b) w) := by
  have HS := hid (fun w => p_SameDay a b ha hb w)
  obtain ⟨A, W, hA, hW, K, hk0⟩ := (Mem.nil w).one (wc a) 30
  obtain ⟨B, V, hB, hV, K1, hk1⟩ := K.out.one (wc b) 30
  obtain ⟨C, U, hC, hU, K2, hk2⟩ := K1.out.one [.int .u32 0, .int .u8 0, .int .i64 0, .int .i64 0] 30
  have hCA : A < C ∧ B < C := by
    have q1 := (K2.out.at_ (b := A) (cs := wc a) (t := 30) (by simp)).lt
    have q2 := (K1.out.at_ (b := A) (cs := wc a) (t := 30) (by simp)).lt
    have q3 := (K1.out.at_ (b := B) (cs := wc b) (t := 30) (by simp)).lt
    omega
  have hwC : w.heap.size ≤ C := by
    have q1 := K.out.2.size
    have q2 := K1.out.2.size
    omega
  have hne : ∀ p ∈ [(B, wc b, 30), (A, wc a, 30)], p.1 ≠ C := by
    intro p hp
    simp only [List.mem_cons, List.not_mem_nil, or_false] at hp
    rcases hp with rfl | rfl
    · show B ≠ C; omega
    · show A ≠ C; omega
  have Hne := hid hne
  have HwC := hid hwC
  obtain ⟨c0, c1, c2, c3⟩ := K2.out.wh (B := A) (x := a) (by simp)
  obtain ⟨d0, d1, d2, d3⟩ := K2.out.wh (B := B) (x := b) (by simp)
  clear K K1 hk0 hk1 hk2 hne hwC hCA
  cases hS : Whn.sameDay a b with
  | false =>
    have Hr := hid (show bothV a b = .tuple #[wv Whn.zero, .bool false] by unfold bothV Whn.both Whn.meet; rw [hS]; rfl)
    rw [hS] at HS
    clear hS ha hb
    go_enter Try.func56, Try.ntmps56
    go_wp2_with fail
    refine (HS.out _).mono ?_
    rintro e w1 ⟨rfl, b1⟩
    have K3 := K2.out.next b1
    clear K2 c0 c1 c2 c3 d0 d1 d2 d3
    have hO := K3.at_ (b := C) (cs := [.int .u32 0, .int .u8 0, .int .i64 0, .int .i64 0]) (t := 30) (by simp)
    have e0 := hO.cell (k := 0) rfl
    have e1 := hO.cell (k := 1) rfl
    have e2 := hO.cell (k := 2) rfl
    have e3 := hO.cell (k := 3) rfl
    have f0 := hO.free 0
    have f1 := hO.free 1
    have f2 := hO.free 2
    have f3 := hO.free 3
    have K4 := hid (K3.four HwC.out Hne.out (.int .u32 0) (.int .u8 0) (.int .i64 0) (.int .i64 0))
    clear hO K3
    go_wp2_with fail
    have hO4 := K4.out.at_ (b := C) (cs := [.int .u32 0, .int .u8 0, .int .i64 0, .int .i64 0]) (t := 30) (by simp)
    have r0 := hO4.cell (k := 0) rfl
    have r1 := hO4.cell (k := 1) rfl
    have r2 := hO4.cell (k := 2) rfl
    have r3 := hO4.cell (k := 3) rfl
    exact bodyPost_ret (v := .tuple #[wv Whn.zero, .bool false]) (by simp [results, Try.results56, go_sem, r0, r1, r2, r3, Whn.zero]) rfl (Did.mk Hr.out.symm K4.out.2)
  | true =>
    obtain ⟨hta, htb⟩ := tame_of_sameDay hS
    have HL := hid (fun w => p_slots a b hta htb w)
    obtain ⟨ta1, ta2, ta3, ta4⟩ := (Whn.tame_iff a).1 hta
    obtain ⟨tb1, tb2, tb3, tb4⟩ := (Whn.tame_iff b).1 htb
    have hsl := Whn.slots_iff a b
    have HM := hid (show Whn.meet a b = Whn.slots a b by unfold Whn.meet; rw [hS, Bool.true_and])
    have HSh := hid (show Whn.share a b = ⟨a.w &&& b.w, a.d &&& b.d, max a.s b.s, min (a.s + a.l) (b.s + b.l) - max a.s b.s⟩ from rfl)
    unfold slV at HL
    have e1 := and_u32 a.w b.w ha.1 hb.1
    have e2 := and_u8 a.d b.d ha.2.1 hb.2.1
    generalize a.w &&& b.w = P at *
    generalize a.d &&& b.d = Q at *
    obtain ⟨mx, hmx, hmx2⟩ : ∃ mx, max a.s b.s = mx ∧ 0 ≤ mx ∧ mx ≤ 96 := ⟨_, rfl, by omega⟩
    obtain ⟨mn, hmn, hmn2⟩ : ∃ mn, min (a.s + a.l) (b.s + b.l) = mn ∧ 0 ≤ mn ∧ mn ≤ 192 := ⟨_, rfl, by omega⟩
    rw [hmx, hmn] at hsl HSh HL
    obtain ⟨x1, x2⟩ := hmx2
    obtain ⟨m1, m2⟩ := hmn2
    rw [hS] at HS
    clear hS ha hb hta htb hmx hmn ta1 ta2 ta3 ta4 tb1 tb2 tb3 tb4
    by_cases hlt : mx < mn
    · have Hr := hid (show bothV a b = .tuple #[.agg #[.int .u32 (P : Int), .int .u8 (Q : Int), .int .i64 mx, .int .i64 (mn - mx)], .bool true] by
        unfold bothV Whn.both
        rw [HM.out, hsl.2 hlt, if_pos rfl, HSh.out])
      have t1 : decide (mn ≤ mx) = false := decide_eq_false (by omega)
      clear hsl HM HSh
      go_enter Try.func56, Try.ntmps56
      go_wp2_with fail
      refine (HS.out _).mono ?_
      rintro e w1 ⟨rfl, b1⟩
      have K3 := K2.out.next b1
      clear K2 c0 c1 c2 c3 d0 d1 d2 d3
      obtain ⟨c0, c1, c2, c3⟩ := K3.wh (B := A) (x := a) (by simp)
      obtain ⟨d0, d1, d2, d3⟩ := K3.wh (B := B) (x := b) (by simp)
      go_wp2_with fail
      refine (HL.out _).mono ?_
      rintro e w2 ⟨rfl, b2⟩
      have K3 := K3.next b2
      clear c0 c1 c2 c3 d0 d1 d2 d3
      obtain ⟨c0, c1, c2, c3⟩ := K3.wh (B := A) (x := a) (by simp)
      obtain ⟨d0, d1, d2, d3⟩ := K3.wh (B := B) (x := b) (by simp)
      have hO := K3.at_ (b := C) (cs := [.int .u32 0, .int .u8 0, .int .i64 0, .int .i64 0]) (t := 30) (by simp)
      have f0 := hO.free 0
      have f1 := hO.free 1
      have f2 := hO.free 2
      have f3 := hO.free 3
      have e0 := hO.cell (k := 0) rfl
      have e1' := hO.cell (k := 1) rfl
      have e2' := hO.cell (k := 2) rfl
      have e3 := hO.cell (k := 3) rfl
      have K4 := hid (K3.four HwC.out Hne.out (.int .u32 (P : Int)) (.int .u8 (Q : Int)) (.int .i64 mx) (.int .i64 (mn - mx)))
      clear hO K3
      go_wp2_with fail
      have hO4 := K4.out.at_ (b := C) (cs := [.int .u32 (P : Int), .int .u8 (Q : Int), .int .i64 mx, .int .i64 (mn - mx)]) (t := 30) (by simp)
      have r0 := hO4.cell (k := 0) rfl
      have r1 := hO4.cell (k := 1) rfl
      have r2 := hO4.cell (k := 2) rfl
      have r3 := hO4.cell (k := 3) rfl
      exact bodyPost_ret (v := .tuple #[.agg #[.int .u32 (P : Int), .int .u8 (Q : Int), .int .i64 mx, .int .i64 (mn - mx)], .bool true]) (by simp [results, Try.results56, go_sem, r0, r1, r2, r3]) rfl (Did.mk Hr.out.symm K4.out.2)
    · have Hr := hid (show bothV a b = .tuple #[wv Whn.zero, .bool false] by
        unfold bothV Whn.both
        rw [HM.out]
        cases hq : Whn.slots a b with
        | false => rfl
        | true => exact absurd (hsl.1 hq) hlt)
      have t1 : decide (mn ≤ mx) = true := decide_eq_true (by omega)
      clear hsl HM HSh
      go_enter Try.func56, Try.ntmps56
      go_wp2_with fail
      refine (HS.out _).mono ?_
      rintro e w1 ⟨rfl, b1⟩
      have K3 := K2.out.next b1
      clear K2 c0 c1 c2 c3 d0 d1 d2 d3
      obtain ⟨c0, c1, c2, c3⟩ := K3.wh (B := A) (x := a) (by simp)
      obtain ⟨d0, d1, d2, d3⟩ := K3.wh (B := B) (x := b) (by simp)
      go_wp2_with fail
      refine (HL.out _).mono ?_
      rintro e w2 ⟨rfl, b2⟩
      have K3 := K3.next b2
      clear c0 c1 c2 c3 d0 d1 d2 d3
      have hO := K3.at_ (b := C) (cs := [.int .u32 0, .int .u8 0, .int .i64 0, .int .i64 0]) (t := 30) (by simp)
      have e0 := hO.cell (k := 0) rfl
      have e1 := hO.cell (k := 1) rfl
      have e2 := hO.cell (k := 2) rfl
      have e3 := hO.cell (k := 3) rfl
      have f0 := hO.free 0
      have f1 := hO.free 1
      have f2 := hO.free 2
      have f3 := hO.free 3
      have K4 := hid (K3.four HwC.out Hne.out (.int .u32 0) (.int .u8 0) (.int .i64 0) (.int .i64 0))
      clear hO K3
      go_wp2_with fail
      have hO4 := K4.out.at_ (b := C) (cs := [.int .u32 0, .int .u8 0, .int .i64 0, .int .i64 0]) (t := 30) (by simp)
      have r0 := hO4.cell (k := 0) rfl
      have r1 := hO4.cell (k := 1) rfl
      have r2 := hO4.cell (k := 2) rfl
      have r3 := hO4.cell (k := 3) rfl
      exact bodyPost_ret (v := .tuple #[wv Whn.zero, .bool false]) (by simp [results, Try.results56, go_sem, r0, r1, r2, r3, Whn.zero]) rfl (Did.mk Hr.out.symm K4.out.2)
set_option maxHeartbeats 2000000 in
theorem p_Meet (a b : Wh) (ha : Wok a) (hb : Wok b) (w : World) : Calls Try.prog 43 #[wv a, wv b] w (Did (.bool (Whn.meet a b)) w) := by
  have HB := hid (fun w => p_Both a b ha hb w)
  unfold bothV at HB
  obtain ⟨A, W, hA, hW, K, hk0⟩ := (Mem.nil w).one (wc a) 30
  obtain ⟨B, V, hB, hV, K1, hk1⟩ := K.out.one (wc b) 30
  obtain ⟨c0, c1, c2, c3⟩ := K1.out.wh (B := A) (x := a) (by simp)
  obtain ⟨d0, d1, d2, d3⟩ := K1.out.wh (B := B) (x := b) (by simp)
  clear K hk0 hk1 ha hb
  generalize Whn.both a b = c at *
  generalize Whn.meet a b = r at *
  go_enter Try.func43, Try.ntmps43
  go_wp2_with fail
  refine (HB.out _).mono ?_
  rintro e w1 ⟨rfl, b1⟩
  go_wp2_with fail
  go_ret
  exact Did.mk rfl ((K1.out.next b1).2.alloc (K1.out.next b1).2.size _)
theorem covers_eq (a b : Wh) : Whn.covers a b = (Whn.meet a b && whEq (Whn.both a b) b) := by
  unfold Whn.covers Whn.both whEq
  cases Whn.meet a b with
  | false => rfl
  | true => rfl
theorem gap_eq {a b : Wh} (hS : Whn.sameDay a b = true) (hL : Whn.slots a b = false) : Whn.gap a b = max a.s b.s - min (a.s + a.l) (b.s + b.l) := by
  obtain ⟨hta, htb⟩ := tame_of_sameDay hS
  have t1 := (Whn.tame_iff a).1 hta
  have t2 := (Whn.tame_iff b).1 htb
  have hs : ¬ (max a.s b.s < min (a.s + a.l) (b.s + b.l)) := fun h => by
    rw [(Whn.slots_iff a b).2 h] at hL
    cases hL
  unfold Whn.gap
  rw [hS, hL]
  show (if a.s < b.s then b.s - a.s - a.l else a.s - b.s - b.l) = _
  split <;> omega
end Go.Proofs.Yteldcaebbmaemaa
