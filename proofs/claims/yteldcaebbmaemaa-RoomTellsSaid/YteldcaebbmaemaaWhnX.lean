/- Contracts of the program's own functions of layer 9 (when): slots, SameDay, Count. -/
import Derived.Test.YteldcaebbmaemaaWhnV
namespace Go.Proofs.Yteldcaebbmaemaa
open Go.RowKit
open Whn (Gr Wh)

theorem and_u32 (x y : Nat) (hx : x < 4294967296) (hy : y < 4294967296) : bits .and .u32 (x : Int) (y : Int) = ((x &&& y : Nat) : Int) := by
  have h1 : (BitVec.ofInt 32 (x : Int)).toNat = x := by
    rw [BitVec.ofInt_natCast, BitVec.toNat_ofNat]; exact Nat.mod_eq_of_lt (by omega)
  have h2 : (BitVec.ofInt 32 (y : Int)).toNat = y := by
    rw [BitVec.ofInt_natCast, BitVec.toNat_ofNat]; exact Nat.mod_eq_of_lt (by omega)
  have hl : x &&& y ≤ x := Nat.and_le_left
  show IntKind.u32.wrap ((BitVec.ofInt 32 (x : Int) &&& BitVec.ofInt 32 (y : Int)).toNat : Int) = _
  rw [BitVec.toNat_and, h1, h2, IntKind.wrap_u32]
  omega
theorem and_u8 (x y : Nat) (hx : x < 256) (hy : y < 256) : bits .and .u8 (x : Int) (y : Int) = ((x &&& y : Nat) : Int) := by
  have h1 : (BitVec.ofInt 8 (x : Int)).toNat = x := by
    rw [BitVec.ofInt_natCast, BitVec.toNat_ofNat]; exact Nat.mod_eq_of_lt (by omega)
  have h2 : (BitVec.ofInt 8 (y : Int)).toNat = y := by
    rw [BitVec.ofInt_natCast, BitVec.toNat_ofNat]; exact Nat.mod_eq_of_lt (by omega)
  have hl : x &&& y ≤ x := Nat.and_le_left
  show IntKind.u8.wrap ((BitVec.ofInt 8 (x : Int) &&& BitVec.ofInt 8 (y : Int)).toNat : Int) = _
  rw [BitVec.toNat_and, h1, h2, IntKind.wrap_u8]
  omega
theorem wks_lt {x : Wh} (h : Wok x) : wks x < 4294967296 := by
  have := h.1
  unfold wks
  split <;> omega
/-- what 'slots' hands out -/
def slV (a b : Wh) : Value := .tuple #[.int .i64 (max a.s b.s), .int .i64 (min (a.s + a.l) (b.s + b.l))]
set_option maxHeartbeats 2000000 in
theorem p_slots (a b : Wh) (ha : Whn.tame a = true) (hb : Whn.tame b = true) (w : World) : Calls Try.prog 63 #[wv a, wv b] w (Did (slV a b) w) := by
  obtain ⟨a1, a2, a3, a4⟩ := (Whn.tame_iff a).1 ha
  obtain ⟨b1, b2, b3, b4⟩ := (Whn.tame_iff b).1 hb
  obtain ⟨A, W, hA, hW, K, hb0⟩ := (Mem.nil w).one (wc a) 30
  obtain ⟨B, V, hB, hV, K1, hb1⟩ := K.out.one (wc b) 30
  obtain ⟨c0, c1, c2, c3⟩ := K1.out.wh (B := A) (x := a) (by simp)
  obtain ⟨d0, d1, d2, d3⟩ := K1.out.wh (B := B) (x := b) (by simp)
  obtain ⟨ea, hea⟩ : ∃ ea, a.s + a.l = ea := ⟨_, rfl⟩
  obtain ⟨eb, heb⟩ : ∃ eb, b.s + b.l = eb := ⟨_, rfl⟩
  have u1 : IntKind.i64.wrap (a.s + a.l) = ea := by rw [IntKind.wrap_i64]; omega
  have u2 : IntKind.i64.wrap (b.s + b.l) = eb := by rw [IntKind.wrap_i64]; omega
  obtain ⟨mx, hmx⟩ : ∃ mx, (if a.s < b.s then b.s else a.s) = mx := ⟨_, rfl⟩
  obtain ⟨mn, hmn⟩ : ∃ mn, (if eb < ea then eb else ea) = mn := ⟨_, rfl⟩
  have Hr := hid (show slV a b = .tuple #[.int .i64 mx, .int .i64 mn] by
    unfold slV
    rw [hea, heb, show max a.s b.s = mx by rw [← hmx]; split <;> omega, show min ea eb = mn by rw [← hmn]; split <;> omega])
  clear K hb0 hb1 ha hb hea heb a1 a2 a3 a4 b1 b2 b3 b4
  go_enter Try.func63, Try.ntmps63
  go_wp2_with fail
  go_region_held3 (fun X => X.cell? ⟨A, 2, none⟩ = some (.int .i64 a.s) ∧ X.cell? ⟨A, 3, none⟩ = some (.int .i64 a.l) ∧ X.cell? ⟨B, 2, none⟩ = some (.int .i64 b.s) ∧ X.cell? ⟨B, 3, none⟩ = some (.int .i64 b.l)) (first | exact ⟨c2, c3, d2, d3⟩ | go_keep) (first | fail)
  all_goals
    go_wp2_with fail
    go_ret2
    exact Did.mk Hr.out.symm K1.out.2.drew
set_option maxHeartbeats 2000000 in
theorem p_Count (x : Wh) (hx : Wok x) (w : World) : Calls Try.prog 59 #[wv x] w (Did (.int .i64 (Whn.count x)) w) := by
  have hw := wks_lt hx
  obtain ⟨hx1, hx2, hx3, hx4⟩ := hx
  have HW := hid (fun w => p_weeks x w)
  have H32 := hid (fun w => p_Ones32 (wks x) hw w)
  have H8 := hid (fun w => p_Ones8 x.d hx2 w)
  obtain ⟨B, W, hB, hW, K, hb0⟩ := (Mem.nil w).one (wc x) 30
  obtain ⟨c0, c1, c2, c3⟩ := K.out.wh (B := B) (x := x) (by simp)
  have o1 := Whn.ones_le (wks x) 32
  have o2 := Whn.ones_le x.d 8
  have HE := hid (show ((Whn.ones (wks x) 32 : Nat) : Int) * ((Whn.ones x.d 8 : Nat) : Int) * x.l = Whn.count x ∧ (-100000 ≤ Whn.count x ∧ Whn.count x ≤ 100000) ∧ (0 ≤ ((Whn.ones (wks x) 32 : Nat) : Int) * ((Whn.ones x.d 8 : Nat) : Int) ∧ ((Whn.ones (wks x) 32 : Nat) : Int) * ((Whn.ones x.d 8 : Nat) : Int) ≤ 256) by
    have m1 : ((Whn.ones (wks x) 32 : Nat) : Int) * ((Whn.ones x.d 8 : Nat) : Int) ≤ 32 * 8 := Int.mul_le_mul (by omega) (by omega) (by omega) (by omega)
    have m2 : 0 ≤ ((Whn.ones (wks x) 32 : Nat) : Int) * ((Whn.ones x.d 8 : Nat) : Int) := Int.mul_nonneg (by omega) (by omega)
    unfold wks at m1 m2 ⊢
    unfold Whn.count
    cases hT : Whn.tame x with
    | false =>
      have e : Whn.ones 0 32 = 0 := by decide +kernel
      rw [if_neg (by decide), e]
      exact ⟨by rw [if_neg (by decide)]; simp, by rw [if_neg (by decide)]; omega, by simp⟩
    | true =>
      rw [hT, if_pos rfl] at m1 m2
      rw [if_pos rfl, if_pos rfl, ones_small x.d 8 32 hx2 (by decide)]
      obtain ⟨t1, t2, t3, t4⟩ := (Whn.tame_iff x).1 hT
      have m3 := Int.mul_le_mul m1 t4 (by omega) (by omega)
      have m4 := Int.mul_nonneg m2 (show 0 ≤ x.l by omega)
      exact ⟨rfl, by omega, by omega⟩)
  obtain ⟨he, ⟨hc1, hc2⟩, hp1, hp2⟩ := HE.out
  have m5 : IntKind.i64.wrap (((Whn.ones (wks x) 32 : Nat) : Int) * ((Whn.ones x.d 8 : Nat) : Int)) = ((Whn.ones (wks x) 32 : Nat) : Int) * ((Whn.ones x.d 8 : Nat) : Int) := by rw [IntKind.wrap_i64]; omega
  have m6 : IntKind.i64.wrap (((Whn.ones (wks x) 32 : Nat) : Int) * ((Whn.ones x.d 8 : Nat) : Int) * x.l) = ((Whn.ones (wks x) 32 : Nat) : Int) * ((Whn.ones x.d 8 : Nat) : Int) * x.l := by rw [he, IntKind.wrap_i64]; omega
  have Hr := hid he
  clear HE he hc1 hc2 hp1 hp2
  generalize Whn.count x = r at *
  generalize Whn.ones (wks x) 32 = o32 at *
  generalize Whn.ones x.d 8 = o8 at *
  go_enter Try.func59, Try.ntmps59
  go_wp2_with fail
  have hS2 := K.out.wh (B := B) (x := x) (by simp)
  go_region_held3 (fun X => X.cell? ⟨B, 0, none⟩ = some (.int .u32 (x.w : Int)) ∧ X.cell? ⟨B, 1, none⟩ = some (.int .u8 (x.d : Int)) ∧ X.cell? ⟨B, 2, none⟩ = some (.int .i64 x.s) ∧ X.cell? ⟨B, 3, none⟩ = some (.int .i64 x.l)) (exact hS2) (first | (go_at_call 65; refine (HW.out _).mono ?_; rintro e w1 ⟨rfl, b1⟩; have KA := K.out.drew.next b1; have hS2 := KA.wh (B := B) (x := x) (by simp)) | (go_at_call 64; refine (H32.out _).mono ?_; rintro e w2 ⟨rfl, n2, rfl⟩; have KA := KA.drewN n2; have hS2 := KA.wh (B := B) (x := x) (by simp)) | (go_at_call 66; refine (H8.out _).mono ?_; rintro e w3 ⟨rfl, rfl⟩))
  go_wp2_with fail
  go_ret
  exact Did.mk (congrArg (Value.int .i64) Hr.out) KA.2
theorem sameDay_wks (a b : Wh) : Whn.sameDay a b = (decide (wks a &&& wks b ≠ 0) && decide (a.d &&& b.d ≠ 0)) := by
  unfold Whn.sameDay wks
  cases Whn.tame a with
  | false => simp
  | true =>
    cases Whn.tame b with
    | false => simp
    | true => rw [if_pos rfl, if_pos rfl, Bool.true_and, Bool.true_and, Bool.decide_and]
theorem nat_bne (n : Nat) : ((n : Int) != 0) = decide (n ≠ 0) := by
  rw [Bool.eq_iff_iff, bne_iff_ne, decide_eq_true_iff]
  omega
set_option maxHeartbeats 4000000 in
theorem p_SameDay (a b : Wh) (ha : Wok a) (hb : Wok b) (w : World) : Calls Try.prog 62 #[wv a, wv b] w (Did (.bool (Whn.sameDay a b)) w) := by
  have hwa := wks_lt ha
  have hwb := wks_lt hb
  obtain ⟨ha1, ha2, ha3, ha4⟩ := ha
  obtain ⟨hb1, hb2, hb3, hb4⟩ := hb
  have HWa := hid (fun w => p_weeks a w)
  have HWb := hid (fun w => p_weeks b w)
  have e1 := and_u32 (wks a) (wks b) hwa hwb
  have e2 := and_u8 a.d b.d ha2 hb2
  have Hr := hid (sameDay_wks a b)
  have n1 := nat_bne (wks a &&& wks b)
  have n2 := nat_bne (a.d &&& b.d)
  generalize wks a &&& wks b = P at *
  generalize a.d &&& b.d = Q at *
  generalize Whn.sameDay a b = r at *
  obtain ⟨oa, hoa⟩ : ∃ oa, wks a = oa := ⟨_, rfl⟩
  obtain ⟨ob, hob⟩ : ∃ ob, wks b = ob := ⟨_, rfl⟩
  rw [hoa, hob] at e1
  rw [hoa] at HWa
  rw [hob] at HWb
  obtain ⟨A, W, hA, hW, K, hk0⟩ := (Mem.nil w).one (wc a) 30
  obtain ⟨B, V, hB, hV, K1, hk1⟩ := K.out.one (wc b) 30
  clear K hk0 hk1 hoa hob hwa hwb ha1 ha2 ha3 ha4 hb1 hb2 hb3 hb4
  have hS2 := And.intro (K1.out.wh (B := A) (x := a) (by simp)) (K1.out.wh (B := B) (x := b) (by simp))
  have KA := K1.out.drew
  by_cases hP : P ≠ 0
  · rw [decide_eq_true hP] at n1
    rw [decide_eq_true hP, Bool.true_and] at Hr
    clear hP
    go_enter Try.func62, Try.ntmps62
    go_wp2_with fail
    go_region_held3 (fun X => (X.cell? ⟨A, 0, none⟩ = some (.int .u32 (a.w : Int)) ∧ X.cell? ⟨A, 1, none⟩ = some (.int .u8 (a.d : Int)) ∧ X.cell? ⟨A, 2, none⟩ = some (.int .i64 a.s) ∧ X.cell? ⟨A, 3, none⟩ = some (.int .i64 a.l)) ∧ (X.cell? ⟨B, 0, none⟩ = some (.int .u32 (b.w : Int)) ∧ X.cell? ⟨B, 1, none⟩ = some (.int .u8 (b.d : Int)) ∧ X.cell? ⟨B, 2, none⟩ = some (.int .i64 b.s) ∧ X.cell? ⟨B, 3, none⟩ = some (.int .i64 b.l))) (exact hS2) (first | (go_at_call 65; refine (HWa.out _).mono ?_; rintro e w1 ⟨rfl, b1⟩; have KA := KA.next b1; have hS2 := And.intro (KA.wh (B := A) (x := a) (by simp)) (KA.wh (B := B) (x := b) (by simp))) | (go_at_call 65; refine (HWb.out _).mono ?_; rintro e w1 ⟨rfl, b1⟩; have KA := KA.next b1; have hS2 := And.intro (KA.wh (B := A) (x := a) (by simp)) (KA.wh (B := B) (x := b) (by simp))))
    go_wp2_with fail
    go_ret
    exact Did.mk (by rw [Hr.out]; simp) KA.2
  · rw [decide_eq_false hP] at n1
    rw [decide_eq_false hP, Bool.false_and] at Hr
    clear hP
    go_enter Try.func62, Try.ntmps62
    go_wp2_with fail
    refine wp_region_held_drew (S := (fun X => (X.cell? ⟨A, 0, none⟩ = some (.int .u32 (a.w : Int)) ∧ X.cell? ⟨A, 1, none⟩ = some (.int .u8 (a.d : Int)) ∧ X.cell? ⟨A, 2, none⟩ = some (.int .i64 a.s) ∧ X.cell? ⟨A, 3, none⟩ = some (.int .i64 a.l)) ∧ (X.cell? ⟨B, 0, none⟩ = some (.int .u32 (b.w : Int)) ∧ X.cell? ⟨B, 1, none⟩ = some (.int .u8 (b.d : Int)) ∧ X.cell? ⟨B, 2, none⟩ = some (.int .i64 b.s) ∧ X.cell? ⟨B, 3, none⟩ = some (.int .i64 b.l)))) (by kernel_rfl) hS2 (fun hHeld => ?_)
    refine takeH 0 5 (wv a) rfl rfl (by kernel_rfl) (by kernel_rfl) (by kernel_rfl) (fun _ _ _ h => h) (by kernel_rfl) (fun X hX => by obtain ⟨⟨g0, g1, g2, g3⟩, h0, h1, h2, h3⟩ := hX; go_simp) hHeld ?_
    simp only [Act.put, List.setIfInBounds_toArray, List.set_cons_zero, List.set_cons_succ]
    refine takeH 2 7 (wv b) rfl rfl (by kernel_rfl) (by kernel_rfl) (by kernel_rfl) (fun _ _ _ h => h) (by kernel_rfl) (fun X hX => by obtain ⟨⟨g0, g1, g2, g3⟩, h0, h1, h2, h3⟩ := hX; go_simp) hHeld ?_
    simp only [Act.put, List.setIfInBounds_toArray, List.set_cons_zero, List.set_cons_succ]
    refine wpAnyH_ready (rs := [1]) (by kernel_rfl) (by simp) ?_
    refine AllReadyH.cons rfl (fun KK hK => ?_) AllReadyH.nil
    simp only [List.getElem_toArray, List.getElem_cons_succ, List.getElem_cons_zero]
    go_simp
    refine (HWa.out _).mono ?_
    rintro e w1 ⟨rfl, b1⟩
    have KA := KA.next b1
    have hS2 := And.intro (KA.wh (B := A) (x := a) (by simp)) (KA.wh (B := B) (x := b) (by simp))
    refine hK.out _ _ hS2 (fun hHeld => ?_)
    clear hK KK
    try simp only [Act.put, List.setIfInBounds_toArray, List.set_cons_zero, List.set_cons_succ]
    refine wpAnyH_ready (rs := [3]) (by kernel_rfl) (by simp) ?_
    refine AllReadyH.cons rfl (fun KK hK => ?_) AllReadyH.nil
    simp only [List.getElem_toArray, List.getElem_cons_succ, List.getElem_cons_zero]
    go_simp
    refine (HWb.out _).mono ?_
    rintro e w3 ⟨rfl, b3⟩
    have KA := KA.next b3
    have hS2 := And.intro (KA.wh (B := A) (x := a) (by simp)) (KA.wh (B := B) (x := b) (by simp))
    refine hK.out _ _ hS2 (fun hHeld => ?_)
    clear hK KK
    try simp only [Act.put, List.setIfInBounds_toArray, List.set_cons_zero, List.set_cons_succ]
    refine takeH 4 9 (.int .u32 (P : Int)) rfl rfl (by kernel_rfl) (by kernel_rfl) (by kernel_rfl) (fun _ _ _ h => h) (by kernel_rfl) (fun X hX => by clear hX; first | rfl | go_simp) hHeld ?_
    simp only [Act.put, List.setIfInBounds_toArray, List.set_cons_zero, List.set_cons_succ]
    refine takeH 5 10 (.bool false) rfl rfl (by kernel_rfl) (by kernel_rfl) (by kernel_rfl) (fun _ _ _ h => h) (by kernel_rfl) (fun X hX => by clear hX; first | rfl | go_simp) hHeld ?_
    simp only [Act.put, List.setIfInBounds_toArray, List.set_cons_zero, List.set_cons_succ]
    refine takeH 6 11 (.bool false) rfl rfl (by kernel_rfl) (by kernel_rfl) (by kernel_rfl) (fun _ _ _ h => h) (by kernel_rfl) (fun X hX => by clear hX; first | rfl | go_simp) hHeld ?_
    simp only [Act.put, List.setIfInBounds_toArray, List.set_cons_zero, List.set_cons_succ]
    refine skipH 7 12 rfl rfl (by kernel_rfl) (by kernel_rfl) (by kernel_rfl) (fun _ _ _ h => h) (by kernel_rfl) hHeld ?_
    simp only [Act.put, List.setIfInBounds_toArray, List.set_cons_zero, List.set_cons_succ]
    refine skipH 8 13 rfl rfl (by kernel_rfl) (by kernel_rfl) (by kernel_rfl) (fun _ _ _ h => h) (by kernel_rfl) hHeld ?_
    simp only [Act.put, List.setIfInBounds_toArray, List.set_cons_zero, List.set_cons_succ]
    refine skipH 9 14 rfl rfl (by kernel_rfl) (by kernel_rfl) (by kernel_rfl) (fun _ _ _ h => h) (by kernel_rfl) hHeld ?_
    simp only [Act.put, List.setIfInBounds_toArray, List.set_cons_zero, List.set_cons_succ]
    refine skipH 10 15 rfl rfl (by kernel_rfl) (by kernel_rfl) (by kernel_rfl) (fun _ _ _ h => h) (by kernel_rfl) hHeld ?_
    simp only [Act.put, List.setIfInBounds_toArray, List.set_cons_zero, List.set_cons_succ]
    refine skipH 11 16 rfl rfl (by kernel_rfl) (by kernel_rfl) (by kernel_rfl) (fun _ _ _ h => h) (by kernel_rfl) hHeld ?_
    simp only [Act.put, List.setIfInBounds_toArray, List.set_cons_zero, List.set_cons_succ]
    refine skipH 12 17 rfl rfl (by kernel_rfl) (by kernel_rfl) (by kernel_rfl) (fun _ _ _ h => h) (by kernel_rfl) hHeld ?_
    simp only [Act.put, List.setIfInBounds_toArray, List.set_cons_zero, List.set_cons_succ]
    refine takeH 13 18 (.bool false) rfl rfl (by kernel_rfl) (by kernel_rfl) (by kernel_rfl) (fun _ _ _ h => h) (by kernel_rfl) (fun X hX => by clear hX; first | rfl | go_simp) hHeld ?_
    simp only [Act.put, List.setIfInBounds_toArray, List.set_cons_zero, List.set_cons_succ]
    refine takeH 14 4 (.bool false) rfl rfl (by kernel_rfl) (by kernel_rfl) (by kernel_rfl) (fun _ _ _ h => h) (by kernel_rfl) (fun X hX => by clear hX; first | rfl | go_simp) hHeld ?_
    simp only [Act.put, List.setIfInBounds_toArray, List.set_cons_zero, List.set_cons_succ]
    refine wpAnyH_done (by kernel_rfl) ?_ _
    go_wp2_with fail
    go_ret
    exact Did.mk (by rw [Hr.out]; rfl) KA.2
end Go.Proofs.Yteldcaebbmaemaa
