/- The program's own functions of layer 15 (pair): Known, Needs, Turns, rooms, times of a day, shared bits, spans. -/
import Derived.Test.YtnhniajfnmdnnaaDoorPaiC
namespace Go.Proofs.YtnhniajfnmdnnaaDoor
open Go.RowKit
open Whn (Gr Wh)

theorem p_KnownP (k : Int) (w : World) : Calls Tryd.prog 15 #[.int .i64 k] w (Did (.bool (knB k)) w) := by
  by_cases h1 : 1 ≤ k
  · have h2 := hid (show decide (k ≤ 14) = knB k by unfold knB; rw [decide_eq_true h1, Bool.true_and])
    go_enter Tryd.func15, Tryd.ntmps15
    go_wp2_with fail
    go_ret
    exact Did.mk (congrArg Value.bool h2.out) (Below.refl _ _)
  · have h2 := hid (show false = knB k by unfold knB; rw [decide_eq_false h1, Bool.false_and])
    go_enter Tryd.func15, Tryd.ntmps15
    go_wp2_with fail
    go_ret
    exact Did.mk (congrArg Value.bool h2.out) (Below.refl _ _)
theorem p_TurnsP (k : Int) (w : World) : Calls Tryd.prog 22 #[.int .i64 k] w (Did (.bool (knB k && !decide (k = 12))) w) := by
  have HK := hid (fun X => p_KnownP k X)
  have hq := hid (show (k != 12) = !decide (k = 12) by
    cases h : decide (k = 12) with
    | true => rw [decide_eq_true_iff] at h; subst h; rfl
    | false => rw [decide_eq_false_iff_not] at h; rw [bne_iff_ne.2 h]; rfl)
  generalize (!decide (k = 12)) = t at *
  generalize knB k = b1 at *
  go_enter Tryd.func22, Tryd.ntmps22
  go_wp2_with fail
  refine (HK.out _).mono ?_
  rintro e w1 ⟨rfl, bz⟩
  cases b1 with
  | false =>
    go_wp2_with fail
    go_ret
    exact Did.mk rfl bz
  | true =>
    go_wp2_with fail
    go_ret
    exact Did.mk (congrArg Value.bool (by rw [Bool.true_and]; exact hq.out)) bz
theorem p_NeedsP (k : Int) (w : World) : Calls Tryd.prog 17 #[.int .i64 k] w (Did (.tuple #[.bool (ndT k), .bool (ndR k)]) w) := by
  have HK := hid (fun X => p_KnownP k X)
  by_cases h10 : k = 10
  · subst h10
    rw [show knB 10 = true from rfl] at HK
    go_enter Tryd.func17, Tryd.ntmps17
    go_wp2_with fail
    refine (HK.out _).mono ?_
    rintro e w1 ⟨rfl, bz⟩
    go_wp2_with fail
    go_ret2
    exact Did.mk rfl bz
  by_cases h11 : k = 11
  · subst h11
    rw [show knB 11 = true from rfl] at HK
    go_enter Tryd.func17, Tryd.ntmps17
    go_wp2_with fail
    refine (HK.out _).mono ?_
    rintro e w1 ⟨rfl, bz⟩
    go_wp2_with fail
    go_ret2
    exact Did.mk rfl bz
  have e1 := eq_no h10
  have e2 := eq_no h11
  have h1 := hid (show ndT k = knB k by unfold ndT roB; rw [decide_eq_false h10, decide_eq_false h11]; simp)
  have h2 := hid (show ndR k = (k == 14) by
    unfold ndR roB
    rw [decide_eq_false h10, decide_eq_false h11, Bool.eq_iff_iff, Bool.and_eq_true, Bool.or_eq_true, Bool.or_eq_true, decide_eq_true_iff, beq_iff_eq]
    constructor
    · rintro ⟨_, (h | h) | h⟩ <;> first | (cases h; done) | exact h
    · intro h; subst h; exact ⟨rfl, .inr rfl⟩)
  generalize ndT k = a1 at *
  generalize ndR k = a2 at *
  generalize knB k = b1 at *
  clear h10 h11
  go_enter Tryd.func17, Tryd.ntmps17
  go_wp2_with fail
  refine (HK.out _).mono ?_
  rintro e w1 ⟨rfl, bz⟩
  cases b1 with
  | false =>
    go_wp2_with fail
    go_ret2
    exact Did.mk (by rw [h1.out, h2.out]; rfl) bz
  | true =>
    go_wp2_with fail
    go_ret2
    exact Did.mk (by rw [h1.out, h2.out]; rfl) bz
set_option maxRecDepth 8000 in
theorem p_sameRoomP (x y : Sp) (w : World) : Calls Tryd.prog 28 #[spv x, spv y] w (Did (.bool (sroB x y)) w) := by
  have Hr := hid (show sroB x y = (decide (0 ≤ x.r) && (x.r == y.r)) by unfold sroB; congr 1)
  generalize sroB x y = q at *
  obtain ⟨P, W, hP, hW, K, hb0⟩ := (Mem.nil w).one (spc x) 29
  obtain ⟨Q, V, hQ, hV, K1, hb1⟩ := K.out.one (spc y) 29
  obtain ⟨c0, c1, c2, c3, c4⟩ := K1.out.sp (B := P) (x := x) (by simp)
  obtain ⟨d0, d1, d2, d3, d4⟩ := K1.out.sp (B := Q) (x := y) (by simp)
  clear K hb0 hb1
  by_cases h1 : 0 ≤ x.r
  · have Hr2 := hid (Hr.out.trans (by rw [decide_eq_true h1]))
    clear Hr
    go_enter Tryd.func28, Tryd.ntmps28
    go_wp2_with fail
    go_ret
    exact Did.mk (by rw [Hr2.out]; rfl) K1.out.2
  · have Hr2 := hid (Hr.out.trans (by rw [decide_eq_false h1]))
    clear Hr
    go_enter Tryd.func28, Tryd.ntmps28
    go_wp2_with fail
    go_ret
    exact Did.mk (by rw [Hr2.out]; rfl) K1.out.2
set_option maxRecDepth 8000 in
theorem p_roomsKnownP (x y : Sp) (w : World) : Calls Tryd.prog 33 #[spv x, spv y] w (Did (.bool (plB x y)) w) := by
  have e1 : (!decide (x.r = -2)) = (x.r != -2) := by rw [bne, Bool.not_inj_iff, Bool.eq_iff_iff, decide_eq_true_iff, beq_iff_eq]
  have e2 : (!decide (y.r = -2)) = (y.r != -2) := by rw [bne, Bool.not_inj_iff, Bool.eq_iff_iff, decide_eq_true_iff, beq_iff_eq]
  have Hr := hid (show plB x y = ((x.r != -2) && (y.r != -2)) by unfold plB; rw [e1, e2])
  generalize plB x y = q at *
  obtain ⟨P, W, hP, hW, K, hb0⟩ := (Mem.nil w).one (spc x) 29
  obtain ⟨Q, V, hQ, hV, K1, hb1⟩ := K.out.one (spc y) 29
  obtain ⟨c0, c1, c2, c3, c4⟩ := K1.out.sp (B := P) (x := x) (by simp)
  obtain ⟨d0, d1, d2, d3, d4⟩ := K1.out.sp (B := Q) (x := y) (by simp)
  clear K hb0 hb1 e1 e2
  cases h1 : x.r != -2 with
  | true =>
    rw [h1] at Hr
    go_enter Tryd.func33, Tryd.ntmps33
    go_wp2_with fail
    go_ret
    exact Did.mk (by rw [Hr.out]; rfl) K1.out.2
  | false =>
    rw [h1] at Hr
    go_enter Tryd.func33, Tryd.ntmps33
    go_wp2_with fail
    go_ret
    exact Did.mk (by rw [Hr.out]; rfl) K1.out.2
/-- are both times known? -/
def tkB (x y : Sp) : Bool := !decide (x.w.w = 0) && !decide (y.w.w = 0)
set_option maxRecDepth 8000 in
theorem p_timesKnownP (x y : Sp) (w : World) : Calls Tryd.prog 34 #[spv x, spv y] w (Did (.bool (tkB x y)) w) := by
  have e1 : (!decide (x.w.w = 0)) = ((x.w.w : Int) != 0) := by rw [bne, Bool.not_inj_iff, Bool.eq_iff_iff, decide_eq_true_iff, beq_iff_eq]; omega
  have e2 : (!decide (y.w.w = 0)) = ((y.w.w : Int) != 0) := by rw [bne, Bool.not_inj_iff, Bool.eq_iff_iff, decide_eq_true_iff, beq_iff_eq]; omega
  have Hr := hid (show tkB x y = (((x.w.w : Int) != 0) && ((y.w.w : Int) != 0)) by unfold tkB; rw [e1, e2])
  generalize tkB x y = q at *
  obtain ⟨P, W, hP, hW, K, hb0⟩ := (Mem.nil w).one (spc x) 29
  obtain ⟨Q, V, hQ, hV, K1, hb1⟩ := K.out.one (spc y) 29
  obtain ⟨c0, c1, c2, c3, c4⟩ := K1.out.sp (B := P) (x := x) (by simp)
  obtain ⟨d0, d1, d2, d3, d4⟩ := K1.out.sp (B := Q) (x := y) (by simp)
  clear K hb0 hb1 e1 e2
  cases h1 : ((x.w.w : Int) != 0) with
  | true =>
    rw [h1] at Hr
    go_enter Tryd.func34, Tryd.ntmps34
    go_wp2_with fail
    go_ret
    exact Did.mk (by rw [Hr.out]; rfl) K1.out.2
  | false =>
    rw [h1] at Hr
    go_enter Tryd.func34, Tryd.ntmps34
    go_wp2_with fail
    go_ret
    exact Did.mk (by rw [Hr.out]; rfl) K1.out.2
abbrev dly (b : Wh) : Wh := ⟨1, 1, b.s, b.l⟩
set_option maxRecDepth 8000 in
theorem p_dailyP (b : Wh) (w : World) : Calls Tryd.prog 40 #[wv b] w (Did (wv (dly b)) w) := by
  obtain ⟨P, W, hP, hW, K, hb0⟩ := (Mem.nil w).one (wc b) 27
  obtain ⟨R, U, hR, hU, K1, hb1⟩ := K.out.one [.int .u32 0, .int .u8 0, .int .i64 0, .int .i64 0] 27
  have hRw : w.heap.size ≤ R := by rw [← hR]; exact K.out.2.size
  have hne : ∀ p ∈ [(P, wc b, (27 : TypeId))], p.1 ≠ R := by
    intro p hp
    have hp1 := List.mem_singleton.1 hp
    subst hp1
    have hlt := (K.out.at_ (b := P) (cs := wc b) (t := 27) (by simp)).lt
    exact Nat.ne_of_lt (by rw [← hR]; exact hlt)
  obtain ⟨c0, c1, c2, c3⟩ := K1.out.wh (B := P) (x := b) (by simp)
  have ho := K1.out.at_ (b := R) (cs := [.int .u32 0, .int .u8 0, .int .i64 0, .int .i64 0]) (t := 27) (by simp)
  have r0 := ho.cell (k := 0) rfl
  have r1 := ho.cell (k := 1) rfl
  have r2 := ho.cell (k := 2) rfl
  have r3 := ho.cell (k := 3) rfl
  have s0 := ho.free 0
  have s1 := ho.free 1
  have s2 := ho.free 2
  have s3 := ho.free 3
  have KR := hid ((((K1.out.set hRw hne 0 (.int .u32 1)).set hRw hne 1 (.int .u8 1)).set hRw hne 2 (.int .i64 b.s)).set hRw hne 3 (.int .i64 b.l))
  clear ho hb0 hb1 K K1 hRw hne
  go_enter Tryd.func40, Tryd.ntmps40
  go_wp2_with fail
  have y0 := KR.out.cell (b := R) (cs := [.int .u32 1, .int .u8 1, .int .i64 b.s, .int .i64 b.l]) (t := 27) (by simp) (k := 0) rfl
  have y1 := KR.out.cell (b := R) (cs := [.int .u32 1, .int .u8 1, .int .i64 b.s, .int .i64 b.l]) (t := 27) (by simp) (k := 1) rfl
  have y2 := KR.out.cell (b := R) (cs := [.int .u32 1, .int .u8 1, .int .i64 b.s, .int .i64 b.l]) (t := 27) (by simp) (k := 2) rfl
  have y3 := KR.out.cell (b := R) (cs := [.int .u32 1, .int .u8 1, .int .i64 b.s, .int .i64 b.l]) (t := 27) (by simp) (k := 3) rfl
  exact bodyPost_ret (v := .agg #[.int .u32 1, .int .u8 1, .int .i64 b.s, .int .i64 b.l]) (by simp [results, Tryd.results40, go_sem, y0, y1, y2, y3]) rfl (Did.mk rfl KR.out.2)
theorem p_among8P (a b : Nat) (ha : a < 256) (hb : b < 256) (w : World) : Calls Tryd.prog 43 #[.int .u8 (a : Int), .int .u8 (b : Int)] w (Did (.bool (inN a b || inN b a)) w) := by
  have q1 := o_and8 a b ha hb
  have Hr := hid (show (inN a b || inN b a) = ((((a &&& b : Nat) : Int) == (a : Int)) || (((a &&& b : Nat) : Int) == (b : Int))) by
    unfold inN
    rw [Nat.and_comm b a, Bool.eq_iff_iff, Bool.or_eq_true, Bool.or_eq_true, decide_eq_true_iff, decide_eq_true_iff, beq_iff_eq, beq_iff_eq]
    omega)
  generalize (inN a b || inN b a) = q at *
  generalize a &&& b = z at *
  clear ha hb
  cases h1 : ((z : Int) == (a : Int)) with
  | true =>
    rw [h1] at Hr
    go_enter Tryd.func43, Tryd.ntmps43
    go_wp2_with fail
    go_ret
    exact Did.mk (by rw [Hr.out]; rfl) (Below.refl _ _)
  | false =>
    rw [h1] at Hr
    go_enter Tryd.func43, Tryd.ntmps43
    go_wp2_with fail
    go_ret
    exact Did.mk (by rw [Hr.out]; rfl) (Below.refl _ _)
theorem p_among32P (a b : Nat) (ha : a < 4294967296) (hb : b < 4294967296) (w : World) : Calls Tryd.prog 44 #[.int .u32 (a : Int), .int .u32 (b : Int)] w (Did (.bool (inN a b || inN b a)) w) := by
  have q1 := o_and32 a b ha hb
  have Hr := hid (show (inN a b || inN b a) = ((((a &&& b : Nat) : Int) == (a : Int)) || (((a &&& b : Nat) : Int) == (b : Int))) by
    unfold inN
    rw [Nat.and_comm b a, Bool.eq_iff_iff, Bool.or_eq_true, Bool.or_eq_true, decide_eq_true_iff, decide_eq_true_iff, beq_iff_eq, beq_iff_eq]
    omega)
  generalize (inN a b || inN b a) = q at *
  generalize a &&& b = z at *
  clear ha hb
  cases h1 : ((z : Int) == (a : Int)) with
  | true =>
    rw [h1] at Hr
    go_enter Tryd.func44, Tryd.ntmps44
    go_wp2_with fail
    go_ret
    exact Did.mk (by rw [Hr.out]; rfl) (Below.refl _ _)
  | false =>
    rw [h1] at Hr
    go_enter Tryd.func44, Tryd.ntmps44
    go_wp2_with fail
    go_ret
    exact Did.mk (by rw [Hr.out]; rfl) (Below.refl _ _)
set_option maxRecDepth 8000 in
set_option maxHeartbeats 2000000 in
theorem p_spanP (a b : Wh) (ha : Whn.tame a = true) (hb : Whn.tame b = true) (w : World) : Calls Tryd.prog 47 #[wv a, wv b] w (Did (.int .i64 (max (a.s + a.l) (b.s + b.l) - min a.s b.s)) w) := by
  have e1 := (Whn.tame_iff a).1 ha
  have e2 := (Whn.tame_iff b).1 hb
  have q1 : IntKind.i64.wrap (a.s + a.l) = a.s + a.l := by rw [IntKind.wrap_i64]; omega
  have q2 : IntKind.i64.wrap (b.s + b.l) = b.s + b.l := by rw [IntKind.wrap_i64]; omega
  obtain ⟨mx, hmx⟩ : ∃ mx, max (a.s + a.l) (b.s + b.l) = mx := ⟨_, rfl⟩
  obtain ⟨mn, hmn⟩ : ∃ mn, min a.s b.s = mn := ⟨_, rfl⟩
  have r1 : (if a.s + a.l < b.s + b.l then b.s + b.l else a.s + a.l) = mx := by split <;> omega
  have r2 : (if b.s + b.l < a.s + a.l then a.s + a.l else b.s + b.l) = mx := by split <;> omega
  have r3 : (if a.s < b.s then a.s else b.s) = mn := by split <;> omega
  have r4 : (if b.s < a.s then b.s else a.s) = mn := by split <;> omega
  have q3 : IntKind.i64.wrap (mx - mn) = mx - mn := by rw [IntKind.wrap_i64]; omega
  rw [hmx, hmn]
  clear hmx hmn
  obtain ⟨P, W, hP, hW, K, hb0⟩ := (Mem.nil w).one (wc a) 27
  obtain ⟨Q, V, hQ, hV, K1, hb1⟩ := K.out.one (wc b) 27
  obtain ⟨c0, c1, c2, c3⟩ := K1.out.wh (B := P) (x := a) (by simp)
  obtain ⟨d0, d1, d2, d3⟩ := K1.out.wh (B := Q) (x := b) (by simp)
  clear K hb0 hb1
  go_enter Tryd.func47, Tryd.ntmps47
  go_wp2_with fail
  go_ret
  exact Did.mk rfl K1.out.2
end Go.Proofs.YtnhniajfnmdnnaaDoor
