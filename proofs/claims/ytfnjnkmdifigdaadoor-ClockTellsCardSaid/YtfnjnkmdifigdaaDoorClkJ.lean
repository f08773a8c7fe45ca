/- Contracts of layer 10 (clock): parseWhen, Parse. -/
import Derived.Test.YtfnjnkmdifigdaaDoorClkI
namespace Go.Proofs.YtfnjnkmdifigdaaDoor
open Go.RowKit
open Whn (Gr Wh)

theorem mem_take_snoc {l : List Int} {k : Nat} {x v : Int} (h : l[k]? = some x) (hno : v ∉ l.take k) (hx : v ≠ x) : v ∉ l.take (k + 1) := by
  obtain ⟨hk, e⟩ := List.getElem?_eq_some_iff.1 h
  rw [List.take_succ_eq_append_getElem hk, e]
  intro hm
  rcases List.mem_append.1 hm with hm | hm
  · exact hno hm
  · exact hx (List.mem_singleton.1 hm)
set_option maxHeartbeats 1000000 in
theorem p_Index (A : Option Addr) (n c : Nat) (l : List Int) (hn : l.length = n) (hm : n ≤ 1000) (v : Int) (B : Nat) (w : World) (h : Its w B A l) : Calls Tryd.prog 71 #[.slice A n c, .int .i64 v] w (fun e w' => (∃ k : Int, Hid ((0 ≤ k ∧ v ∈ l) ∨ (k = -1 ∧ v ∉ l)) ∧ e = .returned (.int .i64 k)) ∧ w = w') := by
  have H := hid h
  have Hn := hid hn
  clear h hn
  go_enter Tryd.func71, Tryd.ntmps71
  go_wp2_with fail
  go_loop [8] (fun iv => ∃ k : Nat, k ≤ n ∧ iv = .int .i64 k ∧ Hid (v ∉ l.take k)) (fun iv => n - (intOf iv).toNat)
  case atStart => exact ⟨0, Nat.zero_le _, rfl, hid (by simp)⟩
  case round =>
    obtain ⟨k, hk, rfl, Hno⟩ := hrel
    by_cases hlt : k < n
    · obtain ⟨ad, x, rfl, _, Hx, hc⟩ := Its.get H.out (k := k) (by rw [Hn.out]; exact hlt)
      by_cases he : v = x
      · subst he
        have Hin := hid (show v ∈ l from List.mem_of_getElem? Hx.out)
        clear H Hno
        go_wp2_with fail
        go_ret
        exact ⟨⟨(k : Int), hid (.inl ⟨by omega, Hin.out⟩), rfl⟩, rfl⟩
      · have t1 : (v == x) = false := beq_eq_false_iff_ne.2 he
        have Hno2 := hid (mem_take_snoc Hx.out Hno.out he)
        clear he H
        go_wp2_with fail
        exact ⟨⟨k + 1, by omega, by go_num, Hno2⟩, by simp [intOf]; omega⟩
    · have Hno2 := hid (show v ∉ l by have := Hno.out; rwa [List.take_of_length_le (by rw [Hn.out]; omega)] at this)
      clear H Hno
      go_wp2_with fail
      go_ret
      exact ⟨⟨-1, hid (.inr ⟨rfl, Hno2.out⟩), rfl⟩, rfl⟩
set_option maxHeartbeats 1000000 in
theorem p_Contains (A : Option Addr) (n c : Nat) (l : List Int) (hn : l.length = n) (hm : n ≤ 1000) (v : Int) (B : Nat) (w : World) (h : Its w B A l) : Calls Tryd.prog 53 #[.slice A n c, .int .i64 v] w (fun e w' => e = .returned (.bool (decide (v ∈ l))) ∧ w = w') := by
  have H := hid (p_Index A n c l hn hm v B w h)
  clear h hn
  go_enter Tryd.func53, Tryd.ntmps53
  go_wp2_with fail
  refine (H.out).mono ?_
  rintro e w1 ⟨⟨k, Hk, rfl⟩, rfl⟩
  go_wp2_with fail
  go_ret
  refine ⟨ret_b ?_, rfl⟩
  rcases Hk.out with ⟨k1, k2⟩ | ⟨k1, k2⟩
  · rw [decide_eq_true k2]
    exact decide_eq_true k1
  · rw [decide_eq_false k2]
    exact decide_eq_false (by omega)
/-- what a number's text says of slots, and why it says none -/
def psN (s : List UInt8) : Nat × Nat := if (Dig.pw s).2 ≠ 0 then (0, (Dig.pw s).2) else if 96 < (Dig.pw s).1 then (0, 6) else ((Dig.pw s).1, 0)
theorem psV_eq (s : List UInt8) : psV s = (((psN s).1 : Int), ((psN s).2 : Int)) := by
  unfold psV psN
  split
  · rfl
  · split <;> rfl
theorem Mem.four {w X : World} {l : Obs} {C : Nat} {x0 x1 x2 x3 : Value} {t : TypeId} (h : Mem w X ((C, [x0, x1, x2, x3], t) :: l)) (hC : w.heap.size ≤ C) (hne : ∀ p ∈ l, p.1 ≠ C) (y0 y1 y2 y3 : Value) :
    Mem w ((((X.setCell ⟨C, 0, none⟩ y0).setCell ⟨C, 1, none⟩ y1).setCell ⟨C, 2, none⟩ y2).setCell ⟨C, 3, none⟩ y3) ((C, [y0, y1, y2, y3], t) :: l) :=
  (((h.set hC hne 0 y0).set hC hne 1 y1).set hC hne 2 y2).set hC hne 3 y3
abbrev zl : List Value := [.int .u32 0, .int .u8 0, .int .i64 0, .int .i64 0]
theorem cut_len3 (c : UInt8) (l : List UInt8) : (Lib.cut l [c]).1.length ≤ l.length ∧ (Lib.cut l [c]).2.1.length ≤ l.length := by
  obtain ⟨h, r, m, e1, _, _, e4, e5⟩ := cut_split c l
  rw [e1]
  exact ⟨e5, e4⟩
def pwsF (x1 x2 x3 x4 : Nat × Nat) : Wh × Nat := if 3 ∈ [x1.2, x2.2, x3.2, x4.2] then (Whn.zero, 3) else if 6 ∈ [x1.2, x2.2, x3.2, x4.2] then (Whn.zero, 6) else (⟨x1.1, x2.1, (x3.1 : Int), (x4.1 : Int)⟩, 0)
def pwsB (b3 b6 : Bool) (v1 v2 v3 v4 : Nat) : Wh × Nat := if b3 = true then (Whn.zero, 3) else if b6 = true then (Whn.zero, 6) else (⟨v1, v2, (v3 : Int), (v4 : Int)⟩, 0)
theorem pwsF_B (x1 x2 x3 x4 : Nat × Nat) : pwsF x1 x2 x3 x4 = pwsB (decide (3 ∈ [x1.2, x2.2, x3.2, x4.2])) (decide (6 ∈ [x1.2, x2.2, x3.2, x4.2])) x1.1 x2.1 x3.1 x4.1 := by
  unfold pwsF pwsB
  simp only [decide_eq_true_iff]
/-- what parseWhen reads -/
def pws (s : List UInt8) : Wh × Nat := pwsF (Clk.pwk (Lib.cut s [32]).1) (Clk.pd (Lib.cut (Lib.cut s [32]).2.1 [32]).1) (psN (Lib.cut (Lib.cut (Lib.cut s [32]).2.1 [32]).2.1 [43]).1) (psN (Lib.cut (Lib.cut (Lib.cut s [32]).2.1 [32]).2.1 [43]).2.1)
def pwsV (s : List UInt8) : Value := .tuple #[wv (pws s).1, .int .i64 ((pws s).2 : Int)]
theorem mem_cast (n : Nat) (l : List Nat) : ((n : Int) ∈ l.map (fun (k : Nat) => (k : Int))) ↔ n ∈ l := by
  rw [List.mem_map]
  exact ⟨fun ⟨k, h1, h2⟩ => (by have : k = n := by omega
                                rw [← this]; exact h1), fun h => ⟨n, h, rfl⟩⟩
set_option maxRecDepth 10000 in
set_option maxHeartbeats 4000000 in
theorem p_parseWhen (s : List UInt8) (hs : s.length ≤ 300000) (w : World) (hE : Env w) : Calls Tryd.prog 28 #[txt s] w (Did (pwsV s) w) := by
  have HE := hid hE
  have Hv := hid (show pwsV s = .tuple #[wv (pws s).1, .int .i64 ((pws s).2 : Int)] from rfl)
  unfold pws at Hv
  clear hE
  obtain ⟨l1, l2⟩ := cut_len3 32 s
  have HC1 := hid (fun w hE => p_cut 32 s hs w hE)
  generalize Lib.cut s [32] = C1 at *
  obtain ⟨ta, r1, m1⟩ := C1
  simp only at l1 l2 HC1
  obtain ⟨l3, l4⟩ := cut_len3 32 r1
  have HC2 := hid (fun w hE => p_cut 32 r1 (by omega) w hE)
  generalize Lib.cut r1 [32] = C2 at *
  obtain ⟨tb, r2, m2⟩ := C2
  simp only at l3 l4 HC2
  obtain ⟨l5, l6⟩ := cut_len3 43 r2
  have HC3 := hid (fun w hE => p_cut 43 r2 (by omega) w hE)
  generalize Lib.cut r2 [43] = C3 at *
  obtain ⟨tp, tq, m3⟩ := C3
  simp only at l5 l6 HC3
  have HW := hid (fun w hE => p_ParseWeeks ta (by omega) w hE)
  have HD := hid (fun w => p_ParseDays (bs tb) w)
  have HS1 := hid (fun w => p_parseSlots tp (by omega) w)
  have HS2 := hid (fun w => p_parseSlots tq (by omega) w)
  rw [data_bs] at HD
  rw [psV_eq] at HS1 HS2
  unfold pwkV at HW
  unfold pdV at HD
  generalize Clk.pwk ta = x1 at *
  generalize Clk.pd tb = x2 at *
  generalize psN tp = x3 at *
  generalize psN tq = x4 at *
  obtain ⟨v1, e1⟩ := x1
  obtain ⟨v2, e2⟩ := x2
  obtain ⟨v3, e3⟩ := x3
  obtain ⟨v4, e4⟩ := x4
  simp only at HW HD HS1 HS2
  clear l1 l2 l3 l4 l5 l6
  obtain ⟨C, W, hC, hW, K, hk0⟩ := (Mem.nil w).one zl 26
  go_enter Tryd.func28, Tryd.ntmps28
  go_wp2_with fail
  refine (HC1.out _ (HE.out.next K.out.2)).mono ?_
  rintro e w1 ⟨rfl, b1⟩
  have K1 := K.out.next b1
  go_wp2_with fail
  refine (HC2.out _ (HE.out.next K1.2)).mono ?_
  rintro e w2 ⟨rfl, b2⟩
  have K2 := K1.next b2
  go_wp2_with fail
  refine (HC3.out _ (HE.out.next K2.2)).mono ?_
  rintro e w3 ⟨rfl, b3⟩
  have K3 := K2.next b3
  go_wp2_with fail
  refine (HW.out _ (HE.out.next K3.2)).mono ?_
  rintro e w4 ⟨rfl, b4⟩
  have K4 := K3.next b4
  go_wp2_with fail
  refine (HD.out _).mono ?_
  rintro e w5 ⟨rfl, b5⟩
  have K5 := K4.next b5
  go_wp2_with fail
  refine (HS1.out _).mono ?_
  rintro e w6 ⟨rfl, rfl⟩
  go_wp2_with fail
  refine (HS2.out _).mono ?_
  rintro e w7 ⟨rfl, rfl⟩
  obtain ⟨EB, W6, hEB, hW6, K6, z6⟩ := K5.one [.int .i64 (e1 : Int), .int .i64 (e2 : Int), .int .i64 (e3 : Int), .int .i64 (e4 : Int)] 29
  obtain ⟨LB, W7, hLB, hW7, K7, z7⟩ := K6.out.one [.int .i64 3, .int .i64 6] 29
  have hOl := K7.out.at_ (b := LB) (cs := [.int .i64 3, .int .i64 6]) (t := 29) (by simp)
  have q0 := hOl.cell (k := 0) rfl
  have q1 := hOl.cell (k := 1) rfl
  have hOe := K7.out.at_ (b := EB) (cs := [.int .i64 (e1 : Int), .int .i64 (e2 : Int), .int .i64 (e3 : Int), .int .i64 (e4 : Int)]) (t := 29) (by simp)
  have hits : Its W7 W7.heap.size (some ⟨EB, 0, none⟩) [(e1 : Int), (e2 : Int), (e3 : Int), (e4 : Int)] := fun _ => ⟨_, rfl, hOe.lt, fun k v hk => by
    rw [show (⟨EB, 0, none⟩ : Addr).add k = ⟨EB, k, none⟩ by rw [Addr.add_lit, Nat.zero_add]]
    exact hOe.cell hk⟩
  have Hct := hid (fun (n : Nat) => show Calls Tryd.prog 53 #[.slice (some ⟨EB, 0, none⟩) 4 4, .int .i64 (n : Int)] W7 (fun e w' => e = .returned (.bool (decide (n ∈ [e1, e2, e3, e4]))) ∧ W7 = w') from by
    have := p_Contains (some ⟨EB, 0, none⟩) 4 4 ([e1, e2, e3, e4].map (fun (k : Nat) => (k : Int))) rfl (by omega) (n : Int) _ W7 hits
    rw [decide_eq_decide.2 (mem_cast n [e1, e2, e3, e4])] at this
    exact this)
  have hO := K7.out.at_ (b := C) (cs := zl) (t := 26) (by simp)
  have c0 := hO.cell (k := 0) rfl
  have c1 := hO.cell (k := 1) rfl
  have c2 := hO.cell (k := 2) rfl
  have c3 := hO.cell (k := 3) rfl
  have f0 := hO.free 0
  have f1 := hO.free 1
  have f2 := hO.free 2
  have f3 := hO.free 3
  have Hv2 := hid (show pwsV s = .tuple #[wv (pwsF (v1, e1) (v2, e2) (v3, e3) (v4, e4)).1, .int .i64 ((pwsF (v1, e1) (v2, e2) (v3, e3) (v4, e4)).2 : Int)] from Hv.out)
  have hwC : w.heap.size ≤ C := by omega
  have K8 := hid (K7.out.sub (l' := [(C, zl, 26)]) (by simp))
  have Hz := hid (Mem.four K8.out hwC (fun p hp => by cases hp) (.int .u32 0) (.int .u8 0) (.int .i64 0) (.int .i64 0))
  have Hw := hid (Mem.four K8.out hwC (fun p hp => by cases hp) (.int .u32 (v1 : Int)) (.int .u8 (v2 : Int)) (.int .i64 (v3 : Int)) (.int .i64 (v4 : Int)))
  have Hc3 := hid (Hct.out 3)
  have Hc6 := hid (Hct.out 6)
  clear Hct
  rw [pwsF_B] at Hv2
  have Hv3 := hid Hv2.out
  clear Hv2
  simp only at Hv3
  generalize decide (3 ∈ [e1, e2, e3, e4]) = t3 at *
  generalize decide (6 ∈ [e1, e2, e3, e4]) = t6 at *
  clear z6 z7 hOl hOe hits hO Hv HW HD HS1 HS2 HC1 HC2 HC3
  go_wp2_with fail
  go_loop [69] (fun iv => ∃ k : Nat, iv = .int .i64 k ∧ k ≤ 2 ∧ (1 ≤ k → t3 = false) ∧ (2 ≤ k → t6 = false)) (fun iv => 2 - (intOf iv).toNat)
  case atStart => exact ⟨0, rfl, by omega, fun h => absurd h (by omega), fun h => absurd h (by omega)⟩
  case round =>
    obtain ⟨k, rfl, hk, hk1, hk2⟩ := hrel
    have key : k = 0 ∨ k = 1 ∨ k = 2 := by omega
    clear hk
    rcases key with rfl | rfl | rfl
    · clear hk1 hk2
      cases t3 with
      | true =>
        have Hr := hid (show pwsV s = .tuple #[wv Whn.zero, .int .i64 3] from Hv3.out)
        clear Hv3
        go_wp2_with fail
        refine (Hc3.out).mono ?_
        rintro e w8 ⟨rfl, rfl⟩
        go_wp2_with fail
        have hO4 := Hz.out.at_ (b := C) (cs := [.int .u32 0, .int .u8 0, .int .i64 0, .int .i64 0]) (t := 26) (by simp)
        have r0 := hO4.cell (k := 0) rfl
        have r1 := hO4.cell (k := 1) rfl
        have r2 := hO4.cell (k := 2) rfl
        have r3 := hO4.cell (k := 3) rfl
        exact bodyPost_ret (v := .tuple #[wv Whn.zero, .int .i64 3]) (by simp [results, Tryd.results28, go_sem, r0, r1, r2, r3, Whn.zero]) rfl (Did.mk Hr.out.symm Hz.out.2)
      | false =>
        go_wp2_with fail
        refine (Hc3.out).mono ?_
        rintro e w8 ⟨rfl, rfl⟩
        go_wp2_with fail
        exact ⟨⟨1, by go_num, by omega, by simp, fun h => absurd h (by omega)⟩, by simp [intOf]⟩
    · have h3 := hk1 (by omega)
      subst h3
      clear hk1 hk2
      cases t6 with
      | true =>
        have Hr := hid (show pwsV s = .tuple #[wv Whn.zero, .int .i64 6] from Hv3.out)
        clear Hv3
        go_wp2_with fail
        refine (Hc6.out).mono ?_
        rintro e w8 ⟨rfl, rfl⟩
        go_wp2_with fail
        have hO4 := Hz.out.at_ (b := C) (cs := [.int .u32 0, .int .u8 0, .int .i64 0, .int .i64 0]) (t := 26) (by simp)
        have r0 := hO4.cell (k := 0) rfl
        have r1 := hO4.cell (k := 1) rfl
        have r2 := hO4.cell (k := 2) rfl
        have r3 := hO4.cell (k := 3) rfl
        exact bodyPost_ret (v := .tuple #[wv Whn.zero, .int .i64 6]) (by simp [results, Tryd.results28, go_sem, r0, r1, r2, r3, Whn.zero]) rfl (Did.mk Hr.out.symm Hz.out.2)
      | false =>
        go_wp2_with fail
        refine (Hc6.out).mono ?_
        rintro e w8 ⟨rfl, rfl⟩
        go_wp2_with fail
        exact ⟨⟨2, by go_num, by omega, by simp, by simp⟩, by simp [intOf]⟩
    · have h3 := hk1 (by omega)
      have h6 := hk2 (by omega)
      subst h3
      subst h6
      clear hk1 hk2
      have Hr := hid (show pwsV s = .tuple #[.agg #[.int .u32 (v1 : Int), .int .u8 (v2 : Int), .int .i64 (v3 : Int), .int .i64 (v4 : Int)], .int .i64 0] from Hv3.out)
      clear Hv3
      go_wp2_with fail
      have hO4 := Hw.out.at_ (b := C) (cs := [.int .u32 (v1 : Int), .int .u8 (v2 : Int), .int .i64 (v3 : Int), .int .i64 (v4 : Int)]) (t := 26) (by simp)
      have r0 := hO4.cell (k := 0) rfl
      have r1 := hO4.cell (k := 1) rfl
      have r2 := hO4.cell (k := 2) rfl
      have r3 := hO4.cell (k := 3) rfl
      exact bodyPost_ret (v := .tuple #[.agg #[.int .u32 (v1 : Int), .int .u8 (v2 : Int), .int .i64 (v3 : Int), .int .i64 (v4 : Int)], .int .i64 0]) (by simp [results, Tryd.results28, go_sem, r0, r1, r2, r3]) rfl (Did.mk Hr.out.symm Hw.out.2)
end Go.Proofs.YtfnjnkmdifigdaaDoor
