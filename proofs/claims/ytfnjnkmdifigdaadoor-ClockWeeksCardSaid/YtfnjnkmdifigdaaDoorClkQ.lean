/- Contracts of the document's own answer for layer 10 (clock): Parse. -/
import Derived.Test.YtfnjnkmdifigdaaDoorClkP
namespace Go.Proofs.YtfnjnkmdifigdaaDoor
open Go.RowKit
open Whn (Gr Wh)

/-- what Parse hands out -/
def rpzV (g : Gr) (s : List UInt8) : Value := .tuple #[wv (Clk.pz g s).1, .int .i64 ((Clk.pz g s).2 : Int)]
abbrev zl0 : List Value := [.int .u32 0, .int .u8 0, .int .i64 0, .int .i64 0]
theorem Mem4 {w X : World} {l : Obs} {C : Nat} {x0 x1 x2 x3 : Value} {t : TypeId} (h : Mem w X ((C, [x0, x1, x2, x3], t) :: l)) (hC : w.heap.size ≤ C) (hne : ∀ p ∈ l, p.1 ≠ C) (y0 y1 y2 y3 : Value) :
    Mem w ((((X.setCell ⟨C, 0, none⟩ y0).setCell ⟨C, 1, none⟩ y1).setCell ⟨C, 2, none⟩ y2).setCell ⟨C, 3, none⟩ y3) ((C, [y0, y1, y2, y3], t) :: l) :=
  (((h.set hC hne 0 y0).set hC hne 1 y1).set hC hne 2 y2).set hC hne 3 y3
theorem three {α : Type} (l : List α) : l.length ≠ 3 ∨ ∃ a b c, l = [a, b, c] := by
  match l with
  | [] => left; simp
  | [_] => left; simp
  | [_, _] => left; simp
  | [a, b, c] => right; exact ⟨a, b, c, rfl⟩
  | _ :: _ :: _ :: _ :: _ => left; simp
theorem two {α : Type} (l : List α) : l.length ≠ 2 ∨ ∃ a b, l = [a, b] := by
  match l with
  | [] => left; simp
  | [_] => left; simp
  | [a, b] => right; exact ⟨a, b, rfl⟩
  | _ :: _ :: _ :: _ => left; simp
theorem pz_grid {g : Gr} {s : List UInt8} (hg : Whn.rgrid g = false) : Clk.pz g s = (Whn.zero, 10) := by unfold Clk.pz; rw [if_neg (by rw [hg]; decide)]
theorem pz_not3 {g : Gr} {s : List UInt8} (hg : Whn.rgrid g = true) (h : (Wrd.cut 32 s).length ≠ 3) : Clk.pz g s = (Whn.zero, 3) := by
  unfold Clk.pz
  rw [if_pos hg]
  split
  · rename_i a b c hc
    rw [hc] at h
    exact absurd rfl h
  · rfl
theorem pz_not2 {g : Gr} {s a b c : List UInt8} (hg : Whn.rgrid g = true) (h : Wrd.cut 32 s = [a, b, c]) (h2 : (Wrd.cut 43 c).length ≠ 2) : Clk.pz g s = (Whn.zero, 3) := by
  unfold Clk.pz
  rw [if_pos hg, h]
  simp only
  split
  · rename_i p q hc
    rw [hc] at h2
    exact absurd rfl h2
  · rfl
theorem pz_two {g : Gr} {s a b c p q : List UInt8} (hg : Whn.rgrid g = true) (h : Wrd.cut 32 s = [a, b, c]) (h2 : Wrd.cut 43 c = [p, q]) : Clk.pz g s =
        if (Clk.pwk a).2 = 3 ∨ (Clk.pd b).2 = 3 ∨ (Dig.pw p).2 = 3 ∨ (Dig.pw q).2 = 3 then (Whn.zero, 3) else
        if (Clk.pwk a).2 = 0 ∧ (Dig.pw p).2 = 0 ∧ (Dig.pw q).2 = 0 ∧ Whn.right g ⟨(Clk.pwk a).1, (Clk.pd b).1, ((Dig.pw p).1 : Int), ((Dig.pw q).1 : Int)⟩ = true then (⟨(Clk.pwk a).1, (Clk.pd b).1, ((Dig.pw p).1 : Int), ((Dig.pw q).1 : Int)⟩, 0) else (Whn.zero, 6) := by
  unfold Clk.pz
  rw [if_pos hg, h]
  simp only [h2]
theorem right_far {g : Gr} {v1 v2 v3 v4 : Nat} (h : 1000 < v3 ∨ 1000 < v4) : Whn.right g ⟨v1, v2, (v3 : Int), (v4 : Int)⟩ = false := by
  cases hr : Whn.right g ⟨v1, v2, (v3 : Int), (v4 : Int)⟩ with
  | false => rfl
  | true =>
    obtain ⟨r1, r2, r3, r4, r5, r6, r7, r8⟩ := Clk.right_nums hr
    simp only [Int.toNat_natCast] at r6 r8
    omega
theorem rpwk_lt (s : List UInt8) : (Clk.pwk s).1 < 2 ^ 20 := by
  rcases Clk.pwk_err s with h | h | h
  · exact (Clk.wk_pwk h).2.2
  · rw [h]; decide
  · rw [h]; decide
theorem rpd_lt (s : List UInt8) : (Clk.pd s).1 < 128 := by
  rcases Clk.pd_err s with h | h
  · exact (Clk.pd_back h).2.2
  · rw [h]; decide
def pzN (g : Gr) (v1 e1 v2 e2 v3 e3 v4 e4 : Nat) : Wh × Nat :=
  if e1 = 3 ∨ e2 = 3 ∨ e3 = 3 ∨ e4 = 3 then (Whn.zero, 3) else
  if e1 = 0 ∧ e3 = 0 ∧ e4 = 0 ∧ Whn.right g ⟨v1, v2, (v3 : Int), (v4 : Int)⟩ = true then (⟨v1, v2, (v3 : Int), (v4 : Int)⟩, 0) else (Whn.zero, 6)
set_option maxRecDepth 10000 in
set_option maxHeartbeats 8000000 in
theorem r10_Parse (g : Gr) (s : List UInt8) (hs : s.length ≤ 300000) (w : World) : Calls Tryd.prog 12 #[gv g, txt s] w (Did (rpzV g s) w) := by
  have Hv := hid (show rpzV g s = .tuple #[wv (Clk.pz g s).1, .int .i64 ((Clk.pz g s).2 : Int)] from rfl)
  have HG := hid (fun w => r_RightGrid g w)
  obtain ⟨A, W, hA, hW, K, hk0⟩ := (Mem.nil w).one (gc g) 23
  obtain ⟨C, V, hC, hV, K1, hk1⟩ := K.out.one zl0 26
  have hwC : w.heap.size ≤ C := by have := hk0.size; omega
  obtain ⟨g0, g1, g2⟩ := K1.out.gr (B := A) (g := g) (by simp)
  cases hg : Whn.rgrid g with
  | false =>
    rw [hg] at HG
    have Hr := hid (show rpzV g s = .tuple #[wv Whn.zero, .int .i64 10] by rw [Hv.out]; rw [pz_grid hg]; rfl)
    clear Hv hg
    go_enter Tryd.func12, Tryd.ntmps12
    go_wp2_with fail
    refine (HG.out _).mono ?_
    rintro e w1 ⟨rfl, b1⟩
    have K2 := K1.out.next b1
    clear g0 g1 g2
    have hO := K2.at_ (b := C) (cs := zl0) (t := 26) (by simp)
    have c0 := hO.cell (k := 0) rfl
    have c1 := hO.cell (k := 1) rfl
    have c2 := hO.cell (k := 2) rfl
    have c3 := hO.cell (k := 3) rfl
    have f0 := hO.free 0
    have f1 := hO.free 1
    have f2 := hO.free 2
    have f3 := hO.free 3
    have Hz := hid (Mem4 (K2.sub (l' := [(C, zl0, 26)]) (by simp)) hwC (fun p hp => by cases hp) (.int .u32 0) (.int .u8 0) (.int .i64 0) (.int .i64 0))
    clear hO
    go_wp2_with fail
    have hO4 := Hz.out.at_ (b := C) (cs := [.int .u32 0, .int .u8 0, .int .i64 0, .int .i64 0]) (t := 26) (by simp)
    have r0 := hO4.cell (k := 0) rfl
    have r1 := hO4.cell (k := 1) rfl
    have r2 := hO4.cell (k := 2) rfl
    have r3 := hO4.cell (k := 3) rfl
    exact bodyPost_ret (v := .tuple #[wv Whn.zero, .int .i64 10]) (by simp [results, Tryd.results12, go_sem, r0, r1, r2, r3, Whn.zero]) rfl (Did.mk Hr.out.symm Hz.out.2)
  | true =>
    rw [hg] at HG
    have HC := hid (fun w => r_Cut (bs s) 32 (by rw [bs_size]; exact hs) w)
    unfold RowRet at HC
    rw [bs_data] at HC
    have hpl := fun p h => Wrd.cut_part_len 32 s p h
    rcases three (Wrd.cut 32 s) with hn | ⟨a, b, c, habc⟩
    · obtain ⟨N, hN⟩ : ∃ N, (Wrd.cut 32 s).length = N := ⟨_, rfl⟩
      have hcl := Wrd.cut_len 32 s
      have Hr := hid (show rpzV g s = .tuple #[wv Whn.zero, .int .i64 3] by rw [Hv.out]; rw [pz_not3 hg hn]; rfl)
      rw [hN] at HC hn hcl
      have t1 : ((N : Int) != 3) = true := by rw [bne_iff_ne]; omega
      clear hN hn Hv hg hpl
      go_enter Tryd.func12, Tryd.ntmps12
      go_wp2_with fail
      refine (HG.out _).mono ?_
      rintro e w1 ⟨rfl, b1⟩
      have K2 := K1.out.next b1
      clear g0 g1 g2
      go_wp2_with fail
      refine (HC.out _).mono ?_
      rintro e w2 ⟨A1, cc, rfl, _, b2⟩
      have K3 := K2.next b2
      have hO := K3.at_ (b := C) (cs := zl0) (t := 26) (by simp)
      have c0 := hO.cell (k := 0) rfl
      have c1 := hO.cell (k := 1) rfl
      have c2 := hO.cell (k := 2) rfl
      have c3 := hO.cell (k := 3) rfl
      have f0 := hO.free 0
      have f1 := hO.free 1
      have f2 := hO.free 2
      have f3 := hO.free 3
      have Hz := hid (Mem4 (K3.sub (l' := [(C, zl0, 26)]) (by simp)) hwC (fun p hp => by cases hp) (.int .u32 0) (.int .u8 0) (.int .i64 0) (.int .i64 0))
      clear hO
      go_wp2_with fail
      have hO4 := Hz.out.at_ (b := C) (cs := [.int .u32 0, .int .u8 0, .int .i64 0, .int .i64 0]) (t := 26) (by simp)
      have r0 := hO4.cell (k := 0) rfl
      have r1 := hO4.cell (k := 1) rfl
      have r2 := hO4.cell (k := 2) rfl
      have r3 := hO4.cell (k := 3) rfl
      exact bodyPost_ret (v := .tuple #[wv Whn.zero, .int .i64 3]) (by simp [results, Tryd.results12, go_sem, r0, r1, r2, r3, Whn.zero]) rfl (Did.mk Hr.out.symm Hz.out.2)
    · have Hv3 := hid (And.intro hg habc)
      rw [habc] at HC hpl
      have la := hpl a (by simp)
      have lb := hpl b (by simp)
      have lc := hpl c (by simp)
      have HW := hid (fun w => r10_ParseWeeks a (by omega) w)
      have HD := hid (fun w => r_ParseDays b w)
      have HC2 := hid (fun w => r_Cut (bs c) 43 (by rw [bs_size]; omega) w)
      unfold RowRet at HC2
      rw [bs_data] at HC2
      have hpl2 := fun p h => Wrd.cut_part_len 43 c p h
      have hcl2 := Wrd.cut_len 43 c
      unfold rpkV at HW
      unfold pdV at HD
      have hwl := rpwk_lt a
      have hdl := rpd_lt b
      obtain ⟨v1, e1, h1⟩ : ∃ v1 e1, Clk.pwk a = (v1, e1) := ⟨_, _, rfl⟩
      obtain ⟨v2, e2, h2⟩ : ∃ v2 e2, Clk.pd b = (v2, e2) := ⟨_, _, rfl⟩
      have H12 := hid (And.intro h1 h2)
      rw [h1] at HW hwl
      rw [h2] at HD hdl
      simp only at HW HD hwl hdl
      clear h1 h2 hg habc hpl
      have HC1 := hid (show ∀ w, Calls Tryd.prog 30 #[txt s, .int .u8 32] w (fun e w' => ∃ A c', e = .returned (.slice A 3 c') ∧ Strs w' w'.heap.size A [a, b, c] ∧ Below w.heap.size w w') from HC.out)
      clear HC
      go_enter Tryd.func12, Tryd.ntmps12
      go_wp2_with fail
      refine (HG.out _).mono ?_
      rintro e w1 ⟨rfl, b1⟩
      have K2 := K1.out.next b1
      clear g0 g1 g2
      go_wp2_with fail
      refine (HC1.out _).mono ?_
      rintro e w2 ⟨A1, cc, rfl, hst, b2⟩
      have K3 := K2.next b2
      obtain ⟨ad, rfl, hadB, hcs⟩ := hst (by simp)
      have s0 : w2.cell? ad = some (txt a) := hcs 0 a rfl
      have Hs := hid hcs
      go_wp2_with fail
      refine (HW.out _).mono ?_
      rintro e w3 ⟨rfl, b3⟩
      have K4 := K3.next b3
      have s1 : w3.cell? ⟨ad.block, ad.off + 1, none⟩ = some (txt b) := (b3.cell (p := ad.add 1) (by rw [add_block]; exact hadB)).trans (Hs.out 1 b rfl)
      have s2 : w3.cell? ⟨ad.block, ad.off + 2, none⟩ = some (txt c) := (b3.cell (p := ad.add 2) (by rw [add_block]; exact hadB)).trans (Hs.out 2 c rfl)
      clear s0 hcs hst
      go_wp2_with fail
      refine (HD.out _).mono ?_
      rintro e w4 ⟨rfl, rfl⟩
      rcases two (Wrd.cut 43 c) with hn | ⟨p, q, hpq⟩
      · obtain ⟨N, hN⟩ : ∃ N, (Wrd.cut 43 c).length = N := ⟨_, rfl⟩
        have Hr := hid (show rpzV g s = .tuple #[wv Whn.zero, .int .i64 3] by rw [Hv.out]; rw [pz_not2 Hv3.out.1 Hv3.out.2 hn]; rfl)
        rw [hN] at HC2 hn hcl2
        have t1 : ((N : Int) != 2) = true := by rw [bne_iff_ne]; omega
        have HC3 := hid HC2
        clear hN hn Hv hpl2 HC2
        go_wp2_with fail
        refine (HC3.out _).mono ?_
        rintro e w5 ⟨A2, cc2, rfl, _, b5⟩
        have K5 := K4.next b5
        clear s1 s2
        by_cases x1 : e1 = 3
        · subst x1
          have hO := K5.at_ (b := C) (cs := zl0) (t := 26) (by simp)
          have c0 := hO.cell (k := 0) rfl
          have c1 := hO.cell (k := 1) rfl
          have c2 := hO.cell (k := 2) rfl
          have c3 := hO.cell (k := 3) rfl
          have f0 := hO.free 0
          have f1 := hO.free 1
          have f2 := hO.free 2
          have f3 := hO.free 3
          have Hz := hid (Mem4 (K5.sub (l' := [(C, zl0, 26)]) (by simp)) hwC (fun p hp => by cases hp) (.int .u32 0) (.int .u8 0) (.int .i64 0) (.int .i64 0))
          clear hO
          go_wp2_with fail
          have hO4 := Hz.out.at_ (b := C) (cs := [.int .u32 0, .int .u8 0, .int .i64 0, .int .i64 0]) (t := 26) (by simp)
          have r0 := hO4.cell (k := 0) rfl
          have r1 := hO4.cell (k := 1) rfl
          have r2 := hO4.cell (k := 2) rfl
          have r3 := hO4.cell (k := 3) rfl
          exact bodyPost_ret (v := .tuple #[wv Whn.zero, .int .i64 3]) (by simp [results, Tryd.results12, go_sem, r0, r1, r2, r3, Whn.zero]) rfl (Did.mk Hr.out.symm Hz.out.2)
        · have t2 : ((e1 : Int) == 3) = false := by rw [beq_eq_false_iff_ne]; omega
          clear x1
          by_cases x2 : e2 = 3
          · subst x2
            have hO := K5.at_ (b := C) (cs := zl0) (t := 26) (by simp)
            have c0 := hO.cell (k := 0) rfl
            have c1 := hO.cell (k := 1) rfl
            have c2 := hO.cell (k := 2) rfl
            have c3 := hO.cell (k := 3) rfl
            have f0 := hO.free 0
            have f1 := hO.free 1
            have f2 := hO.free 2
            have f3 := hO.free 3
            have Hz := hid (Mem4 (K5.sub (l' := [(C, zl0, 26)]) (by simp)) hwC (fun p hp => by cases hp) (.int .u32 0) (.int .u8 0) (.int .i64 0) (.int .i64 0))
            clear hO
            go_wp2_with fail
            have hO4 := Hz.out.at_ (b := C) (cs := [.int .u32 0, .int .u8 0, .int .i64 0, .int .i64 0]) (t := 26) (by simp)
            have r0 := hO4.cell (k := 0) rfl
            have r1 := hO4.cell (k := 1) rfl
            have r2 := hO4.cell (k := 2) rfl
            have r3 := hO4.cell (k := 3) rfl
            exact bodyPost_ret (v := .tuple #[wv Whn.zero, .int .i64 3]) (by simp [results, Tryd.results12, go_sem, r0, r1, r2, r3, Whn.zero]) rfl (Did.mk Hr.out.symm Hz.out.2)
          · have t3 : ((e2 : Int) == 3) = false := by rw [beq_eq_false_iff_ne]; omega
            clear x2
            have hO := K5.at_ (b := C) (cs := zl0) (t := 26) (by simp)
            have c0 := hO.cell (k := 0) rfl
            have c1 := hO.cell (k := 1) rfl
            have c2 := hO.cell (k := 2) rfl
            have c3 := hO.cell (k := 3) rfl
            have f0 := hO.free 0
            have f1 := hO.free 1
            have f2 := hO.free 2
            have f3 := hO.free 3
            have Hz := hid (Mem4 (K5.sub (l' := [(C, zl0, 26)]) (by simp)) hwC (fun p hp => by cases hp) (.int .u32 0) (.int .u8 0) (.int .i64 0) (.int .i64 0))
            clear hO
            go_wp2_with fail
            have hO4 := Hz.out.at_ (b := C) (cs := [.int .u32 0, .int .u8 0, .int .i64 0, .int .i64 0]) (t := 26) (by simp)
            have r0 := hO4.cell (k := 0) rfl
            have r1 := hO4.cell (k := 1) rfl
            have r2 := hO4.cell (k := 2) rfl
            have r3 := hO4.cell (k := 3) rfl
            exact bodyPost_ret (v := .tuple #[wv Whn.zero, .int .i64 3]) (by simp [results, Tryd.results12, go_sem, r0, r1, r2, r3, Whn.zero]) rfl (Did.mk Hr.out.symm Hz.out.2)
      · have HC3 := hid (show ∀ w, Calls Tryd.prog 30 #[txt c, .int .u8 43] w (fun e w' => ∃ A c', e = .returned (.slice A 2 c') ∧ Strs w' w'.heap.size A [p, q] ∧ Below w.heap.size w w') from fun w => by have := HC2 w; rw [hpq] at this; exact this)
        have lp := hpl2 p (by rw [hpq]; simp)
        have lq := hpl2 q (by rw [hpq]; simp)
        have HP1 := hid (fun w => r_pw (bs p) (by rw [bs_size]; unfold maxLen; omega) w)
        have HP2 := hid (fun w => r_pw (bs q) (by rw [bs_size]; unfold maxLen; omega) w)
        unfold PwSaid at HP1 HP2
        rw [bs_data] at HP1 HP2
        have hq0 := pz_two Hv3.out.1 Hv3.out.2 hpq
        obtain ⟨v3, e3, h3⟩ : ∃ v3 e3, Dig.pw p = (v3, e3) := ⟨_, _, rfl⟩
        obtain ⟨v4, e4, h4⟩ : ∃ v4 e4, Dig.pw q = (v4, e4) := ⟨_, _, rfl⟩
        rw [h3] at HP1
        rw [h4] at HP2
        rw [H12.out.1, H12.out.2, h3, h4] at hq0
        have Hq := hid (show rpzV g s = .tuple #[wv (pzN g v1 e1 v2 e2 v3 e3 v4 e4).1, .int .i64 ((pzN g v1 e1 v2 e2 v3 e3 v4 e4).2 : Int)] by rw [Hv.out, hq0]; rfl)
        simp only at HP1 HP2
        clear hq0 h3 h4 hpq hpl2 HC2 lp lq Hv hcl2
        go_wp2_with fail
        refine (HC3.out _).mono ?_
        rintro e w5 ⟨A2, cc2, rfl, hst2, b5⟩
        have K5 := K4.next b5
        obtain ⟨ad2, rfl, hadB2, hcs2⟩ := hst2 (by simp)
        have p0 : w5.cell? ad2 = some (txt p) := hcs2 0 p rfl
        have p1 : w5.cell? ⟨ad2.block, ad2.off + 1, none⟩ = some (txt q) := hcs2 1 q rfl
        clear s1 s2 hst2 hcs2
        by_cases x1 : e1 = 3
        · have Hr := hid (show rpzV g s = .tuple #[wv Whn.zero, .int .i64 3] by rw [Hq.out]; unfold pzN; rw [if_pos (Or.inl x1)]; rfl)
          subst x1
          have hO := K5.at_ (b := C) (cs := zl0) (t := 26) (by simp)
          have c0 := hO.cell (k := 0) rfl
          have c1 := hO.cell (k := 1) rfl
          have c2 := hO.cell (k := 2) rfl
          have c3 := hO.cell (k := 3) rfl
          have f0 := hO.free 0
          have f1 := hO.free 1
          have f2 := hO.free 2
          have f3 := hO.free 3
          have Hz := hid (Mem4 (K5.sub (l' := [(C, zl0, 26)]) (by simp)) hwC (fun p hp => by cases hp) (.int .u32 0) (.int .u8 0) (.int .i64 0) (.int .i64 0))
          clear hO
          go_wp2_with fail
          have hO4 := Hz.out.at_ (b := C) (cs := [.int .u32 0, .int .u8 0, .int .i64 0, .int .i64 0]) (t := 26) (by simp)
          have r0 := hO4.cell (k := 0) rfl
          have r1 := hO4.cell (k := 1) rfl
          have r2 := hO4.cell (k := 2) rfl
          have r3 := hO4.cell (k := 3) rfl
          exact bodyPost_ret (v := .tuple #[wv Whn.zero, .int .i64 3]) (by simp [results, Tryd.results12, go_sem, r0, r1, r2, r3, Whn.zero]) rfl (Did.mk Hr.out.symm Hz.out.2)
        · have t2 : ((e1 : Int) == 3) = false := by rw [beq_eq_false_iff_ne]; omega
          by_cases x2 : e2 = 3
          · have Hr := hid (show rpzV g s = .tuple #[wv Whn.zero, .int .i64 3] by rw [Hq.out]; unfold pzN; rw [if_pos (Or.inr (Or.inl x2))]; rfl)
            subst x2
            have hO := K5.at_ (b := C) (cs := zl0) (t := 26) (by simp)
            have c0 := hO.cell (k := 0) rfl
            have c1 := hO.cell (k := 1) rfl
            have c2 := hO.cell (k := 2) rfl
            have c3 := hO.cell (k := 3) rfl
            have f0 := hO.free 0
            have f1 := hO.free 1
            have f2 := hO.free 2
            have f3 := hO.free 3
            have Hz := hid (Mem4 (K5.sub (l' := [(C, zl0, 26)]) (by simp)) hwC (fun p hp => by cases hp) (.int .u32 0) (.int .u8 0) (.int .i64 0) (.int .i64 0))
            clear hO
            go_wp2_with fail
            have hO4 := Hz.out.at_ (b := C) (cs := [.int .u32 0, .int .u8 0, .int .i64 0, .int .i64 0]) (t := 26) (by simp)
            have r0 := hO4.cell (k := 0) rfl
            have r1 := hO4.cell (k := 1) rfl
            have r2 := hO4.cell (k := 2) rfl
            have r3 := hO4.cell (k := 3) rfl
            exact bodyPost_ret (v := .tuple #[wv Whn.zero, .int .i64 3]) (by simp [results, Tryd.results12, go_sem, r0, r1, r2, r3, Whn.zero]) rfl (Did.mk Hr.out.symm Hz.out.2)
          · have t3 : ((e2 : Int) == 3) = false := by rw [beq_eq_false_iff_ne]; omega
            have X12 := hid (And.intro x1 x2)
            clear x1 x2
            go_wp2_with fail
            refine (HP1.out _).mono ?_
            rintro e w6 ⟨rfl, rfl⟩
            go_wp2_with fail
            refine (HP2.out _).mono ?_
            rintro e w7 ⟨rfl, rfl⟩
            clear p0 p1 t2 t3
            by_cases x3 : e3 = 3
            · have Hr := hid (show rpzV g s = .tuple #[wv Whn.zero, .int .i64 3] by rw [Hq.out]; unfold pzN; rw [if_pos (Or.inr (Or.inr (Or.inl x3)))]; rfl)
              subst x3
              have hO := K5.at_ (b := C) (cs := zl0) (t := 26) (by simp)
              have c0 := hO.cell (k := 0) rfl
              have c1 := hO.cell (k := 1) rfl
              have c2 := hO.cell (k := 2) rfl
              have c3 := hO.cell (k := 3) rfl
              have f0 := hO.free 0
              have f1 := hO.free 1
              have f2 := hO.free 2
              have f3 := hO.free 3
              have Hz := hid (Mem4 (K5.sub (l' := [(C, zl0, 26)]) (by simp)) hwC (fun p hp => by cases hp) (.int .u32 0) (.int .u8 0) (.int .i64 0) (.int .i64 0))
              clear hO
              go_wp2_with fail
              have hO4 := Hz.out.at_ (b := C) (cs := [.int .u32 0, .int .u8 0, .int .i64 0, .int .i64 0]) (t := 26) (by simp)
              have r0 := hO4.cell (k := 0) rfl
              have r1 := hO4.cell (k := 1) rfl
              have r2 := hO4.cell (k := 2) rfl
              have r3 := hO4.cell (k := 3) rfl
              exact bodyPost_ret (v := .tuple #[wv Whn.zero, .int .i64 3]) (by simp [results, Tryd.results12, go_sem, r0, r1, r2, r3, Whn.zero]) rfl (Did.mk Hr.out.symm Hz.out.2)
            · have t4 : ((e3 : Int) == 3) = false := by rw [beq_eq_false_iff_ne]; omega
              by_cases x4 : e4 = 3
              · have Hr := hid (show rpzV g s = .tuple #[wv Whn.zero, .int .i64 3] by rw [Hq.out]; unfold pzN; rw [if_pos (Or.inr (Or.inr (Or.inr x4)))]; rfl)
                subst x4
                have hO := K5.at_ (b := C) (cs := zl0) (t := 26) (by simp)
                have c0 := hO.cell (k := 0) rfl
                have c1 := hO.cell (k := 1) rfl
                have c2 := hO.cell (k := 2) rfl
                have c3 := hO.cell (k := 3) rfl
                have f0 := hO.free 0
                have f1 := hO.free 1
                have f2 := hO.free 2
                have f3 := hO.free 3
                have Hz := hid (Mem4 (K5.sub (l' := [(C, zl0, 26)]) (by simp)) hwC (fun p hp => by cases hp) (.int .u32 0) (.int .u8 0) (.int .i64 0) (.int .i64 0))
                clear hO
                go_wp2_with fail
                have hO4 := Hz.out.at_ (b := C) (cs := [.int .u32 0, .int .u8 0, .int .i64 0, .int .i64 0]) (t := 26) (by simp)
                have r0 := hO4.cell (k := 0) rfl
                have r1 := hO4.cell (k := 1) rfl
                have r2 := hO4.cell (k := 2) rfl
                have r3 := hO4.cell (k := 3) rfl
                exact bodyPost_ret (v := .tuple #[wv Whn.zero, .int .i64 3]) (by simp [results, Tryd.results12, go_sem, r0, r1, r2, r3, Whn.zero]) rfl (Did.mk Hr.out.symm Hz.out.2)
              · have t5 : ((e4 : Int) == 3) = false := by rw [beq_eq_false_iff_ne]; omega
                have X := hid (show ¬ (e1 = 3 ∨ e2 = 3 ∨ e3 = 3 ∨ e4 = 3) by have := X12.out; omega)
                clear x3 x4
                by_cases y1 : ¬ e1 = 0
                · have Hr := hid (show rpzV g s = .tuple #[wv Whn.zero, .int .i64 6] by rw [Hq.out]; unfold pzN; rw [if_neg X.out, if_neg (fun h => y1 h.1)]; rfl)
                  have u0 : ((e1 : Int) != 0) = true := by rw [bne_iff_ne]; omega
                  clear y1
                  have hO := K5.at_ (b := C) (cs := zl0) (t := 26) (by simp)
                  have c0 := hO.cell (k := 0) rfl
                  have c1 := hO.cell (k := 1) rfl
                  have c2 := hO.cell (k := 2) rfl
                  have c3 := hO.cell (k := 3) rfl
                  have f0 := hO.free 0
                  have f1 := hO.free 1
                  have f2 := hO.free 2
                  have f3 := hO.free 3
                  have Hz := hid (Mem4 (K5.sub (l' := [(C, zl0, 26)]) (by simp)) hwC (fun p hp => by cases hp) (.int .u32 0) (.int .u8 0) (.int .i64 0) (.int .i64 0))
                  clear hO
                  go_wp2_with fail
                  have hO4 := Hz.out.at_ (b := C) (cs := [.int .u32 0, .int .u8 0, .int .i64 0, .int .i64 0]) (t := 26) (by simp)
                  have r0 := hO4.cell (k := 0) rfl
                  have r1 := hO4.cell (k := 1) rfl
                  have r2 := hO4.cell (k := 2) rfl
                  have r3 := hO4.cell (k := 3) rfl
                  exact bodyPost_ret (v := .tuple #[wv Whn.zero, .int .i64 6]) (by simp [results, Tryd.results12, go_sem, r0, r1, r2, r3, Whn.zero]) rfl (Did.mk Hr.out.symm Hz.out.2)
                have y1 : e1 = 0 := by omega
                have u0 : ((e1 : Int) != 0) = false := by rw [bne_eq_false_iff_eq]; omega
                by_cases y3 : ¬ e3 = 0
                · have Hr := hid (show rpzV g s = .tuple #[wv Whn.zero, .int .i64 6] by rw [Hq.out]; unfold pzN; rw [if_neg X.out, if_neg (fun h => y3 h.2.1)]; rfl)
                  have u1 : ((e3 : Int) != 0) = true := by rw [bne_iff_ne]; omega
                  clear y3
                  have hO := K5.at_ (b := C) (cs := zl0) (t := 26) (by simp)
                  have c0 := hO.cell (k := 0) rfl
                  have c1 := hO.cell (k := 1) rfl
                  have c2 := hO.cell (k := 2) rfl
                  have c3 := hO.cell (k := 3) rfl
                  have f0 := hO.free 0
                  have f1 := hO.free 1
                  have f2 := hO.free 2
                  have f3 := hO.free 3
                  have Hz := hid (Mem4 (K5.sub (l' := [(C, zl0, 26)]) (by simp)) hwC (fun p hp => by cases hp) (.int .u32 0) (.int .u8 0) (.int .i64 0) (.int .i64 0))
                  clear hO
                  go_wp2_with fail
                  have hO4 := Hz.out.at_ (b := C) (cs := [.int .u32 0, .int .u8 0, .int .i64 0, .int .i64 0]) (t := 26) (by simp)
                  have r0 := hO4.cell (k := 0) rfl
                  have r1 := hO4.cell (k := 1) rfl
                  have r2 := hO4.cell (k := 2) rfl
                  have r3 := hO4.cell (k := 3) rfl
                  exact bodyPost_ret (v := .tuple #[wv Whn.zero, .int .i64 6]) (by simp [results, Tryd.results12, go_sem, r0, r1, r2, r3, Whn.zero]) rfl (Did.mk Hr.out.symm Hz.out.2)
                have y3 : e3 = 0 := by omega
                have u1 : ((e3 : Int) != 0) = false := by rw [bne_eq_false_iff_eq]; omega
                by_cases y4 : ¬ e4 = 0
                · have Hr := hid (show rpzV g s = .tuple #[wv Whn.zero, .int .i64 6] by rw [Hq.out]; unfold pzN; rw [if_neg X.out, if_neg (fun h => y4 h.2.2.1)]; rfl)
                  have u2 : ((e4 : Int) != 0) = true := by rw [bne_iff_ne]; omega
                  clear y4
                  have hO := K5.at_ (b := C) (cs := zl0) (t := 26) (by simp)
                  have c0 := hO.cell (k := 0) rfl
                  have c1 := hO.cell (k := 1) rfl
                  have c2 := hO.cell (k := 2) rfl
                  have c3 := hO.cell (k := 3) rfl
                  have f0 := hO.free 0
                  have f1 := hO.free 1
                  have f2 := hO.free 2
                  have f3 := hO.free 3
                  have Hz := hid (Mem4 (K5.sub (l' := [(C, zl0, 26)]) (by simp)) hwC (fun p hp => by cases hp) (.int .u32 0) (.int .u8 0) (.int .i64 0) (.int .i64 0))
                  clear hO
                  go_wp2_with fail
                  have hO4 := Hz.out.at_ (b := C) (cs := [.int .u32 0, .int .u8 0, .int .i64 0, .int .i64 0]) (t := 26) (by simp)
                  have r0 := hO4.cell (k := 0) rfl
                  have r1 := hO4.cell (k := 1) rfl
                  have r2 := hO4.cell (k := 2) rfl
                  have r3 := hO4.cell (k := 3) rfl
                  exact bodyPost_ret (v := .tuple #[wv Whn.zero, .int .i64 6]) (by simp [results, Tryd.results12, go_sem, r0, r1, r2, r3, Whn.zero]) rfl (Did.mk Hr.out.symm Hz.out.2)
                have y4 : e4 = 0 := by omega
                have u2 : ((e4 : Int) != 0) = false := by rw [bne_eq_false_iff_eq]; omega
                by_cases y5 : 1000 < v3
                · have Hr := hid (show rpzV g s = .tuple #[wv Whn.zero, .int .i64 6] by rw [Hq.out]; unfold pzN; rw [if_neg X.out, if_neg (fun h => by rw [right_far (Or.inl y5)] at h; cases h.2.2.2)]; rfl)
                  have u3 : decide (1000 < (v3 : Int)) = true := decide_eq_true (by omega)
                  clear y5
                  have hO := K5.at_ (b := C) (cs := zl0) (t := 26) (by simp)
                  have c0 := hO.cell (k := 0) rfl
                  have c1 := hO.cell (k := 1) rfl
                  have c2 := hO.cell (k := 2) rfl
                  have c3 := hO.cell (k := 3) rfl
                  have f0 := hO.free 0
                  have f1 := hO.free 1
                  have f2 := hO.free 2
                  have f3 := hO.free 3
                  have Hz := hid (Mem4 (K5.sub (l' := [(C, zl0, 26)]) (by simp)) hwC (fun p hp => by cases hp) (.int .u32 0) (.int .u8 0) (.int .i64 0) (.int .i64 0))
                  clear hO
                  go_wp2_with fail
                  have hO4 := Hz.out.at_ (b := C) (cs := [.int .u32 0, .int .u8 0, .int .i64 0, .int .i64 0]) (t := 26) (by simp)
                  have r0 := hO4.cell (k := 0) rfl
                  have r1 := hO4.cell (k := 1) rfl
                  have r2 := hO4.cell (k := 2) rfl
                  have r3 := hO4.cell (k := 3) rfl
                  exact bodyPost_ret (v := .tuple #[wv Whn.zero, .int .i64 6]) (by simp [results, Tryd.results12, go_sem, r0, r1, r2, r3, Whn.zero]) rfl (Did.mk Hr.out.symm Hz.out.2)
                have u3 : decide (1000 < (v3 : Int)) = false := decide_eq_false (by omega)
                by_cases y6 : 1000 < v4
                · have Hr := hid (show rpzV g s = .tuple #[wv Whn.zero, .int .i64 6] by rw [Hq.out]; unfold pzN; rw [if_neg X.out, if_neg (fun h => by rw [right_far (Or.inr y6)] at h; cases h.2.2.2)]; rfl)
                  have u4 : decide (1000 < (v4 : Int)) = true := decide_eq_true (by omega)
                  clear y6
                  have hO := K5.at_ (b := C) (cs := zl0) (t := 26) (by simp)
                  have c0 := hO.cell (k := 0) rfl
                  have c1 := hO.cell (k := 1) rfl
                  have c2 := hO.cell (k := 2) rfl
                  have c3 := hO.cell (k := 3) rfl
                  have f0 := hO.free 0
                  have f1 := hO.free 1
                  have f2 := hO.free 2
                  have f3 := hO.free 3
                  have Hz := hid (Mem4 (K5.sub (l' := [(C, zl0, 26)]) (by simp)) hwC (fun p hp => by cases hp) (.int .u32 0) (.int .u8 0) (.int .i64 0) (.int .i64 0))
                  clear hO
                  go_wp2_with fail
                  have hO4 := Hz.out.at_ (b := C) (cs := [.int .u32 0, .int .u8 0, .int .i64 0, .int .i64 0]) (t := 26) (by simp)
                  have r0 := hO4.cell (k := 0) rfl
                  have r1 := hO4.cell (k := 1) rfl
                  have r2 := hO4.cell (k := 2) rfl
                  have r3 := hO4.cell (k := 3) rfl
                  exact bodyPost_ret (v := .tuple #[wv Whn.zero, .int .i64 6]) (by simp [results, Tryd.results12, go_sem, r0, r1, r2, r3, Whn.zero]) rfl (Did.mk Hr.out.symm Hz.out.2)
                have u4 : decide (1000 < (v4 : Int)) = false := decide_eq_false (by omega)
                subst y1
                subst y3
                subst y4
                have hok : Wok ⟨v1, v2, (v3 : Int), (v4 : Int)⟩ := by unfold Wok I64; simp only; omega
                have HR := hid (fun w => r_Right g ⟨v1, v2, (v3 : Int), (v4 : Int)⟩ hok w)
                have b63a : (v3 : Int) < 9223372036854775808 := by omega
                have b63b : (v4 : Int) < 9223372036854775808 := by omega
                obtain ⟨D, W2, hD, hW2, K6, hk6⟩ := K5.one [.int .u32 (v1 : Int), .int .u8 (v2 : Int), .int .i64 (v3 : Int), .int .i64 (v4 : Int)] 26
                obtain ⟨g0, g1, g2⟩ := K6.out.gr (B := A) (g := g) (by simp)
                have hOd := K6.out.at_ (b := D) (cs := [.int .u32 (v1 : Int), .int .u8 (v2 : Int), .int .i64 (v3 : Int), .int .i64 (v4 : Int)]) (t := 26) (by simp)
                have d0 := hOd.cell (k := 0) rfl
                have d1 := hOd.cell (k := 1) rfl
                have d2 := hOd.cell (k := 2) rfl
                have d3 := hOd.cell (k := 3) rfl
                clear hOd hok hwl hdl y5 y6
                cases hr : Whn.right g ⟨v1, v2, (v3 : Int), (v4 : Int)⟩ with
                | false =>
                  rw [hr] at HR
                  have Hr := hid (show rpzV g s = .tuple #[wv Whn.zero, .int .i64 6] by rw [Hq.out]; unfold pzN; rw [if_neg X.out, if_neg (fun h => by rw [hr] at h; cases h.2.2.2)]; rfl)
                  clear hr
                  go_wp2_with fail
                  refine (HR.out _).mono ?_
                  rintro e w8 ⟨rfl, b8⟩
                  have K7 := K6.out.next b8
                  clear g0 g1 g2 d0 d1 d2 d3
                  have hO := K7.at_ (b := C) (cs := zl0) (t := 26) (by simp)
                  have c0 := hO.cell (k := 0) rfl
                  have c1 := hO.cell (k := 1) rfl
                  have c2 := hO.cell (k := 2) rfl
                  have c3 := hO.cell (k := 3) rfl
                  have f0 := hO.free 0
                  have f1 := hO.free 1
                  have f2 := hO.free 2
                  have f3 := hO.free 3
                  have Hz := hid (Mem4 (K7.sub (l' := [(C, zl0, 26)]) (by simp)) hwC (fun p hp => by cases hp) (.int .u32 0) (.int .u8 0) (.int .i64 0) (.int .i64 0))
                  clear hO
                  go_wp2_with fail
                  have hO4 := Hz.out.at_ (b := C) (cs := [.int .u32 0, .int .u8 0, .int .i64 0, .int .i64 0]) (t := 26) (by simp)
                  have r0 := hO4.cell (k := 0) rfl
                  have r1 := hO4.cell (k := 1) rfl
                  have r2 := hO4.cell (k := 2) rfl
                  have r3 := hO4.cell (k := 3) rfl
                  exact bodyPost_ret (v := .tuple #[wv Whn.zero, .int .i64 6]) (by simp [results, Tryd.results12, go_sem, r0, r1, r2, r3, Whn.zero]) rfl (Did.mk Hr.out.symm Hz.out.2)
                | true =>
                  rw [hr] at HR
                  have Hr := hid (show rpzV g s = .tuple #[.agg #[.int .u32 (v1 : Int), .int .u8 (v2 : Int), .int .i64 (v3 : Int), .int .i64 (v4 : Int)], .int .i64 0] by rw [Hq.out]; unfold pzN; rw [if_neg X.out, if_pos ⟨rfl, rfl, rfl, hr⟩]; rfl)
                  clear hr
                  go_wp2_with fail
                  refine (HR.out _).mono ?_
                  rintro e w8 ⟨rfl, b8⟩
                  have K7 := K6.out.next b8
                  clear g0 g1 g2 d0 d1 d2 d3
                  have hOd := K7.at_ (b := D) (cs := [.int .u32 (v1 : Int), .int .u8 (v2 : Int), .int .i64 (v3 : Int), .int .i64 (v4 : Int)]) (t := 26) (by simp)
                  have d0 := hOd.cell (k := 0) rfl
                  have d1 := hOd.cell (k := 1) rfl
                  have d2 := hOd.cell (k := 2) rfl
                  have d3 := hOd.cell (k := 3) rfl
                  clear hOd
                  have hO := K7.at_ (b := C) (cs := zl0) (t := 26) (by simp)
                  have c0 := hO.cell (k := 0) rfl
                  have c1 := hO.cell (k := 1) rfl
                  have c2 := hO.cell (k := 2) rfl
                  have c3 := hO.cell (k := 3) rfl
                  have f0 := hO.free 0
                  have f1 := hO.free 1
                  have f2 := hO.free 2
                  have f3 := hO.free 3
                  have Hz := hid (Mem4 (K7.sub (l' := [(C, zl0, 26)]) (by simp)) hwC (fun p hp => by cases hp) (.int .u32 (v1 : Int)) (.int .u8 (v2 : Int)) (.int .i64 (v3 : Int)) (.int .i64 (v4 : Int)))
                  clear hO
                  go_wp2_with fail
                  have hO4 := Hz.out.at_ (b := C) (cs := [.int .u32 (v1 : Int), .int .u8 (v2 : Int), .int .i64 (v3 : Int), .int .i64 (v4 : Int)]) (t := 26) (by simp)
                  have r0 := hO4.cell (k := 0) rfl
                  have r1 := hO4.cell (k := 1) rfl
                  have r2 := hO4.cell (k := 2) rfl
                  have r3 := hO4.cell (k := 3) rfl
                  exact bodyPost_ret (v := .tuple #[.agg #[.int .u32 (v1 : Int), .int .u8 (v2 : Int), .int .i64 (v3 : Int), .int .i64 (v4 : Int)], .int .i64 0]) (by simp [results, Tryd.results12, go_sem, r0, r1, r2, r3]) rfl (Did.mk Hr.out.symm Hz.out.2)
end Go.Proofs.YtfnjnkmdifigdaaDoor
