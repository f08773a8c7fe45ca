/- Contracts of the document's own answer for layer 8: Pick, Shuffle. -/
import Derived.Test.YtdhapddconoegaaDicR
namespace Go.Proofs.Ytdhapddconoegaa
open Go.RowKit

set_option maxHeartbeats 2000000 in
theorem r_Pick (s : Nat) (A : Option Addr) (n c : Nat) (l : List Int) (hn : l.length = n) (hm : n ≤ 10000) (B : Nat) (w : World) (hB : B ≤ w.heap.size) (h : Its w B A l) :
    Calls Try.prog 14 #[dv s, .slice A n c] w (Did (.tuple #[.int .i64 (Dic.pick s l), dv (Dic.pickS s l)]) w) := by
  subst hn
  obtain ⟨W, hW, x1, x2, hb, hs⟩ := two_d w (s : Int) 0
  have H := hid (h.below hb hB)
  have c1 := x1.cell
  have c2 := x2.cell
  have f2 := x2.free
  clear h
  have hm' : (l.length : Int) ≤ 10000 := by omega
  go_enter Try.func14, Try.ntmps14
  go_wp2_with fail
  go_loop [6, 7] (fun tv iv => ∃ k : Nat, tv = .int .i64 (Dic.tot (l.take k) : Nat) ∧ iv = .int .i64 k ∧ k ≤ l.length) (fun _ iv => l.length - (intOf iv).toNat)
  case atStart => exact ⟨0, rfl, rfl, Nat.zero_le _⟩
  case round =>
    obtain ⟨k, rfl, rfl, hk⟩ := hrel
    by_cases hlt : k < l.length
    · obtain ⟨ad, x, rfl, _, Hx, hc⟩ := Its.get H.out hlt
      have Hnext := hid (Dic.tot_take l k x Hx.out)
      have hl := Dic.tot_take_le l k
      have hw := Dic.wt_le x
      have Hc := hid (fun w => r_weight x w)
      unfold IntRet at Hc
      generalize Dic.tot (l.take k) = t at *
      generalize Dic.wt x = v at *
      have i1 : (0 : Int) ≤ (k : Int) := by omega
      have i2 : (k : Int) < (l.length : Int) := by omega
      go_wp2_with fail
      refine (Hc.out _).mono ?_
      rintro e w' ⟨rfl, rfl⟩
      go_wp2_with fail
      go_round
      case rel => exact ⟨k + 1, by rw [Hnext.out]; go_num, by go_num, by omega⟩
      case measure => simp [intOf]; omega
    · obtain rfl : k = l.length := by omega
      rw [List.take_length]
      have hl := Dic.tot_le l
      by_cases h0 : Dic.tot l = 0
      · have Hr := hid (show (-1 : Int) = Dic.pick s l by unfold Dic.pick; rw [if_neg (fun h => h.2 h0)])
        have Hs := hid (show s = Dic.pickS s l by unfold Dic.pickS; rw [if_neg (fun h => h.2 h0)])
        rw [h0]
        clear h0
        go_wp2_with fail
        go_region
        go_wp2_with fail
        have u2 := (x2.set (s : Int)).cell
        exact bodyPost_ret (v := .tuple #[.int .i64 (-1), dv s]) (by simp [results, Try.results14, go_sem, u2]) rfl (Did.mk (by rw [← Hr.out, ← Hs.out]) (hb.setCell (p := ⟨w.heap.size + 1, 0, none⟩) (by show w.heap.size ≤ w.heap.size + 1; omega) _).drew)
      · have hok : Dic.ok l := ⟨hm, h0⟩
        have ht : 0 < Dic.tot l := by omega
        have hrl := Nat.mod_lt (Dic.num s) ht
        have Hr := hid (show ((Dic.pk l (Dic.num s % Dic.tot l) : Nat) : Int) = Dic.pick s l by unfold Dic.pick; rw [if_pos hok])
        have Hs := hid (show Dic.nx s = Dic.pickS s l by unfold Dic.pickS; rw [if_pos hok])
        have HT := hid (fun w => r_Below s (Dic.tot l : Nat) (by unfold I64; omega) w)
        rw [show Dic.bel s (Dic.tot l : Nat) = Dic.num s % Dic.tot l by unfold Dic.bel; rw [if_neg (by omega)]; rfl, show Dic.belS s (Dic.tot l : Nat) = Dic.nx s by unfold Dic.belS; rw [if_neg (by omega)]] at HT
        obtain ⟨q1, q2⟩ := Dic.pk_spec l _ hrl
        have q3 := Dic.pk_lt l _ hrl
        clear hok
        generalize Dic.nx s = s' at *
        generalize Dic.num s % Dic.tot l = r at *
        have Q1 := hid q1
        have Q2 := hid q2
        generalize hpe : Dic.pk l r = pl at *
        clear hpe q1 q2
        have htl : Dic.tot l ≤ 10000000000 := by omega
        generalize Dic.tot l = t at *
        have ht' : ((t : Int) == 0) = false := by rw [beq_eq_false_iff_ne]; omega
        clear h0
        go_wp2_with fail
        with_reducible refine (HT.out _).mono ?_
        rintro e w2 ⟨rfl, b2⟩
        have z2 := x2.below b2 (by omega)
        have hb1 : Below w.heap.size W w2 := b2.mono (by omega)
        have hs2 := b2.size
        have hs3 : w2.heap.size ≠ w.heap.size + 1 := by omega
        have v2 := z2.below (below_alloc w2 (.cells #[.int .u64 (s' : Int)] 24)) (by omega)
        have v3 := Bx.new w2 (s' : Int)
        have hb3 := hb1.trans ((below_alloc w2 (.cells #[.int .u64 (s' : Int)] 24)).mono (by omega))
        have H3 := hid (H.out.below hb3 hB)
        have hb4 := hb.trans hb3
        clear x1 x2 c1 c2 f2 b2 z2 hb1 H hb hb3 HT
        have c2 := v2.cell
        have f2 := v2.free
        have c3 := v3.cell
        go_wp2_with fail
        go_loop [10, 11] (fun sv pv => ∃ j : Nat, sv = .int .i64 (Dic.tot (l.take j) : Nat) ∧ pv = .int .i64 j ∧ j ≤ pl) (fun _ pv => pl - (intOf pv).toNat)
        case atStart => exact ⟨0, by rw [List.take_zero, Dic.tot_nil]; rfl, rfl, Nat.zero_le _⟩
        case round =>
          obtain ⟨j, rfl, rfl, hj⟩ := hrel
          have hjl : j < l.length := by omega
          obtain ⟨ad, x, rfl, _, Hx, hc⟩ := Its.get H3.out hjl
          have Hnext := hid (Dic.tot_take l j x Hx.out)
          have hw := Dic.wt_le x
          have htk := Dic.tot_take_le l j
          have Hc := hid (fun w => r_weight x w)
          unfold IntRet at Hc
          have i1 : (0 : Int) ≤ (j : Int) := by omega
          have i2 : (j : Int) < (l.length : Int) := by omega
          by_cases hlt : j < pl
          · have hmo := Dic.tot_take_mono l (show j + 1 ≤ pl from hlt)
            have hq1 := Q1.out
            rw [Hnext.out] at hmo
            have hge : ((Dic.tot (l.take j) : Nat) : Int) + (Dic.wt x : Nat) ≤ (r : Int) := by omega
            clear hmo hq1
            generalize Dic.tot (l.take j) = r0 at *
            generalize Dic.wt x = v at *
            go_wp2_with fail
            refine (Hc.out _).mono ?_
            rintro e w' ⟨rfl, rfl⟩
            go_wp2_with fail
            go_round
            case rel => exact ⟨j + 1, by rw [Hnext.out]; go_num, by go_num, by omega⟩
            case measure => simp [intOf]; omega
          · obtain rfl : j = pl := by omega
            have hq2 := Q2.out
            rw [Hnext.out] at hq2
            have hge : (r : Int) < ((Dic.tot (l.take j) : Nat) : Int) + (Dic.wt x : Nat) := by omega
            clear hq2
            generalize Dic.tot (l.take j) = r0 at *
            generalize Dic.wt x = v at *
            go_wp2_with fail
            refine (Hc.out _).mono ?_
            rintro e w' ⟨rfl, rfl⟩
            go_wp2_with fail
            go_region
            go_wp2_with fail
            have u2 := (v2.set (s' : Int)).cell
            exact bodyPost_ret (v := .tuple #[.int .i64 (j : Int), dv s']) (by simp [results, Try.results14, go_sem, u2]) rfl (Did.mk (by rw [← Hr.out, ← Hs.out]) (hb4.setCell (p := ⟨w.heap.size + 1, 0, none⟩) (by show w.heap.size ≤ w.heap.size + 1; omega) _).drew)
set_option maxRecDepth 20000 in
set_option maxHeartbeats 4000000 in
theorem r_Shuffle (s : Nat) (n : Int) (hn : I64 n) (w : World) :
    Calls Try.prog 17 #[dv s, .int .i64 n] w (ShRet (Dic.shuf s n) (Dic.shufS s n) w) := by
  obtain ⟨W, hW, x1, x2, hb, hs⟩ := two_d w (s : Int) 0
  have c1 := x1.cell
  have c2 := x2.cell
  have f2 := x2.free
  by_cases hno : n < 0 ∨ 10000 < n
  · have Hr := hid (show [] = Dic.shuf s n by unfold Dic.shuf; rw [if_pos hno])
    have Hs := hid (show s = Dic.shufS s n by unfold Dic.shufS; rw [if_pos hno])
    unfold I64 at hn
    rcases hno with hno | hno
    · go_enter Try.func17, Try.ntmps17
      go_wp2_with fail
      go_region
      go_wp2_with fail
      have u2 := (x2.set (s : Int)).cell
      exact bodyPost_ret (v := .tuple #[.slice none 0 0, dv s]) (by simp [results, Try.results17, go_sem, u2]) rfl (ShRet.mk (l := []) (Rd.none_ _ _ _) (hb.setCell (p := ⟨w.heap.size + 1, 0, none⟩) (by show w.heap.size ≤ w.heap.size + 1; omega) _).drew Hr.out Hs.out)
    · go_enter Try.func17, Try.ntmps17
      go_wp2_with fail
      go_region
      go_wp2_with fail
      have u2 := (x2.set (s : Int)).cell
      exact bodyPost_ret (v := .tuple #[.slice none 0 0, dv s]) (by simp [results, Try.results17, go_sem, u2]) rfl (ShRet.mk (l := []) (Rd.none_ _ _ _) (hb.setCell (p := ⟨w.heap.size + 1, 0, none⟩) (by show w.heap.size ≤ w.heap.size + 1; omega) _).drew Hr.out Hs.out)
  · obtain ⟨N, rfl⟩ := Int.eq_ofNat_of_zero_le (show 0 ≤ n by omega)
    have hN1 : (N : Int) ≤ 10000 := by omega
    have hN0 : (0 : Int) ≤ (N : Int) := by omega
    have Hr := hid (show Dic.shf (N - 1) s (Dic.rng N) = Dic.shuf s N by unfold Dic.shuf; rw [if_neg hno]; rfl)
    have Hs := hid (show Dic.shfS (N - 1) s = Dic.shufS s N by unfold Dic.shufS; rw [if_neg hno]; rfl)
    clear hno hn
    obtain ⟨i0, hi, hz0, hz1, hz2⟩ := info_parts Try.info_int
    have hb2 : i0.bytes * N ≤ 281474976710656 := by rw [hz2]; omega
    have hb3 : N ≤ maxLen := by unfold maxLen; omega
    go_enter Try.func17, Try.ntmps17
    go_wp2_with (at_make; refine wpList_make_full _ rfl _ _ 25 rfl w.heap.size 3 i0 (.int .i64 0) 1 Try.underlying25 hi hz0 hz1 .i64 .i64 _ _ N rfl rfl rfl rfl hb2 hb3 hb.size ?_; intro w1 hown hgrow)
    have hbW : Below W.heap.size W w1 := (Below.refl _ _).grown hgrow (Nat.le_refl _) (fun k hk => by cases hk)
    rw [hs] at hown hbW
    have R1 : Ir w1 w.heap.size (w.heap.size + 2) N (Dic.fil N 0) := by
      unfold Ir
      rw [made_one] at hown
      rw [Dic.fil_zero, List.map_replicate]
      exact hown
    have hb1 := hid (hb.trans (hbW.mono (by omega)))
    have X1 := hid (x1.below hbW (by omega))
    have X2 := hid (x2.below hbW (by omega))
    have hR1 := hid R1
    have hlt1 := R1.lt
    clear hown hgrow hbW x1 x2 c1 c2 f2 hb R1
    go_loopw [7] (fun iv wr => ∃ k : Nat, iv = .int .i64 k ∧ k ≤ N ∧ Hid (Ir wr w.heap.size (w.heap.size + 2) N (Dic.fil N k)) ∧ Hid (Bx wr w.heap.size s) ∧ Hid (Bx wr (w.heap.size + 1) 0) ∧ Hid (Below w.heap.size w wr)) (fun iv _ => N - (intOf iv).toNat)
    case atStart => exact ⟨0, rfl, Nat.zero_le _, hR1, X1, X2, hb1⟩
    case round =>
      clear hR1 X1 X2 hb1 hlt1
      obtain ⟨k, rfl, hk, HR, X1, X2, HB⟩ := hrel
      by_cases hlt : k < N
      · have Hnext := hid (Dic.fil_next N k hlt)
        have ck := HR.out.cell hlt
        have fk := HR.out.free k
        have R2 := hid (HR.out.set k (k : Int))
        rw [Hnext.out] at R2
        have Y1 := hid (X1.out.ahead (p := ⟨w.heap.size + 2, k, none⟩) (by show w.heap.size + 2 ≠ w.heap.size; omega) (.int .i64 (k : Int)))
        have Y2 := hid (X2.out.ahead (p := ⟨w.heap.size + 2, k, none⟩) (by show w.heap.size + 2 ≠ w.heap.size + 1; omega) (.int .i64 (k : Int)))
        have HB2 := hid (HB.out.setCell (p := ⟨w.heap.size + 2, k, none⟩) (by show w.heap.size ≤ w.heap.size + 2; omega) (.int .i64 (k : Int)))
        have i1 : (0 : Int) ≤ (k : Int) := by omega
        have i2 : (k : Int) < (N : Int) := by omega
        go_wp2_with fail
        exact ⟨⟨k + 1, by go_num, by omega, R2, Y1, Y2, HB2⟩, by simp [intOf]; omega⟩
      · obtain rfl : k = N := by omega
        rw [Dic.fil_full] at HR
        have c1 := X1.out.cell
        go_wp2_with fail
        go_loopw [8] (fun jv wx => ∃ (j : Int) (st : Nat) (L : List Int), jv = .int .i64 j ∧ -1 ≤ j ∧ j < k ∧ Hid (Dic.shf j.toNat st L = Dic.shf (k - 1) s (Dic.rng k)) ∧ Hid (Dic.shfS j.toNat st = Dic.shfS (k - 1) s) ∧ Hid (Ir wx w.heap.size (w.heap.size + 2) k L) ∧ Hid (Bx wx w.heap.size st) ∧ Hid (Bx wx (w.heap.size + 1) 0) ∧ Hid (Below w.heap.size w wx)) (fun jv _ => (intOf jv + 1).toNat)
        case atStart =>
          have e : ((k : Int) - 1).toNat = k - 1 := by omega
          exact ⟨(k : Int) - 1, s, Dic.rng k, by first | rfl | go_num, by omega, by omega, hid (by rw [e]), hid (by rw [e]), HR, X1, X2, HB⟩
        case round =>
          clear X1 X2 HR HB
          obtain ⟨j, st, L, rfl, hj1, hj2, HF, HS, HR, X1, X2, HB⟩ := hrel
          by_cases hlt : 1 ≤ j
          · obtain ⟨m, rfl⟩ := Int.eq_ofNat_of_zero_le (show 0 ≤ j by omega)
            have hm1 : 1 ≤ m := by omega
            have HF2 := hid ((Dic.shf_step m st L hm1).symm.trans HF.out)
            have HS2 := hid ((Dic.shfS_step m st hm1).symm.trans HS.out)
            have hrl := Nat.mod_lt (Dic.num st) (show 0 < m + 1 by omega)
            have HC := hid (fun w => r_Below st ((m : Int) + 1) (by unfold I64; omega) w)
            rw [show Dic.bel st ((m : Int) + 1) = Dic.num st % (m + 1) by unfold Dic.bel; rw [if_neg (by omega)]; rfl, show Dic.belS st ((m : Int) + 1) = Dic.nx st by unfold Dic.belS; rw [if_neg (by omega)]] at HC
            generalize Dic.nx st = s' at *
            generalize Dic.num st % (m + 1) = r at *
            have hL := HR.out.len
            have c1 := X1.out.cell
            have hlR := hid HR.out.lt
            clear HF HS
            go_wp2_with fail
            with_reducible refine (HC.out _).mono ?_
            rintro e w3 ⟨rfl, b3⟩
            have hsz := hid b3.size
            have A1 := X1.out.below b3 X1.out.lt
            have A2 := X2.out.below b3 X2.out.lt
            have A3 := HR.out.upto b3 HR.out.lt
            have hB3 := HB.out.trans (b3.mono HB.out.size)
            have hbA := below_alloc w3 (.cells #[.int .u64 (s' : Int)] 24)
            have A1' := A1.below hbA A1.lt
            have A2' := A2.below hbA A2.lt
            have A3' := A3.upto hbA A3.lt
            have A4' := Bx.new w3 (s' : Int)
            have hB4' := hB3.trans (hbA.mono hB3.size)
            have hlt3 := A3.lt
            clear A1 A2 A3 hbA hB3
            have c1 := A1'.cell
            have f1 := A1'.free
            have c9 := A4'.cell
            obtain ⟨W4, hW4⟩ : ∃ W4, (w3.alloc (.cells #[.int .u64 (s' : Int)] 24)).setCell ⟨w.heap.size, 0, none⟩ (.int .u64 (s' : Int)) = W4 := ⟨_, rfl⟩
            have D1 := A1'.set (s' : Int)
            have D2 := A2'.ahead (p := ⟨w.heap.size, 0, none⟩) (by show w.heap.size ≠ w.heap.size + 1; omega) (.int .u64 (s' : Int))
            have D4 := A3'.other (p := ⟨w.heap.size, 0, none⟩) (by show w.heap.size ≠ w.heap.size + 2; omega) (.int .u64 (s' : Int))
            have hB4 := hB4'.setCell (p := ⟨w.heap.size, 0, none⟩) (Nat.le_refl _) (.int .u64 (s' : Int))
            rw [hW4] at D1 D2 D4 hB4
            have hrk : r < k := by omega
            have cm := D4.cell (j := m) (by omega)
            have cr := D4.cell hrk
            have fm := D4.free m
            have D5 := D4.set m (L.getD r 0)
            have c5 := D5.cell hrk
            have f5 := D5.free r
            have D6 := D5.set r (L.getD m 0)
            have Hsw := hid (show (L.set m (L.getD r 0)).set r (L.getD m 0) = Dic.swp L m r from rfl)
            rw [Hsw.out] at D6
            obtain ⟨a, ha⟩ : ∃ a, L.getD m 0 = a := ⟨_, rfl⟩
            obtain ⟨b, hb⟩ : ∃ b, L.getD r 0 = b := ⟨_, rfl⟩
            obtain ⟨L', hL'⟩ : ∃ L', Dic.swp L m r = L' := ⟨_, rfl⟩
            generalize (L.set m (L.getD r 0)).getD r 0 = z at c5
            rw [ha] at cm D6
            rw [hb] at cr c5 f5 D6
            rw [hL'] at HF2 D6
            have E1 := hid ((D1.ahead (p := ⟨w.heap.size + 2, m, none⟩) (by show w.heap.size + 2 ≠ w.heap.size; omega) (.int .i64 b)).ahead (p := ⟨w.heap.size + 2, r, none⟩) (by show w.heap.size + 2 ≠ w.heap.size; omega) (.int .i64 a))
            have E2 := hid ((D2.ahead (p := ⟨w.heap.size + 2, m, none⟩) (by show w.heap.size + 2 ≠ w.heap.size + 1; omega) (.int .i64 b)).ahead (p := ⟨w.heap.size + 2, r, none⟩) (by show w.heap.size + 2 ≠ w.heap.size + 1; omega) (.int .i64 a))
            have E4 := hid D6
            have E5 := hid ((hB4.setCell (p := ⟨w.heap.size + 2, m, none⟩) (by show w.heap.size ≤ w.heap.size + 2; omega) (.int .i64 b)).setCell (p := ⟨w.heap.size + 2, r, none⟩) (by show w.heap.size ≤ w.heap.size + 2; omega) (.int .i64 a))
            have i1 : (0 : Int) ≤ (m : Int) := by omega
            have i2 : (m : Int) < (k : Int) := by omega
            have i3 : (0 : Int) ≤ (r : Int) := by omega
            have i4 : (r : Int) < (k : Int) := by omega
            have hne : w3.heap.size ≠ w.heap.size := by omega
            clear D1 D2 D4 D5 D6 A1' A2' A3' A4' X1 X2 HR HB b3 hB4 hB4' ha hb hL' Hsw HC hL
            go_wp2_with fail
            have e : ((m : Int) - 1).toNat = m - 1 := by omega
            exact ⟨⟨(m : Int) - 1, s', L', by go_num, by omega, by omega, hid (by rw [e]; exact HF2.out), hid (by rw [e]; exact HS2.out), hid E4.out, hid E1.out, hid E2.out, hid E5.out⟩, by simp [intOf] <;> omega⟩
          · have hj0 : j.toNat = 0 := by omega
            have Hf := HF.out
            have Hg := HS.out
            rw [hj0] at Hf Hg
            have HF2 := hid ((show L = Dic.shf 0 st L from rfl).trans (Hf.trans Hr.out))
            have HS2 := hid ((show st = Dic.shfS 0 st from rfl).trans (Hg.trans Hs.out))
            clear Hf Hg HF HS Hr Hs
            have c1 := X1.out.cell
            have c2 := X2.out.cell
            have f2 := X2.out.free
            go_wp2_with fail
            go_region
            go_wp2_with fail
            have u2 := (X2.out.set (st : Int)).cell
            have R6 := HR.out.other (p := ⟨w.heap.size + 1, 0, none⟩) (by show w.heap.size + 1 ≠ w.heap.size + 2; omega) (.int .u64 (st : Int))
            have hL := HR.out.len
            exact bodyPost_ret (v := .tuple #[.slice (some ⟨w.heap.size + 2, 0, none⟩) L.length k, dv st]) (by simp [results, Try.results17, go_sem, u2, hL]) rfl (ShRet.mk R6.drew.rd (HB.out.setCell (p := ⟨w.heap.size + 1, 0, none⟩) (by show w.heap.size ≤ w.heap.size + 1; omega) _).drew HF2.out HS2.out)
end Go.Proofs.Ytdhapddconoegaa
