/- The document's own answers for layer 13 (class): Same. -/
import Derived.Test.YtcnpfchopjopeaaClsK
namespace Go.Proofs.Ytcnpfchopjopeaa
open Go.RowKit
open Whn (Gr Wh)

deriving instance DecidableEq for Wh
deriving instance DecidableEq for Tm
deriving instance DecidableEq for Pl
deriving instance DecidableEq for Cl
abbrev tmv (x : Tm) : Value := .agg #[.int .u32 (x.w.w : Int), .int .u8 (x.w.d : Int), .int .i64 x.w.s, .int .i64 x.w.l, .int .i64 x.c]
abbrev plv (x : Pl) : Value := .agg #[.int .i64 x.r, .int .i64 x.c]
theorem tm_neq (x y : Tm) (w : World) : (binOp .neq 58 (tmv x) (tmv y)).run Try.prog w = .ok (.bool (!decide (x = y))) w := by
  obtain ⟨⟨a, b, c, d⟩, e⟩ := x
  obtain ⟨⟨a', b', c', d'⟩, e'⟩ := y
  go_simp
  have h1 : ((a : Int) = (a' : Int)) = (a = a') := propext ⟨fun h => by omega, fun h => by omega⟩
  have h2 : ((b : Int) = (b' : Int)) = (b = b') := propext ⟨fun h => by omega, fun h => by omega⟩
  simp only [h1, h2]
  by_cases a1 : a = a'
  · by_cases a2 : b = b'
    · by_cases a3 : c = c'
      · by_cases a4 : d = d'
        · by_cases a5 : e = e'
          · simp [a1, a2, a3, a4, a5]
          · simp [a1, a2, a3, a4, a5]
        · simp [a1, a2, a3, a4]
      · simp [a1, a2, a3]
    · simp [a1, a2]
  · simp [a1]
theorem pl_neq (x y : Pl) (w : World) : (binOp .neq 60 (plv x) (plv y)).run Try.prog w = .ok (.bool (!decide (x = y))) w := by
  obtain ⟨a, b⟩ := x
  obtain ⟨a', b'⟩ := y
  go_simp
  by_cases a1 : a = a'
  · by_cases a2 : b = b'
    · simp [a1, a2]
    · simp [a1, a2]
  · simp [a1]
set_option maxHeartbeats 1000000 in
theorem r_Ints (A A' : Option Addr) (n n' c c' : Nat) (ls ms : List Int) (hn : ls.length = n) (hn' : ms.length = n') (w : World) (B B' : Nat) (h : Its w B A ls) (h' : Its w B' A' ms) (hm : ls.length ≤ maxLen) :
    Calls Try.prog 47 #[.slice A n c, .slice A' n' c'] w (Did (.bool (decide (ls = ms))) w) := by
  unfold maxLen at hm
  subst hn
  by_cases hlen : ls.length = n'
  · have H := hid h
    have H' := hid h'
    clear h h'
    subst hlen
    have Hn := hid hn'
    clear hn'
    go_enter Try.func47, Try.ntmps47
    go_wp2
    go_loopw [5] (fun i wr => ∃ (k m : Nat), i = .int .i64 k ∧ k ≤ ls.length ∧ wr = w.drewN m ∧ Hid (ls.take k = ms.take k)) (fun i _ => ls.length - (intOf i).toNat)
    case atStart => exact ⟨0, 0, rfl, Nat.zero_le _, rfl, rfl⟩
    case round =>
      obtain ⟨k, m, rfl, hk, rfl, hsame⟩ := hrel
      by_cases hlt : k < ls.length
      · have hlt' : k < ms.length := by rw [Hn.out]; exact hlt
        obtain ⟨ad, x, rfl, _, hx, hc⟩ := Its.get H.out hlt
        obtain ⟨ad', y, rfl, _, hy, hc'⟩ := Its.get H'.out hlt'
        have b1 : (0 : Int) ≤ (k : Int) := by omega
        have b2 : (k : Int) < ls.length := by omega
        by_cases hxy : x = y
        · have hxy' : (x != y) = false := by rw [hxy]; exact bne_self_eq_false y
          have Hxy := hid hxy
          clear hxy
          go_wp2_with fail
          go_quiet (fail)
          go_wp2_with fail
          refine ⟨⟨k + 1, _, by go_num, by omega, rfl, ?_⟩, by simp [intOf]; omega⟩
          show ls.take (k + 1) = ms.take (k + 1)
          rw [List.take_add_one, List.take_add_one, hsame.out, hx.out, hy.out, Hxy.out]
        · have hxy' : (x != y) = true := by rw [bne_iff_ne]; exact hxy
          have Hxy := hid hxy
          clear hxy
          go_wp2_with fail
          go_quiet (fail)
          go_wp2_with fail
          go_ret
          refine Did.mk (congrArg Value.bool ?_) (below_drewN (below_drewN (Below.refl _ _) _) _)
          symm
          rw [decide_eq_false_iff_not]
          intro e
          apply Hxy.out
          have e1 : ls[k]? = ms[k]? := by rw [e]
          rw [hx.out, hy.out] at e1
          injection e1
      · go_wp2_with fail
        go_ret
        refine Did.mk (congrArg Value.bool ?_) (below_drewN (Below.refl _ _) _)
        symm
        rw [decide_eq_true_iff]
        have e := hsame.out
        rwa [List.take_of_length_le (by omega), List.take_of_length_le (by rw [Hn.out]; omega)] at e
  · subst hn'
    have hne : ((ls.length : Int) != (ms.length : Int)) = true := by rw [bne_iff_ne]; omega
    have hres := hid (show decide (ls = ms) = false by rw [decide_eq_false_iff_not]; intro e; exact hlen (by rw [e]))
    go_enter Try.func47, Try.ntmps47
    go_wp2
    go_ret
    exact Did.mk (congrArg Value.bool hres.out.symm) (Below.refl _ _)
def clEq (x y : Cl) : Bool := decide (x.n = y.n) && decide (x.s = y.s) && decide (x.g = y.g) && decide (x.o = y.o) && decide (x.p = y.p) && decide (x.t.length = y.t.length) && decide (x.l.length = y.l.length) && decide (x.t = y.t) && decide (x.l = y.l)
theorem clEq_iff (x y : Cl) : clEq x y = true ↔ x = y := by
  unfold clEq
  obtain ⟨a, b, c, d, e, f, g⟩ := x
  obtain ⟨a', b', c', d', e', f', g'⟩ := y
  simp only [Bool.and_eq_true, decide_eq_true_iff, Cl.mk.injEq]
  constructor
  · rintro ⟨⟨⟨⟨⟨⟨⟨⟨h1, h2⟩, h3⟩, h4⟩, h5⟩, _⟩, _⟩, h6⟩, h7⟩
    exact ⟨h1, h2, h3, h5, h6, h7, h4⟩
  · rintro ⟨h1, h2, h3, h4, h5, h6, h7⟩
    exact ⟨⟨⟨⟨⟨⟨⟨⟨h1, h2⟩, h3⟩, h7⟩, h4⟩, congrArg List.length h5⟩, congrArg List.length h6⟩, h5⟩, h6⟩
theorem takes_all {α : Type} {l m : List α} {k : Nat} (h : l.take k = m.take k) (h1 : l.length ≤ k) (h2 : l.length = m.length) : l = m := by
  rwa [List.take_of_length_le h1, List.take_of_length_le (by omega)] at h
theorem takes_ne {α : Type} {l m : List α} {k : Nat} {x y : α} (hx : l[k]? = some x) (hy : m[k]? = some y) (h : x ≠ y) : ¬ l = m := fun e => by
  rw [e, hy] at hx
  exact h (Option.some.inj hx).symm
set_option maxRecDepth 20000 in
set_option maxHeartbeats 4000000 in
theorem r_SameC (x y : Cl) (r s : Cw) (hl : Clc x r) (w : World) (h : Clw w w.heap.size x r) (h2 : Clw w w.heap.size y s) :
    Calls Try.prog 27 #[cv x r, cv y s] w (Did (.bool (clEq x y)) w) := by
  have HI := hid (fun X (h : Its X X.heap.size r.a x.p) (h2 : Its X X.heap.size s.a y.p) => r_Ints r.a s.a x.p.length y.p.length r.ac s.ac x.p y.p rfl rfl X _ _ h h2 (Nat.le_trans hl.1.1 hl.1.2))
  have H := hid h
  have H2 := hid h2
  have Hr := hid (show clEq x y = (decide (x.n = y.n) && decide (x.s = y.s) && decide (x.g = y.g) && decide (x.o = y.o) && decide (x.p = y.p) && decide (x.t.length = y.t.length) && decide (x.l.length = y.l.length) && decide (x.t = y.t) && decide (x.l = y.l)) from rfl)
  have m1 : x.t.length ≤ maxLen := Nat.le_trans hl.2.1.1 hl.2.1.2
  have m2 : x.l.length ≤ maxLen := Nat.le_trans hl.2.2.1 hl.2.2.2
  unfold maxLen at m1 m2
  clear h h2 hl
  obtain ⟨P, W, hP, hW, K, hb0⟩ := (Mem.nil w).one (ccl x r) 30
  obtain ⟨R, V, hR, hV, K1, hb1⟩ := K.out.one (ccl y s) 30
  clear K hb0 hb1
  obtain ⟨e0, e1, e2, e3, e4, e5, e6⟩ := K1.out.cl (B := P) (x := x) (r := r) (t := 30) (by simp)
  obtain ⟨f0, f1, f2, f3, f4, f5, f6⟩ := K1.out.cl (B := R) (x := y) (r := s) (t := 30) (by simp)
  generalize decide (x.p = y.p) = ip at *
  generalize clEq x y = q at *
  go_enter Try.func27, Try.ntmps27
  by_cases c1 : x.n = y.n
  · have q1 : ((bs x.n).toList == (bs y.n).toList) = true := by rw [c1]; simp
    rw [decide_eq_true c1, Bool.true_and] at Hr
    clear c1
    by_cases c2 : x.s = y.s
    · have q2 : (x.s != y.s) = false := by rw [c2]; exact bne_self_eq_false _
      rw [decide_eq_true c2, Bool.true_and] at Hr
      clear c2
      by_cases c3 : x.g = y.g
      · have q3 : ((x.g : Int) != (y.g : Int)) = false := by rw [c3]; exact bne_self_eq_false _
        rw [decide_eq_true c3, Bool.true_and] at Hr
        clear c3
        by_cases c4 : x.o = y.o
        · have q4 : (x.o != y.o) = false := by rw [c4]; exact bne_self_eq_false _
          rw [decide_eq_true c4, Bool.true_and] at Hr
          clear c4
          go_wp2_with fail
          refine (HI.out _ ((H.out.1.below K1.out.2 (Nat.le_refl _)).more K1.out.2.size) ((H2.out.1.below K1.out.2 (Nat.le_refl _)).more K1.out.2.size)).mono ?_
          rintro e Y1 ⟨rfl, b1⟩
          have K2 := hid (K1.out.next b1)
          clear b1 K1 e0 e1 e2 e3 e4 e5 e6 f0 f1 f2 f3 f4 f5 f6 q1 q2 q3 q4
          obtain ⟨e0, e1, e2, e3, e4, e5, e6⟩ := K2.out.cl (B := P) (x := x) (r := r) (t := 30) (by simp)
          obtain ⟨f0, f1, f2, f3, f4, f5, f6⟩ := K2.out.cl (B := R) (x := y) (r := s) (t := 30) (by simp)
          cases ip with
          | false =>
            go_wp2_with fail
            go_ret
            exact Did.mk (by rw [Hr.out]; rfl) K2.out.2
          | true =>
            rw [Bool.true_and] at Hr
            by_cases c5 : x.t.length = y.t.length
            · have q5 : ((x.t.length : Int) != (y.t.length : Int)) = false := by rw [c5]; exact bne_self_eq_false _
              rw [decide_eq_true c5, Bool.true_and] at Hr
              by_cases c6 : x.l.length = y.l.length
              · have q6 : ((x.l.length : Int) != (y.l.length : Int)) = false := by rw [c6]; exact bne_self_eq_false _
                rw [decide_eq_true c6, Bool.true_and] at Hr
                have C5 := hid c5
                have C6 := hid c6
                clear c5 c6
                go_wp2_with fail
                clear q5 q6
                have K3 := hid (show Mem w Y1 [(R, ccl y s, 30), (P, ccl x r, 30)] from K2.out)
                clear K2 e0 e1 e2 e3 e4 e5 e6 f0 f1 f2 f3 f4 f5 f6
                go_loopw [5] (fun i wr => ∃ (k : Nat), i = .int .i64 k ∧ k ≤ x.t.length ∧ Hid (Mem w wr [(R, ccl y s, 30), (P, ccl x r, 30)]) ∧ Hid (x.t.take k = y.t.take k)) (fun i _ => x.t.length - (intOf i).toNat)
                case atStart => exact ⟨0, rfl, Nat.zero_le _, K3, hid rfl⟩
                case round =>
                  clear K3
                  obtain ⟨k, rfl, hk, KB, hsame⟩ := hrel
                  obtain ⟨e0, e1, e2, e3, e4, e5, e6⟩ := KB.out.cl (B := P) (x := x) (r := r) (t := 30) (by simp)
                  obtain ⟨f0, f1, f2, f3, f4, f5, f6⟩ := KB.out.cl (B := R) (x := y) (r := s) (t := 30) (by simp)
                  by_cases hlt : k < x.t.length
                  · have b1 : (0 : Int) ≤ (k : Int) := by omega
                    have b2 : (k : Int) < x.t.length := by omega
                    have b3 : (k : Int) < y.t.length := by have := C5.out; omega
                    obtain ⟨ad, a, hae, hadb, ha, _, hcell⟩ := Es.get enT_len (by decide) H.out.2.1 hlt
                    obtain ⟨ae, b, haf, haeb, hb, _, hdell⟩ := Es.get enT_len (by decide) H2.out.2.1 (show k < y.t.length by omega)
                    have hbc : (ad.add (k * 5)).block < w.heap.size := by rw [add_block]; exact hadb
                    have c0 : w.cell? (ad.add (k * 5)) = some (.int .u32 ((a.w.w : Nat) : Int)) := by have := hcell 0 _ rfl; rwa [Nat.add_zero] at this
                    have c1 : w.cell? ⟨(ad.add (k * 5)).block, (ad.add (k * 5)).off + 1, none⟩ = some (.int .u8 ((a.w.d : Nat) : Int)) := by have := hcell 1 _ rfl; rwa [add_add _ _ _ (by omega)] at this
                    have c2 : w.cell? ⟨(ad.add (k * 5)).block, (ad.add (k * 5)).off + 2, none⟩ = some (.int .i64 a.w.s) := by have := hcell 2 _ rfl; rwa [add_add _ _ _ (by omega)] at this
                    have c3 : w.cell? ⟨(ad.add (k * 5)).block, (ad.add (k * 5)).off + 3, none⟩ = some (.int .i64 a.w.l) := by have := hcell 3 _ rfl; rwa [add_add _ _ _ (by omega)] at this
                    have c4 : w.cell? ⟨(ad.add (k * 5)).block, (ad.add (k * 5)).off + 4, none⟩ = some (.int .i64 a.c) := by have := hcell 4 _ rfl; rwa [add_add _ _ _ (by omega)] at this
                    have hbd : (ae.add (k * 5)).block < w.heap.size := by rw [add_block]; exact haeb
                    have d0 : w.cell? (ae.add (k * 5)) = some (.int .u32 ((b.w.w : Nat) : Int)) := by have := hdell 0 _ rfl; rwa [Nat.add_zero] at this
                    have d1 : w.cell? ⟨(ae.add (k * 5)).block, (ae.add (k * 5)).off + 1, none⟩ = some (.int .u8 ((b.w.d : Nat) : Int)) := by have := hdell 1 _ rfl; rwa [add_add _ _ _ (by omega)] at this
                    have d2 : w.cell? ⟨(ae.add (k * 5)).block, (ae.add (k * 5)).off + 2, none⟩ = some (.int .i64 b.w.s) := by have := hdell 2 _ rfl; rwa [add_add _ _ _ (by omega)] at this
                    have d3 : w.cell? ⟨(ae.add (k * 5)).block, (ae.add (k * 5)).off + 3, none⟩ = some (.int .i64 b.w.l) := by have := hdell 3 _ rfl; rwa [add_add _ _ _ (by omega)] at this
                    have d4 : w.cell? ⟨(ae.add (k * 5)).block, (ae.add (k * 5)).off + 4, none⟩ = some (.int .i64 b.c) := by have := hdell 4 _ rfl; rwa [add_add _ _ _ (by omega)] at this
                    clear hcell hdell
                    go_wp2_with fail
                    refine wp_region_held_drew (S := fun X => Mem w X [(R, ccl y s, 30), (P, ccl x r, 30)]) (by kernel_rfl) KB.out.drew (fun hHeld => ?_)
                    refine takeH 0 66 (.pointer (some ⟨P, 4, none⟩)) rfl rfl (by kernel_rfl) (by kernel_rfl) (by kernel_rfl) (fun _ _ _ h => h) (by kernel_rfl) (fun X hX => by clear hX; first | rfl | go_simp) hHeld ?_
                    simp only [Act.put, List.setIfInBounds_toArray, List.set_cons_zero, List.set_cons_succ]
                    refine takeH 1 67 (.slice (some ad) x.t.length r.bc) rfl rfl (by kernel_rfl) (by kernel_rfl) (by kernel_rfl) (fun _ _ _ h => h) (by kernel_rfl) (fun X hX => by obtain ⟨q0, q1, q2, q3, q4, q5, q6⟩ := hX.cl (B := P) (x := x) (r := r) (t := 30) (by simp); rw [hae] at q4; clear hX; go_simp) hHeld ?_
                    simp only [Act.put, List.setIfInBounds_toArray, List.set_cons_zero, List.set_cons_succ]
                    refine takeH 2 68 (.int .i64 (k : Int)) rfl rfl (by kernel_rfl) (by kernel_rfl) (by kernel_rfl) (fun _ _ _ h => h) (by kernel_rfl) (fun X hX => by clear hX; first | rfl | go_simp) hHeld ?_
                    simp only [Act.put, List.setIfInBounds_toArray, List.set_cons_zero, List.set_cons_succ]
                    refine takeH 3 69 (.pointer (some (ad.add (k * 5)))) rfl rfl (by kernel_rfl) (by kernel_rfl) (by kernel_rfl) (fun _ _ _ h => h) (by kernel_rfl) (fun X hX => by clear hX; first | rfl | go_simp) hHeld ?_
                    simp only [Act.put, List.setIfInBounds_toArray, List.set_cons_zero, List.set_cons_succ]
                    refine takeH 4 70 (tmv a) rfl rfl (by kernel_rfl) (by kernel_rfl) (by kernel_rfl) (fun _ _ _ h => h) (by kernel_rfl) (fun X hX => by have qc0 := (hX.2.cell (p := ad.add (k * 5)) hbc).trans c0; have qc1 := (hX.2.cell (p := ⟨(ad.add (k * 5)).block, (ad.add (k * 5)).off + 1, none⟩) hbc).trans c1; have qc2 := (hX.2.cell (p := ⟨(ad.add (k * 5)).block, (ad.add (k * 5)).off + 2, none⟩) hbc).trans c2; have qc3 := (hX.2.cell (p := ⟨(ad.add (k * 5)).block, (ad.add (k * 5)).off + 3, none⟩) hbc).trans c3; have qc4 := (hX.2.cell (p := ⟨(ad.add (k * 5)).block, (ad.add (k * 5)).off + 4, none⟩) hbc).trans c4; clear hX; go_simp) hHeld ?_
                    simp only [Act.put, List.setIfInBounds_toArray, List.set_cons_zero, List.set_cons_succ]
                    refine takeH 5 71 (.pointer (some ⟨R, 4, none⟩)) rfl rfl (by kernel_rfl) (by kernel_rfl) (by kernel_rfl) (fun _ _ _ h => h) (by kernel_rfl) (fun X hX => by clear hX; first | rfl | go_simp) hHeld ?_
                    simp only [Act.put, List.setIfInBounds_toArray, List.set_cons_zero, List.set_cons_succ]
                    refine takeH 6 72 (.slice (some ae) y.t.length s.bc) rfl rfl (by kernel_rfl) (by kernel_rfl) (by kernel_rfl) (fun _ _ _ h => h) (by kernel_rfl) (fun X hX => by obtain ⟨q0, q1, q2, q3, q4, q5, q6⟩ := hX.cl (B := R) (x := y) (r := s) (t := 30) (by simp); rw [haf] at q4; clear hX; go_simp) hHeld ?_
                    simp only [Act.put, List.setIfInBounds_toArray, List.set_cons_zero, List.set_cons_succ]
                    refine takeH 7 73 (.int .i64 (k : Int)) rfl rfl (by kernel_rfl) (by kernel_rfl) (by kernel_rfl) (fun _ _ _ h => h) (by kernel_rfl) (fun X hX => by clear hX; first | rfl | go_simp) hHeld ?_
                    simp only [Act.put, List.setIfInBounds_toArray, List.set_cons_zero, List.set_cons_succ]
                    refine takeH 8 74 (.pointer (some (ae.add (k * 5)))) rfl rfl (by kernel_rfl) (by kernel_rfl) (by kernel_rfl) (fun _ _ _ h => h) (by kernel_rfl) (fun X hX => by clear hX; first | rfl | go_simp) hHeld ?_
                    simp only [Act.put, List.setIfInBounds_toArray, List.set_cons_zero, List.set_cons_succ]
                    refine takeH 9 75 (tmv b) rfl rfl (by kernel_rfl) (by kernel_rfl) (by kernel_rfl) (fun _ _ _ h => h) (by kernel_rfl) (fun X hX => by have qd0 := (hX.2.cell (p := ae.add (k * 5)) hbd).trans d0; have qd1 := (hX.2.cell (p := ⟨(ae.add (k * 5)).block, (ae.add (k * 5)).off + 1, none⟩) hbd).trans d1; have qd2 := (hX.2.cell (p := ⟨(ae.add (k * 5)).block, (ae.add (k * 5)).off + 2, none⟩) hbd).trans d2; have qd3 := (hX.2.cell (p := ⟨(ae.add (k * 5)).block, (ae.add (k * 5)).off + 3, none⟩) hbd).trans d3; have qd4 := (hX.2.cell (p := ⟨(ae.add (k * 5)).block, (ae.add (k * 5)).off + 4, none⟩) hbd).trans d4; clear hX; go_simp) hHeld ?_
                    simp only [Act.put, List.setIfInBounds_toArray, List.set_cons_zero, List.set_cons_succ]
                    refine takeH 10 76 (.bool (!decide (a = b))) rfl rfl (by kernel_rfl) (by kernel_rfl) (by kernel_rfl) (fun _ _ _ h => h) (by kernel_rfl) (fun X hX => by clear hX; have q := fun W => tm_neq a b W; go_simp) hHeld ?_
                    simp only [Act.put, List.setIfInBounds_toArray, List.set_cons_zero, List.set_cons_succ]
                    refine wpAnyH_done (by kernel_rfl) ?_ _
                    cases hR : decide (a = b) with
                    | true =>
                      have hab := of_decide_eq_true hR
                      have hn := hid (show x.t.take (k + 1) = y.t.take (k + 1) by rw [List.take_add_one, List.take_add_one, hsame.out, ha.out, hb.out, hab])
                      clear hab hsame
                      go_wp2_with fail
                      exact ⟨⟨k + 1, by go_num, by omega, hid KB.out.drew, hn⟩, by simp [intOf]; omega⟩
                    | false =>
                      rw [decide_eq_false (takes_ne ha.out hb.out (of_decide_eq_false hR)), Bool.false_and] at Hr
                      go_wp2_with fail
                      go_ret
                      exact Did.mk (by rw [Hr.out]; rfl) KB.out.drew.2
                  · have hT := takes_all hsame.out (by omega) C5.out
                    rw [decide_eq_true hT, Bool.true_and] at Hr
                    clear hT hsame
                    have b2 : ¬ (k : Int) < x.t.length := by omega
                    go_wp2_with fail
                    have K4 := hid (show Mem w wr [(R, ccl y s, 30), (P, ccl x r, 30)] from KB.out)
                    clear KB e0 e1 e2 e3 e4 e5 e6 f0 f1 f2 f3 f4 f5 f6 b2 hlt hk
                    go_loopw [6] (fun i wr => ∃ (k : Nat), i = .int .i64 k ∧ k ≤ x.l.length ∧ Hid (Mem w wr [(R, ccl y s, 30), (P, ccl x r, 30)]) ∧ Hid (x.l.take k = y.l.take k)) (fun i _ => x.l.length - (intOf i).toNat)
                    case atStart => exact ⟨0, rfl, Nat.zero_le _, K4, hid rfl⟩
                    case round =>
                      clear K4
                      obtain ⟨k, rfl, hk, KD, hsame⟩ := hrel
                      obtain ⟨e0, e1, e2, e3, e4, e5, e6⟩ := KD.out.cl (B := P) (x := x) (r := r) (t := 30) (by simp)
                      obtain ⟨f0, f1, f2, f3, f4, f5, f6⟩ := KD.out.cl (B := R) (x := y) (r := s) (t := 30) (by simp)
                      by_cases hlt : k < x.l.length
                      · have b1 : (0 : Int) ≤ (k : Int) := by omega
                        have b2 : (k : Int) < x.l.length := by omega
                        have b3 : (k : Int) < y.l.length := by have := C6.out; omega
                        obtain ⟨ad, a, hae, hadb, ha, _, hcell⟩ := Es.get enP_len (by decide) H.out.2.2 hlt
                        obtain ⟨ae, b, haf, haeb, hb, _, hdell⟩ := Es.get enP_len (by decide) H2.out.2.2 (show k < y.l.length by omega)
                        have hbc : (ad.add (k * 2)).block < w.heap.size := by rw [add_block]; exact hadb
                        have c0 : w.cell? (ad.add (k * 2)) = some (.int .i64 a.r) := by have := hcell 0 _ rfl; rwa [Nat.add_zero] at this
                        have c1 : w.cell? ⟨(ad.add (k * 2)).block, (ad.add (k * 2)).off + 1, none⟩ = some (.int .i64 a.c) := by have := hcell 1 _ rfl; rwa [add_add _ _ _ (by omega)] at this
                        have hbd : (ae.add (k * 2)).block < w.heap.size := by rw [add_block]; exact haeb
                        have d0 : w.cell? (ae.add (k * 2)) = some (.int .i64 b.r) := by have := hdell 0 _ rfl; rwa [Nat.add_zero] at this
                        have d1 : w.cell? ⟨(ae.add (k * 2)).block, (ae.add (k * 2)).off + 1, none⟩ = some (.int .i64 b.c) := by have := hdell 1 _ rfl; rwa [add_add _ _ _ (by omega)] at this
                        clear hcell hdell
                        go_wp2_with fail
                        refine wp_region_held_drew (S := fun X => Mem w X [(R, ccl y s, 30), (P, ccl x r, 30)]) (by kernel_rfl) KD.out.drew (fun hHeld => ?_)
                        refine takeH 0 84 (.pointer (some ⟨P, 5, none⟩)) rfl rfl (by kernel_rfl) (by kernel_rfl) (by kernel_rfl) (fun _ _ _ h => h) (by kernel_rfl) (fun X hX => by clear hX; first | rfl | go_simp) hHeld ?_
                        simp only [Act.put, List.setIfInBounds_toArray, List.set_cons_zero, List.set_cons_succ]
                        refine takeH 1 85 (.slice (some ad) x.l.length r.cc) rfl rfl (by kernel_rfl) (by kernel_rfl) (by kernel_rfl) (fun _ _ _ h => h) (by kernel_rfl) (fun X hX => by obtain ⟨q0, q1, q2, q3, q4, q5, q6⟩ := hX.cl (B := P) (x := x) (r := r) (t := 30) (by simp); rw [hae] at q5; clear hX; go_simp) hHeld ?_
                        simp only [Act.put, List.setIfInBounds_toArray, List.set_cons_zero, List.set_cons_succ]
                        refine takeH 2 86 (.int .i64 (k : Int)) rfl rfl (by kernel_rfl) (by kernel_rfl) (by kernel_rfl) (fun _ _ _ h => h) (by kernel_rfl) (fun X hX => by clear hX; first | rfl | go_simp) hHeld ?_
                        simp only [Act.put, List.setIfInBounds_toArray, List.set_cons_zero, List.set_cons_succ]
                        refine takeH 3 87 (.pointer (some (ad.add (k * 2)))) rfl rfl (by kernel_rfl) (by kernel_rfl) (by kernel_rfl) (fun _ _ _ h => h) (by kernel_rfl) (fun X hX => by clear hX; first | rfl | go_simp) hHeld ?_
                        simp only [Act.put, List.setIfInBounds_toArray, List.set_cons_zero, List.set_cons_succ]
                        refine takeH 4 88 (plv a) rfl rfl (by kernel_rfl) (by kernel_rfl) (by kernel_rfl) (fun _ _ _ h => h) (by kernel_rfl) (fun X hX => by have qc0 := (hX.2.cell (p := ad.add (k * 2)) hbc).trans c0; have qc1 := (hX.2.cell (p := ⟨(ad.add (k * 2)).block, (ad.add (k * 2)).off + 1, none⟩) hbc).trans c1; clear hX; go_simp) hHeld ?_
                        simp only [Act.put, List.setIfInBounds_toArray, List.set_cons_zero, List.set_cons_succ]
                        refine takeH 5 89 (.pointer (some ⟨R, 5, none⟩)) rfl rfl (by kernel_rfl) (by kernel_rfl) (by kernel_rfl) (fun _ _ _ h => h) (by kernel_rfl) (fun X hX => by clear hX; first | rfl | go_simp) hHeld ?_
                        simp only [Act.put, List.setIfInBounds_toArray, List.set_cons_zero, List.set_cons_succ]
                        refine takeH 6 90 (.slice (some ae) y.l.length s.cc) rfl rfl (by kernel_rfl) (by kernel_rfl) (by kernel_rfl) (fun _ _ _ h => h) (by kernel_rfl) (fun X hX => by obtain ⟨q0, q1, q2, q3, q4, q5, q6⟩ := hX.cl (B := R) (x := y) (r := s) (t := 30) (by simp); rw [haf] at q5; clear hX; go_simp) hHeld ?_
                        simp only [Act.put, List.setIfInBounds_toArray, List.set_cons_zero, List.set_cons_succ]
                        refine takeH 7 91 (.int .i64 (k : Int)) rfl rfl (by kernel_rfl) (by kernel_rfl) (by kernel_rfl) (fun _ _ _ h => h) (by kernel_rfl) (fun X hX => by clear hX; first | rfl | go_simp) hHeld ?_
                        simp only [Act.put, List.setIfInBounds_toArray, List.set_cons_zero, List.set_cons_succ]
                        refine takeH 8 92 (.pointer (some (ae.add (k * 2)))) rfl rfl (by kernel_rfl) (by kernel_rfl) (by kernel_rfl) (fun _ _ _ h => h) (by kernel_rfl) (fun X hX => by clear hX; first | rfl | go_simp) hHeld ?_
                        simp only [Act.put, List.setIfInBounds_toArray, List.set_cons_zero, List.set_cons_succ]
                        refine takeH 9 93 (plv b) rfl rfl (by kernel_rfl) (by kernel_rfl) (by kernel_rfl) (fun _ _ _ h => h) (by kernel_rfl) (fun X hX => by have qd0 := (hX.2.cell (p := ae.add (k * 2)) hbd).trans d0; have qd1 := (hX.2.cell (p := ⟨(ae.add (k * 2)).block, (ae.add (k * 2)).off + 1, none⟩) hbd).trans d1; clear hX; go_simp) hHeld ?_
                        simp only [Act.put, List.setIfInBounds_toArray, List.set_cons_zero, List.set_cons_succ]
                        refine takeH 10 94 (.bool (!decide (a = b))) rfl rfl (by kernel_rfl) (by kernel_rfl) (by kernel_rfl) (fun _ _ _ h => h) (by kernel_rfl) (fun X hX => by clear hX; have q := fun W => pl_neq a b W; go_simp) hHeld ?_
                        simp only [Act.put, List.setIfInBounds_toArray, List.set_cons_zero, List.set_cons_succ]
                        refine wpAnyH_done (by kernel_rfl) ?_ _
                        cases hR : decide (a = b) with
                        | true =>
                          have hab := of_decide_eq_true hR
                          have hn := hid (show x.l.take (k + 1) = y.l.take (k + 1) by rw [List.take_add_one, List.take_add_one, hsame.out, ha.out, hb.out, hab])
                          clear hab hsame
                          go_wp2_with fail
                          exact ⟨⟨k + 1, by go_num, by omega, hid KD.out.drew, hn⟩, by simp [intOf]; omega⟩
                        | false =>
                          rw [decide_eq_false (takes_ne ha.out hb.out (of_decide_eq_false hR))] at Hr
                          go_wp2_with fail
                          go_ret
                          exact Did.mk (by rw [Hr.out]; rfl) KD.out.drew.2
                      · have hT := takes_all hsame.out (by omega) C6.out
                        rw [decide_eq_true hT] at Hr
                        clear hT hsame
                        have b2 : ¬ (k : Int) < x.l.length := by omega
                        go_wp2_with fail
                        go_ret
                        exact Did.mk (by rw [Hr.out]; rfl) KD.out.2
              · have q6 : ((x.l.length : Int) != (y.l.length : Int)) = true := by rw [bne_iff_ne]; omega
                rw [decide_eq_false c6, Bool.false_and] at Hr
                clear c6
                go_wp2_with fail
                go_ret
                exact Did.mk (by rw [Hr.out]; rfl) K2.out.2
            · have q5 : ((x.t.length : Int) != (y.t.length : Int)) = true := by rw [bne_iff_ne]; omega
              rw [decide_eq_false c5, Bool.false_and] at Hr
              clear c5
              go_wp2_with fail
              go_ret
              exact Did.mk (by rw [Hr.out]; rfl) K2.out.2
        · have q4 : (x.o != y.o) = true := by rw [bne_iff_ne]; exact c4
          rw [decide_eq_false c4] at Hr
          clear c4
          go_wp2_with fail
          go_ret
          exact Did.mk (by rw [Hr.out]; rfl) K1.out.2
      · have q3 : ((x.g : Int) != (y.g : Int)) = true := by rw [bne_iff_ne]; omega
        rw [decide_eq_false c3] at Hr
        clear c3
        go_wp2_with fail
        go_ret
        exact Did.mk (by rw [Hr.out]; rfl) K1.out.2
    · have q2 : (x.s != y.s) = true := by rw [bne_iff_ne]; exact c2
      rw [decide_eq_false c2] at Hr
      clear c2
      go_wp2_with fail
      go_ret
      exact Did.mk (by rw [Hr.out]; rfl) K1.out.2
  · have q1 : ((bs x.n).toList == (bs y.n).toList) = false := by rw [list_of, list_of, bs_data, bs_data, beq_eq_false_iff_ne]; exact c1
    rw [decide_eq_false c1] at Hr
    clear c1
    go_wp2_with fail
    go_ret
    exact Did.mk (by rw [Hr.out]; rfl) K1.out.2
end Go.Proofs.Ytcnpfchopjopeaa
