/- What the proof of ProblemCopies stands on, part 17. -/
import Derived.Test.YtgmgccepmalahaaGreatCpAD
import Derived.Test.YtgmgccepmalahaaGreatCpAJ
import Derived.Test.YtgmgccepmalahaaGreatCpAM
import Derived.Test.YtgmgccepmalahaaGreatCpAN
namespace Go.Proofs.YtgmgccepmalahaaGreat
open Go.RowKit
open Whn (Gr Wh)
def stEq (x y : St) : Bool := decide (x.n = y.n) && decide (x.l = y.l)
theorem stEq_iff (x y : St) : stEq x y = true ↔ x = y := by
 unfold stEq
 rw [Bool.and_eq_true, decide_eq_true_iff, decide_eq_true_iff]
 cases x; cases y
 simp
set_option maxRecDepth 20000 in
set_option maxHeartbeats 4000000 in
theorem p_SameSt (x y : StA) (hm : x.x.l.length ≤ maxLen) (w : World) (h : Its w w.heap.size x.a x.x.l) (h2 : Its w w.heap.size y.a y.x.l) :
 Calls Tryz.prog 94 #[stv x.x x.a x.c, stv y.x y.a y.c] w (Did (.bool (stEq x.x y.x)) w) := by
 have HR := hid (fun w h h2 => p_EqualI x.a y.a x.c y.c x.x.l y.x.l hm w h h2)
 have H := hid h
 have H2 := hid h2
 have Hr := hid (show stEq x.x y.x = (decide (x.x.n = y.x.n) && decide (x.x.l = y.x.l)) from rfl)
 clear h h2 hm
 obtain ⟨P, W, hP, hW, K, hb0⟩ := (Mem.nil w).one (enS x) 70
 obtain ⟨R, V, hR, hV, K1, hb1⟩ := K.out.one (enS y) 70
 clear K hb0 hb1
 obtain ⟨r0, r1⟩ := K1.out.st (B := P) (x := x) (t := 70) (by simp)
 obtain ⟨s0, s1⟩ := K1.out.st (B := R) (x := y) (t := 70) (by simp)
 generalize decide (x.x.l = y.x.l) = ww at *
 generalize stEq x.x y.x = q at *
 have q0 : ((bs x.x.n).toList == (bs y.x.n).toList) = decide (x.x.n = y.x.n) := by rw [list_of, list_of, bs_data, bs_data]; by_cases h : x.x.n = y.x.n <;> simp [h]
 generalize decide (x.x.n = y.x.n) = nn at *
 cases nn with
 | true =>
  go_enter Tryz.func94, Tryz.ntmps94
  go_wp2_with fail
  refine (HR.out _ (its_next H.out K1.out.2) (its_next H2.out K1.out.2)).mono ?_
  rintro e w1 ⟨rfl, b1⟩
  have K2 := K1.out.next b1
  go_wp2_with fail
  go_ret
  exact Did.mk (by rw [Hr.out]; rfl) K2.2
 | false =>
  go_enter Tryz.func94, Tryz.ntmps94
  go_wp2_with fail
  go_ret
  exact Did.mk (by rw [Hr.out]; rfl) K1.out.2
theorem rlEq_and (x y : Rl) : rlEq x y = ((x.k == y.k) && ((x.a == y.a) && ((x.b == y.b) && ((x.h == y.h) && ((x.c == y.c) && decide (x.l = y.l)))))) := by
 unfold rlEq
 have e1 : ∀ a b : Int, decide (a = b) = (a == b) := fun a b => by by_cases h : a = b <;> simp [h]
 have e2 : ∀ a b : Bool, decide (a = b) = (a == b) := fun a b => by cases a <;> cases b <;> rfl
 rw [e1, e1, e1, e1, e2]
 cases (x.k == y.k) <;> cases (x.a == y.a) <;> cases (x.b == y.b) <;> cases (x.h == y.h) <;> cases (x.c == y.c) <;> cases decide (x.l = y.l) <;> rfl
set_option maxRecDepth 20000 in
set_option maxHeartbeats 8000000 in
theorem p_SameRl (x y : Rl) (A B : Option Addr) (c d : Nat) (hm : x.l.length ≤ maxLen) (w : World) (h : Its w w.heap.size A x.l) (h2 : Its w w.heap.size B y.l) :
 Calls Tryz.prog 96 #[rlv x A c, rlv y B d] w (Did (.bool (rlEq x y)) w) := by
 have HR := hid (fun w h h2 => p_EqualI A B c d x.l y.l hm w h h2)
 have H := hid h
 have H2 := hid h2
 have Hr := hid (rlEq_and x y)
 clear h h2 hm
 obtain ⟨P, W, hP, hW, K, hb0⟩ := (Mem.nil w).one (rlc x A c) 45
 obtain ⟨R, V, hR, hV, K1, hb1⟩ := K.out.one (rlc y B d) 45
 clear K hb0 hb1
 obtain ⟨r0, r1, r2, r3, r4, r5⟩ := K1.out.rl (B := P) (x := x) (A := A) (c := c) (t := 45) (by simp)
 obtain ⟨s0, s1, s2, s3, s4, s5⟩ := K1.out.rl (B := R) (x := y) (A := B) (c := d) (t := 45) (by simp)
 generalize decide (x.l = y.l) = ww at *
 generalize rlEq x y = q at *
 obtain ⟨k1, hk1⟩ : ∃ b, (x.k == y.k) = b := ⟨_, rfl⟩
 obtain ⟨k2, hk2⟩ : ∃ b, (x.a == y.a) = b := ⟨_, rfl⟩
 obtain ⟨k3, hk3⟩ : ∃ b, (x.b == y.b) = b := ⟨_, rfl⟩
 obtain ⟨k4, hk4⟩ : ∃ b, (x.h == y.h) = b := ⟨_, rfl⟩
 obtain ⟨k5, hk5⟩ : ∃ b, (x.c == y.c) = b := ⟨_, rfl⟩
 rw [hk1, hk2, hk3, hk4, hk5] at Hr
 cases k1 with
 | false =>
  go_enter Tryz.func96, Tryz.ntmps96
  go_wp2_with fail
  go_ret
  exact Did.mk (by rw [Hr.out]; rfl) K1.out.2
 | true =>
  cases k2 with
  | false =>
   go_enter Tryz.func96, Tryz.ntmps96
   go_wp2_with fail
   go_ret
   exact Did.mk (by rw [Hr.out]; rfl) K1.out.2
  | true =>
   cases k3 with
   | false =>
    go_enter Tryz.func96, Tryz.ntmps96
    go_wp2_with fail
    go_ret
    exact Did.mk (by rw [Hr.out]; rfl) K1.out.2
   | true =>
    cases k4 with
    | false =>
     go_enter Tryz.func96, Tryz.ntmps96
     go_wp2_with fail
     go_ret
     exact Did.mk (by rw [Hr.out]; rfl) K1.out.2
    | true =>
     cases k5 with
     | false =>
      go_enter Tryz.func96, Tryz.ntmps96
      go_wp2_with fail
      go_ret
      exact Did.mk (by rw [Hr.out]; rfl) K1.out.2
     | true =>
      go_enter Tryz.func96, Tryz.ntmps96
      go_wp2_with fail
      refine (HR.out _ (its_next H.out K1.out.2) (its_next H2.out K1.out.2)).mono ?_
      rintro e w1 ⟨rfl, b1⟩
      have K2 := hid (K1.out.next b1)
      clear r0 r1 r2 r3 r4 r5 s0 s1 s2 s3 s4 s5 b1
      go_wp2_with fail
      go_ret
      exact Did.mk (by rw [Hr.out]; rfl) K2.out.2
set_option maxRecDepth 20000 in
set_option maxHeartbeats 4000000 in
theorem eq_W (A A2 : Option Addr) (c c2 : Nat) (ls ms : List (List Int)) (hl : Lsok ls) (w : World) (h : Rows2 w w.heap.size A ls) (h2 : Rows2 w w.heap.size A2 ms) :
 Calls Tryz.prog 85 #[.slice A ls.length c, .slice A2 ms.length c2, .func (.func 86) #[] #[]] w (Did (.bool (decide (ls = ms))) w) := by
 have hm := hl.1
 unfold maxLen at hm
 have HL := hid hl.2
 have HP := hid (fun A A2 c c2 l ms hm X h h2 => p_EqualI A A2 c c2 l ms hm X h h2)
 by_cases hlen : (ls.length : Int) = (ms.length : Int)
 · have Hn := hid (show ls.length = ms.length by omega)
   have H := hid h
   have H2 := hid h2
   have hne : ((ls.length : Int) != (ms.length : Int)) = false := by rw [bne_eq_false_iff_eq]; exact hlen
   have K0 := hid (Below.refl w.heap.size w)
   clear h h2 hlen hl
   go_enter Tryz.func85, Tryz.ntmps85
   go_wp2_with fail
   go_loopw [17] (fun i wr => ∃ (k : Nat), i = .int .i64 k ∧ k ≤ ls.length ∧ Hid (Below w.heap.size w wr) ∧ Hid (ls.take k = ms.take k)) (fun i _ => ls.length - (intOf i).toNat)
   case atStart => exact ⟨0, rfl, Nat.zero_le _, K0, hid rfl⟩
   case round =>
    clear K0
    obtain ⟨k, rfl, hk, K1, hsame⟩ := hrel
    by_cases hlt : k < ls.length
    · obtain ⟨ad, Ak, ck, x, rfl, hadb, hx, hxl, hcx, hrx, hckx⟩ := H.out.get hlt
      obtain ⟨ae, Bk, dk, y, rfl, haeb, hy, _, hcy, hry, hdky⟩ := H2.out.get (k := k) (by have := Hn.out; omega)
      have b1 : (0 : Int) ≤ (k : Int) := by omega
      have b2 : (k : Int) < ls.length := by omega
      have b3 : (k : Int) < ms.length := by have := Hn.out; omega
      have hbx : (ad.add k).block < w.heap.size := by rw [add_block]; exact hadb
      have hby : (ae.add k).block < w.heap.size := by rw [add_block]; exact haeb
      have hcx1 := (K1.out.cell (p := ad.add k) hbx).trans hcx
      have hcy1 := (K1.out.cell (p := ae.add k) hby).trans hcy
      have HI := hid (HP.out Ak Bk ck dk x y (HL.out x hxl).1 _ ((hrx.below K1.out (Nat.le_refl _)).more K1.out.size) ((hry.below K1.out (Nat.le_refl _)).more K1.out.size))
      clear hrx hry hckx hdky hcx hcy HP
      go_wp2_with fail
      refine HI.out.mono ?_
      rintro e Y ⟨rfl, bz⟩
      have K2 := hid (K1.out.trans (bz.mono K1.out.size))
      clear HI bz hcx1 hcy1
      cases hR : decide (x = y) with
      | true =>
       have hn := hid (show ls.take (k + 1) = ms.take (k + 1) by rw [List.take_add_one, List.take_add_one, hsame.out, hx.out, hy.out, of_decide_eq_true hR])
       clear hsame
       go_wp2_with fail
       exact ⟨⟨k + 1, by go_num, by omega, K2, hn⟩, by simp [intOf]; omega⟩
      | false =>
       have hres := hid (decide_eq_false (takes_ne hx.out hy.out (of_decide_eq_false hR)))
       clear hsame
       go_wp2_with fail
       go_ret
       exact Did.mk (by rw [hres.out]; rfl) K2.out
    · have hall := hid (decide_eq_true (takes_all hsame.out (by omega) Hn.out))
      have b2 : ¬ (k : Int) < ls.length := by omega
      clear hsame HP
      go_wp2_with fail
      go_ret
      exact Did.mk (by rw [hall.out]; rfl) K1.out
 · have hne : ((ls.length : Int) != (ms.length : Int)) = true := by rw [bne_iff_ne]; exact hlen
   have hres := hid (show decide (ls = ms) = false by rw [decide_eq_false_iff_not]; intro e; exact hlen (by rw [e]))
   clear hlen h h2
   go_enter Tryz.func85, Tryz.ntmps85
   go_wp2
   go_ret
   exact Did.mk (by rw [hres.out]; rfl) (Below.refl _ _)
set_option maxRecDepth 20000 in
set_option maxHeartbeats 4000000 in
theorem eq_R (A A2 : Option Addr) (c c2 : Nat) (l ms : List RmA) (hm : l.length ≤ maxLen) (w : World) (h : Es enR w w.heap.size A l) (h2 : Es enR w w.heap.size A2 ms) (hI : ∀ y ∈ l, RmIn w y) (hJ : ∀ y ∈ ms, RmIn w y) :
 Calls Tryz.prog 83 #[.slice A l.length c, .slice A2 ms.length c2, .func (.func 84) #[] #[]] w (CtRet (l.map (·.r) = ms.map (·.r)) w) := by
 unfold maxLen at hm
 have HP := hid (fun (y : RmA) (hyl : y ∈ l) (z : RmA) (hzl : z ∈ ms) X (hb : Below w.heap.size w X) => show Calls Tryz.prog 84 #[rv y.r y.a y.c, rv z.r z.a z.c] X (CtRet (y.r = z.r) X) from by
  have hy := hI y hyl
  have hz := hJ z hzl
  exact (p_SameRoom y.r z.r y.a z.a y.c z.c (by have := hy.2.2; omega) X (hy.next hb).2.1 (hz.next hb).2.1).mono fun _ _ h => ⟨_, h.1, rmEq_iff .., h.2⟩)
 have Hx := hid (fun i (y : RmA) (h : l[i]? = some y) => show (l.map (·.r))[i]? = some y.r by rw [List.getElem?_map, h]; rfl)
 have Hy := hid (fun i (y : RmA) (h : ms[i]? = some y) => show (ms.map (·.r))[i]? = some y.r by rw [List.getElem?_map, h]; rfl)
 have hl1 : (l.map (·.r)).length = l.length := List.length_map ..
 have hl2 : (ms.map (·.r)).length = ms.length := List.length_map ..
 have HL1 := hid hl1
 have HL2 := hid hl2
 generalize l.map (·.r) = L at *
 generalize ms.map (·.r) = M at *
 have H := hid h
 have H2 := hid h2
 clear h h2 hI hJ hl1 hl2
 by_cases hlen : (l.length : Int) = (ms.length : Int)
 · have Hn := hid (show l.length = ms.length by omega)
   have hne : ((l.length : Int) != (ms.length : Int)) = false := by rw [bne_eq_false_iff_eq]; exact hlen
   clear hlen
   go_enter Tryz.func83, Tryz.ntmps83
   go_wp2_with fail
   go_loopw [17] (fun iv wr => ∃ (k : Nat), iv = .int .i64 k ∧ k ≤ l.length ∧ Hid (Below w.heap.size w wr) ∧ Hid (L.take k = M.take k)) (fun iv _ => l.length - (intOf iv).toNat)
   case atStart => exact ⟨0, rfl, Nat.zero_le _, hid (Below.refl _ _), hid rfl⟩
   case round =>
    obtain ⟨k, rfl, hk, HB, hsame⟩ := hrel
    by_cases hlt : k < l.length
    · obtain ⟨ad, y, rfl, had, hy, hyl, _⟩ := Es.get enR_len (by decide) H.out (k := k) hlt
      obtain ⟨ae, z, rfl, hae, hz, hzl, _⟩ := Es.get enR_len (by decide) H2.out (k := k) (by have := Hn.out; omega)
      have b1 : (0 : Int) ≤ (k : Int) := by omega
      have b2 : (k : Int) < l.length := by omega
      have b3 : (k : Int) < ms.length := by have := Hn.out; omega
      have Hq := hid (H.out.below HB.out (Nat.le_refl _))
      obtain ⟨D, U, hD, hU, KD, hbD⟩ := (Mem.nil wr).one (enR y) 52
      obtain ⟨E, V, hE, hV, KE, hbE⟩ := KD.out.one (enR z) 52
      have HBV := hid (HB.out.trans (KE.out.2.mono HB.out.size))
      have Hq2 := hid (H2.out.below (HB.out.trans (KD.out.2.mono HB.out.size)) (Nat.le_refl _))
      obtain ⟨e_0, e_1, e_2, e_3⟩ : wr.cell? (ad.add (k * 4)) = some (txt y.r.n) ∧ wr.cell? ⟨(ad.add (k * 4)).block, (ad.add (k * 4)).off + 1, none⟩ = some (.int .i64 y.r.s) ∧ wr.cell? ⟨(ad.add (k * 4)).block, (ad.add (k * 4)).off + 2, none⟩ = some (.int .u16 (y.r.g : Int)) ∧ wr.cell? ⟨(ad.add (k * 4)).block, (ad.add (k * 4)).off + 3, none⟩ = some (.slice y.a y.r.l.length y.c) := ⟨es_at enR_len Hq.out hy.out 0 _ rfl, es_fld enR_len Hq.out hy.out 1 (by decide) _ rfl, es_fld enR_len Hq.out hy.out 2 (by decide) _ rfl, es_fld enR_len Hq.out hy.out 3 (by decide) _ rfl⟩
      obtain ⟨f_0, f_1, f_2, f_3⟩ : U.cell? (ae.add (k * 4)) = some (txt z.r.n) ∧ U.cell? ⟨(ae.add (k * 4)).block, (ae.add (k * 4)).off + 1, none⟩ = some (.int .i64 z.r.s) ∧ U.cell? ⟨(ae.add (k * 4)).block, (ae.add (k * 4)).off + 2, none⟩ = some (.int .u16 (z.r.g : Int)) ∧ U.cell? ⟨(ae.add (k * 4)).block, (ae.add (k * 4)).off + 3, none⟩ = some (.slice z.a z.r.l.length z.c) := ⟨es_at enR_len Hq2.out hz.out 0 _ rfl, es_fld enR_len Hq2.out hz.out 1 (by decide) _ rfl, es_fld enR_len Hq2.out hz.out 2 (by decide) _ rfl, es_fld enR_len Hq2.out hz.out 3 (by decide) _ rfl⟩
      obtain ⟨c_0, c_1, c_2, c_3⟩ : V.cell? ⟨D, 0, none⟩ = some (txt y.r.n) ∧ V.cell? ⟨D, 1, none⟩ = some (.int .i64 y.r.s) ∧ V.cell? ⟨D, 2, none⟩ = some (.int .u16 (y.r.g : Int)) ∧ V.cell? ⟨D, 3, none⟩ = some (.slice y.a y.r.l.length y.c) := ⟨KE.out.cell (b := D) (cs := enR y) (t := 52) (by simp) (k := 0) rfl, KE.out.cell (b := D) (cs := enR y) (t := 52) (by simp) (k := 1) rfl, KE.out.cell (b := D) (cs := enR y) (t := 52) (by simp) (k := 2) rfl, KE.out.cell (b := D) (cs := enR y) (t := 52) (by simp) (k := 3) rfl⟩
      obtain ⟨d_0, d_1, d_2, d_3⟩ : V.cell? ⟨E, 0, none⟩ = some (txt z.r.n) ∧ V.cell? ⟨E, 1, none⟩ = some (.int .i64 z.r.s) ∧ V.cell? ⟨E, 2, none⟩ = some (.int .u16 (z.r.g : Int)) ∧ V.cell? ⟨E, 3, none⟩ = some (.slice z.a z.r.l.length z.c) := ⟨KE.out.cell (b := E) (cs := enR z) (t := 52) (by simp) (k := 0) rfl, KE.out.cell (b := E) (cs := enR z) (t := 52) (by simp) (k := 1) rfl, KE.out.cell (b := E) (cs := enR z) (t := 52) (by simp) (k := 2) rfl, KE.out.cell (b := E) (cs := enR z) (t := 52) (by simp) (k := 3) rfl⟩
      have HPk := hid (HP.out y hyl z hzl V HBV.out)
      have Hxk := hid (Hx.out k y hy.out)
      have Hyk := hid (Hy.out k z hz.out)
      clear Hq Hq2 KD KE hbD hbE hyl hzl had hae
      go_wp2_with fail
      refine (HPk.out).mono ?_
      rintro e w1 ⟨b, rfl, hb, b9⟩
      have HB2 := hid (HBV.out.trans (b9.mono HBV.out.size))
      clear b9
      cases b with
      | true =>
       have hn := hid (show L.take (k + 1) = M.take (k + 1) by rw [List.take_add_one, List.take_add_one, hsame.out, Hxk.out, Hyk.out, hb.1 rfl])
       clear hsame hb
       go_wp2_with fail
       exact ⟨⟨k + 1, by go_num, by omega, HB2, hn⟩, by simp [intOf]; omega⟩
      | false =>
       have hres := hid (takes_ne Hxk.out Hyk.out (fun e => by have := hb.2 e; cases this))
       clear hsame hb
       go_wp2_with fail
       go_ret
       exact ⟨false, rfl, ⟨fun h => (nomatch h), fun h => absurd h hres.out⟩, HB2.out⟩
    · have hall := hid (takes_all hsame.out (by have := HL1.out; omega) (by have := HL1.out; have := HL2.out; have := Hn.out; omega))
      have b2 : ¬ (k : Int) < l.length := by omega
      clear hsame HP
      go_wp2_with fail
      go_ret
      exact ⟨true, rfl, ⟨fun _ => hall.out, fun _ => rfl⟩, HB.out⟩
 · have hne : ((l.length : Int) != (ms.length : Int)) = true := by rw [bne_iff_ne]; exact hlen
   have hres := hid (show ¬ L = M from fun e => hlen (by have := congrArg List.length e; have := HL1.out; have := HL2.out; omega))
   clear hlen
   go_enter Tryz.func83, Tryz.ntmps83
   go_wp2
   go_ret
   exact ⟨false, rfl, ⟨fun h => (nomatch h), fun h => absurd h hres.out⟩, Below.refl _ _⟩
set_option maxRecDepth 20000 in
set_option maxHeartbeats 4000000 in
theorem eq_P (A A2 : Option Addr) (c c2 : Nat) (l ms : List PsA) (hm : l.length ≤ maxLen) (w : World) (h : Es enQ w w.heap.size A l) (h2 : Es enQ w w.heap.size A2 ms) (hI : ∀ y ∈ l, PsIn w y) (hJ : ∀ y ∈ ms, PsIn w y) :
 Calls Tryz.prog 87 #[.slice A l.length c, .slice A2 ms.length c2, .func (.func 88) #[] #[]] w (CtRet (l.map (·.r) = ms.map (·.r)) w) := by
 unfold maxLen at hm
 have HP := hid (fun (y : PsA) (hyl : y ∈ l) (z : PsA) (hzl : z ∈ ms) X (hb : Below w.heap.size w X) => show Calls Tryz.prog 88 #[pv y.r y.a y.c, pv z.r z.a z.c] X (CtRet (y.r = z.r) X) from by
  have hy := hI y hyl
  have hz := hJ z hzl
  exact (p_SameP y.r z.r y.a z.a y.c z.c (by have := hy.2.2; omega) X (hy.next hb).2.1 (hz.next hb).2.1).mono fun _ _ h => ⟨_, h.1, psEq_iff .., h.2⟩)
 have Hx := hid (fun i (y : PsA) (h : l[i]? = some y) => show (l.map (·.r))[i]? = some y.r by rw [List.getElem?_map, h]; rfl)
 have Hy := hid (fun i (y : PsA) (h : ms[i]? = some y) => show (ms.map (·.r))[i]? = some y.r by rw [List.getElem?_map, h]; rfl)
 have hl1 : (l.map (·.r)).length = l.length := List.length_map ..
 have hl2 : (ms.map (·.r)).length = ms.length := List.length_map ..
 have HL1 := hid hl1
 have HL2 := hid hl2
 generalize l.map (·.r) = L at *
 generalize ms.map (·.r) = M at *
 have H := hid h
 have H2 := hid h2
 clear h h2 hI hJ hl1 hl2
 by_cases hlen : (l.length : Int) = (ms.length : Int)
 · have Hn := hid (show l.length = ms.length by omega)
   have hne : ((l.length : Int) != (ms.length : Int)) = false := by rw [bne_eq_false_iff_eq]; exact hlen
   clear hlen
   go_enter Tryz.func87, Tryz.ntmps87
   go_wp2_with fail
   go_loopw [17] (fun iv wr => ∃ (k : Nat), iv = .int .i64 k ∧ k ≤ l.length ∧ Hid (Below w.heap.size w wr) ∧ Hid (L.take k = M.take k)) (fun iv _ => l.length - (intOf iv).toNat)
   case atStart => exact ⟨0, rfl, Nat.zero_le _, hid (Below.refl _ _), hid rfl⟩
   case round =>
    obtain ⟨k, rfl, hk, HB, hsame⟩ := hrel
    by_cases hlt : k < l.length
    · obtain ⟨ad, y, rfl, had, hy, hyl, _⟩ := Es.get enQ_len (by decide) H.out (k := k) hlt
      obtain ⟨ae, z, rfl, hae, hz, hzl, _⟩ := Es.get enQ_len (by decide) H2.out (k := k) (by have := Hn.out; omega)
      have b1 : (0 : Int) ≤ (k : Int) := by omega
      have b2 : (k : Int) < l.length := by omega
      have b3 : (k : Int) < ms.length := by have := Hn.out; omega
      have Hq := hid (H.out.below HB.out (Nat.le_refl _))
      obtain ⟨D, U, hD, hU, KD, hbD⟩ := (Mem.nil wr).one (enQ y) 57
      obtain ⟨E, V, hE, hV, KE, hbE⟩ := KD.out.one (enQ z) 57
      have HBV := hid (HB.out.trans (KE.out.2.mono HB.out.size))
      have Hq2 := hid (H2.out.below (HB.out.trans (KD.out.2.mono HB.out.size)) (Nat.le_refl _))
      obtain ⟨e_0, e_1⟩ : wr.cell? (ad.add (k * 2)) = some (txt y.r.n) ∧ wr.cell? ⟨(ad.add (k * 2)).block, (ad.add (k * 2)).off + 1, none⟩ = some (.slice y.a y.r.l.length y.c) := ⟨es_at enQ_len Hq.out hy.out 0 _ rfl, es_fld enQ_len Hq.out hy.out 1 (by decide) _ rfl⟩
      obtain ⟨f_0, f_1⟩ : U.cell? (ae.add (k * 2)) = some (txt z.r.n) ∧ U.cell? ⟨(ae.add (k * 2)).block, (ae.add (k * 2)).off + 1, none⟩ = some (.slice z.a z.r.l.length z.c) := ⟨es_at enQ_len Hq2.out hz.out 0 _ rfl, es_fld enQ_len Hq2.out hz.out 1 (by decide) _ rfl⟩
      obtain ⟨c_0, c_1⟩ : V.cell? ⟨D, 0, none⟩ = some (txt y.r.n) ∧ V.cell? ⟨D, 1, none⟩ = some (.slice y.a y.r.l.length y.c) := ⟨KE.out.cell (b := D) (cs := enQ y) (t := 57) (by simp) (k := 0) rfl, KE.out.cell (b := D) (cs := enQ y) (t := 57) (by simp) (k := 1) rfl⟩
      obtain ⟨d_0, d_1⟩ : V.cell? ⟨E, 0, none⟩ = some (txt z.r.n) ∧ V.cell? ⟨E, 1, none⟩ = some (.slice z.a z.r.l.length z.c) := ⟨KE.out.cell (b := E) (cs := enQ z) (t := 57) (by simp) (k := 0) rfl, KE.out.cell (b := E) (cs := enQ z) (t := 57) (by simp) (k := 1) rfl⟩
      have HPk := hid (HP.out y hyl z hzl V HBV.out)
      have Hxk := hid (Hx.out k y hy.out)
      have Hyk := hid (Hy.out k z hz.out)
      clear Hq Hq2 KD KE hbD hbE hyl hzl had hae
      go_wp2_with fail
      refine (HPk.out).mono ?_
      rintro e w1 ⟨b, rfl, hb, b9⟩
      have HB2 := hid (HBV.out.trans (b9.mono HBV.out.size))
      clear b9
      cases b with
      | true =>
       have hn := hid (show L.take (k + 1) = M.take (k + 1) by rw [List.take_add_one, List.take_add_one, hsame.out, Hxk.out, Hyk.out, hb.1 rfl])
       clear hsame hb
       go_wp2_with fail
       exact ⟨⟨k + 1, by go_num, by omega, HB2, hn⟩, by simp [intOf]; omega⟩
      | false =>
       have hres := hid (takes_ne Hxk.out Hyk.out (fun e => by have := hb.2 e; cases this))
       clear hsame hb
       go_wp2_with fail
       go_ret
       exact ⟨false, rfl, ⟨fun h => (nomatch h), fun h => absurd h hres.out⟩, HB2.out⟩
    · have hall := hid (takes_all hsame.out (by have := HL1.out; omega) (by have := HL1.out; have := HL2.out; have := Hn.out; omega))
      have b2 : ¬ (k : Int) < l.length := by omega
      clear hsame HP
      go_wp2_with fail
      go_ret
      exact ⟨true, rfl, ⟨fun _ => hall.out, fun _ => rfl⟩, HB.out⟩
 · have hne : ((l.length : Int) != (ms.length : Int)) = true := by rw [bne_iff_ne]; exact hlen
   have hres := hid (show ¬ L = M from fun e => hlen (by have := congrArg List.length e; have := HL1.out; have := HL2.out; omega))
   clear hlen
   go_enter Tryz.func87, Tryz.ntmps87
   go_wp2
   go_ret
   exact ⟨false, rfl, ⟨fun h => (nomatch h), fun h => absurd h hres.out⟩, Below.refl _ _⟩
set_option maxRecDepth 20000 in
set_option maxHeartbeats 4000000 in
theorem eq_C (A A2 : Option Addr) (c c2 : Nat) (l ms : List ClA) (hm : l.length ≤ maxLen) (w : World) (h : Es enC w w.heap.size A l) (h2 : Es enC w w.heap.size A2 ms) (hI : ∀ y ∈ l, ClIn w y) (hJ : ∀ y ∈ ms, ClIn w y) :
 Calls Tryz.prog 89 #[.slice A l.length c, .slice A2 ms.length c2, .func (.func 90) #[] #[]] w (CtRet (l.map (·.x) = ms.map (·.x)) w) := by
 unfold maxLen at hm
 have HP := hid (fun (y : ClA) (hyl : y ∈ l) (z : ClA) (hzl : z ∈ ms) X (hb : Below w.heap.size w X) => show Calls Tryz.prog 90 #[cv y.x y.r, cv z.x z.r] X (CtRet (y.x = z.x) X) from by
  have hy := hI y hyl
  have hz := hJ z hzl
  exact (p_SameC y.x z.x y.r z.r hy.2.2 X (hy.next hb).2.1 (hz.next hb).2.1).mono fun _ _ h => ⟨_, h.1, clEq_iff .., h.2⟩)
 have Hx := hid (fun i (y : ClA) (h : l[i]? = some y) => show (l.map (·.x))[i]? = some y.x by rw [List.getElem?_map, h]; rfl)
 have Hy := hid (fun i (y : ClA) (h : ms[i]? = some y) => show (ms.map (·.x))[i]? = some y.x by rw [List.getElem?_map, h]; rfl)
 have hl1 : (l.map (·.x)).length = l.length := List.length_map ..
 have hl2 : (ms.map (·.x)).length = ms.length := List.length_map ..
 have HL1 := hid hl1
 have HL2 := hid hl2
 generalize l.map (·.x) = L at *
 generalize ms.map (·.x) = M at *
 have H := hid h
 have H2 := hid h2
 clear h h2 hI hJ hl1 hl2
 by_cases hlen : (l.length : Int) = (ms.length : Int)
 · have Hn := hid (show l.length = ms.length by omega)
   have hne : ((l.length : Int) != (ms.length : Int)) = false := by rw [bne_eq_false_iff_eq]; exact hlen
   clear hlen
   go_enter Tryz.func89, Tryz.ntmps89
   go_wp2_with fail
   go_loopw [17] (fun iv wr => ∃ (k : Nat), iv = .int .i64 k ∧ k ≤ l.length ∧ Hid (Below w.heap.size w wr) ∧ Hid (L.take k = M.take k)) (fun iv _ => l.length - (intOf iv).toNat)
   case atStart => exact ⟨0, rfl, Nat.zero_le _, hid (Below.refl _ _), hid rfl⟩
   case round =>
    obtain ⟨k, rfl, hk, HB, hsame⟩ := hrel
    by_cases hlt : k < l.length
    · obtain ⟨ad, y, rfl, had, hy, hyl, _⟩ := Es.get enC_len (by decide) H.out (k := k) hlt
      obtain ⟨ae, z, rfl, hae, hz, hzl, _⟩ := Es.get enC_len (by decide) H2.out (k := k) (by have := Hn.out; omega)
      have b1 : (0 : Int) ≤ (k : Int) := by omega
      have b2 : (k : Int) < l.length := by omega
      have b3 : (k : Int) < ms.length := by have := Hn.out; omega
      have Hq := hid (H.out.below HB.out (Nat.le_refl _))
      obtain ⟨D, U, hD, hU, KD, hbD⟩ := (Mem.nil wr).one (enC y) 62
      obtain ⟨E, V, hE, hV, KE, hbE⟩ := KD.out.one (enC z) 62
      have HBV := hid (HB.out.trans (KE.out.2.mono HB.out.size))
      have Hq2 := hid (H2.out.below (HB.out.trans (KD.out.2.mono HB.out.size)) (Nat.le_refl _))
      obtain ⟨e_0, e_1, e_2, e_3, e_4, e_5, e_6⟩ : wr.cell? (ad.add (k * 7)) = some (txt y.x.n) ∧ wr.cell? ⟨(ad.add (k * 7)).block, (ad.add (k * 7)).off + 1, none⟩ = some (.int .i64 y.x.s) ∧ wr.cell? ⟨(ad.add (k * 7)).block, (ad.add (k * 7)).off + 2, none⟩ = some (.int .u16 (y.x.g : Int)) ∧ wr.cell? ⟨(ad.add (k * 7)).block, (ad.add (k * 7)).off + 3, none⟩ = some (.slice y.r.a y.x.p.length y.r.ac) ∧ wr.cell? ⟨(ad.add (k * 7)).block, (ad.add (k * 7)).off + 4, none⟩ = some (.slice y.r.b y.x.t.length y.r.bc) ∧ wr.cell? ⟨(ad.add (k * 7)).block, (ad.add (k * 7)).off + 5, none⟩ = some (.slice y.r.c y.x.l.length y.r.cc) ∧ wr.cell? ⟨(ad.add (k * 7)).block, (ad.add (k * 7)).off + 6, none⟩ = some (.int .i64 y.x.o) := ⟨es_at enC_len Hq.out hy.out 0 _ rfl, es_fld enC_len Hq.out hy.out 1 (by decide) _ rfl, es_fld enC_len Hq.out hy.out 2 (by decide) _ rfl, es_fld enC_len Hq.out hy.out 3 (by decide) _ rfl, es_fld enC_len Hq.out hy.out 4 (by decide) _ rfl, es_fld enC_len Hq.out hy.out 5 (by decide) _ rfl, es_fld enC_len Hq.out hy.out 6 (by decide) _ rfl⟩
      obtain ⟨f_0, f_1, f_2, f_3, f_4, f_5, f_6⟩ : U.cell? (ae.add (k * 7)) = some (txt z.x.n) ∧ U.cell? ⟨(ae.add (k * 7)).block, (ae.add (k * 7)).off + 1, none⟩ = some (.int .i64 z.x.s) ∧ U.cell? ⟨(ae.add (k * 7)).block, (ae.add (k * 7)).off + 2, none⟩ = some (.int .u16 (z.x.g : Int)) ∧ U.cell? ⟨(ae.add (k * 7)).block, (ae.add (k * 7)).off + 3, none⟩ = some (.slice z.r.a z.x.p.length z.r.ac) ∧ U.cell? ⟨(ae.add (k * 7)).block, (ae.add (k * 7)).off + 4, none⟩ = some (.slice z.r.b z.x.t.length z.r.bc) ∧ U.cell? ⟨(ae.add (k * 7)).block, (ae.add (k * 7)).off + 5, none⟩ = some (.slice z.r.c z.x.l.length z.r.cc) ∧ U.cell? ⟨(ae.add (k * 7)).block, (ae.add (k * 7)).off + 6, none⟩ = some (.int .i64 z.x.o) := ⟨es_at enC_len Hq2.out hz.out 0 _ rfl, es_fld enC_len Hq2.out hz.out 1 (by decide) _ rfl, es_fld enC_len Hq2.out hz.out 2 (by decide) _ rfl, es_fld enC_len Hq2.out hz.out 3 (by decide) _ rfl, es_fld enC_len Hq2.out hz.out 4 (by decide) _ rfl, es_fld enC_len Hq2.out hz.out 5 (by decide) _ rfl, es_fld enC_len Hq2.out hz.out 6 (by decide) _ rfl⟩
      obtain ⟨c_0, c_1, c_2, c_3, c_4, c_5, c_6⟩ : V.cell? ⟨D, 0, none⟩ = some (txt y.x.n) ∧ V.cell? ⟨D, 1, none⟩ = some (.int .i64 y.x.s) ∧ V.cell? ⟨D, 2, none⟩ = some (.int .u16 (y.x.g : Int)) ∧ V.cell? ⟨D, 3, none⟩ = some (.slice y.r.a y.x.p.length y.r.ac) ∧ V.cell? ⟨D, 4, none⟩ = some (.slice y.r.b y.x.t.length y.r.bc) ∧ V.cell? ⟨D, 5, none⟩ = some (.slice y.r.c y.x.l.length y.r.cc) ∧ V.cell? ⟨D, 6, none⟩ = some (.int .i64 y.x.o) := ⟨KE.out.cell (b := D) (cs := enC y) (t := 62) (by simp) (k := 0) rfl, KE.out.cell (b := D) (cs := enC y) (t := 62) (by simp) (k := 1) rfl, KE.out.cell (b := D) (cs := enC y) (t := 62) (by simp) (k := 2) rfl, KE.out.cell (b := D) (cs := enC y) (t := 62) (by simp) (k := 3) rfl, KE.out.cell (b := D) (cs := enC y) (t := 62) (by simp) (k := 4) rfl, KE.out.cell (b := D) (cs := enC y) (t := 62) (by simp) (k := 5) rfl, KE.out.cell (b := D) (cs := enC y) (t := 62) (by simp) (k := 6) rfl⟩
      obtain ⟨d_0, d_1, d_2, d_3, d_4, d_5, d_6⟩ : V.cell? ⟨E, 0, none⟩ = some (txt z.x.n) ∧ V.cell? ⟨E, 1, none⟩ = some (.int .i64 z.x.s) ∧ V.cell? ⟨E, 2, none⟩ = some (.int .u16 (z.x.g : Int)) ∧ V.cell? ⟨E, 3, none⟩ = some (.slice z.r.a z.x.p.length z.r.ac) ∧ V.cell? ⟨E, 4, none⟩ = some (.slice z.r.b z.x.t.length z.r.bc) ∧ V.cell? ⟨E, 5, none⟩ = some (.slice z.r.c z.x.l.length z.r.cc) ∧ V.cell? ⟨E, 6, none⟩ = some (.int .i64 z.x.o) := ⟨KE.out.cell (b := E) (cs := enC z) (t := 62) (by simp) (k := 0) rfl, KE.out.cell (b := E) (cs := enC z) (t := 62) (by simp) (k := 1) rfl, KE.out.cell (b := E) (cs := enC z) (t := 62) (by simp) (k := 2) rfl, KE.out.cell (b := E) (cs := enC z) (t := 62) (by simp) (k := 3) rfl, KE.out.cell (b := E) (cs := enC z) (t := 62) (by simp) (k := 4) rfl, KE.out.cell (b := E) (cs := enC z) (t := 62) (by simp) (k := 5) rfl, KE.out.cell (b := E) (cs := enC z) (t := 62) (by simp) (k := 6) rfl⟩
      have HPk := hid (HP.out y hyl z hzl V HBV.out)
      have Hxk := hid (Hx.out k y hy.out)
      have Hyk := hid (Hy.out k z hz.out)
      clear Hq Hq2 KD KE hbD hbE hyl hzl had hae
      go_wp2_with fail
      refine (HPk.out).mono ?_
      rintro e w1 ⟨b, rfl, hb, b9⟩
      have HB2 := hid (HBV.out.trans (b9.mono HBV.out.size))
      clear b9
      cases b with
      | true =>
       have hn := hid (show L.take (k + 1) = M.take (k + 1) by rw [List.take_add_one, List.take_add_one, hsame.out, Hxk.out, Hyk.out, hb.1 rfl])
       clear hsame hb
       go_wp2_with fail
       exact ⟨⟨k + 1, by go_num, by omega, HB2, hn⟩, by simp [intOf]; omega⟩
      | false =>
       have hres := hid (takes_ne Hxk.out Hyk.out (fun e => by have := hb.2 e; cases this))
       clear hsame hb
       go_wp2_with fail
       go_ret
       exact ⟨false, rfl, ⟨fun h => (nomatch h), fun h => absurd h hres.out⟩, HB2.out⟩
    · have hall := hid (takes_all hsame.out (by have := HL1.out; omega) (by have := HL1.out; have := HL2.out; have := Hn.out; omega))
      have b2 : ¬ (k : Int) < l.length := by omega
      clear hsame HP
      go_wp2_with fail
      go_ret
      exact ⟨true, rfl, ⟨fun _ => hall.out, fun _ => rfl⟩, HB.out⟩
 · have hne : ((l.length : Int) != (ms.length : Int)) = true := by rw [bne_iff_ne]; exact hlen
   have hres := hid (show ¬ L = M from fun e => hlen (by have := congrArg List.length e; have := HL1.out; have := HL2.out; omega))
   clear hlen
   go_enter Tryz.func89, Tryz.ntmps89
   go_wp2
   go_ret
   exact ⟨false, rfl, ⟨fun h => (nomatch h), fun h => absurd h hres.out⟩, Below.refl _ _⟩
set_option maxRecDepth 20000 in
set_option maxHeartbeats 4000000 in
theorem eq_K (A A2 : Option Addr) (c c2 : Nat) (l ms : List CsA) (hm : l.length ≤ maxLen) (w : World) (h : Es enK w w.heap.size A l) (h2 : Es enK w w.heap.size A2 ms) (hI : ∀ y ∈ l, CsIn w y) (hJ : ∀ y ∈ ms, CsIn w y) :
 Calls Tryz.prog 91 #[.slice A l.length c, .slice A2 ms.length c2, .func (.func 92) #[] #[]] w (CtRet (l.map (·.x) = ms.map (·.x)) w) := by
 unfold maxLen at hm
 have HP := hid (fun (y : CsA) (hyl : y ∈ l) (z : CsA) (hzl : z ∈ ms) X (hb : Below w.heap.size w X) => show Calls Tryz.prog 92 #[csv y.x y.a y.c, csv z.x z.a z.c] X (CtRet (y.x = z.x) X) from by
  have hy := hI y hyl
  have hz := hJ z hzl
  exact (p_SameCs y.x z.x y.a z.a y.c z.c hy.2.2.2 X (hy.next hb).2.1 (hz.next hb).2.1).mono fun _ _ h => ⟨_, h.1, csEq_iff .., h.2⟩)
 have Hx := hid (fun i (y : CsA) (h : l[i]? = some y) => show (l.map (·.x))[i]? = some y.x by rw [List.getElem?_map, h]; rfl)
 have Hy := hid (fun i (y : CsA) (h : ms[i]? = some y) => show (ms.map (·.x))[i]? = some y.x by rw [List.getElem?_map, h]; rfl)
 have hl1 : (l.map (·.x)).length = l.length := List.length_map ..
 have hl2 : (ms.map (·.x)).length = ms.length := List.length_map ..
 have HL1 := hid hl1
 have HL2 := hid hl2
 generalize l.map (·.x) = L at *
 generalize ms.map (·.x) = M at *
 have H := hid h
 have H2 := hid h2
 clear h h2 hI hJ hl1 hl2
 by_cases hlen : (l.length : Int) = (ms.length : Int)
 · have Hn := hid (show l.length = ms.length by omega)
   have hne : ((l.length : Int) != (ms.length : Int)) = false := by rw [bne_eq_false_iff_eq]; exact hlen
   clear hlen
   go_enter Tryz.func91, Tryz.ntmps91
   go_wp2_with fail
   go_loopw [17] (fun iv wr => ∃ (k : Nat), iv = .int .i64 k ∧ k ≤ l.length ∧ Hid (Below w.heap.size w wr) ∧ Hid (L.take k = M.take k)) (fun iv _ => l.length - (intOf iv).toNat)
   case atStart => exact ⟨0, rfl, Nat.zero_le _, hid (Below.refl _ _), hid rfl⟩
   case round =>
    obtain ⟨k, rfl, hk, HB, hsame⟩ := hrel
    by_cases hlt : k < l.length
    · obtain ⟨ad, y, rfl, had, hy, hyl, _⟩ := Es.get enK_len (by decide) H.out (k := k) hlt
      obtain ⟨ae, z, rfl, hae, hz, hzl, _⟩ := Es.get enK_len (by decide) H2.out (k := k) (by have := Hn.out; omega)
      have b1 : (0 : Int) ≤ (k : Int) := by omega
      have b2 : (k : Int) < l.length := by omega
      have b3 : (k : Int) < ms.length := by have := Hn.out; omega
      have Hq := hid (H.out.below HB.out (Nat.le_refl _))
      obtain ⟨D, U, hD, hU, KD, hbD⟩ := (Mem.nil wr).one (enK y) 65
      obtain ⟨E, V, hE, hV, KE, hbE⟩ := KD.out.one (enK z) 65
      have HBV := hid (HB.out.trans (KE.out.2.mono HB.out.size))
      have Hq2 := hid (H2.out.below (HB.out.trans (KD.out.2.mono HB.out.size)) (Nat.le_refl _))
      obtain ⟨e_0, e_1⟩ : wr.cell? (ad.add (k * 2)) = some (txt y.x.n) ∧ wr.cell? ⟨(ad.add (k * 2)).block, (ad.add (k * 2)).off + 1, none⟩ = some (.slice y.a y.x.ws.length y.c) := ⟨es_at enK_len Hq.out hy.out 0 _ rfl, es_fld enK_len Hq.out hy.out 1 (by decide) _ rfl⟩
      obtain ⟨f_0, f_1⟩ : U.cell? (ae.add (k * 2)) = some (txt z.x.n) ∧ U.cell? ⟨(ae.add (k * 2)).block, (ae.add (k * 2)).off + 1, none⟩ = some (.slice z.a z.x.ws.length z.c) := ⟨es_at enK_len Hq2.out hz.out 0 _ rfl, es_fld enK_len Hq2.out hz.out 1 (by decide) _ rfl⟩
      obtain ⟨c_0, c_1⟩ : V.cell? ⟨D, 0, none⟩ = some (txt y.x.n) ∧ V.cell? ⟨D, 1, none⟩ = some (.slice y.a y.x.ws.length y.c) := ⟨KE.out.cell (b := D) (cs := enK y) (t := 65) (by simp) (k := 0) rfl, KE.out.cell (b := D) (cs := enK y) (t := 65) (by simp) (k := 1) rfl⟩
      obtain ⟨d_0, d_1⟩ : V.cell? ⟨E, 0, none⟩ = some (txt z.x.n) ∧ V.cell? ⟨E, 1, none⟩ = some (.slice z.a z.x.ws.length z.c) := ⟨KE.out.cell (b := E) (cs := enK z) (t := 65) (by simp) (k := 0) rfl, KE.out.cell (b := E) (cs := enK z) (t := 65) (by simp) (k := 1) rfl⟩
      have HPk := hid (HP.out y hyl z hzl V HBV.out)
      have Hxk := hid (Hx.out k y hy.out)
      have Hyk := hid (Hy.out k z hz.out)
      clear Hq Hq2 KD KE hbD hbE hyl hzl had hae
      go_wp2_with fail
      refine (HPk.out).mono ?_
      rintro e w1 ⟨b, rfl, hb, b9⟩
      have HB2 := hid (HBV.out.trans (b9.mono HBV.out.size))
      clear b9
      cases b with
      | true =>
       have hn := hid (show L.take (k + 1) = M.take (k + 1) by rw [List.take_add_one, List.take_add_one, hsame.out, Hxk.out, Hyk.out, hb.1 rfl])
       clear hsame hb
       go_wp2_with fail
       exact ⟨⟨k + 1, by go_num, by omega, HB2, hn⟩, by simp [intOf]; omega⟩
      | false =>
       have hres := hid (takes_ne Hxk.out Hyk.out (fun e => by have := hb.2 e; cases this))
       clear hsame hb
       go_wp2_with fail
       go_ret
       exact ⟨false, rfl, ⟨fun h => (nomatch h), fun h => absurd h hres.out⟩, HB2.out⟩
    · have hall := hid (takes_all hsame.out (by have := HL1.out; omega) (by have := HL1.out; have := HL2.out; have := Hn.out; omega))
      have b2 : ¬ (k : Int) < l.length := by omega
      clear hsame HP
      go_wp2_with fail
      go_ret
      exact ⟨true, rfl, ⟨fun _ => hall.out, fun _ => rfl⟩, HB.out⟩
 · have hne : ((l.length : Int) != (ms.length : Int)) = true := by rw [bne_iff_ne]; exact hlen
   have hres := hid (show ¬ L = M from fun e => hlen (by have := congrArg List.length e; have := HL1.out; have := HL2.out; omega))
   clear hlen
   go_enter Tryz.func91, Tryz.ntmps91
   go_wp2
   go_ret
   exact ⟨false, rfl, ⟨fun h => (nomatch h), fun h => absurd h hres.out⟩, Below.refl _ _⟩
set_option maxRecDepth 20000 in
set_option maxHeartbeats 4000000 in
theorem eq_S (A A2 : Option Addr) (c c2 : Nat) (l ms : List StA) (hm : l.length ≤ maxLen) (w : World) (h : Es enS w w.heap.size A l) (h2 : Es enS w w.heap.size A2 ms) (hI : ∀ y ∈ l, StIn w y) (hJ : ∀ y ∈ ms, StIn w y) :
 Calls Tryz.prog 93 #[.slice A l.length c, .slice A2 ms.length c2, .func (.func 94) #[] #[]] w (CtRet (l.map (·.x) = ms.map (·.x)) w) := by
 unfold maxLen at hm
 have HP := hid (fun (y : StA) (hyl : y ∈ l) (z : StA) (hzl : z ∈ ms) X (hb : Below w.heap.size w X) => show Calls Tryz.prog 94 #[stv y.x y.a y.c, stv z.x z.a z.c] X (CtRet (y.x = z.x) X) from by
  have hy := hI y hyl
  have hz := hJ z hzl
  exact (p_SameSt y z (by have := hy.2.2.1; omega) X (hy.next hb).2.1 (hz.next hb).2.1).mono fun _ _ h => ⟨_, h.1, stEq_iff .., h.2⟩)
 have Hx := hid (fun i (y : StA) (h : l[i]? = some y) => show (l.map (·.x))[i]? = some y.x by rw [List.getElem?_map, h]; rfl)
 have Hy := hid (fun i (y : StA) (h : ms[i]? = some y) => show (ms.map (·.x))[i]? = some y.x by rw [List.getElem?_map, h]; rfl)
 have hl1 : (l.map (·.x)).length = l.length := List.length_map ..
 have hl2 : (ms.map (·.x)).length = ms.length := List.length_map ..
 have HL1 := hid hl1
 have HL2 := hid hl2
 generalize l.map (·.x) = L at *
 generalize ms.map (·.x) = M at *
 have H := hid h
 have H2 := hid h2
 clear h h2 hI hJ hl1 hl2
 by_cases hlen : (l.length : Int) = (ms.length : Int)
 · have Hn := hid (show l.length = ms.length by omega)
   have hne : ((l.length : Int) != (ms.length : Int)) = false := by rw [bne_eq_false_iff_eq]; exact hlen
   clear hlen
   go_enter Tryz.func93, Tryz.ntmps93
   go_wp2_with fail
   go_loopw [17] (fun iv wr => ∃ (k : Nat), iv = .int .i64 k ∧ k ≤ l.length ∧ Hid (Below w.heap.size w wr) ∧ Hid (L.take k = M.take k)) (fun iv _ => l.length - (intOf iv).toNat)
   case atStart => exact ⟨0, rfl, Nat.zero_le _, hid (Below.refl _ _), hid rfl⟩
   case round =>
    obtain ⟨k, rfl, hk, HB, hsame⟩ := hrel
    by_cases hlt : k < l.length
    · obtain ⟨ad, y, rfl, had, hy, hyl, _⟩ := Es.get enS_len (by decide) H.out (k := k) hlt
      obtain ⟨ae, z, rfl, hae, hz, hzl, _⟩ := Es.get enS_len (by decide) H2.out (k := k) (by have := Hn.out; omega)
      have b1 : (0 : Int) ≤ (k : Int) := by omega
      have b2 : (k : Int) < l.length := by omega
      have b3 : (k : Int) < ms.length := by have := Hn.out; omega
      have Hq := hid (H.out.below HB.out (Nat.le_refl _))
      obtain ⟨D, U, hD, hU, KD, hbD⟩ := (Mem.nil wr).one (enS y) 70
      obtain ⟨E, V, hE, hV, KE, hbE⟩ := KD.out.one (enS z) 70
      have HBV := hid (HB.out.trans (KE.out.2.mono HB.out.size))
      have Hq2 := hid (H2.out.below (HB.out.trans (KD.out.2.mono HB.out.size)) (Nat.le_refl _))
      obtain ⟨e_0, e_1⟩ : wr.cell? (ad.add (k * 2)) = some (txt y.x.n) ∧ wr.cell? ⟨(ad.add (k * 2)).block, (ad.add (k * 2)).off + 1, none⟩ = some (.slice y.a y.x.l.length y.c) := ⟨es_at enS_len Hq.out hy.out 0 _ rfl, es_fld enS_len Hq.out hy.out 1 (by decide) _ rfl⟩
      obtain ⟨f_0, f_1⟩ : U.cell? (ae.add (k * 2)) = some (txt z.x.n) ∧ U.cell? ⟨(ae.add (k * 2)).block, (ae.add (k * 2)).off + 1, none⟩ = some (.slice z.a z.x.l.length z.c) := ⟨es_at enS_len Hq2.out hz.out 0 _ rfl, es_fld enS_len Hq2.out hz.out 1 (by decide) _ rfl⟩
      obtain ⟨c_0, c_1⟩ : V.cell? ⟨D, 0, none⟩ = some (txt y.x.n) ∧ V.cell? ⟨D, 1, none⟩ = some (.slice y.a y.x.l.length y.c) := ⟨KE.out.cell (b := D) (cs := enS y) (t := 70) (by simp) (k := 0) rfl, KE.out.cell (b := D) (cs := enS y) (t := 70) (by simp) (k := 1) rfl⟩
      obtain ⟨d_0, d_1⟩ : V.cell? ⟨E, 0, none⟩ = some (txt z.x.n) ∧ V.cell? ⟨E, 1, none⟩ = some (.slice z.a z.x.l.length z.c) := ⟨KE.out.cell (b := E) (cs := enS z) (t := 70) (by simp) (k := 0) rfl, KE.out.cell (b := E) (cs := enS z) (t := 70) (by simp) (k := 1) rfl⟩
      have HPk := hid (HP.out y hyl z hzl V HBV.out)
      have Hxk := hid (Hx.out k y hy.out)
      have Hyk := hid (Hy.out k z hz.out)
      clear Hq Hq2 KD KE hbD hbE hyl hzl had hae
      go_wp2_with fail
      refine (HPk.out).mono ?_
      rintro e w1 ⟨b, rfl, hb, b9⟩
      have HB2 := hid (HBV.out.trans (b9.mono HBV.out.size))
      clear b9
      cases b with
      | true =>
       have hn := hid (show L.take (k + 1) = M.take (k + 1) by rw [List.take_add_one, List.take_add_one, hsame.out, Hxk.out, Hyk.out, hb.1 rfl])
       clear hsame hb
       go_wp2_with fail
       exact ⟨⟨k + 1, by go_num, by omega, HB2, hn⟩, by simp [intOf]; omega⟩
      | false =>
       have hres := hid (takes_ne Hxk.out Hyk.out (fun e => by have := hb.2 e; cases this))
       clear hsame hb
       go_wp2_with fail
       go_ret
       exact ⟨false, rfl, ⟨fun h => (nomatch h), fun h => absurd h hres.out⟩, HB2.out⟩
    · have hall := hid (takes_all hsame.out (by have := HL1.out; omega) (by have := HL1.out; have := HL2.out; have := Hn.out; omega))
      have b2 : ¬ (k : Int) < l.length := by omega
      clear hsame HP
      go_wp2_with fail
      go_ret
      exact ⟨true, rfl, ⟨fun _ => hall.out, fun _ => rfl⟩, HB.out⟩
 · have hne : ((l.length : Int) != (ms.length : Int)) = true := by rw [bne_iff_ne]; exact hlen
   have hres := hid (show ¬ L = M from fun e => hlen (by have := congrArg List.length e; have := HL1.out; have := HL2.out; omega))
   clear hlen
   go_enter Tryz.func93, Tryz.ntmps93
   go_wp2
   go_ret
   exact ⟨false, rfl, ⟨fun h => (nomatch h), fun h => absurd h hres.out⟩, Below.refl _ _⟩
set_option maxRecDepth 20000 in
set_option maxHeartbeats 4000000 in
theorem eq_U (A A2 : Option Addr) (c c2 : Nat) (l ms : List RlA) (hm : l.length ≤ maxLen) (w : World) (h : Es enU w w.heap.size A l) (h2 : Es enU w w.heap.size A2 ms) (hI : ∀ y ∈ l, RlIn w y) (hJ : ∀ y ∈ ms, RlIn w y) :
 Calls Tryz.prog 95 #[.slice A l.length c, .slice A2 ms.length c2, .func (.func 96) #[] #[]] w (CtRet (l.map (·.x) = ms.map (·.x)) w) := by
 unfold maxLen at hm
 have HP := hid (fun (y : RlA) (hyl : y ∈ l) (z : RlA) (hzl : z ∈ ms) X (hb : Below w.heap.size w X) => show Calls Tryz.prog 96 #[rlv y.x y.r y.c, rlv z.x z.r z.c] X (CtRet (y.x = z.x) X) from by
  have hy := hI y hyl
  have hz := hJ z hzl
  exact (p_SameRl y.x z.x y.r z.r y.c z.c (by have := hy.2.2; omega) X (hy.next hb).2.1 (hz.next hb).2.1).mono fun _ _ h => ⟨_, h.1, rlEq_iff .., h.2⟩)
 have Hx := hid (fun i (y : RlA) (h : l[i]? = some y) => show (l.map (·.x))[i]? = some y.x by rw [List.getElem?_map, h]; rfl)
 have Hy := hid (fun i (y : RlA) (h : ms[i]? = some y) => show (ms.map (·.x))[i]? = some y.x by rw [List.getElem?_map, h]; rfl)
 have hl1 : (l.map (·.x)).length = l.length := List.length_map ..
 have hl2 : (ms.map (·.x)).length = ms.length := List.length_map ..
 have HL1 := hid hl1
 have HL2 := hid hl2
 generalize l.map (·.x) = L at *
 generalize ms.map (·.x) = M at *
 have H := hid h
 have H2 := hid h2
 clear h h2 hI hJ hl1 hl2
 by_cases hlen : (l.length : Int) = (ms.length : Int)
 · have Hn := hid (show l.length = ms.length by omega)
   have hne : ((l.length : Int) != (ms.length : Int)) = false := by rw [bne_eq_false_iff_eq]; exact hlen
   clear hlen
   go_enter Tryz.func95, Tryz.ntmps95
   go_wp2_with fail
   go_loopw [17] (fun iv wr => ∃ (k : Nat), iv = .int .i64 k ∧ k ≤ l.length ∧ Hid (Below w.heap.size w wr) ∧ Hid (L.take k = M.take k)) (fun iv _ => l.length - (intOf iv).toNat)
   case atStart => exact ⟨0, rfl, Nat.zero_le _, hid (Below.refl _ _), hid rfl⟩
   case round =>
    obtain ⟨k, rfl, hk, HB, hsame⟩ := hrel
    by_cases hlt : k < l.length
    · obtain ⟨ad, y, rfl, had, hy, hyl, _⟩ := Es.get enU_len (by decide) H.out (k := k) hlt
      obtain ⟨ae, z, rfl, hae, hz, hzl, _⟩ := Es.get enU_len (by decide) H2.out (k := k) (by have := Hn.out; omega)
      have b1 : (0 : Int) ≤ (k : Int) := by omega
      have b2 : (k : Int) < l.length := by omega
      have b3 : (k : Int) < ms.length := by have := Hn.out; omega
      have Hq := hid (H.out.below HB.out (Nat.le_refl _))
      obtain ⟨D, U, hD, hU, KD, hbD⟩ := (Mem.nil wr).one (enU y) 45
      obtain ⟨E, V, hE, hV, KE, hbE⟩ := KD.out.one (enU z) 45
      have HBV := hid (HB.out.trans (KE.out.2.mono HB.out.size))
      have Hq2 := hid (H2.out.below (HB.out.trans (KD.out.2.mono HB.out.size)) (Nat.le_refl _))
      obtain ⟨e_0, e_1, e_2, e_3, e_4, e_5⟩ : wr.cell? (ad.add (k * 6)) = some (.int .i64 y.x.k) ∧ wr.cell? ⟨(ad.add (k * 6)).block, (ad.add (k * 6)).off + 1, none⟩ = some (.slice y.r y.x.l.length y.c) ∧ wr.cell? ⟨(ad.add (k * 6)).block, (ad.add (k * 6)).off + 2, none⟩ = some (.int .i64 y.x.a) ∧ wr.cell? ⟨(ad.add (k * 6)).block, (ad.add (k * 6)).off + 3, none⟩ = some (.int .i64 y.x.b) ∧ wr.cell? ⟨(ad.add (k * 6)).block, (ad.add (k * 6)).off + 4, none⟩ = some (.bool y.x.h) ∧ wr.cell? ⟨(ad.add (k * 6)).block, (ad.add (k * 6)).off + 5, none⟩ = some (.int .i64 y.x.c) := ⟨es_at enU_len Hq.out hy.out 0 _ rfl, es_fld enU_len Hq.out hy.out 1 (by decide) _ rfl, es_fld enU_len Hq.out hy.out 2 (by decide) _ rfl, es_fld enU_len Hq.out hy.out 3 (by decide) _ rfl, es_fld enU_len Hq.out hy.out 4 (by decide) _ rfl, es_fld enU_len Hq.out hy.out 5 (by decide) _ rfl⟩
      obtain ⟨f_0, f_1, f_2, f_3, f_4, f_5⟩ : U.cell? (ae.add (k * 6)) = some (.int .i64 z.x.k) ∧ U.cell? ⟨(ae.add (k * 6)).block, (ae.add (k * 6)).off + 1, none⟩ = some (.slice z.r z.x.l.length z.c) ∧ U.cell? ⟨(ae.add (k * 6)).block, (ae.add (k * 6)).off + 2, none⟩ = some (.int .i64 z.x.a) ∧ U.cell? ⟨(ae.add (k * 6)).block, (ae.add (k * 6)).off + 3, none⟩ = some (.int .i64 z.x.b) ∧ U.cell? ⟨(ae.add (k * 6)).block, (ae.add (k * 6)).off + 4, none⟩ = some (.bool z.x.h) ∧ U.cell? ⟨(ae.add (k * 6)).block, (ae.add (k * 6)).off + 5, none⟩ = some (.int .i64 z.x.c) := ⟨es_at enU_len Hq2.out hz.out 0 _ rfl, es_fld enU_len Hq2.out hz.out 1 (by decide) _ rfl, es_fld enU_len Hq2.out hz.out 2 (by decide) _ rfl, es_fld enU_len Hq2.out hz.out 3 (by decide) _ rfl, es_fld enU_len Hq2.out hz.out 4 (by decide) _ rfl, es_fld enU_len Hq2.out hz.out 5 (by decide) _ rfl⟩
      obtain ⟨c_0, c_1, c_2, c_3, c_4, c_5⟩ : V.cell? ⟨D, 0, none⟩ = some (.int .i64 y.x.k) ∧ V.cell? ⟨D, 1, none⟩ = some (.slice y.r y.x.l.length y.c) ∧ V.cell? ⟨D, 2, none⟩ = some (.int .i64 y.x.a) ∧ V.cell? ⟨D, 3, none⟩ = some (.int .i64 y.x.b) ∧ V.cell? ⟨D, 4, none⟩ = some (.bool y.x.h) ∧ V.cell? ⟨D, 5, none⟩ = some (.int .i64 y.x.c) := ⟨KE.out.cell (b := D) (cs := enU y) (t := 45) (by simp) (k := 0) rfl, KE.out.cell (b := D) (cs := enU y) (t := 45) (by simp) (k := 1) rfl, KE.out.cell (b := D) (cs := enU y) (t := 45) (by simp) (k := 2) rfl, KE.out.cell (b := D) (cs := enU y) (t := 45) (by simp) (k := 3) rfl, KE.out.cell (b := D) (cs := enU y) (t := 45) (by simp) (k := 4) rfl, KE.out.cell (b := D) (cs := enU y) (t := 45) (by simp) (k := 5) rfl⟩
      obtain ⟨d_0, d_1, d_2, d_3, d_4, d_5⟩ : V.cell? ⟨E, 0, none⟩ = some (.int .i64 z.x.k) ∧ V.cell? ⟨E, 1, none⟩ = some (.slice z.r z.x.l.length z.c) ∧ V.cell? ⟨E, 2, none⟩ = some (.int .i64 z.x.a) ∧ V.cell? ⟨E, 3, none⟩ = some (.int .i64 z.x.b) ∧ V.cell? ⟨E, 4, none⟩ = some (.bool z.x.h) ∧ V.cell? ⟨E, 5, none⟩ = some (.int .i64 z.x.c) := ⟨KE.out.cell (b := E) (cs := enU z) (t := 45) (by simp) (k := 0) rfl, KE.out.cell (b := E) (cs := enU z) (t := 45) (by simp) (k := 1) rfl, KE.out.cell (b := E) (cs := enU z) (t := 45) (by simp) (k := 2) rfl, KE.out.cell (b := E) (cs := enU z) (t := 45) (by simp) (k := 3) rfl, KE.out.cell (b := E) (cs := enU z) (t := 45) (by simp) (k := 4) rfl, KE.out.cell (b := E) (cs := enU z) (t := 45) (by simp) (k := 5) rfl⟩
      have HPk := hid (HP.out y hyl z hzl V HBV.out)
      have Hxk := hid (Hx.out k y hy.out)
      have Hyk := hid (Hy.out k z hz.out)
      clear Hq Hq2 KD KE hbD hbE hyl hzl had hae
      go_wp2_with fail
      refine (HPk.out).mono ?_
      rintro e w1 ⟨b, rfl, hb, b9⟩
      have HB2 := hid (HBV.out.trans (b9.mono HBV.out.size))
      clear b9
      cases b with
      | true =>
       have hn := hid (show L.take (k + 1) = M.take (k + 1) by rw [List.take_add_one, List.take_add_one, hsame.out, Hxk.out, Hyk.out, hb.1 rfl])
       clear hsame hb
       go_wp2_with fail
       exact ⟨⟨k + 1, by go_num, by omega, HB2, hn⟩, by simp [intOf]; omega⟩
      | false =>
       have hres := hid (takes_ne Hxk.out Hyk.out (fun e => by have := hb.2 e; cases this))
       clear hsame hb
       go_wp2_with fail
       go_ret
       exact ⟨false, rfl, ⟨fun h => (nomatch h), fun h => absurd h hres.out⟩, HB2.out⟩
    · have hall := hid (takes_all hsame.out (by have := HL1.out; omega) (by have := HL1.out; have := HL2.out; have := Hn.out; omega))
      have b2 : ¬ (k : Int) < l.length := by omega
      clear hsame HP
      go_wp2_with fail
      go_ret
      exact ⟨true, rfl, ⟨fun _ => hall.out, fun _ => rfl⟩, HB.out⟩
 · have hne : ((l.length : Int) != (ms.length : Int)) = true := by rw [bne_iff_ne]; exact hlen
   have hres := hid (show ¬ L = M from fun e => hlen (by have := congrArg List.length e; have := HL1.out; have := HL2.out; omega))
   clear hlen
   go_enter Tryz.func95, Tryz.ntmps95
   go_wp2
   go_ret
   exact ⟨false, rfl, ⟨fun h => (nomatch h), fun h => absurd h hres.out⟩, Below.refl _ _⟩
end Go.Proofs.YtgmgccepmalahaaGreat
