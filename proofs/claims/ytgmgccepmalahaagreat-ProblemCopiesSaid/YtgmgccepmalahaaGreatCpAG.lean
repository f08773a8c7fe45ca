/- What the proof of ProblemCopies stands on, part 7. -/
import Derived.Lib.AppendZeros
import Derived.Handy
import Derived.Test.YtgmgccepmalahaaGreatCpAC
import Derived.Test.YtgmgccepmalahaaGreatCpAD
import Derived.Test.YtgmgccepmalahaaGreatCpAF
namespace Go.Proofs.YtgmgccepmalahaaGreat
open Go.RowKit
open Whn (Gr Wh)
def inB (n a b : Int) : Bool := decide (a ≤ n) && decide (n ≤ b)
theorem inB_true {n a b : Int} (h1 : a ≤ n) (h2 : n ≤ b) : inB n a b = true := by unfold inB; rw [decide_eq_true h1, decide_eq_true h2]; rfl
theorem inB_false {n a b : Int} (h : n < a ∨ b < n) : inB n a b = false := by
 unfold inB
 by_cases h1 : a ≤ n
 · rw [decide_eq_false (show ¬ n ≤ b by omega), Bool.and_false]
 · rw [decide_eq_false h1, Bool.false_and]
theorem p_wi (n a b : Int) (w : World) : Calls Tryz.prog 119 #[.int .i64 n, .int .i64 a, .int .i64 b] w (fun e w' => e = .returned (.bool (inB n a b)) ∧ w = w') := by
 by_cases h1 : a ≤ n
 · have h2 := hid (show decide (n ≤ b) = inB n a b by unfold inB; rw [decide_eq_true h1, Bool.true_and])
   go_enter Tryz.func119, Tryz.ntmps119
   go_wp2_with fail
   go_ret
   exact ⟨congrArg (fun z => Ending.returned (Value.bool z)) h2.out, rfl⟩
 · have h2 := hid (show false = inB n a b from (inB_false (by omega)).symm)
   go_enter Tryz.func119, Tryz.ntmps119
   go_wp2_with fail
   go_ret
   exact ⟨congrArg (fun z => Ending.returned (Value.bool z)) h2.out, rfl⟩
theorem p_Name (s : ByteArray) (w : World) : Calls Tryz.prog 38 #[.string s] w (fun e w' => e = .returned (.bool (nameOk s.data.toList)) ∧ w = w') := by
 have HI := hid (fun n a b w => p_wi n a b w)
 have Hr := hid (show inB (s.size : Int) 1 24 = nameOk s.data.toList by
  unfold inB nameOk
  have e : s.data.toList.length = s.size := rfl
  rw [e]
  congr 1 <;> (rw [decide_eq_decide]; omega))
 go_enter Tryz.func38, Tryz.ntmps38
 go_wp2_with fail
 refine (HI.out _ _ _ _).mono ?_
 rintro e w1 ⟨rfl, rfl⟩
 go_wp2_with fail
 go_ret
 exact ⟨congrArg (fun z => Ending.returned (Value.bool z)) Hr.out, rfl⟩
set_option maxRecDepth 4000 in
set_option maxHeartbeats 4000000 in
theorem p_RightRoom (g : Gr) (r : Rm) (A : Option Addr) (c : Nat) (hok : Rok r) (hm : r.l.length ≤ maxLen) (w : World) (h : Whs w w.heap.size A r.l) :
 Calls Tryz.prog 123 #[gv g, rv r A c] w (Did (.bool (rmRight g r)) w) := by
 unfold maxLen at hm
 have HG := hid (fun w => p_RightGrid g w)
 have HN := hid (fun w => p_Name (bs r.n) w)
 rw [bs_data] at HN
 have HI := hid (fun n a b w => p_wi n a b w)
 have HW := hid (fun y hy w => p_Right g y hy w)
 have H := hid h
 have HO := hid hok.2.2.2
 have Hr := hid (show rmRight g r = (Whn.rgrid g && nameOk r.n && inB r.s 0 10000 && (r.l.all (Whn.right g) && decide ((r.l.length : Int) ≤ 16))) by
  unfold rmRight inB; rw [Bool.and_assoc (Whn.rgrid g && nameOk r.n)])
 clear h hok
 obtain ⟨P, W, hP, hW, K, hb0⟩ := (Mem.nil w).one (gc g) 23
 obtain ⟨R, V, hR, hV, K1, hb1⟩ := K.out.one (rc r A c) 52
 clear K hb0 hb1
 obtain ⟨g0, g1, g2⟩ := K1.out.gr (B := P) (g := g) (by simp)
 generalize rmRight g r = q at *
 generalize nameOk r.n = nn at *
 cases hgg : Whn.rgrid g with
 | false =>
  rw [hgg] at HG Hr
  clear hgg
  go_enter Tryz.func123, Tryz.ntmps123
  go_wp2_with fail
  refine (HG.out _).mono ?_
  rintro e w1 ⟨rfl, b1⟩
  go_wp2_with fail
  go_ret
  exact Did.mk (by rw [Hr.out]; rfl) (K1.out.next b1).2
 | true =>
  rw [hgg] at HG Hr
  go_enter Tryz.func123, Tryz.ntmps123
  go_wp2_with fail
  refine (HG.out _).mono ?_
  rintro e w1 ⟨rfl, b1⟩
  have K2 := K1.out.next b1
  clear g0 g1 g2
  obtain ⟨r0, r1, r2, r3⟩ := K2.rm (B := R) (r := r) (A := A) (c := c) (by simp)
  obtain ⟨g0, g1, g2⟩ := K2.gr (B := P) (g := g) (by simp)
  go_wp2_with fail
  refine (HN.out _).mono ?_
  rintro e w2 ⟨rfl, rfl⟩
  cases nn with
  | false =>
   go_wp2_with fail
   go_ret
   exact Did.mk (by rw [Hr.out]; rfl) K2.2
  | true =>
   go_wp2_with fail
   refine (HI.out _ _ _ _).mono ?_
   rintro e w2 ⟨rfl, rfl⟩
   generalize inB r.s 0 10000 = ss at *
   cases ss with
   | false =>
    go_wp2_with fail
    go_ret
    exact Did.mk (by rw [Hr.out]; rfl) K2.2
   | true =>
    by_cases h16 : (16 : Int) < (r.l.length : Int)
    · go_wp2_with fail
      go_ret
      refine Did.mk ?_ K2.2
      rw [Hr.out, decide_eq_false (show ¬ (r.l.length : Int) ≤ 16 by omega), Bool.and_false]; rfl
    · go_wp2_with fail
      rw [decide_eq_true (show (r.l.length : Int) ≤ 16 by omega)] at Hr
      have K2h := hid (K2.sub (l' := [(P, gc g, 23)]) (by simp))
      clear g0 g1 g2 r0 r1 r2 r3 K2 K1 b1 HG HN HI
      go_loopw [31] (fun i wr => ∃ (k : Nat), i = .int .i64 k ∧ k ≤ r.l.length ∧ Hid (Mem w wr [(P, gc g, 23)]) ∧ Hid (∀ y ∈ r.l.take k, Whn.right g y = true)) (fun i _ => r.l.length - (intOf i).toNat)
      case atStart => exact ⟨0, rfl, Nat.zero_le _, K2h, hid (fun y hy => by simp at hy)⟩
      case round =>
       clear K2h
       obtain ⟨k, rfl, hk, K1, hsame⟩ := hrel
       by_cases hlt : k < r.l.length
       · obtain ⟨ad, y, rfl, had, hx, hxl⟩ := whs_ad H.out hlt
         have hy1 : Wok y := HO.out _ hxl
         have b1 : (0 : Int) ≤ (k : Int) := by omega
         have b2 : (k : Int) < r.l.length := by omega
         have H1 := H.out.below K1.out.2 (Nat.le_refl _)
         obtain ⟨d0, d1, d2, d3⟩ := whs_at H1 hx.out
         obtain ⟨D, U, hD, hU, K2, hb2⟩ := K1.out.one (wc y) 55
         obtain ⟨c0, c1, c2, c3⟩ := K2.out.wh (B := D) (x := y) (by simp)
         obtain ⟨e0, e1, e2⟩ := K2.out.gr (B := P) (g := g) (by simp)
         go_wp2_with fail
         refine (HW.out y hy1 _).mono ?_
         rintro e w3 ⟨rfl, b3⟩
         have K3 := hid ((K2.out.next b3).sub (l' := [(P, gc g, 23)]) (by simp))
         cases hR : Whn.right g y with
         | true =>
          go_wp2_with fail
          refine ⟨⟨k + 1, by go_num, by omega, K3, ?_⟩, by simp [intOf]; omega⟩
          refine hid (fun z hz => ?_)
          rw [List.take_add_one, hx.out, List.mem_append] at hz
          rcases hz with hz | hz
          · exact hsame.out z hz
          · simp at hz
            rw [hz]; exact hR
         | false =>
          go_wp2_with fail
          go_ret
          refine Did.mk ?_ K3.out.2
          have : r.l.all (Whn.right g) = false := by
           rw [List.all_eq_false]
           exact ⟨y, hxl, by rw [hR]; simp⟩
          rw [Hr.out, this]; rfl
       · have hall : r.l.all (Whn.right g) = true := by
          rw [List.all_eq_true]
          intro y hy
          exact hsame.out y (by rw [List.take_of_length_le (by omega)]; exact hy)
         rw [hall] at Hr
         clear hall
         have b2 : ¬ (k : Int) < r.l.length := by omega
         go_wp2_with fail
         go_ret
         refine Did.mk ?_ K1.out.2
         rw [Hr.out]; rfl
end Go.Proofs.YtgmgccepmalahaaGreat
namespace Go.Proofs.YtgmgccepmalahaaGreat
open Go.RowKit
def sqB (n : Int) (ls : List (List Int)) : Bool := decide ((ls.length : Int) = n ∧ ∀ r ∈ ls, (r.length : Int) = n)
set_option maxRecDepth 4000 in
set_option maxHeartbeats 1000000 in
theorem p_square (A : Option Addr) (c : Nat) (ls : List (List Int)) (hm : ls.length ≤ maxLen) (n : Int) (w : World) (h : Rows2 w w.heap.size A ls) :
 Calls Tryz.prog 124 #[.int .i64 n, .slice A ls.length c] w (fun e w' => e = .returned (.bool (sqB n ls)) ∧ w = w') := by
 unfold maxLen at hm
 by_cases hn : (ls.length : Int) = n
 · have H := hid h
   clear h
   subst hn
   go_enter Tryz.func124, Tryz.ntmps124
   go_wp2_with fail
   go_loopw [13] (fun i wr => ∃ (k : Nat), i = .int .i64 k ∧ k ≤ ls.length ∧ w = wr ∧ Hid (∀ r ∈ ls.take k, (r.length : Int) = (ls.length : Int))) (fun i _ => ls.length - (intOf i).toNat)
   case atStart => exact ⟨0, rfl, Nat.zero_le _, rfl, hid (fun y hy => by simp at hy)⟩
   case round =>
    obtain ⟨k, rfl, hk, rfl, hsame⟩ := hrel
    by_cases hlt : k < ls.length
    · obtain ⟨ad, r, Ak, ck, rfl, had, hr, hc, hI, hck⟩ := rows2_ad H.out hlt
      have b1 : (0 : Int) ≤ (k : Int) := by omega
      have b2 : (k : Int) < ls.length := by omega
      have hmem := hid (List.mem_of_getElem? hr.out)
      by_cases he : (r.length : Int) = (ls.length : Int)
      · have he1 : ((r.length : Int) != (ls.length : Int)) = false := by rw [bne_eq_false_iff_eq]; exact he
        have He := hid he
        clear he hI
        go_wp2_with fail
        refine ⟨⟨k + 1, by go_num, by omega, ?_⟩, by simp [intOf]; omega⟩
        refine ⟨trivial, hid (fun z hz => ?_)⟩
        rw [List.take_add_one, hr.out, List.mem_append] at hz
        rcases hz with hz | hz
        · exact hsame.out z hz
        · simp at hz
          rw [hz]; exact He.out
      · have he1 : ((r.length : Int) != (ls.length : Int)) = true := by rw [bne_iff_ne]; exact he
        have Hr := hid (show sqB (ls.length : Int) ls = false by
         unfold sqB
         rw [decide_eq_false_iff_not]
         exact fun hh => he (hh.2 r hmem.out))
        clear he hI
        go_wp2_with fail
        go_ret
        exact ⟨by rw [Hr.out]; rfl, rfl⟩
    · have Hr := hid (show sqB (ls.length : Int) ls = true by
       unfold sqB
       rw [decide_eq_true_iff]
       refine ⟨rfl, fun r hr => hsame.out r ?_⟩
       rw [List.take_of_length_le (by omega)]; exact hr)
      have b2 : ¬ (k : Int) < ls.length := by omega
      go_wp2_with fail
      go_ret
      exact ⟨by rw [Hr.out]; rfl, rfl⟩
 · have Hr := hid (show sqB n ls = false by
    unfold sqB
    rw [decide_eq_false_iff_not]
    exact fun hh => hn hh.1)
   have hb : ((ls.length : Int) != n) = true := by rw [bne_iff_ne]; exact hn
   clear h hn
   go_enter Tryz.func124, Tryz.ntmps124
   go_wp2_with fail
   go_ret
   exact ⟨by rw [Hr.out]; rfl, rfl⟩
theorem rwOk_of (n : Int) (ls : List (List Int)) : rwOk n ls = (inB n 0 24 && (sqB n ls && decide (∀ i, i < ls.length → cl ls i i = 0 ∧ ∀ k, k < ls.length → 0 ≤ cl ls i k ∧ cl ls i k ≤ 96 ∧ cl ls i k = cl ls k i))) := by
 unfold rwOk inB sqB cok
 rw [Bool.eq_iff_iff]
 simp only [Bool.and_eq_true, decide_eq_true_iff]
 constructor
 · rintro ⟨h1, h2, h3, h4, h5⟩
   refine ⟨⟨h1, h2⟩, ⟨h3, fun r hr => by rw [h4 r hr]; exact h3⟩, fun i hi => ⟨(h5 i hi i hi).2.2.2 rfl, fun k hk => ?_⟩⟩
   obtain ⟨q1, q2, q3, _⟩ := h5 i hi k hk
   exact ⟨q1, q2, q3⟩
 · rintro ⟨⟨h1, h2⟩, ⟨h3, h4⟩, h5⟩
   refine ⟨h1, h2, h3, fun r hr => by have := h4 r hr; omega, fun i hi k hk => ?_⟩
   obtain ⟨q0, q1⟩ := h5 i hi
   obtain ⟨q1, q2, q3⟩ := q1 k hk
   exact ⟨q1, q2, q3, fun e => by subst e; exact q0⟩
set_option maxRecDepth 4000 in
set_option maxHeartbeats 4000000 in
theorem p_RightWalk (A : Option Addr) (c : Nat) (ls : List (List Int)) (hm : ls.length ≤ maxLen) (n : Int) (w : World) (h : Rows2 w w.heap.size A ls) :
 Calls Tryz.prog 41 #[.int .i64 n, .slice A ls.length c] w (Did (.bool (rwOk n ls)) w) := by
 have HI := hid (fun n a b w => p_wi n a b w)
 have HS := hid (p_square A c ls hm n w h)
 unfold maxLen at hm
 have Hr := hid (rwOk_of n ls)
 have H := hid h
 clear h
 generalize rwOk n ls = q at *
 cases h1 : inB n 0 24 with
 | false =>
  rw [h1] at Hr
  have HI1 := hid (HI.out n 0 24 w)
  rw [h1] at HI1
  go_enter Tryz.func41, Tryz.ntmps41
  go_wp2_with fail
  refine HI1.out.mono ?_
  rintro e w1 ⟨rfl, rfl⟩
  go_wp2_with fail
  go_ret
  exact Did.mk (by rw [Hr.out]; rfl) (Below.refl _ _)
 | true =>
  rw [h1] at Hr
  have HI1 := hid (HI.out n 0 24 w)
  rw [h1] at HI1
  cases h2 : sqB n ls with
  | false =>
   rw [h2] at HS Hr
   go_enter Tryz.func41, Tryz.ntmps41
   go_wp2_with fail
   refine HI1.out.mono ?_
   rintro e w1 ⟨rfl, rfl⟩
   go_wp2_with fail
   refine HS.out.mono ?_
   rintro e w1 ⟨rfl, rfl⟩
   go_wp2_with fail
   go_ret
   exact Did.mk (by rw [Hr.out]; rfl) (Below.refl _ _)
  | true =>
   rw [h2] at HS Hr
   obtain ⟨q1, q2⟩ : (ls.length : Int) = n ∧ ∀ r ∈ ls, (r.length : Int) = n := by
    unfold sqB at h2
    exact of_decide_eq_true h2
   have hq : ∀ r ∈ ls, r.length = ls.length := fun r hr => by have := q2 r hr; omega
   have Hq := hid hq
   have hl24 : ls.length ≤ 24 := by
    unfold inB at h1
    rw [Bool.and_eq_true, decide_eq_true_iff, decide_eq_true_iff] at h1
    omega
   clear h1 h2 q1 q2 hq
   go_enter Tryz.func41, Tryz.ntmps41
   go_wp2_with fail
   refine HI1.out.mono ?_
   rintro e w1 ⟨rfl, rfl⟩
   go_wp2_with fail
   refine HS.out.mono ?_
   rintro e w1 ⟨rfl, rfl⟩
   go_wp2_with fail
   rw [Bool.true_and, Bool.true_and] at Hr
   go_loopw [20] (fun i wr => ∃ (k : Nat), i = .int .i64 k ∧ k ≤ ls.length ∧ w = wr ∧ Hid (∀ i, i < k → cl ls i i = 0 ∧ ∀ k, k < ls.length → 0 ≤ cl ls i k ∧ cl ls i k ≤ 96 ∧ cl ls i k = cl ls k i)) (fun i _ => ls.length - (intOf i).toNat)
   case atStart => exact ⟨0, rfl, Nat.zero_le _, rfl, hid (fun y hy => absurd hy (Nat.not_lt_zero _))⟩
   case round =>
    obtain ⟨k, rfl, hk, rfl, hsame⟩ := hrel
    by_cases hlt : k < ls.length
    · obtain ⟨ad, r, Ak, ck, rfl, had, hr, hc, hI, hck⟩ := rows2_ad H.out hlt
      have hrl : r.length = ls.length := Hq.out r (List.mem_of_getElem? hr.out)
      have b1 : (0 : Int) ≤ (k : Int) := by omega
      have b2 : (k : Int) < ls.length := by omega
      have Hrl := hid hrl
      have b3 : (k : Int) < r.length := by omega
      have hkr : k < r.length := by omega
      obtain ⟨ad2, x, rfl, had2, hx, hc2⟩ := hI.get hkr
      have hcx := hid (cl_of hr.out hx.out)
      have HIr := hid hI
      clear hrl hI
      by_cases h0 : x = 0
      · subst h0
        go_wp2_with fail
        go_loopw [32] (fun i wr => ∃ (j : Nat), i = .int .i64 j ∧ j ≤ r.length ∧ w = wr ∧ Hid (∀ i, i < j → 0 ≤ cl ls k i ∧ cl ls k i ≤ 96 ∧ cl ls k i = cl ls i k)) (fun i _ => r.length - (intOf i).toNat)
        case atStart => exact ⟨0, rfl, Nat.zero_le _, rfl, hid (fun y hy => absurd hy (Nat.not_lt_zero _))⟩
        case round =>
         obtain ⟨j, rfl, hj, rfl, hsame2⟩ := hrel
         by_cases hjl : j < r.length
         · obtain ⟨ad3, y, e3, _, hy, hcy⟩ := HIr.out.get hjl
           injection e3 with e3
           subst e3
           have hcj := hid (cl_of hr.out hy.out)
           have hjl2 : j < ls.length := by have := Hrl.out; omega
           obtain ⟨ad4, r2, Ak2, ck2, e4, _, hr2, hcr2, hI2, hck2⟩ := rows2_ad H.out hjl2
           injection e4 with e4
           subst e4
           have hrl2 : r2.length = ls.length := Hq.out r2 (List.mem_of_getElem? hr2.out)
           have hkr2 : k < r2.length := by omega
           obtain ⟨ad5, z, rfl, had5, hz, hcz⟩ := hI2.get hkr2
           have hct := hid (cl_of hr2.out hz.out)
           have b5 : (0 : Int) ≤ (j : Int) := by omega
           have b6 : (j : Int) < r.length := by omega
           have b7 : (j : Int) < ls.length := by omega
           have b8 : (k : Int) < r2.length := by omega
           clear hI2 hrl2
           cases hin : inB y 0 96 with
           | false =>
            have HI2 := hid (HI.out y 0 96 w)
            rw [hin] at HI2
            have Hf := hid (show decide (∀ i, i < ls.length → cl ls i i = 0 ∧ ∀ k, k < ls.length → 0 ≤ cl ls i k ∧ cl ls i k ≤ 96 ∧ cl ls i k = cl ls k i) = false by
             rw [decide_eq_false_iff_not]
             intro hh
             obtain ⟨p1, p2, p3⟩ := (hh k hlt).2 j hjl2
             rw [hcj.out] at p1 p2
             rw [inB_true p1 p2] at hin
             cases hin)
            clear hin
            go_wp2_with fail
            refine HI2.out.mono ?_
            rintro e w1 ⟨rfl, rfl⟩
            go_wp2_with fail
            go_ret
            exact Did.mk (by rw [Hr.out, Hf.out]; rfl) (Below.refl _ _)
           | true =>
            have HI2 := hid (HI.out y 0 96 w)
            rw [hin] at HI2
            obtain ⟨p1, p2⟩ : 0 ≤ y ∧ y ≤ 96 := by
             unfold inB at hin
             rw [Bool.and_eq_true, decide_eq_true_iff, decide_eq_true_iff] at hin
             exact hin
            clear hin
            by_cases hyz : y = z
            · subst hyz
              have Hp := hid (show 0 ≤ cl ls k j ∧ cl ls k j ≤ 96 ∧ cl ls k j = cl ls j k by
               rw [hcj.out, hct.out]; exact ⟨p1, p2, rfl⟩)
              clear p1 p2
              go_wp2_with fail
              refine HI2.out.mono ?_
              rintro e w1 ⟨rfl, rfl⟩
              go_wp2_with fail
              refine ⟨⟨j + 1, by go_num, by omega, ?_⟩, by simp [intOf]; omega⟩
              refine ⟨trivial, hid (fun i hi => ?_)⟩
              by_cases e : i = j
              · subst e; exact Hp.out
              · exact hsame2.out i (by omega)
            · have hne : (y != z) = true := by rw [bne_iff_ne]; exact hyz
              have Hf := hid (show decide (∀ i, i < ls.length → cl ls i i = 0 ∧ ∀ k, k < ls.length → 0 ≤ cl ls i k ∧ cl ls i k ≤ 96 ∧ cl ls i k = cl ls k i) = false by
               rw [decide_eq_false_iff_not]
               intro hh
               have p3 := ((hh k hlt).2 j hjl2).2.2
               rw [hcj.out, hct.out] at p3
               exact hyz p3)
              clear hyz p1 p2
              go_wp2_with fail
              refine HI2.out.mono ?_
              rintro e w1 ⟨rfl, rfl⟩
              go_wp2_with fail
              go_ret
              exact Did.mk (by rw [Hr.out, Hf.out]; rfl) (Below.refl _ _)
         · have b6 : ¬ (j : Int) < r.length := by omega
           have Hall := hid (show cl ls k k = 0 ∧ ∀ i, i < ls.length → 0 ≤ cl ls k i ∧ cl ls k i ≤ 96 ∧ cl ls k i = cl ls i k from
            ⟨hcx.out, fun i hi => hsame2.out i (by have := Hrl.out; omega)⟩)
           go_wp2_with fail
           refine ⟨⟨k + 1, by go_num, by omega, ?_⟩, by simp [intOf]; omega⟩
           refine ⟨trivial, hid (fun i hi => ?_)⟩
           by_cases e : i = k
           · subst e; exact Hall.out
           · exact hsame.out i (by omega)
      · have hne : (x != 0) = true := by rw [bne_iff_ne]; exact h0
        have Hf := hid (show decide (∀ i, i < ls.length → cl ls i i = 0 ∧ ∀ k, k < ls.length → 0 ≤ cl ls i k ∧ cl ls i k ≤ 96 ∧ cl ls i k = cl ls k i) = false by
         rw [decide_eq_false_iff_not]
         intro hh
         have := (hh k hlt).1
         rw [hcx.out] at this
         exact h0 this)
        clear h0
        go_wp2_with fail
        go_ret
        exact Did.mk (by rw [Hr.out, Hf.out]; rfl) (Below.refl _ _)
    · have Hf := hid (show decide (∀ i, i < ls.length → cl ls i i = 0 ∧ ∀ k, k < ls.length → 0 ≤ cl ls i k ∧ cl ls i k ≤ 96 ∧ cl ls i k = cl ls k i) = true by
       rw [decide_eq_true_iff]
       intro i hi
       exact hsame.out i (by omega))
      have b2 : ¬ (k : Int) < ls.length := by omega
      go_wp2_with fail
      go_ret
      exact Did.mk (by rw [Hr.out, Hf.out]; rfl) (Below.refl _ _)
end Go.Proofs.YtgmgccepmalahaaGreat
namespace Go.Proofs.YtgmgccepmalahaaGreat
open Go.RowKit
open Whn (Gr Wh)
set_option maxRecDepth 4000 in
set_option maxHeartbeats 1000000 in
theorem p_Equal (A A2 : Option Addr) (c c2 : Nat) (l ms : List Wh) (hm : l.length ≤ maxLen) (w : World) (h : Whs w w.heap.size A l) (h2 : Whs w w.heap.size A2 ms) :
 Calls Tryz.prog 155 #[.slice A l.length c, .slice A2 ms.length c2] w (Did (.bool (decide (l = ms))) w) := by
 unfold maxLen at hm
 by_cases hlen : (l.length : Int) = (ms.length : Int)
 · have Hn := hid (show ms.length = l.length by omega)
   have H := hid h
   have H2 := hid h2
   clear h h2
   have hne : ((l.length : Int) != (ms.length : Int)) = false := by rw [bne_eq_false_iff_eq]; exact hlen
   clear hlen
   go_enter Tryz.func155, Tryz.ntmps155
   go_wp2
   go_loopw [13] (fun i wr => ∃ (k : Nat), i = .int .i64 k ∧ k ≤ l.length ∧ Hid (Below w.heap.size w wr) ∧ Hid (l.take k = ms.take k)) (fun i _ => l.length - (intOf i).toNat)
   case atStart => exact ⟨0, rfl, Nat.zero_le _, hid (Below.refl _ _), hid (by simp)⟩
   case round =>
    obtain ⟨k, rfl, hk, K1, hsame⟩ := hrel
    by_cases hlt : k < l.length
    · obtain ⟨ad, x, rfl, had, hx, hxl⟩ := whs_ad H.out hlt
      obtain ⟨ad2, y, rfl, had2, hy, hyl⟩ := whs_ad H2.out (k := k) (by have := Hn.out; omega)
      have b1 : (0 : Int) ≤ (k : Int) := by omega
      have b2 : (k : Int) < l.length := by omega
      have b3 : (k : Int) < ms.length := by have := Hn.out; omega
      go_wp2_with fail
      refine wp_region_held_drew (S := fun X => Below w.heap.size w X) (by kernel_rfl) K1.out.drew (fun hHeld => ?_)
      refine tkD 0 16 (.slice (some ad) l.length c) rfl rfl hHeld ?_
      simp only [pt, List.set]
      refine tkD 1 17 (.int .i64 k) rfl rfl hHeld ?_
      simp only [pt, List.set]
      refine tkH 2 18 (.pointer (some (ad.add (k * 4)))) rfl rfl (fun X hX => by clear hX; go_simp) hHeld ?_
      simp only [pt, List.set]
      refine tkH 3 19 (wv x) rfl rfl (fun X hX => by obtain ⟨c0, c1, c2, c3⟩ := whs_at (H.out.below hX (Nat.le_refl _)) hx.out; clear hX; go_simp) hHeld ?_
      simp only [pt, List.set]
      refine tkD 4 20 (.slice (some ad2) ms.length c2) rfl rfl hHeld ?_
      simp only [pt, List.set]
      refine tkD 5 21 (.int .i64 k) rfl rfl hHeld ?_
      simp only [pt, List.set]
      refine tkH 6 22 (.pointer (some (ad2.add (k * 4)))) rfl rfl (fun X hX => by clear hX; go_simp) hHeld ?_
      simp only [pt, List.set]
      refine tkH 7 23 (wv y) rfl rfl (fun X hX => by obtain ⟨c0, c1, c2, c3⟩ := whs_at (H2.out.below hX (Nat.le_refl _)) hy.out; clear hX; go_simp) hHeld ?_
      simp only [pt, List.set]
      refine tkH 8 24 (.bool (!(whEq x y))) rfl rfl (fun X hX => by clear hX; go_simp; exact ifs_wh x y X) hHeld ?_
      simp only [pt, List.set]
      refine wpAnyH_done (by kernel_rfl) ?_ _
      have K3 := K1.out.drew.drew
      cases hR : whEq x y with
      | true =>
       have hxy := (whEq_iff x y).1 hR
       go_wp2_with fail
       refine ⟨⟨k + 1, by go_num, by omega, hid K1.out.drew, hid ?_⟩, by simp [intOf]; omega⟩
       rw [List.take_add_one, List.take_add_one, hsame.out, hx.out, hy.out, hxy]
      | false =>
       go_wp2_with fail
       go_ret
       refine Did.mk ?_ K1.out.drew
       have : decide (l = ms) = false := by
        rw [decide_eq_false_iff_not]
        intro e
        have e1 : l[k]? = ms[k]? := by rw [e]
        rw [hx.out, hy.out] at e1
        injection e1 with e1
        rw [(whEq_iff x y).2 e1] at hR
        cases hR
       rw [this]; rfl
    · have hall := hid (show decide (l = ms) = true by
       rw [decide_eq_true_iff]
       have e := hsame.out
       rwa [List.take_of_length_le (by omega), List.take_of_length_le (by rw [Hn.out]; omega)] at e)
      have b2 : ¬ (k : Int) < l.length := by omega
      go_wp2_with fail
      go_ret
      refine Did.mk ?_ K1.out
      rw [hall.out]; rfl
 · have hne : ((l.length : Int) != (ms.length : Int)) = true := by rw [bne_iff_ne]; exact hlen
   have hres := hid (show decide (l = ms) = false by rw [decide_eq_false_iff_not]; intro e; exact hlen (by rw [e]))
   clear hlen
   go_enter Tryz.func155, Tryz.ntmps155
   go_wp2
   go_ret
   refine Did.mk ?_ (Below.refl _ _)
   rw [hres.out]; rfl
set_option maxRecDepth 4000 in
set_option maxHeartbeats 4000000 in
theorem p_SameRoom (x y : Rm) (A A2 : Option Addr) (c c2 : Nat) (hm : x.l.length ≤ maxLen) (w : World) (h : Whs w w.heap.size A x.l) (h2 : Whs w w.heap.size A2 y.l) :
 Calls Tryz.prog 84 #[rv x A c, rv y A2 c2] w (Did (.bool (rmEq x y)) w) := by
 have HR := hid (fun w h h2 => p_Equal A A2 c c2 x.l y.l hm w h h2)
 have H := hid h
 have H2 := hid h2
 have Hr := hid (show rmEq x y = (decide (x.n = y.n) && decide (x.s = y.s) && decide (x.g = y.g) && decide (x.l = y.l)) from rfl)
 clear h h2 hm
 obtain ⟨P, W, hP, hW, K, hb0⟩ := (Mem.nil w).one (rc x A c) 52
 obtain ⟨R, V, hR, hV, K1, hb1⟩ := K.out.one (rc y A2 c2) 52
 clear K hb0 hb1
 obtain ⟨r0, r1, r2, r3⟩ := K1.out.rm (B := P) (r := x) (A := A) (c := c) (by simp)
 obtain ⟨s0, s1, s2, s3⟩ := K1.out.rm (B := R) (r := y) (A := A2) (c := c2) (by simp)
 generalize decide (x.l = y.l) = ww at *
 generalize rmEq x y = q at *
 by_cases e1 : x.n = y.n
 · have q1 : ((bs x.n).toList == (bs y.n).toList) = true := by rw [e1]; simp
   by_cases e2 : x.s = y.s
   · by_cases e3 : x.g = y.g
     · have q3 : ((x.g : Int) == (y.g : Int)) = true := by rw [e3]; exact beq_self_eq_true _
       have q2 : (x.s == y.s) = true := by rw [e2]; exact beq_self_eq_true _
       rw [decide_eq_true e1, decide_eq_true e2, decide_eq_true e3] at Hr
       clear e1 e2 e3
       go_enter Tryz.func84, Tryz.ntmps84
       go_wp2_with fail
       refine (HR.out _ (H.out.below K1.out.2 (Nat.le_refl _) |>.more K1.out.2.size) (H2.out.below K1.out.2 (Nat.le_refl _) |>.more K1.out.2.size)).mono ?_
       rintro e w1 ⟨rfl, b1⟩
       have K2 := K1.out.next b1
       go_wp2_with fail
       go_ret
       exact Did.mk (by rw [Hr.out]; rfl) K2.2
     · have q3 : ((x.g : Int) == (y.g : Int)) = false := by rw [beq_eq_false_iff_ne]; omega
       have q2 : (x.s == y.s) = true := by rw [e2]; exact beq_self_eq_true _
       rw [decide_eq_true e1, decide_eq_true e2, decide_eq_false e3] at Hr
       clear e1 e2 e3
       go_enter Tryz.func84, Tryz.ntmps84
       go_wp2_with fail
       go_ret
       exact Did.mk (by rw [Hr.out]; rfl) K1.out.2
   · have q2 : (x.s == y.s) = false := by rw [beq_eq_false_iff_ne]; exact e2
     rw [decide_eq_true e1, decide_eq_false e2] at Hr
     clear e1 e2
     go_enter Tryz.func84, Tryz.ntmps84
     go_wp2_with fail
     go_ret
     exact Did.mk (by rw [Hr.out]; rfl) K1.out.2
 · have q1 : ((bs x.n).toList == (bs y.n).toList) = false := by rw [list_of, list_of, bs_data, bs_data, beq_eq_false_iff_ne]; exact e1
   rw [decide_eq_false e1] at Hr
   clear e1
   go_enter Tryz.func84, Tryz.ntmps84
   go_wp2_with fail
   go_ret
   exact Did.mk (by rw [Hr.out]; rfl) K1.out.2
end Go.Proofs.YtgmgccepmalahaaGreat
namespace Go.Proofs.YtgmgccepmalahaaGreat
open Go.RowKit Go.ChangeShapes Go.WideShapes
open Whn (Gr Wh)
theorem rmOf_ok {p : Ps} (h : Pok p) : Rok (rmOf p) := ⟨h.1, by unfold I64 rmOf; simp only; omega, by show 0 < 65536; omega, h.2⟩
set_option maxRecDepth 4000 in
set_option maxHeartbeats 1000000 in
theorem p_asRoom (p : Ps) (A : Option Addr) (c : Nat) (w : World) : Calls Tryz.prog 156 #[pv p A c] w (Did (rv (rmOf p) A c) w) := by
 go_enter Tryz.func156, Tryz.ntmps156
 go_wp2_with fail
 go_returns
 exact Did.mk rfl ((below_alloc _ _).alloc (below_alloc _ _).size _)
set_option maxRecDepth 8000 in
set_option maxHeartbeats 4000000 in
theorem p_RightP (g : Gr) (p : Ps) (A : Option Addr) (c : Nat) (hok : Pok p) (hm : p.l.length ≤ maxLen) (w : World) (h : Whs w w.heap.size A p.l) :
 Calls Tryz.prog 127 #[gv g, pv p A c] w (Did (.bool (rmRight g (rmOf p))) w) := by
 have HA := hid (fun X => p_asRoom p A c X)
 have HR := hid (fun X h => p_RightRoom g (rmOf p) A c (rmOf_ok hok) hm X h)
 have H := hid h
 clear h
 obtain ⟨G, W, hG, hW, K0, z0⟩ := (Mem.nil w).one (gc g) 23
 obtain ⟨P, V, hP, hV, K1, z1⟩ := K0.out.one (pc p A c) 57
 clear K0 z0 z1
 change Hid (∀ (X : World) (h : Whs X X.heap.size A p.l), Calls Tryz.prog 123 #[gv g, rv (rmOf p) A c] X (Did (.bool (rmRight g (rmOf p))) X)) at HR
 generalize rmRight g (rmOf p) = ll at *
 go_enter Tryz.func127, Tryz.ntmps127
 go_wp2_with fail
 refine wp_region_held_drew (S := fun X => Mem w X [(P, pc p A c, 57), (G, gc g, 23)]) (by kernel_rfl) K1.out.drew (fun hHeld => ?_)
 refine tkH 0 5 (gv g) rfl rfl (fun X hX => by obtain ⟨q0, q1, q2⟩ := hX.gr (B := G) (g := g) (by simp); clear hX; go_simp) hHeld ?_
 simp only [pt, List.set]
 refine tkH 1 6 (pv p A c) rfl rfl (fun X hX => by obtain ⟨q0, q1⟩ := hX.ps (B := P) (p := p) (A := A) (c := c) (by simp); clear hX; go_simp) hHeld ?_
 simp only [pt, List.set]
 refine wpAnyH_ready (rs := [2]) (by kernel_rfl) (by simp) ?_
 refine AllReadyH.cons rfl (fun KK hK => ?_) AllReadyH.nil
 simp only [List.getElem_toArray, List.getElem_cons_succ, List.getElem_cons_zero]
 go_simp
 refine (HA.out _).mono ?_
 rintro e X1 ⟨rfl, b1⟩
 have K2 := K1.out.drew.next b1
 refine hK.out _ _ K2 (fun hHeld => ?_)
 clear hK KK
 try simp only [pt, List.set]
 refine wpAnyH_ready (rs := [3]) (by kernel_rfl) (by simp) ?_
 refine AllReadyH.cons rfl (fun KK hK => ?_) AllReadyH.nil
 simp only [List.getElem_toArray, List.getElem_cons_succ, List.getElem_cons_zero]
 go_simp
 refine (HR.out _ ((H.out.below K2.2 (Nat.le_refl _)).more K2.2.size)).mono ?_
 rintro e X2 ⟨rfl, b2⟩
 have K3 := K2.next b2
 refine hK.out _ _ K3 (fun hHeld => ?_)
 clear hK KK
 try simp only [pt, List.set]
 refine tkD 4 4 (.bool ll) rfl rfl hHeld ?_
 simp only [pt, List.set]
 refine wpAnyH_done (by kernel_rfl) ?_ _
 go_wp2_with fail
 go_ret
 exact Did.mk rfl K3.2
set_option maxRecDepth 8000 in
set_option maxHeartbeats 4000000 in
theorem p_SameP (x y : Ps) (A A2 : Option Addr) (c c2 : Nat) (hm : x.l.length ≤ maxLen) (w : World) (h : Whs w w.heap.size A x.l) (h2 : Whs w w.heap.size A2 y.l) :
 Calls Tryz.prog 88 #[pv x A c, pv y A2 c2] w (Did (.bool (psEq x y)) w) := by
 have HA := hid (fun X => p_asRoom x A c X)
 have HB := hid (fun X => p_asRoom y A2 c2 X)
 have HR : Hid (∀ (X : World) (h : Whs X X.heap.size A x.l) (h2 : Whs X X.heap.size A2 y.l), Calls Tryz.prog 84 #[rv (rmOf x) A c, rv (rmOf y) A2 c2] X (Did (.bool (psEq x y)) X)) := hid (fun X h h2 => p_SameRoom (rmOf x) (rmOf y) A A2 c c2 hm X h h2)
 have H := hid h
 have H2 := hid h2
 clear h h2
 obtain ⟨P, W, hP, hW, K0, z0⟩ := (Mem.nil w).one (pc x A c) 57
 obtain ⟨D, V, hD, hV, K1, z1⟩ := K0.out.one (pc y A2 c2) 57
 clear K0 z0 z1
 generalize psEq x y = ll at *
 go_enter Tryz.func88, Tryz.ntmps88
 go_wp2_with fail
 refine wp_region_held_drew (S := fun X => Mem w X [(D, pc y A2 c2, 57), (P, pc x A c, 57)]) (by kernel_rfl) K1.out.drew (fun hHeld => ?_)
 refine tkH 0 5 (pv x A c) rfl rfl (fun X hX => by obtain ⟨q0, q1⟩ := hX.ps (B := P) (p := x) (A := A) (c := c) (by simp); clear hX; go_simp) hHeld ?_
 simp only [pt, List.set]
 refine tkH 2 7 (pv y A2 c2) rfl rfl (fun X hX => by obtain ⟨q0, q1⟩ := hX.ps (B := D) (p := y) (A := A2) (c := c2) (by simp); clear hX; go_simp) hHeld ?_
 simp only [pt, List.set]
 refine wpAnyH_ready (rs := [1]) (by kernel_rfl) (by simp) ?_
 refine AllReadyH.cons rfl (fun KK hK => ?_) AllReadyH.nil
 simp only [List.getElem_toArray, List.getElem_cons_succ, List.getElem_cons_zero]
 go_simp
 refine (HA.out _).mono ?_
 rintro e X1 ⟨rfl, b1⟩
 have K2 := K1.out.drew.next b1
 refine hK.out _ _ K2 (fun hHeld => ?_)
 clear hK KK
 try simp only [pt, List.set]
 refine wpAnyH_ready (rs := [3]) (by kernel_rfl) (by simp) ?_
 refine AllReadyH.cons rfl (fun KK hK => ?_) AllReadyH.nil
 simp only [List.getElem_toArray, List.getElem_cons_succ, List.getElem_cons_zero]
 go_simp
 refine (HB.out _).mono ?_
 rintro e X2 ⟨rfl, b2⟩
 have K3 := K2.next b2
 refine hK.out _ _ K3 (fun hHeld => ?_)
 clear hK KK
 try simp only [pt, List.set]
 refine wpAnyH_ready (rs := [4]) (by kernel_rfl) (by simp) ?_
 refine AllReadyH.cons rfl (fun KK hK => ?_) AllReadyH.nil
 simp only [List.getElem_toArray, List.getElem_cons_succ, List.getElem_cons_zero]
 go_simp
 refine (HR.out _ ((H.out.below K3.2 (Nat.le_refl _)).more K3.2.size) ((H2.out.below K3.2 (Nat.le_refl _)).more K3.2.size)).mono ?_
 rintro e X3 ⟨rfl, b3⟩
 have K4 := K3.next b3
 refine hK.out _ _ K4 (fun hHeld => ?_)
 clear hK KK
 try simp only [pt, List.set]
 refine tkD 5 4 (.bool ll) rfl rfl hHeld ?_
 simp only [pt, List.set]
 refine wpAnyH_done (by kernel_rfl) ?_ _
 go_wp2_with fail
 go_ret
 exact Did.mk rfl K4.2
end Go.Proofs.YtgmgccepmalahaaGreat
namespace Go.Proofs.YtgmgccepmalahaaGreat
open Go.RowKit
open Whn (Gr Wh)
theorem p_withinM (n lo hi : Int) (w : World) : Calls Tryz.prog 147 #[.int .i64 n, .int .i64 lo, .int .i64 hi] w (fun e w' => e = .returned (.bool (frB n lo hi)) ∧ w = w') := by
 by_cases h1 : lo ≤ n
 · have h2 := hid (show decide (n ≤ hi) = frB n lo hi by show _ = frB n (lo) (hi); unfold frB; rw [decide_eq_true h1, Bool.true_and])
   go_enter Tryz.func147, Tryz.ntmps147
   go_wp2_with fail
   go_ret
   exact ⟨congrArg (fun z => Ending.returned (Value.bool z)) h2.out, rfl⟩
 · have h2 := hid (show false = frB n lo hi by show _ = frB n (lo) (hi); unfold frB; rw [decide_eq_false h1, Bool.false_and])
   go_enter Tryz.func147, Tryz.ntmps147
   go_wp2_with fail
   go_ret
   exact ⟨congrArg (fun z => Ending.returned (Value.bool z)) h2.out, rfl⟩
theorem p_ofPairs (n : Int) (w : World) : Calls Tryz.prog 148 #[.int .i64 n] w (fun e w' => e = .returned (.bool (kn15 n)) ∧ w = w') := by
 have H1 := hid (fun X => p_withinM n 1 14 X)
 have h2 := hid (show frB n 1 14 = kn15 n from rfl)
 generalize frB n 1 14 = f1 at *
 go_enter Tryz.func148, Tryz.ntmps148
 go_wp2_with fail
 refine (H1.out _).mono ?_
 rintro e w1 ⟨rfl, rfl⟩
 go_wp2_with fail
 go_ret
 exact ⟨congrArg (fun z => Ending.returned (Value.bool z)) h2.out, rfl⟩
theorem p_RightM (k a b : Int) (w : World) : Calls Tryz.prog 60 #[.int .i64 k, .int .i64 a, .int .i64 b] w (fun e w' => e = .returned (.bool (rtV k a b)) ∧ w = w') := by
 by_cases h21 : k = 21
 · subst h21
   have Hr := hid (show rtV 21 a b = (frB a 1 7 && (b == 0)) from (by unfold rtV; simp [deq]))
   have H1 := hid (fun X => p_withinM a 1 7 X)
   generalize frB a 1 7 = f1 at *
   generalize rtV 21 a b = q at *
   go_enter Tryz.func60, Tryz.ntmps60
   go_wp2_with fail
   refine (H1.out _).mono ?_
   rintro e w1 ⟨rfl, rfl⟩
   cases f1 with
   | false =>
    go_wp2_with fail
    go_ret
    exact ⟨congrArg (fun z => Ending.returned (Value.bool z)) (by rw [Hr.out]; rfl), rfl⟩
   | true =>
    go_wp2_with fail
    go_ret
    exact ⟨congrArg (fun z => Ending.returned (Value.bool z)) (by rw [Hr.out, Bool.true_and]), rfl⟩
 by_cases h22 : k = 22
 · subst h22
   have Hr := hid (show rtV 22 a b = (frB a 1 96 && (b == 0)) from (by unfold rtV; simp [deq]))
   have H1 := hid (fun X => p_withinM a 1 96 X)
   generalize frB a 1 96 = f1 at *
   generalize rtV 22 a b = q at *
   go_enter Tryz.func60, Tryz.ntmps60
   go_wp2_with fail
   refine (H1.out _).mono ?_
   rintro e w1 ⟨rfl, rfl⟩
   cases f1 with
   | false =>
    go_wp2_with fail
    go_ret
    exact ⟨congrArg (fun z => Ending.returned (Value.bool z)) (by rw [Hr.out]; rfl), rfl⟩
   | true =>
    go_wp2_with fail
    go_ret
    exact ⟨congrArg (fun z => Ending.returned (Value.bool z)) (by rw [Hr.out, Bool.true_and]), rfl⟩
 by_cases h13 : k = 13
 · subst h13
   have Hr := hid (show rtV 13 a b = (frB a 1 96 && (b == 0)) from (by unfold rtV; simp [deq]))
   have H1 := hid (fun X => p_withinM a 1 96 X)
   generalize frB a 1 96 = f1 at *
   generalize rtV 13 a b = q at *
   go_enter Tryz.func60, Tryz.ntmps60
   go_wp2_with fail
   refine (H1.out _).mono ?_
   rintro e w1 ⟨rfl, rfl⟩
   cases f1 with
   | false =>
    go_wp2_with fail
    go_ret
    exact ⟨congrArg (fun z => Ending.returned (Value.bool z)) (by rw [Hr.out]; rfl), rfl⟩
   | true =>
    go_wp2_with fail
    go_ret
    exact ⟨congrArg (fun z => Ending.returned (Value.bool z)) (by rw [Hr.out, Bool.true_and]), rfl⟩
 by_cases h23 : k = 23
 · subst h23
   have Hr := hid (show rtV 23 a b = (frB a 0 48 && frB b 0 96) from rfl)
   have H1 := hid (fun X => p_withinM a 0 48 X)
   have H2 := hid (fun X => p_withinM b 0 96 X)
   generalize frB a 0 48 = f1 at *
   generalize frB b 0 96 = f2 at *
   generalize rtV 23 a b = q at *
   go_enter Tryz.func60, Tryz.ntmps60
   go_wp2_with fail
   refine (H1.out _).mono ?_
   rintro e w1 ⟨rfl, rfl⟩
   cases f1 with
   | false =>
    go_wp2_with fail
    go_ret
    exact ⟨congrArg (fun z => Ending.returned (Value.bool z)) (by rw [Hr.out]; rfl), rfl⟩
   | true =>
    go_wp2_with fail
    refine (H2.out _).mono ?_
    rintro e w2 ⟨rfl, rfl⟩
    go_wp2_with fail
    go_ret
    exact ⟨congrArg (fun z => Ending.returned (Value.bool z)) (by rw [Hr.out]; rfl), rfl⟩
 by_cases h24 : k = 24
 · subst h24
   have Hr := hid (show rtV 24 a b = (frB a 1 96 && frB b 0 96) from rfl)
   have H1 := hid (fun X => p_withinM a 1 96 X)
   have H2 := hid (fun X => p_withinM b 0 96 X)
   generalize frB a 1 96 = f1 at *
   generalize frB b 0 96 = f2 at *
   generalize rtV 24 a b = q at *
   go_enter Tryz.func60, Tryz.ntmps60
   go_wp2_with fail
   refine (H1.out _).mono ?_
   rintro e w1 ⟨rfl, rfl⟩
   cases f1 with
   | false =>
    go_wp2_with fail
    go_ret
    exact ⟨congrArg (fun z => Ending.returned (Value.bool z)) (by rw [Hr.out]; rfl), rfl⟩
   | true =>
    go_wp2_with fail
    refine (H2.out _).mono ?_
    rintro e w2 ⟨rfl, rfl⟩
    go_wp2_with fail
    go_ret
    exact ⟨congrArg (fun z => Ending.returned (Value.bool z)) (by rw [Hr.out]; rfl), rfl⟩
 have Hr := hid (show rtV k a b = (kn15 k && ((a == 0) && (b == 0))) by
  unfold rtV
  rw [if_neg h21, if_neg (by omega), if_neg h23, if_neg h24, deq, deq])
 have H1 := hid (fun X => p_ofPairs k X)
 have q1 : (k == 21) = false := by rw [beq_eq_false_iff_ne]; exact h21
 have q2 : (k == 22) = false := by rw [beq_eq_false_iff_ne]; exact h22
 have q3 : (k == 13) = false := by rw [beq_eq_false_iff_ne]; exact h13
 have q4 : (k == 23) = false := by rw [beq_eq_false_iff_ne]; exact h23
 have q5 : (k == 24) = false := by rw [beq_eq_false_iff_ne]; exact h24
 clear h21 h22 h13 h23 h24
 generalize rtV k a b = q at *
 generalize kn15 k = f1 at *
 go_enter Tryz.func60, Tryz.ntmps60
 go_wp2_with fail
 refine (H1.out _).mono ?_
 rintro e w1 ⟨rfl, rfl⟩
 cases f1 with
 | false =>
  go_wp2_with fail
  go_ret
  exact ⟨congrArg (fun z => Ending.returned (Value.bool z)) (by rw [Hr.out]; rfl), rfl⟩
 | true =>
  cases h1 : (a == 0) with
  | false =>
   rw [h1] at Hr
   go_wp2_with fail
   go_ret
   exact ⟨congrArg (fun z => Ending.returned (Value.bool z)) (by rw [Hr.out]; rfl), rfl⟩
  | true =>
   rw [h1] at Hr
   go_wp2_with fail
   go_ret
   exact ⟨congrArg (fun z => Ending.returned (Value.bool z)) (by rw [Hr.out]; rfl), rfl⟩
end Go.Proofs.YtgmgccepmalahaaGreat
