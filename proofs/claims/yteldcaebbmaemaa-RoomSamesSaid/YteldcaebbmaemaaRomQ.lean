/- Contracts of the program's own functions of layer 11 (room): square, RightWalk. -/
import Derived.Test.YteldcaebbmaemaaRomO
namespace Go.Proofs.Yteldcaebbmaemaa
open Go.RowKit

def sqB (n : Int) (ls : List (List Int)) : Bool := decide ((ls.length : Int) = n ∧ ∀ r ∈ ls, (r.length : Int) = n)
set_option maxHeartbeats 1000000 in
theorem p_square (A : Option Addr) (c : Nat) (ls : List (List Int)) (hm : ls.length ≤ maxLen) (n : Int) (w : World) (h : Rows2 w w.heap.size A ls) :
    Calls Try.prog 46 #[.int .i64 n, .slice A ls.length c] w (fun e w' => e = .returned (.bool (sqB n ls)) ∧ w = w') := by
  unfold maxLen at hm
  by_cases hn : (ls.length : Int) = n
  · have H := hid h
    clear h
    subst hn
    go_enter Try.func46, Try.ntmps46
    go_wp2_with fail
    go_loopw [13] (fun i wr => ∃ (k : Nat), i = .int .i64 k ∧ k ≤ ls.length ∧ w = wr ∧ Hid (∀ r ∈ ls.take k, (r.length : Int) = (ls.length : Int))) (fun i _ => ls.length - (intOf i).toNat)
    case atStart => exact ⟨0, rfl, Nat.zero_le _, rfl, hid (fun y hy => by simp at hy)⟩
    case round =>
      obtain ⟨k, rfl, hk, rfl, hsame⟩ := hrel
      by_cases hlt : k < ls.length
      · obtain ⟨ad, r, Ak, ck, rfl, had, hr, hc, hI, hck⟩ := rows2_ad H.out hlt
        have b1 : (0 : Int) ≤ (k : Int) := by omega
        have b2 : (k : Int) < ls.length := by omega
        have hmem := hid (List.mem_of_getElem? hr.out)
        by_cases he : (r.length : Int) = (ls.length : Int)
        · have he1 : ((r.length : Int) != (ls.length : Int)) = false := by rw [bne_eq_false_iff_eq]; exact he
          have He := hid he
          clear he hI
          go_wp2_with fail
          refine ⟨⟨k + 1, by go_num, by omega, ?_⟩, by simp [intOf]; omega⟩
          refine ⟨trivial, hid (fun z hz => ?_)⟩
          rw [List.take_add_one, hr.out, List.mem_append] at hz
          rcases hz with hz | hz
          · exact hsame.out z hz
          · simp at hz
            rw [hz]; exact He.out
        · have he1 : ((r.length : Int) != (ls.length : Int)) = true := by rw [bne_iff_ne]; exact he
          have Hr := hid (show sqB (ls.length : Int) ls = false by
            unfold sqB
            rw [decide_eq_false_iff_not]
            exact fun hh => he (hh.2 r hmem.out))
          clear he hI
          go_wp2_with fail
          go_ret
          exact ⟨by rw [Hr.out]; rfl, rfl⟩
      · have Hr := hid (show sqB (ls.length : Int) ls = true by
          unfold sqB
          rw [decide_eq_true_iff]
          refine ⟨rfl, fun r hr => hsame.out r ?_⟩
          rw [List.take_of_length_le (by omega)]; exact hr)
        have b2 : ¬ (k : Int) < ls.length := by omega
        go_wp2_with fail
        go_ret
        exact ⟨by rw [Hr.out]; rfl, rfl⟩
  · have Hr := hid (show sqB n ls = false by
      unfold sqB
      rw [decide_eq_false_iff_not]
      exact fun hh => hn hh.1)
    have hb : ((ls.length : Int) != n) = true := by rw [bne_iff_ne]; exact hn
    clear h hn
    go_enter Try.func46, Try.ntmps46
    go_wp2_with fail
    go_ret
    exact ⟨by rw [Hr.out]; rfl, rfl⟩
theorem rwOk_of (n : Int) (ls : List (List Int)) : rwOk n ls = (inB n 0 24 && (sqB n ls && decide (∀ i, i < ls.length → cl ls i i = 0 ∧ ∀ k, k < ls.length → 0 ≤ cl ls i k ∧ cl ls i k ≤ 96 ∧ cl ls i k = cl ls k i))) := by
  unfold rwOk inB sqB cok
  rw [Bool.eq_iff_iff]
  simp only [Bool.and_eq_true, decide_eq_true_iff]
  constructor
  · rintro ⟨h1, h2, h3, h4, h5⟩
    refine ⟨⟨h1, h2⟩, ⟨h3, fun r hr => by rw [h4 r hr]; exact h3⟩, fun i hi => ⟨(h5 i hi i hi).2.2.2 rfl, fun k hk => ?_⟩⟩
    obtain ⟨q1, q2, q3, _⟩ := h5 i hi k hk
    exact ⟨q1, q2, q3⟩
  · rintro ⟨⟨h1, h2⟩, ⟨h3, h4⟩, h5⟩
    refine ⟨h1, h2, h3, fun r hr => by have := h4 r hr; omega, fun i hi k hk => ?_⟩
    obtain ⟨q0, q1⟩ := h5 i hi
    obtain ⟨q1, q2, q3⟩ := q1 k hk
    exact ⟨q1, q2, q3, fun e => by subst e; exact q0⟩
set_option maxHeartbeats 4000000 in
theorem p_RightWalk (A : Option Addr) (c : Nat) (ls : List (List Int)) (hm : ls.length ≤ maxLen) (n : Int) (w : World) (h : Rows2 w w.heap.size A ls) :
    Calls Try.prog 22 #[.int .i64 n, .slice A ls.length c] w (Did (.bool (rwOk n ls)) w) := by
  have HI := hid (fun n a b w => p_wi n a b w)
  have HS := hid (p_square A c ls hm n w h)
  unfold maxLen at hm
  have Hr := hid (rwOk_of n ls)
  have H := hid h
  clear h
  generalize rwOk n ls = q at *
  cases h1 : inB n 0 24 with
  | false =>
    rw [h1] at Hr
    have HI1 := hid (HI.out n 0 24 w)
    rw [h1] at HI1
    go_enter Try.func22, Try.ntmps22
    go_wp2_with fail
    refine HI1.out.mono ?_
    rintro e w1 ⟨rfl, rfl⟩
    go_wp2_with fail
    go_ret
    exact Did.mk (by rw [Hr.out]; rfl) (Below.refl _ _)
  | true =>
    rw [h1] at Hr
    have HI1 := hid (HI.out n 0 24 w)
    rw [h1] at HI1
    cases h2 : sqB n ls with
    | false =>
      rw [h2] at HS Hr
      go_enter Try.func22, Try.ntmps22
      go_wp2_with fail
      refine HI1.out.mono ?_
      rintro e w1 ⟨rfl, rfl⟩
      go_wp2_with fail
      refine HS.out.mono ?_
      rintro e w1 ⟨rfl, rfl⟩
      go_wp2_with fail
      go_ret
      exact Did.mk (by rw [Hr.out]; rfl) (Below.refl _ _)
    | true =>
      rw [h2] at HS Hr
      obtain ⟨q1, q2⟩ : (ls.length : Int) = n ∧ ∀ r ∈ ls, (r.length : Int) = n := by
        unfold sqB at h2
        exact of_decide_eq_true h2
      have hq : ∀ r ∈ ls, r.length = ls.length := fun r hr => by have := q2 r hr; omega
      have Hq := hid hq
      have hl24 : ls.length ≤ 24 := by
        unfold inB at h1
        rw [Bool.and_eq_true, decide_eq_true_iff, decide_eq_true_iff] at h1
        omega
      clear h1 h2 q1 q2 hq
      go_enter Try.func22, Try.ntmps22
      go_wp2_with fail
      refine HI1.out.mono ?_
      rintro e w1 ⟨rfl, rfl⟩
      go_wp2_with fail
      refine HS.out.mono ?_
      rintro e w1 ⟨rfl, rfl⟩
      go_wp2_with fail
      rw [Bool.true_and, Bool.true_and] at Hr
      go_loopw [20] (fun i wr => ∃ (k : Nat), i = .int .i64 k ∧ k ≤ ls.length ∧ w = wr ∧ Hid (∀ i, i < k → cl ls i i = 0 ∧ ∀ k, k < ls.length → 0 ≤ cl ls i k ∧ cl ls i k ≤ 96 ∧ cl ls i k = cl ls k i)) (fun i _ => ls.length - (intOf i).toNat)
      case atStart => exact ⟨0, rfl, Nat.zero_le _, rfl, hid (fun y hy => absurd hy (Nat.not_lt_zero _))⟩
      case round =>
        obtain ⟨k, rfl, hk, rfl, hsame⟩ := hrel
        by_cases hlt : k < ls.length
        · obtain ⟨ad, r, Ak, ck, rfl, had, hr, hc, hI, hck⟩ := rows2_ad H.out hlt
          have hrl : r.length = ls.length := Hq.out r (List.mem_of_getElem? hr.out)
          have b1 : (0 : Int) ≤ (k : Int) := by omega
          have b2 : (k : Int) < ls.length := by omega
          have Hrl := hid hrl
          have b3 : (k : Int) < r.length := by omega
          have hkr : k < r.length := by omega
          obtain ⟨ad2, x, rfl, had2, hx, hc2⟩ := hI.get hkr
          have hcx := hid (cl_of hr.out hx.out)
          have HIr := hid hI
          clear hrl hI
          by_cases h0 : x = 0
          · subst h0
            go_wp2_with fail
            go_loopw [32] (fun i wr => ∃ (j : Nat), i = .int .i64 j ∧ j ≤ r.length ∧ w = wr ∧ Hid (∀ i, i < j → 0 ≤ cl ls k i ∧ cl ls k i ≤ 96 ∧ cl ls k i = cl ls i k)) (fun i _ => r.length - (intOf i).toNat)
            case atStart => exact ⟨0, rfl, Nat.zero_le _, rfl, hid (fun y hy => absurd hy (Nat.not_lt_zero _))⟩
            case round =>
              obtain ⟨j, rfl, hj, rfl, hsame2⟩ := hrel
              by_cases hjl : j < r.length
              · obtain ⟨ad3, y, e3, _, hy, hcy⟩ := HIr.out.get hjl
                injection e3 with e3
                subst e3
                have hcj := hid (cl_of hr.out hy.out)
                have hjl2 : j < ls.length := by have := Hrl.out; omega
                obtain ⟨ad4, r2, Ak2, ck2, e4, _, hr2, hcr2, hI2, hck2⟩ := rows2_ad H.out hjl2
                injection e4 with e4
                subst e4
                have hrl2 : r2.length = ls.length := Hq.out r2 (List.mem_of_getElem? hr2.out)
                have hkr2 : k < r2.length := by omega
                obtain ⟨ad5, z, rfl, had5, hz, hcz⟩ := hI2.get hkr2
                have hct := hid (cl_of hr2.out hz.out)
                have b5 : (0 : Int) ≤ (j : Int) := by omega
                have b6 : (j : Int) < r.length := by omega
                have b7 : (j : Int) < ls.length := by omega
                have b8 : (k : Int) < r2.length := by omega
                clear hI2 hrl2
                cases hin : inB y 0 96 with
                | false =>
                  have HI2 := hid (HI.out y 0 96 w)
                  rw [hin] at HI2
                  have Hf := hid (show decide (∀ i, i < ls.length → cl ls i i = 0 ∧ ∀ k, k < ls.length → 0 ≤ cl ls i k ∧ cl ls i k ≤ 96 ∧ cl ls i k = cl ls k i) = false by
                    rw [decide_eq_false_iff_not]
                    intro hh
                    obtain ⟨p1, p2, p3⟩ := (hh k hlt).2 j hjl2
                    rw [hcj.out] at p1 p2
                    rw [inB_true p1 p2] at hin
                    cases hin)
                  clear hin
                  go_wp2_with fail
                  refine HI2.out.mono ?_
                  rintro e w1 ⟨rfl, rfl⟩
                  go_wp2_with fail
                  go_ret
                  exact Did.mk (by rw [Hr.out, Hf.out]; rfl) (Below.refl _ _)
                | true =>
                  have HI2 := hid (HI.out y 0 96 w)
                  rw [hin] at HI2
                  obtain ⟨p1, p2⟩ : 0 ≤ y ∧ y ≤ 96 := by
                    unfold inB at hin
                    rw [Bool.and_eq_true, decide_eq_true_iff, decide_eq_true_iff] at hin
                    exact hin
                  clear hin
                  by_cases hyz : y = z
                  · subst hyz
                    have Hp := hid (show 0 ≤ cl ls k j ∧ cl ls k j ≤ 96 ∧ cl ls k j = cl ls j k by
                      rw [hcj.out, hct.out]; exact ⟨p1, p2, rfl⟩)
                    clear p1 p2
                    go_wp2_with fail
                    refine HI2.out.mono ?_
                    rintro e w1 ⟨rfl, rfl⟩
                    go_wp2_with fail
                    refine ⟨⟨j + 1, by go_num, by omega, ?_⟩, by simp [intOf]; omega⟩
                    refine ⟨trivial, hid (fun i hi => ?_)⟩
                    by_cases e : i = j
                    · subst e; exact Hp.out
                    · exact hsame2.out i (by omega)
                  · have hne : (y != z) = true := by rw [bne_iff_ne]; exact hyz
                    have Hf := hid (show decide (∀ i, i < ls.length → cl ls i i = 0 ∧ ∀ k, k < ls.length → 0 ≤ cl ls i k ∧ cl ls i k ≤ 96 ∧ cl ls i k = cl ls k i) = false by
                      rw [decide_eq_false_iff_not]
                      intro hh
                      have p3 := ((hh k hlt).2 j hjl2).2.2
                      rw [hcj.out, hct.out] at p3
                      exact hyz p3)
                    clear hyz p1 p2
                    go_wp2_with fail
                    refine HI2.out.mono ?_
                    rintro e w1 ⟨rfl, rfl⟩
                    go_wp2_with fail
                    go_ret
                    exact Did.mk (by rw [Hr.out, Hf.out]; rfl) (Below.refl _ _)
              · have b6 : ¬ (j : Int) < r.length := by omega
                have Hall := hid (show cl ls k k = 0 ∧ ∀ i, i < ls.length → 0 ≤ cl ls k i ∧ cl ls k i ≤ 96 ∧ cl ls k i = cl ls i k from
                  ⟨hcx.out, fun i hi => hsame2.out i (by have := Hrl.out; omega)⟩)
                go_wp2_with fail
                refine ⟨⟨k + 1, by go_num, by omega, ?_⟩, by simp [intOf]; omega⟩
                refine ⟨trivial, hid (fun i hi => ?_)⟩
                by_cases e : i = k
                · subst e; exact Hall.out
                · exact hsame.out i (by omega)
          · have hne : (x != 0) = true := by rw [bne_iff_ne]; exact h0
            have Hf := hid (show decide (∀ i, i < ls.length → cl ls i i = 0 ∧ ∀ k, k < ls.length → 0 ≤ cl ls i k ∧ cl ls i k ≤ 96 ∧ cl ls i k = cl ls k i) = false by
              rw [decide_eq_false_iff_not]
              intro hh
              have := (hh k hlt).1
              rw [hcx.out] at this
              exact h0 this)
            clear h0
            go_wp2_with fail
            go_ret
            exact Did.mk (by rw [Hr.out, Hf.out]; rfl) (Below.refl _ _)
        · have Hf := hid (show decide (∀ i, i < ls.length → cl ls i i = 0 ∧ ∀ k, k < ls.length → 0 ≤ cl ls i k ∧ cl ls i k ≤ 96 ∧ cl ls i k = cl ls k i) = true by
            rw [decide_eq_true_iff]
            intro i hi
            exact hsame.out i (by omega))
          have b2 : ¬ (k : Int) < ls.length := by omega
          go_wp2_with fail
          go_ret
          exact Did.mk (by rw [Hr.out, Hf.out]; rfl) (Below.refl _ _)
end Go.Proofs.Yteldcaebbmaemaa
