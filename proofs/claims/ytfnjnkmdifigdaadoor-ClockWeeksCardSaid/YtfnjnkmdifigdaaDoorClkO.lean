/- Contracts of the document's own answer for layer 10 (clock): ParseWeeks. -/
import Derived.Test.YtfnjnkmdifigdaaDoorClkN
namespace Go.Proofs.YtfnjnkmdifigdaaDoor
open Go.RowKit

namespace Clk
theorem ahd_ge {m : Nat} {l : List (Nat × Nat)} (h : Ris m l) : (m : Int) ≤ ahd m l := by
  induction l generalizing m with
  | nil => exact Int.le_refl _
  | cons p l ih =>
    obtain ⟨h1, h2, h3⟩ := h
    have := ih h3
    rw [ahd_cons]
    have e : ((p.2 : Int) + 2) = ((p.2 + 2 : Nat) : Int) := by omega
    rw [e]
    omega
theorem has_ahd {m k : Nat} {l : List (Nat × Nat)} (h : Ris m l) (hk : ahd m l ≤ (k : Int) + 1) : has l k = false := by
  induction l generalizing m with
  | nil => rfl
  | cons p l ih =>
    obtain ⟨h1, h2, h3⟩ := h
    rw [ahd_cons] at hk
    have e : ((p.2 : Int) + 2) = ((p.2 + 2 : Nat) : Int) := by omega
    rw [e] at hk
    have := ahd_ge h3
    rw [has_cons, ih h3 hk, decide_eq_false (by omega)]
    rfl
theorem Got.ris {s : List UInt8} {a : List (List UInt8)} {l : List (Nat × Nat)} (h : Got s a l) : Ris 0 l := (ris_iff 0 l (fun p hp => ((rps_back h.r).2 p hp).1)).1 h.b
theorem Got.has {s : List UInt8} {a : List (List UInt8)} {l : List (Nat × Nat)} (h : Got s a l) {k : Nat} (hk : ah l < (k : Int)) : has l k = false := has_ahd h.ris (by unfold ah at hk; show ahd ((0 : Nat) : Int) l ≤ _; simp only [Int.natCast_zero]; omega)
theorem wof_end (l : List (Nat × Nat)) (a b k : Nat) (h1 : max a 1 ≤ k) (h2 : k ≤ max (max a 1) (min b 20 + 1)) (h3 : ¬ k ≤ min b 20) : wof (l ++ [(a, k - 1)]) = wof (l ++ [(a, b)]) := by
  refine wof_ext fun j hj => ?_
  rw [has_append, has_append]
  congr 1
  rw [has_cons, has_cons]
  show (decide (a ≤ j + 1 ∧ j + 1 ≤ k - 1) || false) = (decide (a ≤ j + 1 ∧ j + 1 ≤ b) || false)
  rw [Bool.or_false, Bool.or_false, decide_eq_decide]
  omega
theorem wof_start (l : List (Nat × Nat)) (a : Nat) : wof (l ++ [(a, max a 1 - 1)]) = wof l := wof_none l a _ (by omega)
end Clk
/-- what ParseWeeks hands out -/
def rpkV (s : List UInt8) : Value := .tuple #[.int .u32 ((Clk.pwk s).1 : Int), .int .i64 ((Clk.pwk s).2 : Int)]
def inrr (l : List (Nat × Nat)) : Bool := l.all fun p => decide (1 ≤ p.1 ∧ p.2 ≤ 20)
theorem inrr_snoc (l : List (Nat × Nat)) (p : Nat × Nat) : inrr (l ++ [p]) = (inrr l && decide (1 ≤ p.1 ∧ p.2 ≤ 20)) := by
  unfold inrr
  rw [List.all_append]
  simp
set_option maxRecDepth 10000 in
set_option maxHeartbeats 2000000 in
theorem r10_ParseWeeks (s : List UInt8) (hs : s.length ≤ 300000) (w : World) : Calls Tryd.prog 17 #[txt s] w (Did (rpkV s) w) := by
  have HC := hid (fun w => r_Cut (bs s) 44 (by rw [bs_size]; exact hs) w)
  unfold RowRet at HC
  rw [bs_data] at HC
  have hpl := fun p h => Wrd.cut_part_len 44 s p h
  have hcl := Wrd.cut_len 44 s
  obtain ⟨PS, hPS⟩ : ∃ PS, Wrd.cut 44 s = PS := ⟨_, rfl⟩
  have HPS := hid hPS
  rw [hPS] at HC hpl hcl
  clear hPS
  obtain ⟨N, hN⟩ : ∃ N, PS.length = N := ⟨_, rfl⟩
  have HN := hid hN
  rw [hN] at HC hcl
  clear hN
  go_enter Tryd.func17, Tryd.ntmps17
  go_wp2_with fail
  refine (HC.out _).mono ?_
  rintro e w1 ⟨A, c, rfl, hst, b1⟩
  have Hst := hid hst
  clear hst
  go_wp2_with fail
  go_loopw [5, 6, 7, 8] (fun wv lv ov iv wr => ∃ (i : Nat) (l : List (Nat × Nat)) (o : Bool) (x : Nat), iv = .int .i64 i ∧ i ≤ N ∧ lv = .int .i64 (Clk.ah l) ∧ ov = .bool o ∧ wv = .int .u32 (x : Int) ∧ x < 2 ^ 20 ∧ Hid (Clk.Got s (PS.take i) l) ∧ Hid (o = !inrr l) ∧ Hid (x = Clk.wof l) ∧ -2 ≤ Clk.ah l ∧ Clk.ah l ≤ 99 ∧ Below w.heap.size w wr ∧ Hid (Strs wr wr.heap.size A PS)) (fun _ _ _ iv _ => N - (intOf iv).toNat)
  case atStart => exact ⟨0, [], false, 0, rfl, Nat.zero_le _, rfl, rfl, rfl, by decide, Clk.Got.start s, rfl, Clk.wof_nil.symm, by decide, by decide, b1, Hst⟩
  case round =>
    obtain ⟨i, l, o, x, rfl, hi, rfl, rfl, rfl, hx, Hgot, Ho, Hxw, hz1, hz2, hb, Hst1⟩ := hrel
    have hbs := hb.size
    clear Hst
    by_cases hlt : i < N
    · obtain ⟨ad, rfl, _, hcell⟩ := Strs.at_ Hst1.out (k := i) (by rw [HN.out]; exact hlt)
      have hlen : i < PS.length := by rw [HN.out]; exact hlt
      have htl := hpl PS[i] (List.getElem_mem _)
      have Htk := hid (show PS.take (i + 1) = PS.take i ++ [PS[i]] from List.take_succ_eq_append_getElem hlen)
      have Hsp := hid (show Wrd.cut 44 s = PS.take i ++ PS[i] :: PS.drop (i + 1) by rw [HPS.out, ← List.drop_eq_getElem_cons hlen, List.take_append_drop])
      have HR := hid (fun w => r_run PS[i] (by omega) w)
      generalize PS[i] = t at *
      clear hlen hpl
      have HR1 := hid (HR.out wr)
      unfold RpRet at HR1
      have Hhid := hid (show Calls Tryd.prog 39 #[txt t] wr _ from HR1.out)
      clear HR HR1
      cases hrp : Clk.rp t with
      | none =>
        have HR2 := hid (show Calls Tryd.prog 39 #[txt t] wr (fun e w' => (∃ x y : Int, e = .returned (.tuple #[.int .i64 x, .int .i64 y, .bool false])) ∧ Below wr.heap.size wr w') from Hhid.out.mono fun e w' h => by
          obtain ⟨⟨p, h1, _⟩ | ⟨x, y, _, h2⟩, h3⟩ := h
          · rw [hrp] at h1; cases h1
          · exact ⟨⟨x, y, h2⟩, h3⟩)
        have Hr := hid (show rpkV s = .tuple #[.int .u32 0, .int .i64 3] by unfold rpkV; rw [Clk.rows_bad1 Hsp.out hrp]; rfl)
        clear hrp Hhid
        generalize Clk.ah l = z at *
        go_wp2_with fail
        refine (HR2.out).mono ?_
        rintro e w2 ⟨⟨x, y, rfl⟩, b2⟩
        go_wp2_with fail
        go_ret2
        exact Did.mk Hr.out.symm (hb.trans (b2.mono hbs))
      | some p =>
        have HR2 := hid (show Calls Tryd.prog 39 #[txt t] wr (fun e w' => e = .returned (.tuple #[.int .i64 (p.1 : Int), .int .i64 (p.2 : Int), .bool true]) ∧ Below wr.heap.size wr w') from Hhid.out.mono fun e w' h => by
          obtain ⟨⟨q, h1, _, _, h2⟩ | ⟨x, y, h1, _⟩, h3⟩ := h
          · rw [hrp] at h1
            injection h1 with h1
            subst h1
            exact ⟨h2, h3⟩
          · rw [hrp] at h1; cases h1)
        obtain ⟨_, q2, q3⟩ := Clk.rp_back hrp
        by_cases hlow : (p.1 : Int) < Clk.ah l + 2
        · have Hr := hid (show rpkV s = .tuple #[.int .u32 0, .int .i64 3] by unfold rpkV; rw [Clk.rows_bad2 Hsp.out Hgot.out hrp hlow]; rfl)
          clear hrp Hhid
          generalize Clk.ah l = z at *
          generalize p.1 = p1 at *
          generalize p.2 = p2 at *
          go_wp2_with fail
          refine (HR2.out).mono ?_
          rintro e w2 ⟨rfl, b2⟩
          go_wp2_with fail
          go_ret2
          exact Did.mk Hr.out.symm (hb.trans (b2.mono hbs))
        · have Hg2 := hid (show Clk.Got s (PS.take (i + 1)) (l ++ [p]) by rw [Htk.out]; exact Hgot.out.next hrp (by omega))
          have Hah := hid (Clk.ah_snoc l p)
          have hah1 : -2 ≤ Clk.ah (l ++ [p]) := by rw [Clk.ah_snoc]; omega
          have hah2 : Clk.ah (l ++ [p]) ≤ 99 := by rw [Clk.ah_snoc]; omega
          have Hb1 := hid hah1
          have Hb2 := hid hah2
          have Hhas := hid (fun (k : Nat) (hk : p.1 ≤ k) => Hgot.out.has (k := k) (by omega))
          have Hin := hid (inrr_snoc l p)
          have Hpe := hid (show l ++ [p] = l ++ [(p.1, p.2)] from rfl)
          clear hrp Hhid hah1 hah2
          generalize Clk.ah l = z at *
          generalize hp1 : p.1 = p1 at *
          generalize hp2 : p.2 = p2 at *
          have Hp1 := hid hp1
          have Hp2 := hid hp2
          clear hp1 hp2
          have hlow' : ¬ ((p1 : Int) < z + 2) := hlow
          clear hlow
          obtain ⟨m1, hm1⟩ : ∃ m1 : Nat, max p1 1 = m1 := ⟨_, rfl⟩
          obtain ⟨m2, hm2⟩ : ∃ m2 : Nat, min p2 20 = m2 := ⟨_, rfl⟩
          have Hm1 := hid hm1
          have Hm2 := hid hm2
          clear hm1 hm2
          have hm1p : 1 ≤ m1 := by have := Hm1.out; omega
          have hm2b : m2 ≤ 20 := by have := Hm2.out; omega
          cases o with
          | true =>
            have Ho2 := hid (show inrr l = false by have := Ho.out; cases h : inrr l with | false => rfl | true => rw [h] at this; cases this)
            have hmx : (if (p1 : Int) < 1 then (1 : Int) else (p1 : Int)) = (m1 : Int) := by have := Hm1.out; split <;> omega
            have hmn : (if (20 : Int) < (p2 : Int) then (20 : Int) else (p2 : Int)) = (m2 : Int) := by have := Hm2.out; split <;> omega
            go_wp2_with fail
            refine (HR2.out).mono ?_
            rintro e w2 ⟨rfl, b2⟩
            have hb2 := hb.trans (b2.mono hbs)
            have Hst2 := hid ((Hst1.out.below b2 (Nat.le_refl _)).more b2.size)
            go_wp2_with fail
            go_loop [5, 12] (fun xv kv => ∃ (k y : Nat), kv = .int .i64 ((k : Int) + 1) ∧ m1 ≤ k + 1 ∧ k + 1 ≤ max m1 (m2 + 1) ∧ xv = .int .u32 (y : Int) ∧ y < 2 ^ 20 ∧ Hid (y = Clk.wof (l ++ [(p1, k)]))) (fun _ kv => 100 - (intOf kv).toNat)
            case atStart =>
              refine ⟨m1 - 1, x, int_k (by have := Hm1.out; omega), by omega, by omega, rfl, hx, hid ?_⟩
              have := Clk.wof_start l p1
              rw [Hm1.out] at this
              rw [this, Hxw.out]
            case round =>
              obtain ⟨k, y, rfl, hk1, hk2, rfl, hy, Hy⟩ := hrel
              by_cases hkm : k + 1 ≤ m2
              · have hkb : k + 1 ≤ 20 := by have := Hm2.out; omega
                have hkp : k + 1 ≤ p2 := by have := Hm2.out; omega
                have Hy2 := hid (show y + 2 ^ k = Clk.wof (l ++ [(p1, k + 1)]) by
                  have := Clk.wof_more l p1 (k + 1) (by have := Hm1.out; omega) (by omega) hkb (Hhas.out (k + 1) (by have := Hm1.out; omega))
                  rw [Nat.add_sub_cancel] at this
                  rw [this, Hy.out])
                have hlt2 := Clk.wof_lt (l ++ [(p1, k + 1)])
                rw [← Hy2.out] at hlt2
                have tA : decide ((k : Int) + 1 ≤ (m2 : Int)) = true := decide_eq_true (by omega)
                have tB : decide ((k : Int) + 1 ≤ 20) = true := decide_eq_true (by omega)
                have tC : decide ((k : Int) + 1 ≤ (p2 : Int)) = true := decide_eq_true (by omega)
                have hpw : ((y : Int) + 2 ^ k % 4294967296) % 4294967296 = ((y + 2 ^ k : Nat) : Int) := by
                  have e1 : (2 : Int) ^ k = ((2 ^ k : Nat) : Int) := by rw [Int.natCast_pow]; rfl
                  rw [e1]
                  generalize 2 ^ k = zz at *
                  omega
                have hpw2 : ((y : Int) + 2 ^ k) % 4294967296 = ((y + 2 ^ k : Nat) : Int) := by
                  have e1 : (2 : Int) ^ k = ((2 ^ k : Nat) : Int) := by rw [Int.natCast_pow]; rfl
                  rw [e1]
                  generalize 2 ^ k = zz at *
                  omega
                generalize hyz : y + 2 ^ k = yz at *
                have Hyz := hid hyz
                have Hkm := hid (And.intro hkm hkb)
                have hmk : min k 32 = k := by omega
                clear hyz hkm hkp
                go_wp2_with fail
                exact ⟨⟨k + 1, yz, by go_num, by omega, by have := Hkm.out; omega, (by first | rfl | exact int_k hpw | exact int_k hpw2), hlt2, Hy2⟩, by simp [intOf]; have := Hkm.out; omega⟩
              · have Hend := hid (show y = Clk.wof (l ++ [p]) by
                  have := Clk.wof_end l p1 p2 (k + 1) (by rw [Hm1.out]; omega) (by rw [Hm1.out, Hm2.out]; omega) (by rw [Hm2.out]; exact hkm)
                  rw [Nat.add_sub_cancel] at this
                  rw [Hpe.out, ← this, Hy.out])
                have tN : decide ((k : Int) + 1 ≤ (m2 : Int)) = false := decide_eq_false (by have := Hm2.out; omega)
                clear hkm
                go_wp2_with fail
                exact ⟨⟨i + 1, l ++ [p], true, y, by go_num, by omega, by rw [Hah.out], rfl, rfl, hy, Hg2, hid (by rw [Hin.out, Ho2.out]; rfl), Hend, Hb1.out, Hb2.out, hb2, Hst2⟩, by simp [intOf]; omega⟩
          | false =>
            have Ho2 := hid (show inrr l = true by have := Ho.out; cases h : inrr l with | true => rfl | false => rw [h] at this; cases this)
            by_cases h1 : (p1 : Int) < 1
            · have Hd := hid (show decide (1 ≤ p1 ∧ p2 ≤ 20) = false from decide_eq_false (by omega))
              have u1 : decide ((p1 : Int) < 1) = true := decide_eq_true h1
              have hmn : (if (20 : Int) < (p2 : Int) then (20 : Int) else (p2 : Int)) = (m2 : Int) := by have := Hm2.out; split <;> omega
              go_wp2_with fail
              refine (HR2.out).mono ?_
              rintro e w2 ⟨rfl, b2⟩
              have hb2 := hb.trans (b2.mono hbs)
              have Hst2 := hid ((Hst1.out.below b2 (Nat.le_refl _)).more b2.size)
              go_wp2_with fail
              go_loop [5, 12] (fun xv kv => ∃ (k y : Nat), kv = .int .i64 ((k : Int) + 1) ∧ m1 ≤ k + 1 ∧ k + 1 ≤ max m1 (m2 + 1) ∧ xv = .int .u32 (y : Int) ∧ y < 2 ^ 20 ∧ Hid (y = Clk.wof (l ++ [(p1, k)]))) (fun _ kv => 100 - (intOf kv).toNat)
              case atStart =>
                refine ⟨m1 - 1, x, int_k (by have := Hm1.out; omega), by omega, by omega, rfl, hx, hid ?_⟩
                have := Clk.wof_start l p1
                rw [Hm1.out] at this
                rw [this, Hxw.out]
              case round =>
                obtain ⟨k, y, rfl, hk1, hk2, rfl, hy, Hy⟩ := hrel
                by_cases hkm : k + 1 ≤ m2
                · have hkb : k + 1 ≤ 20 := by have := Hm2.out; omega
                  have hkp : k + 1 ≤ p2 := by have := Hm2.out; omega
                  have Hy2 := hid (show y + 2 ^ k = Clk.wof (l ++ [(p1, k + 1)]) by
                    have := Clk.wof_more l p1 (k + 1) (by have := Hm1.out; omega) (by omega) hkb (Hhas.out (k + 1) (by have := Hm1.out; omega))
                    rw [Nat.add_sub_cancel] at this
                    rw [this, Hy.out])
                  have hlt2 := Clk.wof_lt (l ++ [(p1, k + 1)])
                  rw [← Hy2.out] at hlt2
                  have tA : decide ((k : Int) + 1 ≤ (m2 : Int)) = true := decide_eq_true (by omega)
                  have tB : decide ((k : Int) + 1 ≤ 20) = true := decide_eq_true (by omega)
                  have tC : decide ((k : Int) + 1 ≤ (p2 : Int)) = true := decide_eq_true (by omega)
                  have hpw : ((y : Int) + 2 ^ k % 4294967296) % 4294967296 = ((y + 2 ^ k : Nat) : Int) := by
                    have e1 : (2 : Int) ^ k = ((2 ^ k : Nat) : Int) := by rw [Int.natCast_pow]; rfl
                    rw [e1]
                    generalize 2 ^ k = zz at *
                    omega
                  have hpw2 : ((y : Int) + 2 ^ k) % 4294967296 = ((y + 2 ^ k : Nat) : Int) := by
                    have e1 : (2 : Int) ^ k = ((2 ^ k : Nat) : Int) := by rw [Int.natCast_pow]; rfl
                    rw [e1]
                    generalize 2 ^ k = zz at *
                    omega
                  generalize hyz : y + 2 ^ k = yz at *
                  have Hyz := hid hyz
                  have Hkm := hid (And.intro hkm hkb)
                  have hmk : min k 32 = k := by omega
                  clear hyz hkm hkp
                  go_wp2_with fail
                  exact ⟨⟨k + 1, yz, by go_num, by omega, by have := Hkm.out; omega, (by first | rfl | exact int_k hpw | exact int_k hpw2), hlt2, Hy2⟩, by simp [intOf]; have := Hkm.out; omega⟩
                · have Hend := hid (show y = Clk.wof (l ++ [p]) by
                    have := Clk.wof_end l p1 p2 (k + 1) (by rw [Hm1.out]; omega) (by rw [Hm1.out, Hm2.out]; omega) (by rw [Hm2.out]; exact hkm)
                    rw [Nat.add_sub_cancel] at this
                    rw [Hpe.out, ← this, Hy.out])
                  have tN : decide ((k : Int) + 1 ≤ (m2 : Int)) = false := decide_eq_false (by have := Hm2.out; omega)
                  clear hkm
                  go_wp2_with fail
                  exact ⟨⟨i + 1, l ++ [p], true, y, by go_num, by omega, by rw [Hah.out], rfl, rfl, hy, Hg2, hid (by rw [Hin.out, Ho2.out, Hd.out]; rfl), Hend, Hb1.out, Hb2.out, hb2, Hst2⟩, by simp [intOf]; omega⟩
            · by_cases h2 : (20 : Int) < (p2 : Int)
              · have Hd := hid (show decide (1 ≤ p1 ∧ p2 ≤ 20) = false from decide_eq_false (by omega))
                have u1 : decide ((p1 : Int) < 1) = false := decide_eq_false h1
                have u2 : decide ((20 : Int) < (p2 : Int)) = true := decide_eq_true h2
                go_wp2_with fail
                refine (HR2.out).mono ?_
                rintro e w2 ⟨rfl, b2⟩
                have hb2 := hb.trans (b2.mono hbs)
                have Hst2 := hid ((Hst1.out.below b2 (Nat.le_refl _)).more b2.size)
                go_wp2_with fail
                go_loop [5, 12] (fun xv kv => ∃ (k y : Nat), kv = .int .i64 ((k : Int) + 1) ∧ m1 ≤ k + 1 ∧ k + 1 ≤ max m1 (m2 + 1) ∧ xv = .int .u32 (y : Int) ∧ y < 2 ^ 20 ∧ Hid (y = Clk.wof (l ++ [(p1, k)]))) (fun _ kv => 100 - (intOf kv).toNat)
                case atStart =>
                  refine ⟨m1 - 1, x, int_k (by have := Hm1.out; omega), by omega, by omega, rfl, hx, hid ?_⟩
                  have := Clk.wof_start l p1
                  rw [Hm1.out] at this
                  rw [this, Hxw.out]
                case round =>
                  obtain ⟨k, y, rfl, hk1, hk2, rfl, hy, Hy⟩ := hrel
                  by_cases hkm : k + 1 ≤ m2
                  · have hkb : k + 1 ≤ 20 := by have := Hm2.out; omega
                    have hkp : k + 1 ≤ p2 := by have := Hm2.out; omega
                    have Hy2 := hid (show y + 2 ^ k = Clk.wof (l ++ [(p1, k + 1)]) by
                      have := Clk.wof_more l p1 (k + 1) (by have := Hm1.out; omega) (by omega) hkb (Hhas.out (k + 1) (by have := Hm1.out; omega))
                      rw [Nat.add_sub_cancel] at this
                      rw [this, Hy.out])
                    have hlt2 := Clk.wof_lt (l ++ [(p1, k + 1)])
                    rw [← Hy2.out] at hlt2
                    have tA : decide ((k : Int) + 1 ≤ (m2 : Int)) = true := decide_eq_true (by omega)
                    have tB : decide ((k : Int) + 1 ≤ 20) = true := decide_eq_true (by omega)
                    have tC : decide ((k : Int) + 1 ≤ (p2 : Int)) = true := decide_eq_true (by omega)
                    have hpw : ((y : Int) + 2 ^ k % 4294967296) % 4294967296 = ((y + 2 ^ k : Nat) : Int) := by
                      have e1 : (2 : Int) ^ k = ((2 ^ k : Nat) : Int) := by rw [Int.natCast_pow]; rfl
                      rw [e1]
                      generalize 2 ^ k = zz at *
                      omega
                    have hpw2 : ((y : Int) + 2 ^ k) % 4294967296 = ((y + 2 ^ k : Nat) : Int) := by
                      have e1 : (2 : Int) ^ k = ((2 ^ k : Nat) : Int) := by rw [Int.natCast_pow]; rfl
                      rw [e1]
                      generalize 2 ^ k = zz at *
                      omega
                    generalize hyz : y + 2 ^ k = yz at *
                    have Hyz := hid hyz
                    have Hkm := hid (And.intro hkm hkb)
                    have hmk : min k 32 = k := by omega
                    clear hyz hkm hkp
                    go_wp2_with fail
                    exact ⟨⟨k + 1, yz, by go_num, by omega, by have := Hkm.out; omega, (by first | rfl | exact int_k hpw | exact int_k hpw2), hlt2, Hy2⟩, by simp [intOf]; have := Hkm.out; omega⟩
                  · have Hend := hid (show y = Clk.wof (l ++ [p]) by
                      have := Clk.wof_end l p1 p2 (k + 1) (by rw [Hm1.out]; omega) (by rw [Hm1.out, Hm2.out]; omega) (by rw [Hm2.out]; exact hkm)
                      rw [Nat.add_sub_cancel] at this
                      rw [Hpe.out, ← this, Hy.out])
                    have tN : decide ((k : Int) + 1 ≤ 20) = false := decide_eq_false (by have := Hm2.out; omega)
                    clear hkm
                    go_wp2_with fail
                    exact ⟨⟨i + 1, l ++ [p], true, y, by go_num, by omega, by rw [Hah.out], rfl, rfl, hy, Hg2, hid (by rw [Hin.out, Ho2.out, Hd.out]; rfl), Hend, Hb1.out, Hb2.out, hb2, Hst2⟩, by simp [intOf]; omega⟩
              · have Hd := hid (show decide (1 ≤ p1 ∧ p2 ≤ 20) = true from decide_eq_true (by omega))
                have u1 : decide ((p1 : Int) < 1) = false := decide_eq_false h1
                have u2 : decide ((20 : Int) < (p2 : Int)) = false := decide_eq_false h2
                go_wp2_with fail
                refine (HR2.out).mono ?_
                rintro e w2 ⟨rfl, b2⟩
                have hb2 := hb.trans (b2.mono hbs)
                have Hst2 := hid ((Hst1.out.below b2 (Nat.le_refl _)).more b2.size)
                go_wp2_with fail
                go_loop [5, 12] (fun xv kv => ∃ (k y : Nat), kv = .int .i64 ((k : Int) + 1) ∧ m1 ≤ k + 1 ∧ k + 1 ≤ max m1 (m2 + 1) ∧ xv = .int .u32 (y : Int) ∧ y < 2 ^ 20 ∧ Hid (y = Clk.wof (l ++ [(p1, k)]))) (fun _ kv => 100 - (intOf kv).toNat)
                case atStart =>
                  refine ⟨m1 - 1, x, int_k (by have := Hm1.out; omega), by omega, by omega, rfl, hx, hid ?_⟩
                  have := Clk.wof_start l p1
                  rw [Hm1.out] at this
                  rw [this, Hxw.out]
                case round =>
                  obtain ⟨k, y, rfl, hk1, hk2, rfl, hy, Hy⟩ := hrel
                  by_cases hkm : k + 1 ≤ m2
                  · have hkb : k + 1 ≤ 20 := by have := Hm2.out; omega
                    have hkp : k + 1 ≤ p2 := by have := Hm2.out; omega
                    have Hy2 := hid (show y + 2 ^ k = Clk.wof (l ++ [(p1, k + 1)]) by
                      have := Clk.wof_more l p1 (k + 1) (by have := Hm1.out; omega) (by omega) hkb (Hhas.out (k + 1) (by have := Hm1.out; omega))
                      rw [Nat.add_sub_cancel] at this
                      rw [this, Hy.out])
                    have hlt2 := Clk.wof_lt (l ++ [(p1, k + 1)])
                    rw [← Hy2.out] at hlt2
                    have tA : decide ((k : Int) + 1 ≤ (m2 : Int)) = true := decide_eq_true (by omega)
                    have tB : decide ((k : Int) + 1 ≤ 20) = true := decide_eq_true (by omega)
                    have tC : decide ((k : Int) + 1 ≤ (p2 : Int)) = true := decide_eq_true (by omega)
                    have hpw : ((y : Int) + 2 ^ k % 4294967296) % 4294967296 = ((y + 2 ^ k : Nat) : Int) := by
                      have e1 : (2 : Int) ^ k = ((2 ^ k : Nat) : Int) := by rw [Int.natCast_pow]; rfl
                      rw [e1]
                      generalize 2 ^ k = zz at *
                      omega
                    have hpw2 : ((y : Int) + 2 ^ k) % 4294967296 = ((y + 2 ^ k : Nat) : Int) := by
                      have e1 : (2 : Int) ^ k = ((2 ^ k : Nat) : Int) := by rw [Int.natCast_pow]; rfl
                      rw [e1]
                      generalize 2 ^ k = zz at *
                      omega
                    generalize hyz : y + 2 ^ k = yz at *
                    have Hyz := hid hyz
                    have Hkm := hid (And.intro hkm hkb)
                    have hmk : min k 32 = k := by omega
                    clear hyz hkm hkp
                    go_wp2_with fail
                    exact ⟨⟨k + 1, yz, by go_num, by omega, by have := Hkm.out; omega, (by first | rfl | exact int_k hpw | exact int_k hpw2), hlt2, Hy2⟩, by simp [intOf]; have := Hkm.out; omega⟩
                  · have Hend := hid (show y = Clk.wof (l ++ [p]) by
                      have := Clk.wof_end l p1 p2 (k + 1) (by rw [Hm1.out]; omega) (by rw [Hm1.out, Hm2.out]; omega) (by rw [Hm2.out]; exact hkm)
                      rw [Nat.add_sub_cancel] at this
                      rw [Hpe.out, ← this, Hy.out])
                    have tN : decide ((k : Int) + 1 ≤ (p2 : Int)) = false := decide_eq_false (by have := Hm2.out; omega)
                    clear hkm
                    go_wp2_with fail
                    exact ⟨⟨i + 1, l ++ [p], false, y, by go_num, by omega, by rw [Hah.out], rfl, rfl, hy, Hg2, hid (by rw [Hin.out, Ho2.out, Hd.out]; rfl), Hend, Hb1.out, Hb2.out, hb2, Hst2⟩, by simp [intOf]; omega⟩
    · have hiN : i = N := by omega
      have Hall := hid (Clk.pwk_all (s := s) (a := PS) (l := l) HPS.out (by have := Hgot.out; rwa [List.take_of_length_le (by rw [HN.out]; omega)] at this))
      clear hiN
      cases o with
      | false =>
        have Hr := hid (show rpkV s = .tuple #[.int .u32 (x : Int), .int .i64 0] by
          unfold rpkV
          rw [Hall.out, Hxw.out]
          have k1 : inrr l = true := by have := Ho.out; cases h : inrr l with | true => rfl | false => rw [h] at this; cases this
          unfold inrr at k1
          rw [if_pos k1]
          rfl)
        generalize Clk.ah l = z at *
        go_wp2_with fail
        go_ret2
        exact Did.mk Hr.out.symm hb
      | true =>
        have Hr := hid (show rpkV s = .tuple #[.int .u32 0, .int .i64 6] by
          unfold rpkV
          rw [Hall.out]
          have k1 : inrr l = false := by have := Ho.out; cases h : inrr l with | false => rfl | true => rw [h] at this; cases this
          unfold inrr at k1
          rw [if_neg (by rw [k1]; decide)]
          rfl)
        generalize Clk.ah l = z at *
        go_wp2_with fail
        go_ret2
        exact Did.mk Hr.out.symm hb
end Go.Proofs.YtfnjnkmdifigdaaDoor
