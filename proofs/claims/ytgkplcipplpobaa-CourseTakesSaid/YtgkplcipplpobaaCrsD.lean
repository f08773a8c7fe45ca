/- The document's own Right for layer 14 (course). -/
import Derived.Test.YtgkplcipplpobaaCrsC
import Derived.Test.YtgkplcipplpobaaClsG
import Derived.Test.YtgkplcipplpobaaRomC
import Derived.Test.YtgkplcipplpobaaRowN
namespace Go.Proofs.Ytgkplcipplpobaa
open Go.RowKit
open Whn (Gr Wh)

theorem Try.info_int14 : (Try.prog.info? 3).map (fun i => (i.zero, i.size, i.bytes)) = some (some (.int .i64 0), 1, 8) := by kernel_rfl
/-- a row of numbers that is appended -/
theorem src_its {P : Program} (w : World) {e' tx : TypeId} (hk : P.underlying tx = some (.slice e')) {B : Nat} {A : Option Addr} {n c : Nat} {m : List Int} (hn : m.length = n) (h : Its w B A m) : Src P 1 tx (.slice A n c) n (m.map (Value.int .i64)) w := by
  by_cases hl : m = []
  · subst hl
    obtain rfl : n = 0 := hn.symm
    cases A with
    | none => exact Src.ofNil w hk c
    | some a => exact Src.ofSlice w hk a 0 c [] rfl (fun j u hu => by cases hu) (fun u hu => by cases hu)
  · obtain ⟨ad, rfl, _, hc⟩ := h (by rw [ne_eq, List.map_eq_nil_iff]; exact hl)
    exact Src.ofSlice w hk ad n c (m.map (Value.int .i64)) (by rw [List.length_map, hn, Nat.mul_one]) hc (ints_one .i64 m)
/-- may the k-th part of a way be? -/
def partOk (e : Int) (ls : List (List Int)) (k : Nat) : Bool :=
  (decide (1 ≤ (ls.getD k []).length) && decide ((ls.getD k []).length ≤ 8) && risingB (ls.getD k []) e) && (ls.getD k []).all fun n => !decide (n ∈ (ls.take k).flatten)
def wayR (e : Int) (ls : List (List Int)) : Bool := (decide (1 ≤ ls.length) && decide (ls.length ≤ 4)) && (List.range ls.length).all (partOk e ls)
def csRight (e : Int) (x : Cs) : Bool := (nameOk x.n && decide (1 ≤ x.ws.length) && decide (x.ws.length ≤ 4)) && x.ws.all (wayR e)
theorem range_no {n i : Nat} {f : Nat → Bool} (hi : i < n) (h : f i = false) : (List.range n).all f = false := by
  rw [List.all_eq_false]
  exact ⟨i, List.mem_range.2 hi, by rw [h]; simp⟩
theorem range_yes {n : Nat} {f : Nat → Bool} (h : ∀ i, i < n → f i = true) : (List.range n).all f = true := by
  rw [List.all_eq_true]
  exact fun i hi => h i (List.mem_range.1 hi)
theorem flat_next {ls : List (List Int)} {k : Nat} {v : List Int} (h : ls[k]? = some v) : (ls.take (k + 1)).flatten = (ls.take k).flatten ++ v := by
  rw [List.take_add_one, h, List.flatten_append]
  simp
set_option maxRecDepth 20000 in
set_option maxHeartbeats 4000000 in
theorem r_RightCs (e : Int) (x : Cs) (A : Option Addr) (c : Nat) (hl : Wsok x.ws) (w : World) (h : Rows3 w w.heap.size A x.ws) :
    Calls Try.prog 12 #[.int .i64 e, csv x A c] w (Did (.bool (csRight e x)) w) := by
  have hm := hl.1
  unfold maxLen at hm
  have HN := hid (fun X => r_Name (bs x.n) X)
  rw [bs_data] at HN
  have HRi := hid (fun B k l hm X h => r_Rising B k l hm e X h)
  have HHa := hid (fun B n k l hn hm y X C h => r_Has B n k l hn hm y X C h)
  have HL := hid hl.2
  have H := hid h
  have Hr := hid (show csRight e x = ((nameOk x.n && decide (1 ≤ x.ws.length) && decide (x.ws.length ≤ 4)) && x.ws.all (wayR e)) from rfl)
  obtain ⟨i0, hi0, hz0, hz1, hz2⟩ := info_parts Try.info_int14
  generalize csRight e x = q at *
  generalize nameOk x.n = nn at *
  clear h hl
  obtain ⟨P, W, hP, hW, K, hb0⟩ := (Mem.nil w).one (csc x A c) 24
  have HPw := hid (show w.heap.size ≤ P from by omega)
  obtain ⟨e0, e1⟩ := K.out.cs (B := P) (x := x) (A := A) (c := c) (t := 24) (by simp)
  clear hb0
  go_enter Try.func12, Try.ntmps12
  go_wp2_with fail
  refine (HN.out _).mono ?_
  rintro e2 w1 ⟨rfl, rfl⟩
  clear hP hW
  cases nn with
  | false =>
    go_wp2_with fail
    go_ret
    exact Did.mk (by rw [Hr.out]; rfl) K.out.2
  | true =>
    by_cases c1 : 1 ≤ x.ws.length
    · have m1 : ¬ ((x.ws.length : Int) < 1) := by omega
      rw [decide_eq_true c1] at Hr
      by_cases c2 : x.ws.length ≤ 4
      · have m2 : ¬ ((x.ws.length : Int) > 4) := by omega
        rw [decide_eq_true c2] at Hr
        simp only [Bool.true_and] at Hr
        go_wp2_with fail
        clear e0 e1
        go_loopw [5] (fun i wr => ∃ (k : Nat), i = .int .i64 k ∧ k ≤ x.ws.length ∧ Hid (Mem w wr [(P, csc x A c, 24)]) ∧ Hid (∀ i, i < k → ∀ ls, x.ws[i]? = some ls → wayR e ls = true)) (fun i _ => x.ws.length - (intOf i).toNat)
        case atStart => exact ⟨0, rfl, Nat.zero_le _, K, hid (fun i hi => absurd hi (Nat.not_lt_zero i))⟩
        case round =>
          clear K
          obtain ⟨k, rfl, hk, K1, hsame⟩ := hrel
          obtain ⟨e0, e1⟩ := K1.out.cs (B := P) (x := x) (A := A) (c := c) (t := 24) (by simp)
          by_cases hlt : k < x.ws.length
          · obtain ⟨ad, Ak, ck, u, hae, hadb, hx, hxl, hcx, hrx, hckx⟩ := H.out.at_ hlt
            have hul := (HL.out u hxl).1
            have HLu := hid (HL.out u hxl).2
            unfold maxLen at hul
            have b1 : (0 : Int) ≤ (k : Int) := by omega
            have b2 : (k : Int) < x.ws.length := by omega
            rw [hae] at e1
            have hbx : (ad.add k).block < w.heap.size := by rw [add_block]; exact hadb
            have hcx1 := (K1.out.2.cell (p := ad.add k) hbx).trans hcx
            have Hbad := hid (fun (h : wayR e u = false) => all_no hx.out h)
            have Hnx := hid (fun (h : wayR e u = true) => all_next hx.out h hsame.out)
            have HR := hid hrx
            obtain ⟨D, U, hD, hU, K2, hb2⟩ := K1.out.one [.slice Ak u.length ck] 42
            have HDU := hid (show P < D ∧ D < U.heap.size from ⟨by have := (K1.out.at_ (b := P) (cs := csc x A c) (t := 24) (by simp)).lt; omega, (K2.out.at_ (b := D) (cs := [.slice Ak u.length ck]) (t := 42) (by simp)).lt⟩)
            have d0 := K2.out.cell (b := D) (cs := [.slice Ak u.length ck]) (t := 42) (by simp) (k := 0) rfl
            clear hrx hsame hckx hcx hb2 K1 hae
            by_cases g1 : 1 ≤ u.length
            · have m3 : ¬ ((u.length : Int) < 1) := by omega
              by_cases g2 : u.length ≤ 4
              · have m4 : ¬ ((u.length : Int) > 4) := by omega
                have Hw := hid (show wayR e u = (List.range u.length).all (partOk e u) by unfold wayR; rw [decide_eq_true g1, decide_eq_true g2]; rfl)
                go_wp2_with fail
                clear e0 e1 d0 hD hU hcx1
                have own0 := hid (World.ownsRow_nil U (D + 1) 3 1)
                obtain ⟨ff, hff⟩ : ∃ ff : Nat → List Int, (fun j => (u.take j).flatten) = ff := ⟨_, rfl⟩
                have Hff := hid (fun j => show (u.take j).flatten = ff j from congrFun hff j)
                have Hf0 := hid (show ff 0 = [] from by rw [← hff]; rfl)
                clear hff
                go_loopw [7, 8] (fun mv i wr => ∃ (j : Nat), i = .int .i64 j ∧ j ≤ u.length ∧ Hid (wr.ownsRow (D + 1) 3 1 mv (ff j).length ((ff j).map (Value.int .i64))) ∧ Hid (Mem w wr [(D, [.slice Ak u.length ck], 42), (P, csc x A c, 24)]) ∧ Hid (∀ i, i < j → partOk e u i = true) ∧ Hid ((ff j).length ≤ 8 * j)) (fun _ i _ => u.length - (intOf i).toNat)
                case atStart => exact ⟨0, rfl, Nat.zero_le _, by rw [Hf0.out]; exact own0, K2, hid (fun i hi => absurd hi (Nat.not_lt_zero i)), by rw [Hf0.out]; exact hid (Nat.zero_le _)⟩
                case round =>
                  clear own0 K2
                  obtain ⟨j, rfl, hj, HO, K3, hsame, HFl⟩ := hrel
                  have d0 := K3.out.cell (b := D) (cs := [.slice Ak u.length ck]) (t := 42) (by simp) (k := 0) rfl
                  by_cases hlt2 : j < u.length
                  · obtain ⟨ae, Bk, dk, v, hbe, haeb, hy, hyl, hcy, hry, hdky⟩ := HR.out.get hlt2
                    have hvl := (HLu.out v hyl).1
                    have b3 : (0 : Int) ≤ (j : Int) := by omega
                    have b4 : (j : Int) < u.length := by omega
                    rw [hbe] at d0
                    have hby : (ae.add j).block < w.heap.size := by rw [add_block]; exact haeb
                    have hcy1 := (K3.out.2.cell (p := ae.add j) hby).trans hcy
                    have HV := hid hry
                    have hfn := flat_next hy.out
                    rw [Hff.out, Hff.out] at hfn
                    have Hfn := hid hfn
                    clear hfn
                    have Hpk := hid (show partOk e u j = ((decide (1 ≤ v.length) && decide (v.length ≤ 8) && risingB v e) && v.all fun n => !decide (n ∈ ff j)) by unfold partOk; rw [List.getD_eq_getElem?_getD, hy.out, Hff.out]; rfl)
                    have Hbad2 := hid (fun (h : partOk e u j = false) => Hbad.out (by rw [Hw.out]; exact range_no hlt2 h))
                    have Hnx2 := hid (fun (h : partOk e u j = true) => show ∀ i, i < j + 1 → partOk e u i = true from fun i hi => by
                      rcases Nat.lt_or_ge i j with h' | h'
                      · exact hsame.out i h'
                      · obtain rfl : i = j := by omega
                        exact h)
                    have HRi1 := hid (HRi.out Bk dk v hvl)
                    have hfl := HFl.out
                    obtain ⟨fl, hfe⟩ : ∃ fl, ff j = fl := ⟨_, rfl⟩
                    rw [hfe] at HO Hpk Hfn hfl
                    unfold maxLen at hvl
                    clear hry hdky hcy hsame Hbad Hnx HFl hfe hbe
                    by_cases g3 : 1 ≤ v.length
                    · have m5 : ¬ ((v.length : Int) < 1) := by omega
                      rw [decide_eq_true g3] at Hpk
                      by_cases g4 : v.length ≤ 8
                      · have m6 : ¬ ((v.length : Int) > 8) := by omega
                        rw [decide_eq_true g4] at Hpk
                        simp only [Bool.true_and] at Hpk
                        go_wp2_with fail
                        refine (HRi1.out _ ((HV.out.below K3.out.2 (Nat.le_refl _)).more K3.out.2.size)).mono ?_
                        rintro e2 Y ⟨rfl, bz⟩
                        have K4 := hid (K3.out.next bz)
                        have HO2 := hid (own_below HO.out bz)
                        clear d0 hcy1 bz K3 HO HRi1
                        cases hR : risingB v e with
                        | false =>
                          have hb := hid (Hbad2.out (by rw [Hpk.out, hR]; rfl))
                          clear Hbad2 Hnx2 Hpk hR
                          go_wp2_with fail
                          go_ret
                          exact Did.mk (by rw [Hr.out, hb.out]; rfl) K4.out.2
                        | true =>
                          rw [hR, Bool.true_and] at Hpk
                          obtain ⟨A1, c1', rfl, hr1, hc1⟩ := own_rd HO2.out
                          have HM := hid hr1
                          have HV1 := hid (HV.out.below K4.out.2 (Nat.le_refl _))
                          clear hR hr1
                          go_wp2_with fail
                          go_loopw [10] (fun i wr => ∃ (m : Nat), i = .int .i64 m ∧ m ≤ v.length ∧ Y = wr ∧ Hid (∀ i, i < m → ∀ n, v[i]? = some n → (!decide (n ∈ fl)) = true)) (fun i _ => v.length - (intOf i).toNat)
                          case atStart => exact ⟨0, rfl, Nat.zero_le _, rfl, hid (fun i hi => absurd hi (Nat.not_lt_zero i))⟩
                          case round =>
                            obtain ⟨m, rfl, hmv, rfl, hsame⟩ := hrel
                            by_cases hlt3 : m < v.length
                            · obtain ⟨af, n, hce, _, hn, hcn⟩ := Its.get HV1.out hlt3
                              have b5 : (0 : Int) ≤ (m : Int) := by omega
                              have b6 : (m : Int) < v.length := by omega
                              have HH1 := hid (fun X (h : Its X X.heap.size A1 fl) => HHa.out A1 fl.length c1' fl rfl (by unfold maxLen; omega) n X _ h)
                              subst hce
                              go_wp2_with fail
                              refine (HH1.out _ HM.out).mono ?_
                              rintro e2 Y2 ⟨rfl, rfl⟩
                              cases hR : decide (n ∈ fl) with
                              | true =>
                                have hb := hid (Hbad2.out (by rw [Hpk.out]; exact all_no hn.out (by rw [hR]; rfl)))
                                clear Hbad2 Hnx2 Hpk hsame hR
                                go_wp2_with fail
                                go_ret
                                exact Did.mk (by rw [Hr.out, hb.out]; rfl) K4.out.2
                              | false =>
                                have hn2 := hid (all_next (f := fun n => !decide (n ∈ fl)) hn.out (by rw [hR]; rfl) hsame.out)
                                clear Hbad2 Hnx2 Hpk hsame hR
                                go_wp2_with fail
                                exact ⟨⟨m + 1, by go_num, by omega, trivial, hn2⟩, by simp [intOf]; omega⟩
                            · have b6 : ¬ (m : Int) < v.length := by omega
                              have hn2 := hid (Hnx2.out (by rw [Hpk.out]; exact all_yes (fun i hi => hsame.out i (by omega))))
                              have Hsrc := hid (src_its (P := Try.prog) Y Try.underlying29 (c := dk) (rfl : v.length = v.length) HV1.out)
                              have q1 : fl.length + v.length ≤ maxLen := by unfold maxLen; omega
                              have q2 : (fl.length + v.length) * 8 ≤ 140737488355328 := by omega
                              have hDY : D + 1 ≤ Y.heap.size := (K4.out.at_ (b := D) (cs := [.slice Ak u.length ck]) (t := 42) (by simp)).lt
                              clear Hbad2 Hnx2 Hpk hsame
                              go_wp2_with (at_builtin; refine wpList_append_srcN rfl _ _ 29 29 rfl (D + 1) 3 i0 (.int .i64 0) 1 8 Try.underlying29 hi0 hz0 hz1 hz2 rfl _ _ _ rfl HO2.out _ _ _ rfl Hsrc.out q1 q2 hDY ?_; intro v1 w5 hown2 hgrow)
                              have bb : Below (D + 1) Y w5 := (Below.refl (D + 1) Y).grown hgrow hDY (fun k hk => (HO2.out.lt k hk).1)
                              have K6 : Mem w w5 [(D, [.slice Ak u.length ck], 42), (P, csc x A c, 24)] := ⟨fun p hp => (K4.out.1 p hp).below bb (by
                                have := HDU.out
                                simp only [List.mem_cons, List.not_mem_nil, or_false] at hp
                                rcases hp with rfl | rfl
                                · show D < D + 1; omega
                                · show P < D + 1; omega), K4.out.2.trans (bb.mono (by have := HPw.out; have := HDU.out; omega))⟩
                              refine ⟨⟨j + 1, by go_num, by omega, ?_, hid K6, hn2, ?_⟩, by simp [intOf]; omega⟩
                              · rw [Hfn.out, List.length_append, List.map_append]
                                exact hid hown2
                              · rw [Hfn.out, List.length_append]
                                exact hid (by omega)
                      · have m6 : ((v.length : Int) > 8) := by omega
                        have hb := hid (Hbad2.out (by rw [Hpk.out, decide_eq_false g4]; rfl))
                        clear Hbad2 Hnx2 Hpk
                        go_wp2_with fail
                        go_ret
                        exact Did.mk (by rw [Hr.out, hb.out]; rfl) K3.out.2
                    · have m5 : ((v.length : Int) < 1) := by omega
                      have hb := hid (Hbad2.out (by rw [Hpk.out, decide_eq_false g3]; rfl))
                      clear Hbad2 Hnx2 Hpk
                      go_wp2_with fail
                      go_ret
                      exact Did.mk (by rw [Hr.out, hb.out]; rfl) K3.out.2
                  · have b4 : ¬ (j : Int) < u.length := by omega
                    have hn := hid (Hnx.out (by rw [Hw.out]; exact range_yes (fun i hi => hsame.out i (by omega))))
                    have K5 := hid (K3.out.sub (l' := [(P, csc x A c, 24)]) (by simp))
                    clear hsame Hbad Hnx HFl
                    go_wp2_with fail
                    exact ⟨⟨k + 1, by go_num, by omega, K5, hn⟩, by simp [intOf]; omega⟩
              · have m4 : ((u.length : Int) > 4) := by omega
                have hb := hid (Hbad.out (by unfold wayR; rw [decide_eq_false g2, Bool.and_false, Bool.false_and]))
                clear Hbad Hnx
                go_wp2_with fail
                go_ret
                exact Did.mk (by rw [Hr.out, hb.out]; rfl) K2.out.2
            · have m3 : ((u.length : Int) < 1) := by omega
              have hb := hid (Hbad.out (by unfold wayR; rw [decide_eq_false g1, Bool.false_and, Bool.false_and]))
              clear Hbad Hnx
              go_wp2_with fail
              go_ret
              exact Did.mk (by rw [Hr.out, hb.out]; rfl) K2.out.2
          · have b2 : ¬ (k : Int) < x.ws.length := by omega
            have hn := hid (all_yes (fun i hi => hsame.out i (by omega)))
            clear hsame
            go_wp2_with fail
            go_ret
            exact Did.mk (by rw [Hr.out, hn.out]; rfl) K1.out.2
      · have m2 : ((x.ws.length : Int) > 4) := by omega
        rw [decide_eq_false c2] at Hr
        go_wp2_with fail
        go_ret
        exact Did.mk (by rw [Hr.out]; rfl) K.out.2
    · have m1 : ((x.ws.length : Int) < 1) := by omega
      rw [decide_eq_false c1] at Hr
      go_wp2_with fail
      go_ret
      exact Did.mk (by rw [Hr.out]; rfl) K.out.2
end Go.Proofs.Ytgkplcipplpobaa
