/- Contracts of the program's own functions of layer 14 (course): rightPart, rightWay, Right. -/
import Derived.Test.YtgkplcipplpobaaCrtA
import Derived.Test.YtgkplcipplpobaaMapB
import Derived.OwnWalk
import Derived.Carry
namespace Go.Proofs.Ytgkplcipplpobaa
open Go.RowKit
open Whn (Gr Wh)

/-- the least class that may come next -/
def lsN (l : List Int) (k : Nat) : Int := if k = 0 then 0 else l.getD (k - 1) 0 + 1
theorem okR_least {l : List Int} {e : Int} {k : Nat} {a : Int} (ha : l[k]? = some a) (h0 : 0 ≤ lsN l k) : okR l e k = (decide (lsN l k ≤ a) && decide (a < e)) := by
  unfold okR
  rw [getD_of ha]
  unfold lsN at h0 ⊢
  by_cases hk : k = 0
  · rw [if_pos hk, decide_eq_true hk, Bool.true_or, Bool.and_true]
  · rw [if_neg hk] at h0 ⊢
    rw [decide_eq_false hk, Bool.false_or]
    by_cases h1 : l.getD (k - 1) 0 < a
    · rw [decide_eq_true h1, Bool.and_true, decide_eq_true (show 0 ≤ a by omega), decide_eq_true (show l.getD (k - 1) 0 + 1 ≤ a by omega)]
    · rw [decide_eq_false h1, Bool.and_false, decide_eq_false (show ¬ l.getD (k - 1) 0 + 1 ≤ a by omega), Bool.false_and]
theorem lsN_next {l : List Int} {k : Nat} {a : Int} (ha : l[k]? = some a) : lsN l (k + 1) = a + 1 := by
  unfold lsN
  rw [if_neg (by omega), Nat.add_sub_cancel, getD_of ha]
/-- in a rising row no number stands twice -/
theorem rising_lt {l : List Int} {e : Int} (h : risingB l e = true) : ∀ (j i : Nat), i < j → j < l.length → l.getD i 0 < l.getD j 0 := by
  unfold risingB at h
  rw [List.all_eq_true] at h
  intro j
  induction j with
  | zero => intro i hi; omega
  | succ j ih =>
    intro i hi hj
    have h1 := h (j + 1) (List.mem_range.2 hj)
    unfold okR at h1
    rw [Bool.and_eq_true, decide_eq_false (show ¬ j + 1 = 0 by omega), Bool.false_or, decide_eq_true_iff, Nat.add_sub_cancel] at h1
    rcases Nat.lt_or_ge i j with h2 | h2
    · exact Int.lt_trans (ih i h2 (by omega)) h1.2
    · obtain rfl : i = j := by omega
      exact h1.2
theorem rising_new {l : List Int} {e : Int} (h : risingB l e = true) {j : Nat} {y : Int} (hy : l[j]? = some y) : y ∉ l.take j := by
  intro hm
  obtain ⟨i, hi, e1⟩ := List.mem_iff_getElem.1 hm
  rw [List.length_take] at hi
  have hj := (List.getElem?_eq_some_iff.1 hy).1
  rw [List.getElem_take] at e1
  have := rising_lt h j i (by omega) hj
  rw [getD_of hy, getD_of (a := y) (by rw [List.getElem?_eq_getElem (show i < l.length by omega), e1])] at this
  omega
set_option maxRecDepth 20000 in
set_option maxHeartbeats 4000000 in
theorem p_rightPart (e : Int) (he : I64 e) (A : Option Addr) (c : Nat) (l : List Int) (hm : l.length ≤ maxLen) (w : World) (h : Its w w.heap.size A l) :
    Calls Try.prog 50 #[.int .i64 e, .slice A l.length c] w (fun e1 w' => e1 = .returned (.bool (decide (1 ≤ l.length) && decide (l.length ≤ 8) && risingB l e)) ∧ w = w') := by
  have HI := hid (fun X => p_wic (l.length : Int) 1 8 X)
  unfold maxLen at hm
  unfold I64 at he
  have H := hid h
  have Hr := hid (show (decide (1 ≤ l.length) && decide (l.length ≤ 8) && risingB l e) = (inB (l.length : Int) 1 8 && risingB l e) by
    congr 1
    unfold inB
    congr 1 <;> (rw [decide_eq_decide]; omega))
  generalize (decide (1 ≤ l.length) && decide (l.length ≤ 8) && risingB l e) = q at *
  have Hyes := hid (fun h => risingB_yes (l := l) (e := e) h)
  have Hno := hid (fun i hi h => risingB_no (l := l) (e := e) (i := i) hi h)
  generalize risingB l e = rr at *
  generalize inB (l.length : Int) 1 8 = bb at *
  clear h
  go_enter Try.func50, Try.ntmps50
  go_wp2_with fail
  refine (HI.out _).mono ?_
  rintro e1 w1 ⟨rfl, rfl⟩
  cases bb with
  | false =>
    go_wp2_with fail
    go_ret
    exact ⟨congrArg (fun z => Ending.returned (Value.bool z)) Hr.out.symm, rfl⟩
  | true =>
    rw [Bool.true_and] at Hr
    go_wp2_with fail
    have HLs := hid (show lsN l 0 = 0 from rfl)
    go_loopw [5, 14] (fun sv i wr => ∃ (k : Nat), i = .int .i64 k ∧ sv = .int .i64 (lsN l k) ∧ k ≤ l.length ∧ w = wr ∧ Hid (∀ i, i < k → okR l e i = true) ∧ Hid (0 ≤ lsN l k ∧ (k = 0 ∨ lsN l k ≤ e))) (fun _ i _ => l.length - (intOf i).toNat)
    case atStart => exact ⟨0, rfl, rfl, Nat.zero_le _, rfl, hid (fun i hi => absurd hi (Nat.not_lt_zero i)), hid ⟨by rw [HLs.out]; decide, .inl rfl⟩⟩
    case round =>
      obtain ⟨k, rfl, rfl, hk, rfl, hsame, HB⟩ := hrel
      by_cases hlt : k < l.length
      · obtain ⟨ad, a, rfl, hadb, ha, hca⟩ := Its.get H.out hlt
        have b1 : (0 : Int) ≤ (k : Int) := by omega
        have b2 : (k : Int) < l.length := by omega
        have Hok := hid (okR_least (e := e) ha.out HB.out.1)
        have Hnx := hid (lsN_next ha.out)
        have Hl0 := HB.out
        have Hnext := hid (fun (h : okR l e k = true) => show ∀ i, i < k + 1 → okR l e i = true from fun i hi => by
          rcases Nat.lt_or_ge i k with h' | h'
          · exact hsame.out i h'
          · obtain rfl : i = k := by omega
            exact h)
        have Hbad := hid (fun (h : okR l e k = false) => Hno.out k hlt h)
        obtain ⟨ls, hls⟩ : ∃ ls, lsN l k = ls := ⟨_, rfl⟩
        rw [hls] at Hok Hl0 ⊢
        clear Hyes Hno hsame hls HB
        by_cases c1 : a < ls
        · have hb := hid (Hbad.out (by rw [Hok.out, decide_eq_false (show ¬ ls ≤ a by omega), Bool.false_and]))
          clear Hnext Hbad Hok Hl0
          go_wp2_with fail
          go_ret
          exact ⟨congrArg (fun z => Ending.returned (Value.bool z)) (Hr.out.trans hb.out).symm, rfl⟩
        · by_cases c2 : a ≥ e
          · have hb := hid (Hbad.out (by rw [Hok.out, decide_eq_false (show ¬ a < e by omega), Bool.and_false]))
            clear Hnext Hbad Hok Hl0
            go_wp2_with fail
            go_ret
            exact ⟨congrArg (fun z => Ending.returned (Value.bool z)) (Hr.out.trans hb.out).symm, rfl⟩
          · have hn := hid (Hnext.out (by rw [Hok.out, decide_eq_true (show ls ≤ a by omega), decide_eq_true (show a < e by omega)]; rfl))
            have qw : IntKind.i64.wrap (a + 1) = a + 1 := by rw [IntKind.wrap_i64]; omega
            have hl2 := hid (show 0 ≤ lsN l (k + 1) ∧ (k + 1 = 0 ∨ lsN l (k + 1) ≤ e) from ⟨by rw [Hnx.out]; omega, .inr (by rw [Hnx.out]; omega)⟩)
            clear Hnext Hbad Hok Hl0
            go_wp2_with fail
            exact ⟨⟨k + 1, by go_num, by rw [Hnx.out], by omega, trivial, hn, hl2⟩, by simp [intOf]; omega⟩
      · have hall := hid (Hyes.out (fun i hi => hsame.out i (by omega)))
        have b2 : ¬ (k : Int) < l.length := by omega
        clear Hyes Hno hsame HB
        go_wp2_with fail
        go_ret
        exact ⟨congrArg (fun z => Ending.returned (Value.bool z)) (Hr.out.trans hall.out).symm, rfl⟩
theorem Try.MTB : MapTB Try.prog 58 3 4 := ⟨by kernel_rfl, by kernel_rfl, by kernel_rfl, fun w => by kernel_rfl⟩
abbrev BMp (w : World) (b n : Nat) (f : Int → Bool) : Prop := BM Try.prog 3 4 w b n f
set_option maxRecDepth 20000 in
set_option maxHeartbeats 4000000 in
theorem p_rightWay (e : Int) (he : I64 e) (B : Option Addr) (d : Nat) (u : List (List Int)) (hl : Lsok u) (w : World) (h : Rows2 w w.heap.size B u) :
    Calls Try.prog 31 #[.int .i64 e, .agg #[.slice B u.length d]] w (Did (.bool (wayR e u)) w) := by
  have hm := hl.1
  unfold maxLen at hm
  have HL := hid hl.2
  have HI := hid (fun X => p_wic (u.length : Int) 1 4 X)
  have HP := hid (fun A c l hm X h => p_rightPart e he A c l hm X h)
  have Hr := hid (show wayR e u = (inB (u.length : Int) 1 4 && (List.range u.length).all (partOk e u)) by
    unfold wayR
    congr 1
    unfold inB
    congr 1 <;> (rw [decide_eq_decide]; omega))
  have Hin := hid (fun (h : inB (u.length : Int) 1 4 = true) => show u.length ≤ 4 by
    unfold inB at h
    rw [Bool.and_eq_true, decide_eq_true_iff, decide_eq_true_iff] at h
    omega)
  generalize wayR e u = q at *
  generalize inB (u.length : Int) 1 4 = bb at *
  obtain ⟨P, W, hP, hW, K, hb0⟩ := (Mem.nil w).one [.slice B u.length d] 42
  have c0 := K.out.cell (b := P) (cs := [.slice B u.length d]) (t := 42) (by simp) (k := 0) rfl
  have HR := hid h
  clear h hl hb0
  go_enter Try.func31, Try.ntmps31
  go_wp2_with fail
  refine (HI.out _).mono ?_
  rintro e1 w1 ⟨rfl, rfl⟩
  clear hP hW
  cases bb with
  | false =>
    go_wp2_with fail
    go_ret
    exact Did.mk (by rw [Hr.out]; rfl) K.out.2
  | true =>
    rw [Bool.true_and] at Hr
    have Hu4 := Hin.out rfl
    obtain ⟨M, V, hM, hV, HM0, hbV⟩ : ∃ M V, W.heap.size = M ∧ W.alloc (.map #[] 0) = V ∧ Hid (BMp V M 0 (fun _ => false)) ∧ Below W.heap.size W V := ⟨_, _, rfl, rfl, hid (BM.made W), below_alloc W _⟩
    have c1 := (hbV.cell (p := ⟨P, 0, none⟩) (K.out.at_ (b := P) (cs := [.slice B u.length d]) (t := 42) (by simp)).lt).trans c0
    have HB0 := hid (show Below w.heap.size w V from K.out.2.trans (hbV.mono K.out.2.size))
    have HMw := hid (show w.heap.size ≤ M by rw [← hM]; exact K.out.2.size)
    have hmm := @run_makeMap Try.prog
    have Hf0 := hid (show ∀ z, (fun _ : Int => false) z = decide (z ∈ (u.take 0).flatten) from fun z => by simp)
    go_wp2_with fail
    clear hM hV hbV c0 c1 K hmm
    go_loopw [19] (fun i wr => ∃ (k n : Nat) (f : Int → Bool), i = .int .i64 k ∧ k ≤ u.length ∧ n ≤ 8 * k ∧ Hid (Below w.heap.size w wr) ∧ Hid (BMp wr M n f) ∧ Hid (∀ z, f z = decide (z ∈ (u.take k).flatten)) ∧ Hid (∀ i, i < k → partOk e u i = true)) (fun i _ => u.length - (intOf i).toNat)
    case atStart => exact ⟨0, 0, _, rfl, Nat.zero_le _, Nat.le_refl _, HB0, HM0, Hf0, hid (fun i hi => absurd hi (Nat.not_lt_zero i))⟩
    case round =>
      clear HB0 HM0 Hf0
      obtain ⟨k, n, f, rfl, hk, hn, HB, HM, HF, hsame⟩ := hrel
      by_cases hlt : k < u.length
      · obtain ⟨ad, Ak, ck, v, rfl, hadb, hx, hxl, hcx, hrx, hckx⟩ := HR.out.get hlt
        have hvl := (HL.out v hxl).1
        have HLv := hid (HL.out v hxl).2
        have b1 : (0 : Int) ≤ (k : Int) := by omega
        have b2 : (k : Int) < u.length := by omega
        have hbx : (ad.add k).block < w.heap.size := by rw [add_block]; exact hadb
        have hcx1 := (HB.out.cell (p := ad.add k) hbx).trans hcx
        have HV := hid hrx
        have HP1 := hid (fun X h => HP.out Ak ck v hvl X h)
        have Hpk := hid (show partOk e u k = ((decide (1 ≤ v.length) && decide (v.length ≤ 8) && risingB v e) && v.all fun n => !decide (n ∈ (u.take k).flatten)) by unfold partOk; rw [List.getD_eq_getElem?_getD, hx.out]; rfl)
        have Hbad := hid (fun (h : partOk e u k = false) => range_no (f := partOk e u) hlt h)
        have Hnx := hid (fun (h : partOk e u k = true) => show ∀ i, i < k + 1 → partOk e u i = true from fun i hi => by
          rcases Nat.lt_or_ge i k with h' | h'
          · exact hsame.out i h'
          · obtain rfl : i = k := by omega
            exact h)
        have Hv8 := hid (fun (h : (decide (1 ≤ v.length) && decide (v.length ≤ 8) && risingB v e) = true) => show v.length ≤ 8 ∧ risingB v e = true by
          rw [Bool.and_eq_true, Bool.and_eq_true, decide_eq_true_iff, decide_eq_true_iff] at h
          exact ⟨h.1.2, h.2⟩)
        generalize (decide (1 ≤ v.length) && decide (v.length ≤ 8) && risingB v e) = rp at *
        unfold maxLen at hvl
        clear hrx hckx hcx HP hsame
        go_wp2_with fail
        refine (HP1.out _ ((HV.out.below HB.out (Nat.le_refl _)).more HB.out.size)).mono ?_
        rintro e1 w1 ⟨rfl, rfl⟩
        clear HP1
        cases rp with
        | false =>
          have hb := hid (Hbad.out (by rw [Hpk.out]; rfl))
          clear Hbad Hnx Hpk Hv8
          go_wp2_with fail
          go_ret
          exact Did.mk (by rw [Hr.out, hb.out]; rfl) HB.out
        | true =>
          rw [Bool.true_and] at Hpk
          obtain ⟨hv8, hris⟩ := Hv8.out rfl
          have Hris := hid hris
          have HF1 := hid (show ∀ z, f z = (decide (z ∈ (u.take k).flatten) || decide (z ∈ v.take 0)) from fun z => by rw [HF.out z]; simp)
          clear Hv8 hris hcx1
          go_wp2_with fail
          go_loopw [29] (fun i wr => ∃ (j n : Nat) (f : Int → Bool), i = .int .i64 j ∧ j ≤ v.length ∧ n ≤ 8 * k + j ∧ Hid (Below w.heap.size w wr) ∧ Hid (BMp wr M n f) ∧ Hid (∀ z, f z = (decide (z ∈ (u.take k).flatten) || decide (z ∈ v.take j))) ∧ Hid (∀ i, i < j → ∀ n, v[i]? = some n → (!decide (n ∈ (u.take k).flatten)) = true)) (fun i _ => v.length - (intOf i).toNat)
          case atStart => exact ⟨0, n, f, rfl, Nat.zero_le _, by omega, HB, HM, HF1, hid (fun i hi => absurd hi (Nat.not_lt_zero i))⟩
          case round =>
            clear HB HM HF HF1 hn
            obtain ⟨j, n, f, rfl, hj, hn, HB, HM, HF, hsame⟩ := hrel
            by_cases hlt2 : j < v.length
            · obtain ⟨ae, y, hbe, haeb, hy, hcy⟩ := Its.get HV.out hlt2
              have b3 : (0 : Int) ≤ (j : Int) := by omega
              have b4 : (j : Int) < v.length := by omega
              have hby : (ae.add j).block < w.heap.size := by rw [add_block]; exact haeb
              have hcy1 := (HB.out.cell (p := ae.add j) hby).trans hcy
              have Hy64 := hid (HLv.out y (List.mem_of_getElem? hy.out))
              have hlook := HM.out.look Try.MTB Hy64.out
              have Hfy := hid (show f y = decide (y ∈ (u.take k).flatten) by rw [HF.out y, decide_eq_false (rising_new Hris.out hy.out), Bool.or_false])
              have HMl := hid HM.out.lt
              rw [hbe]
              obtain ⟨fy, hfy⟩ : ∃ fy, f y = fy := ⟨_, rfl⟩
              rw [hfy] at hlook Hfy
              clear hcy hfy
              cases fy with
              | true =>
                have hb := hid (Hbad.out (by rw [Hpk.out]; exact all_no hy.out (by rw [← Hfy.out]; rfl)))
                clear Hbad Hnx Hpk hsame
                go_wp2_with fail
                go_ret
                exact Did.mk (by rw [Hr.out, hb.out]; rfl) HB.out
              | false =>
                have hn2 := hid (all_next (f := fun n => !decide (n ∈ (u.take k).flatten)) hy.out (by rw [← Hfy.out]; rfl) hsame.out)
                have hF2 := hid (show ∀ z, add1 f y z = (decide (z ∈ (u.take k).flatten) || decide (z ∈ v.take (j + 1))) from fun z => by
                  rw [List.take_add_one, hy.out]
                  by_cases hz : z = y
                  · subst hz
                    rw [add1_same]
                    simp
                  · rw [add1_other _ hz, HF.out z]
                    congr 1
                    rw [decide_eq_decide]
                    simp [hz])
                clear Hbad Hnx Hpk hsame HF
                go_wp2_with (at_mapUpdate; refine wpList_bm_store rfl _ _ _ rfl Try.MTB HM.out (by unfold maxLen; omega) rfl rfl rfl Hy64.out ?_; intro w5 hm5 hgrow)
                have bb5 := hid (HB.out.grown hgrow HB.out.size (fun k hk => by injection hk with hk; rw [← hk]; exact HMw.out))
                refine ⟨⟨j + 1, _, _, by go_num, by omega, ?_, bb5, hid hm5, hF2, hn2⟩, by simp [intOf]; omega⟩
                split <;> omega
            · have hj2 : j = v.length := by omega
              have b4 : ¬ (j : Int) < v.length := by omega
              have hn2 := hid (Hnx.out (by rw [Hpk.out]; exact all_yes (fun i hi => hsame.out i (by omega))))
              have hF2 := hid (show ∀ z, f z = decide (z ∈ (u.take (k + 1)).flatten) from fun z => by
                rw [HF.out z, hj2, List.take_length, flat_next hx.out, Bool.eq_iff_iff, Bool.or_eq_true, decide_eq_true_iff, decide_eq_true_iff, decide_eq_true_iff, List.mem_append])
              clear Hbad Hnx Hpk hsame HF
              go_wp2_with fail
              exact ⟨⟨k + 1, n, f, by go_num, by omega, by omega, HB, HM, hF2, hn2⟩, by simp [intOf]; omega⟩
      · have b2 : ¬ (k : Int) < u.length := by omega
        have hn2 := hid (range_yes (f := partOk e u) (n := u.length) (fun i hi => hsame.out i (by omega)))
        clear hsame HF HP
        go_wp2_with fail
        go_ret
        exact Did.mk (by rw [Hr.out, hn2.out]; rfl) HB.out
set_option maxRecDepth 20000 in
set_option maxHeartbeats 4000000 in
theorem p_RightCs (e : Int) (he : I64 e) (x : Cs) (A : Option Addr) (c : Nat) (hl : Wsok x.ws) (w : World) (h : Rows3 w w.heap.size A x.ws) :
    Calls Try.prog 11 #[.int .i64 e, csv x A c] w (Did (.bool (csRight e x)) w) := by
  have hm := hl.1
  unfold maxLen at hm
  have HL := hid hl.2
  have HN := hid (fun X => p_Name (bs x.n) X)
  rw [bs_data] at HN
  have HI := hid (fun X => p_wic (x.ws.length : Int) 1 4 X)
  have HP := hid (fun B d u hl X h => p_rightWay e he B d u hl X h)
  have Hr := hid (show csRight e x = (nameOk x.n && inB (x.ws.length : Int) 1 4 && x.ws.all (wayR e)) by
    unfold csRight
    rw [Bool.and_assoc (nameOk x.n)]
    congr 2
    unfold inB
    congr 1 <;> (rw [decide_eq_decide]; omega))
  generalize csRight e x = q at *
  generalize nameOk x.n = nn at *
  generalize inB (x.ws.length : Int) 1 4 = bb at *
  obtain ⟨P, W, hP, hW, K, hb0⟩ := (Mem.nil w).one (csc x A c) 24
  obtain ⟨e0, e1⟩ := K.out.cs (B := P) (x := x) (A := A) (c := c) (t := 24) (by simp)
  have H := hid h
  clear h hl hb0
  go_enter Try.func11, Try.ntmps11
  go_wp2_with fail
  refine (HN.out _).mono ?_
  rintro e2 w1 ⟨rfl, rfl⟩
  clear hP hW
  cases nn with
  | false =>
    go_wp2_with fail
    go_ret
    exact Did.mk (by rw [Hr.out]; rfl) K.out.2
  | true =>
    go_wp2_with fail
    refine (HI.out _).mono ?_
    rintro e2 w1 ⟨rfl, rfl⟩
    cases bb with
    | false =>
      go_wp2_with fail
      go_ret
      exact Did.mk (by rw [Hr.out]; rfl) K.out.2
    | true =>
      simp only [Bool.true_and] at Hr
      have K0 := hid (K.out.sub (l' := []) (by simp))
      go_wp2_with fail
      clear e0 e1 K
      go_loopw [21] (fun i wr => ∃ (k : Nat), i = .int .i64 k ∧ k ≤ x.ws.length ∧ Hid (Mem w wr []) ∧ Hid (∀ i, i < k → ∀ ls, x.ws[i]? = some ls → wayR e ls = true)) (fun i _ => x.ws.length - (intOf i).toNat)
      case atStart => exact ⟨0, rfl, Nat.zero_le _, K0, hid (fun i hi => absurd hi (Nat.not_lt_zero i))⟩
      case round =>
        clear K0
        obtain ⟨k, rfl, hk, K, hsame⟩ := hrel
        by_cases hlt : k < x.ws.length
        · obtain ⟨ad, Ak, ck, u, hae, hadb, hx, hxl, hcx, hrx, hckx⟩ := H.out.at_ hlt
          subst hae
          have b1 : (0 : Int) ≤ (k : Int) := by omega
          have b2 : (k : Int) < x.ws.length := by omega
          have hbx : (ad.add k).block < w.heap.size := by rw [add_block]; exact hadb
          have hcx1 := (K.out.2.cell (p := ad.add k) hbx).trans hcx
          have Hbad := hid (fun (h : wayR e u = false) => all_no hx.out h)
          have Hnx := hid (fun (h : wayR e u = true) => all_next hx.out h hsame.out)
          have HR := hid hrx
          obtain ⟨D, U, hD, hU, K2, hb2⟩ := K.out.one [.slice Ak u.length ck] 42
          have d0 := K2.out.cell (b := D) (cs := [.slice Ak u.length ck]) (t := 42) (by simp) (k := 0) rfl
          have HP1 := hid (fun X h => HP.out Ak ck u (HL.out u hxl) X h)
          generalize wayR e u = wr at *
          clear hrx hsame hckx hcx hb2 K HP
          go_wp2_with fail
          refine (HP1.out _ ((HR.out.below K2.out.2 (Nat.le_refl _)).more K2.out.2.size)).mono ?_
          rintro e2 Y ⟨rfl, bz⟩
          have K3 := hid ((K2.out.next bz).sub (l' := []) (by simp))
          clear hD hU d0 hcx1 bz K2
          cases wr with
          | false =>
            have hb := hid (Hbad.out rfl)
            clear Hbad Hnx
            go_wp2_with fail
            go_ret
            exact Did.mk (by rw [Hr.out, hb.out]; rfl) K3.out.2
          | true =>
            have hn := hid (Hnx.out rfl)
            clear Hbad Hnx
            go_wp2_with fail
            exact ⟨⟨k + 1, by go_num, by omega, K3, hn⟩, by simp [intOf]; omega⟩
        · have b2 : ¬ (k : Int) < x.ws.length := by omega
          have hn := hid (all_yes (fun i hi => hsame.out i (by omega)))
          clear hsame HP
          go_wp2_with fail
          go_ret
          exact Did.mk (by rw [Hr.out, hn.out]; rfl) K.out.2
end Go.Proofs.Ytgkplcipplpobaa
