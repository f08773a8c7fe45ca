/- Contracts of the program's own functions of layer 14 (course): loadsOf, Loads. -/
import Derived.Test.YtgkplcipplpobaaCrtH
namespace Go.Proofs.Ytgkplcipplpobaa
open Go.RowKit
open Whn (Gr Wh)

theorem OwR.mono {w : World} {base b2 : Nat} {v : Value} {ls : List (List Int)} (h : OwR w base v ls) (hb : b2 ≤ base) : OwR w b2 v ls := by
  obtain ⟨vals, ho, hc⟩ := h
  exact ⟨vals, own_base ho hb, hc⟩
set_option maxRecDepth 20000 in
set_option maxHeartbeats 8000000 in
theorem p_loadsOf (A : Option Addr) (c : Nat) (l : List ClA) (B : Option Addr) (d : Nat) (ls : List (List Int)) (hl : Lsok ls) (h4 : ls.length ≤ 4) (h8 : ∀ p ∈ ls, p.length ≤ 8 ∧ ∀ n ∈ p, 0 ≤ n ∧ n < (l.length : Nat)) (w : World) (h : Es enC w w.heap.size A l) (hB : Rows2 w w.heap.size B ls) :
    Calls Try.prog 39 #[.slice A l.length c, .agg #[.slice B ls.length d]] w (fun e X => ∃ v, e = .returned v ∧ OwR X w.heap.size v (loadsW l ls) ∧ Below w.heap.size w X) := by
  obtain ⟨L, W1, hL, hW1, K1, z1⟩ := (Mem.nil w).one [.slice A l.length c] 32
  obtain ⟨Wb, W2, hW, hW2, K2, z2⟩ := K1.out.one [.slice B ls.length d] 42
  obtain ⟨R, W3, hR, hW3, K3, z3⟩ := K2.out.one [.slice none 0 0] 34
  obtain ⟨G, W4, hG, hW4, K4, z4⟩ := K3.out.one ((List.replicate ls.length (0 : Int)).map (Value.int .i64)) 3
  have hmk : (Instr.makeSlice 29 (.int .i64 (ls.length : Int)) (.int .i64 (ls.length : Int))).run Try.prog W3 = .ok (.slice (some ⟨G, 0, none⟩) ls.length ls.length) W4 := by
    obtain ⟨i0, hi0, hz0, hz1, hz2⟩ := info_parts Try.info_int14
    have hr := run_makeSlice (P := Try.prog) W3 29 3 i0 (.int .i64 0) Try.underlying29 hi0 hz0 .i64 .i64 ls.length ls.length (by omega) (Int.le_refl _) (by rw [hz1]; omega) (by rw [hz2]; omega) (by omega)
    rw [hr, hG, Int.toNat_natCast, hz1, Nat.mul_one, ← hW4]
    congr 3
    apply Array.ext'
    rw [List.map_replicate]
    exact toList_madeCells_one _ _
  obtain ⟨S, W5, hS, hW5, K5, z5⟩ := K4.out.one [.slice (some ⟨G, 0, none⟩) ls.length ls.length] 29
  obtain ⟨F, W6, hF, hW6, K6, z6⟩ := K5.out.one [.nilFunc] 71
  have w0 := K3.out.cell (b := Wb) (cs := [.slice B ls.length d]) (t := 42) (by simp) (k := 0) rfl
  have hLo := K6.out.at_ (b := L) (cs := [.slice A l.length c]) (t := 32) (by simp)
  have hWo := K6.out.at_ (b := Wb) (cs := [.slice B ls.length d]) (t := 42) (by simp)
  have hRo := K6.out.at_ (b := R) (cs := [.slice none 0 0]) (t := 34) (by simp)
  have hGo := K6.out.at_ (b := G) (cs := (List.replicate ls.length (0 : Int)).map (Value.int .i64)) (t := 3) (by simp)
  have hSo := K6.out.at_ (b := S) (cs := [.slice (some ⟨G, 0, none⟩) ls.length ls.length]) (t := 29) (by simp)
  have hFo := K6.out.at_ (b := F) (cs := [.nilFunc]) (t := 71) (by simp)
  have g1 : L < Wb := by have := (K1.out.at_ (b := L) (cs := [.slice A l.length c]) (t := 32) (by simp)).lt; omega
  have g2 : Wb < R := by have := (K2.out.at_ (b := Wb) (cs := [.slice B ls.length d]) (t := 42) (by simp)).lt; omega
  have g3 : R < G := by have := (K3.out.at_ (b := R) (cs := [.slice none 0 0]) (t := 34) (by simp)).lt; omega
  have g4 : G < S := by have := (K4.out.at_ (b := G) (cs := (List.replicate ls.length (0 : Int)).map (Value.int .i64)) (t := 3) (by simp)).lt; omega
  have g5 : S < F := by have := (K5.out.at_ (b := S) (cs := [.slice (some ⟨G, 0, none⟩) ls.length ls.length]) (t := 29) (by simp)).lt; omega
  have hi : Ids.ok ⟨w.heap.size, L, Wb, R, G, S, F, F + 1⟩ := ⟨Nat.le_of_eq hL, g1, g2, g3, g4, g5, Nat.lt_succ_self F⟩
  have KC := hid (show Chs ⟨w.heap.size, L, Wb, R, G, S, F, F + 1⟩ A c l B d ls w (W6.setCell ⟨F, 0, none⟩ (.func (.func 54) #[] #[.pointer (some ⟨Wb, 0, none⟩), .pointer (some ⟨L, 0, none⟩), .pointer (some ⟨S, 0, none⟩), .pointer (some ⟨R, 0, none⟩), .pointer (some ⟨F, 0, none⟩)])) (List.replicate ls.length 0) [] from
    ⟨hLo.other (by show F ≠ L; omega) _, hWo.other (by show F ≠ Wb; omega) _, hSo.other (by show F ≠ S; omega) _, hFo.set 0 _, hGo.other (by show F ≠ G; omega) _, K6.out.2.setCell (by show w.heap.size ≤ F; omega) _, by rw [setCell_size]; exact hFo.lt, _, hRo.other (by show F ≠ R; omega) _, RowsAt.nil _ _⟩)
  have Hch := hid (p_choose ⟨w.heap.size, L, Wb, R, G, S, F, F + 1⟩ hi A c l B d ls hl h4 h8 w rfl h hB ls.length 0 (Nat.zero_add _) (List.replicate ls.length 0) [] _ List.length_replicate (fun n hn => by rw [List.take_zero] at hn; cases hn) (by
    have : 8 ^ ls.length ≤ 8 ^ 4 := Nat.pow_le_pow_right (by decide) h4
    have e : (8 : Nat) ^ 4 = 4096 := by decide
    rw [e] at this
    simpa using this) KC.out)
  rw [List.take_zero, ext_zero, List.nil_append] at Hch
  have Hr := hid (show (allN ls ls.length).filter (holdC l ls) = loadsW l ls from rfl)
  rw [Hr.out] at Hch
  have f0 := hFo.free 0
  have c0 := hFo.cell (k := 0) rfl
  have HFw := hid (show w.heap.size ≤ F + 1 by omega)
  have hst := run_store Try.prog W6 ⟨F, 0, none⟩ (.func (.func 54) #[] #[.pointer (some ⟨Wb, 0, none⟩), .pointer (some ⟨L, 0, none⟩), .pointer (some ⟨S, 0, none⟩), .pointer (some ⟨R, 0, none⟩), .pointer (some ⟨F, 0, none⟩)]) .plain rfl
  clear hLo hWo hRo hGo hSo hFo g1 g2 g3 g4 g5 z1 z2 z3 z4 z5 z6 K1 K2 K3 K4 K5 K6 KC hi h hB h8
  go_enter Try.func39, Try.ntmps39
  go_wp2_with fail
  refine Hch.out.mono ?_
  intro e1 X1 hch
  obtain ⟨cur2, rfl, _, _, K2⟩ := hch.next
  obtain ⟨rv, hrv, hra⟩ := K2.hR
  have r0 := hrv.cell (k := 0) rfl
  have HO := hid (hra.owr.mono HFw.out)
  have HB2 := hid K2.hB
  clear hch hrv hra K2 w0 c0 f0 hst
  go_wp2_with fail
  go_ret
  exact ⟨rv, rfl, HO.out, HB2.out⟩
/-- a row of rows that is appended -/
theorem src_rows {P : Program} {w : World} {base : Nat} {e' tx : TypeId} (hk : P.underlying tx = some (.slice e')) {v : Value} {ls : List (List Int)} {vals : List Value} (ho : w.ownsRow base 29 1 v ls.length vals)
    (hc : ∀ (k : Nat) (l : List Int), ls[k]? = some l → ∃ Ak ck, vals[k]? = some (Value.slice Ak l.length ck) ∧ l.length ≤ ck ∧ IntRow w Ak l) : Src P 1 tx v ls.length vals w := by
  have hvl : vals.length = ls.length := by have := ho.1; rwa [Nat.mul_one] at this
  have h1 : ∀ u ∈ vals, u.oneCell' = true := fun u hu => by
    obtain ⟨k, hk, e⟩ := List.mem_iff_getElem.1 hu
    obtain ⟨Ak, ck, h2, _⟩ := hc k _ (List.getElem?_eq_getElem (by omega))
    rw [List.getElem?_eq_getElem hk, e] at h2
    injection h2 with h2
    rw [h2]; rfl
  obtain ⟨A, c, rfl, hr, _⟩ := own_rd ho
  by_cases hn : vals = []
  · subst hn
    have h0 : ls.length = 0 := by rw [← hvl]; rfl
    rw [h0]
    cases A with
    | none => exact Src.ofNil w hk c
    | some a => exact Src.ofSlice w hk a 0 c [] rfl (fun j u hu => by cases hu) (fun u hu => by cases hu)
  · obtain ⟨ad, rfl, _, hcell⟩ := hr hn
    exact Src.ofSlice w hk ad ls.length c vals (by rw [hvl, Nat.mul_one]) hcell h1
theorem OwR.cat {w w' : World} {base : Nat} {v v' : Value} {ls ms : List (List Int)} {vals mvals : List Value} (ho : w.ownsRow base 29 1 v ls.length vals) (hc : ∀ (k : Nat) (l : List Int), ls[k]? = some l → ∃ Ak ck, vals[k]? = some (Value.slice Ak l.length ck) ∧ l.length ≤ ck ∧ IntRow w Ak l)
    (hm : ∀ (k : Nat) (l : List Int), ms[k]? = some l → ∃ Ak ck, mvals[k]? = some (Value.slice Ak l.length ck) ∧ l.length ≤ ck ∧ IntRow w Ak l) (hg : w.grownBy w' v.ownBlock) (ho' : w'.ownsRow base 29 1 v' (ls.length + ms.length) (vals ++ mvals)) : OwR w' base v' (ls ++ ms) := by
  have hvl : vals.length = ls.length := by have := ho.1; rwa [Nat.mul_one] at this
  refine ⟨_, by rw [List.length_append]; exact ho', fun k l hl => ?_⟩
  rcases Nat.lt_or_ge k ls.length with h | h
  · rw [List.getElem?_append_left h] at hl
    obtain ⟨Ak, ck, h1, h2, h3⟩ := hc k l hl
    exact ⟨Ak, ck, by rw [List.getElem?_append_left (by omega)]; exact h1, h2, h3.grown hg (OwR.typ ho)⟩
  · rw [List.getElem?_append_right h] at hl
    obtain ⟨Ak, ck, h1, h2, h3⟩ := hm _ l hl
    exact ⟨Ak, ck, by rw [List.getElem?_append_right (by omega), hvl]; exact h1, h2, h3.grown hg (OwR.typ ho)⟩
theorem loadsW_len (l : List ClA) {ls : List (List Int)} (h4 : ls.length ≤ 4) (h8 : ∀ p ∈ ls, p.length ≤ 8) : (loadsW l ls).length ≤ 4096 :=
  Nat.le_trans (List.length_filter_le _ _) (allN_max h8 h4)
set_option maxRecDepth 20000 in
set_option maxHeartbeats 8000000 in
theorem p_LoadsC (A : Option Addr) (c : Nat) (l : List ClA) (hlm : l.length ≤ maxLen) (x : Cs) (B : Option Addr) (d : Nat) (hl : Wsok x.ws) (w : World) (h : Es enC w w.heap.size A l) (hB : Rows3 w w.heap.size B x.ws) :
    Calls Try.prog 20 #[.slice A l.length c, csv x B d] w (fun e X => ∃ v, e = .returned v ∧ OwR X w.heap.size v (loadsC l x) ∧ Below w.heap.size w X) := by
  have hm := hl.1
  unfold maxLen at hm hlm
  have HL := hid hl.2
  have HRi := hid (fun X h => p_RightCs (l.length : Int) (by unfold I64; omega) x B d hl X h)
  have HP := hid (fun B d u h1 h2 h3 X h h' => p_loadsOf A c l B d u h1 h2 h3 X h h')
  have Hr := hid (show loadsC l x = if csRight (l.length : Nat) x then x.ws.flatMap (loadsW l) else [] from rfl)
  have Hws := hid (fun h => right_ws (e := (l.length : Nat)) (x := x) h)
  have H := hid h
  have HB := hid hB
  obtain ⟨j0, hj0, hy0, hy1, hy2⟩ := info_parts Try.info_row14
  generalize loadsC l x = res at *
  generalize csRight (l.length : Nat) x = rr at *
  obtain ⟨P, W, hP, hW, K, hb0⟩ := (Mem.nil w).one (csc x B d) 24
  obtain ⟨e0, e1⟩ := K.out.cs (B := P) (x := x) (A := B) (c := d) (t := 24) (by simp)
  clear h hB hl hb0
  go_enter Try.func20, Try.ntmps20
  go_wp2_with fail
  refine (HRi.out _ (HB.out.next K.out.2)).mono ?_
  rintro e2 Y ⟨rfl, bz⟩
  have K1 := hid (K.out.next bz)
  clear e0 e1 hP hW bz K HRi
  cases rr with
  | false =>
    go_wp2_with fail
    go_ret
    exact ⟨_, rfl, by rw [Hr.out]; exact ⟨[], World.ownsRow_nil _ _ _ _, fun k l hl => by cases hl⟩, K1.out.2⟩
  | true =>
    obtain ⟨hw4, hws⟩ := Hws.out rfl
    have Hw := hid hws
    have Hr1 := hid (show x.ws.flatMap (loadsW l) = res from Hr.out.symm)
    obtain ⟨e0, e1⟩ := K1.out.cs (B := P) (x := x) (A := B) (c := d) (t := 24) (by simp)
    have Hz := hid (show (x.ws.take 0).flatMap (loadsW l) = [] by simp)
    have Hnx := hid (fun k u (hu : x.ws[k]? = some u) => show (x.ws.take (k + 1)).flatMap (loadsW l) = (x.ws.take k).flatMap (loadsW l) ++ loadsW l u by rw [List.take_add_one, hu, List.flatMap_append]; simp)
    have Hln := hid (fun k (hk : k ≤ x.ws.length) => show ((x.ws.take k).flatMap (loadsW l)).length ≤ 16384 from
      Nat.le_trans (flat_le (loadsW l) 4096 _ (fun u hu => loadsW_len l (hws u (List.mem_of_mem_take hu)).1 (fun p hp => ((hws u (List.mem_of_mem_take hu)).2 p hp).1))) (by
        rw [List.length_take]
        have : min k x.ws.length * 4096 ≤ 4 * 4096 := Nat.mul_le_mul_right _ (by omega)
        omega))
    have Hen := hid (show (x.ws.take x.ws.length).flatMap (loadsW l) = res by rw [List.take_length]; exact Hr1.out)
    have K0 := hid (K1.out.sub (l' := []) (by simp))
    obtain ⟨ld, hld⟩ : ∃ ld : Nat → List (List Int), (fun k => (x.ws.take k).flatMap (loadsW l)) = ld := ⟨_, rfl⟩
    have Hld := hid (fun k => show (x.ws.take k).flatMap (loadsW l) = ld k from congrFun hld k)
    have Hz1 := hid ((Hld.out 0).symm.trans Hz.out)
    have own0 := hid (show OwR Y w.heap.size (.slice none 0 0) (ld 0) from by rw [Hz1.out]; exact ⟨[], World.ownsRow_nil _ _ _ _, fun k l hl => by cases hl⟩)
    clear hws hld Hr Hws Hz
    go_wp2_with fail
    clear e0 e1 K1
    go_loopw [5, 16] (fun lv i wr => ∃ (k : Nat), i = .int .i64 k ∧ k ≤ x.ws.length ∧ Hid (Mem w wr []) ∧ Hid (OwR wr w.heap.size lv (ld k))) (fun _ i _ => x.ws.length - (intOf i).toNat)
    case atStart => exact ⟨0, rfl, Nat.zero_le _, K0, own0⟩
    case round =>
      clear K0 own0
      obtain ⟨k, rfl, hk, K, HO⟩ := hrel
      by_cases hlt : k < x.ws.length
      · obtain ⟨ad, Ak, ck, u, hae, hadb, hx, hxl, hcx, hrx, hckx⟩ := HB.out.at_ hlt
        subst hae
        have b1 : (0 : Int) ≤ (k : Int) := by omega
        have b2 : (k : Int) < x.ws.length := by omega
        have hbx : (ad.add k).block < w.heap.size := by rw [add_block]; exact hadb
        have hcx1 := (K.out.2.cell (p := ad.add k) hbx).trans hcx
        have HR := hid hrx
        obtain ⟨D, U, hD, hU, K2, hb2⟩ := K.out.one [.slice Ak u.length ck] 42
        have d0 := K2.out.cell (b := D) (cs := [.slice Ak u.length ck]) (t := 42) (by simp) (k := 0) rfl
        have HO2 := hid (HO.out.next hb2)
        have HP1 := hid (fun X h h' => HP.out Ak ck u (HL.out u hxl) (Hw.out u hxl).1 (Hw.out u hxl).2 X h h')
        have hul := loadsW_len l (Hw.out u hxl).1 (fun p hp => ((Hw.out u hxl).2 p hp).1)
        have Hnx1 := hid (show ld (k + 1) = ld k ++ loadsW l u by rw [← Hld.out, ← Hld.out]; exact Hnx.out k u hx.out)
        have hln : (ld k).length ≤ 16384 := by rw [← Hld.out]; exact Hln.out k (by omega)
        generalize loadsW l u = lu at *
        clear hrx hckx hcx hb2 K HO HP Hnx Hln Hen Hld Hr1 Hz1
        go_wp2_with fail
        refine (HP1.out _ ((H.out.below K2.out.2 (Nat.le_refl _)).more K2.out.2.size) ((HR.out.below K2.out.2 (Nat.le_refl _)).more K2.out.2.size)).mono ?_
        rintro e2 Y2 ⟨v2, rfl, hov, bz⟩
        have K3 := hid ((K2.out.next bz).sub (l' := []) (by simp))
        have HO3 := HO2.out.next bz
        obtain ⟨vals, ho3, hc3⟩ := HO3
        obtain ⟨mvals, ho4, hc4⟩ := hov
        have Ho3 := hid ho3
        have Hsrc := hid (src_rows (P := Try.prog) Try.underlying34 ho4 hc4)
        have q5 : (ld k).length + lu.length ≤ maxLen := by unfold maxLen; omega
        have q6 : ((ld k).length + lu.length) * 24 ≤ 140737488355328 := by omega
        have hK3 := K3.out.2.size
        have Hc3 := hid hc3
        have Hc4 := hid hc4
        clear hD hU d0 hcx1 bz K2 HO2 ho3 hc3 ho4 hc4
        go_wp2_with (at_builtin; refine wpList_append_srcN rfl _ _ 34 34 rfl w.heap.size 29 j0 (.slice none 0 0) 1 24 Try.underlying34 hj0 hy0 hy1 hy2 rfl _ _ _ rfl Ho3.out _ _ _ rfl Hsrc.out q5 q6 hK3 ?_; intro v5 w5 hown hgrow)
        have K5 : Mem w w5 [] := ⟨fun p hp => by (cases hp), K3.out.2.grown hgrow hK3 (fun k hk => (Ho3.out.lt k hk).1)⟩
        refine ⟨⟨k + 1, by go_num, by omega, hid K5, ?_⟩, by simp [intOf]; omega⟩
        rw [Hnx1.out]
        exact hid (OwR.cat Ho3.out Hc3.out Hc4.out hgrow hown)
      · have b2 : ¬ (k : Int) < x.ws.length := by omega
        have hkl : k = x.ws.length := by omega
        have Hfin := hid (show ld k = res by rw [hkl, ← Hld.out]; exact Hen.out)
        clear HP Hnx Hln Hen Hld Hr1
        go_wp2_with fail
        go_ret
        exact ⟨_, rfl, by rw [← Hfin.out]; exact HO.out, K.out.2⟩
end Go.Proofs.Ytgkplcipplpobaa
