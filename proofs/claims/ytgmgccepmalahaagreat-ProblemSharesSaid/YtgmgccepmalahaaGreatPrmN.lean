/- Problem's own persons and Share. -/
import Derived.Test.YtgmgccepmalahaaGreatPrmM
import Derived.Test.YtgmgccepmalahaaGreatPrmB
import Derived.Test.YtgmgccepmalahaaGreatPrbL
import Derived.OwnWalk
namespace Go.Proofs.YtgmgccepmalahaaGreat
open Go.RowKit
open Whn (Gr Wh)

/-- who teaches a class, as it stands -/
def prs17 (l : List Cl) (c : Int) : List Int := if 0 ≤ c ∧ c < (l.length : Nat) then (l.getD c.toNat ⟨[], 0, 0, [], [], [], 0⟩).p else []
def PrsRet (B : Nat) (L : List Int) (w : World) (e : Ending) (w' : World) : Prop := ∃ A c, e = .returned (.slice A L.length c) ∧ Its w' B A L ∧ Below w.heap.size w w'
set_option maxRecDepth 20000 in
set_option maxHeartbeats 4000000 in
theorem p_prs17 (x : PbA) (c : Int) (hc : I64 c) (w0 w : World) (h : PbIn w0 x) (hx : Below w0.heap.size w0 w) : Calls Tryz.prog 114 #[pbv x, .int .i64 c] w (PrsRet w0.heap.size (prs17 (x.cl.map (·.x)) c) w) := by
  have hlm := h.clC
  unfold maxLen at hlm
  unfold I64 at hc
  have HI := hid (fun X => p_w17 c 0 ((x.cl.length : Int) - 1) X)
  have q0 : IntKind.i64.wrap ((x.cl.length : Int) - 1) = (x.cl.length : Int) - 1 := by rw [IntKind.wrap_i64]; omega
  obtain ⟨G, W, hG, hW, K, hb0⟩ := (Mem.nil w).one (pbc x) 34
  obtain ⟨p0, p1, p2, p3, p4, p5, p6, p7, p8, p9, p10, p11, p12, p13, p14⟩ := K.out.pb (B := G) (x := x) (t := 34) (by simp)
  by_cases hin : 0 ≤ c ∧ c < (x.cl.length : Nat)
  · obtain ⟨k, rfl⟩ : ∃ k : Nat, c = (k : Int) := ⟨c.toNat, by omega⟩
    obtain ⟨ad, y, e0, had, hy, hyl, _⟩ := Es.get enC_len (by decide) h.cl (k := k) (by omega)
    have hyI := h.clI y hyl
    have e5 := es_fldK enC_len (show Es enC W w0.heap.size (some ad) x.cl from e0 ▸ h.cl.below (hx.trans (K.out.2.mono hx.size)) (Nat.le_refl _)) hy.out 3 (by decide) (.slice y.r.a y.x.p.length y.r.ac) rfl
    have HL := hid (show prs17 (x.cl.map (·.x)) (k : Int) = y.x.p by
      unfold prs17
      rw [if_pos (by rw [List.length_map]; omega), List.getD_eq_getElem?_getD, Int.toNat_natCast, List.getElem?_map, hy.out]
      rfl)
    have HR := hid (hyI.2.1.1.below (hx.trans (K.out.2.mono hx.size)) (Nat.le_refl _))
    have hb : inB (k : Int) 0 ((x.cl.length : Int) - 1) = true := inB_true hin.1 (by omega)
    rw [hb] at HI
    have i1 : (0 : Int) ≤ (k : Int) := by omega
    have i2 : (k : Int) < (x.cl.length : Int) := by omega
    rw [e0] at p7
    clear h hb0 hb hin hyI hy hyl had e0
    go_enter Tryz.func114, Tryz.ntmps114
    go_wp2_with fail
    refine (HI.out _).mono ?_
    rintro e w1 ⟨rfl, rfl⟩
    go_wp2_with fail
    go_ret
    rw [HL.out]
    exact ⟨_, _, rfl, HR.out, K.out.2⟩
  · have HL := hid (show prs17 (x.cl.map (·.x)) c = [] by
      unfold prs17
      rw [if_neg (by rw [List.length_map]; exact hin)])
    have hb : inB c 0 ((x.cl.length : Int) - 1) = false := inB_false (by omega)
    rw [hb] at HI
    clear h hb0 hb hin
    go_enter Tryz.func114, Tryz.ntmps114
    go_wp2_with fail
    refine (HI.out _).mono ?_
    rintro e w1 ⟨rfl, rfl⟩
    go_wp2_with fail
    go_ret
    rw [HL.out]
    exact ⟨none, 0, rfl, Rd.none_ _ _ _, K.out.2⟩
theorem Tryz.MTB17 : MapTB Tryz.prog 136 3 4 := ⟨by kernel_rfl, by kernel_rfl, by kernel_rfl, fun w => by kernel_rfl⟩
abbrev BM17 (w : World) (b n : Nat) (f : Int → Bool) : Prop := BM Tryz.prog 3 4 w b n f
/-- a rising row of the call's own that has just what S says -/
def ShRet (S : Int → Prop) (w : World) (e : Ending) (w' : World) : Prop := ∃ v, ∃ m : List Int, e = .returned v ∧ w'.ownsRow w.heap.size 3 1 v m.length (m.map (Value.int .i64)) ∧ m.Pairwise (· < ·) ∧ (∀ z, z ∈ m ↔ S z) ∧ Below w.heap.size w w'
set_option maxRecDepth 20000 in
set_option maxHeartbeats 8000000 in
theorem p_Share17 (x : PbA) (a b : Int) (ha : I64 a) (hb : I64 b) (La Lb : List Int) (hLa : prs17 (x.cl.map (·.x)) a = La) (hLb : prs17 (x.cl.map (·.x)) b = Lb) (hla : La.length ≤ 1000) (hlb : Lb.length ≤ 1000) (ia : ∀ i ∈ La, I64 i) (ib : ∀ i ∈ Lb, I64 i) (w : World) (h : PbIn w x) :
    Calls Tryz.prog 35 #[pbv x, .int .i64 a, .int .i64 b] w (ShRet (fun z => z ∈ La ∧ z ∈ Lb) w) := by
  have HPa := hid (fun X (hx : Below w.heap.size w X) => p_prs17 x a ha w X h hx)
  have HPb := hid (fun X (hx : Below w.heap.size w X) => p_prs17 x b hb w X h hx)
  rw [hLa] at HPa
  rw [hLb] at HPb
  have Hia := hid ia
  have Hib := hid ib
  obtain ⟨G, W, hG, hW, K, hb0⟩ := (Mem.nil w).one (pbc x) 34
  have Hcell := hid (fun X (h : Mem w X [(G, pbc x, 34)]) => h.pb (B := G) (x := x) (t := 34) (by simp))
  obtain ⟨M, V, hM, hV, HM0, hbV⟩ : ∃ M V, W.heap.size = M ∧ W.alloc (.map #[] 0) = V ∧ Hid (BM17 V M 0 (fun _ => false)) ∧ Below W.heap.size W V := ⟨_, _, rfl, rfl, hid (BM.made W), below_alloc W _⟩
  have HMw := hid (show w.heap.size ≤ M ∧ G < M from by
    have h1 := (K.out.at_ (b := G) (cs := pbc x) (t := 34) (by simp)).lt
    have h2 := K.out.2.size
    omega)
  have K1 := hid (K.out.next hbV)
  obtain ⟨p0, p1, p2, p3, p4, p5, p6, p7, p8, p9, p10, p11, p12, p13, p14⟩ := Hcell.out _ K1.out
  have hmm := @run_makeMap Tryz.prog
  obtain ⟨i0, hi0, hz0, hz1, hz2⟩ := info_parts Tryz.info_i17
  clear h hb0 ia ib hbV K
  go_enter Tryz.func35, Tryz.ntmps35
  go_wp2_with fail
  refine (HPa.out _ K1.out.2).mono ?_
  rintro e Y ⟨A, cA, rfl, hra, bz⟩
  have HBY := hid (show Below (M + 1) Y Y from Below.refl _ _)
  have K2 := hid (K1.out.next bz)
  have HM1 := hid (HM0.out.next bz)
  have HVsz := hid K1.out.2.size
  have Hra := hid hra
  have HMY := hid HM1.out.lt
  clear p0 p1 p2 p3 p4 p5 p6 p7 p8 p9 p10 p11 p12 p13 p14 bz K1 HM0 hra hmm hM hV hW
  go_wp2_with fail
  go_loopw [18] (fun iv wr => ∃ (k n : Nat) (f : Int → Bool), iv = .int .i64 k ∧ k ≤ La.length ∧ n ≤ k ∧ Hid (Below M Y wr) ∧ Hid (BM17 wr M n f) ∧ Hid (∀ z, f z = decide (z ∈ La.take k))) (fun iv _ => La.length - (intOf iv).toNat)
  case atStart => exact ⟨0, 0, _, rfl, Nat.zero_le _, Nat.le_refl _, hid (Below.refl _ _), HM1, hid (fun z => by simp)⟩
  case round =>
    clear HM1 HBY
    obtain ⟨k, n, f, rfl, hk, hn, HB, HM, HF⟩ := hrel
    by_cases hlt : k < La.length
    · obtain ⟨ae, y, rfl, hae, hy, hcy⟩ := Its.get Hra.out hlt
      have b3 : (0 : Int) ≤ (k : Int) := by omega
      have b4 : (k : Int) < La.length := by omega
      have hcy1 := (HB.out.cell (p := ae.add k) (by rw [add_block]; have := HMw.out; omega)).trans hcy
      have Hy64 := hid (Hia.out y (List.mem_of_getElem? hy.out))
      have hF2 := hid (show ∀ z, add1 f y z = decide (z ∈ La.take (k + 1)) from fun z => by
        rw [List.take_add_one, hy.out]
        by_cases hz : z = y
        · subst hz
          rw [add1_same]
          simp
        · rw [add1_other _ hz, HF.out z, decide_eq_decide]
          simp [hz])
      have HMl := hid HM.out.lt
      clear hcy HF
      go_wp2_with (at_mapUpdate; refine wpList_bm_store rfl _ _ _ rfl Tryz.MTB17 HM.out (by unfold maxLen; omega) rfl rfl rfl Hy64.out ?_; intro w5 hm5 hgrow)
      have bb5 := hid (HB.out.grown hgrow (by have := HMl.out; omega) (fun k hk => by injection hk with hk; omega))
      refine ⟨⟨k + 1, _, _, by go_num, by omega, ?_, bb5, hid hm5, hF2⟩, by simp [intOf]; omega⟩
      split <;> omega
    · obtain rfl : k = La.length := by omega
      have b4 : ¬ (La.length : Int) < La.length := by omega
      have HF2 := hid (show ∀ z, f z = decide (z ∈ La) from fun z => by rw [HF.out z, List.take_length])
      have K3 := hid (show Mem w wr [(G, pbc x, 34)] from ⟨fun p hp => (K2.out.1 p hp).below HB.out (by
        simp only [List.mem_cons, List.not_mem_nil, or_false] at hp
        rcases hp with rfl
        exact HMw.out.2), K2.out.2.trans (HB.out.mono HMw.out.1)⟩)
      have HMl := hid HM.out.lt
      obtain ⟨p0, p1, p2, p3, p4, p5, p6, p7, p8, p9, p10, p11, p12, p13, p14⟩ := Hcell.out _ K3.out
      clear HF K2 HB
      go_wp2_with fail
      refine (HPb.out _ K3.out.2).mono ?_
      rintro e Z ⟨B, cB, rfl, hrb, bz⟩
      have K4 := hid (K3.out.next bz)
      have HM4 := hid (HM.out.next bz)
      have Hrb := hid hrb
      have HVs2 := hid K3.out.2.size
      have HMZ := hid HM4.out.lt
      clear p0 p1 p2 p3 p4 p5 p6 p7 p8 p9 p10 p11 p12 p13 p14 bz K3 HM hrb
      go_wp2_with fail
      go_loopw [10, 29] (fun lv iv wr => ∃ k : Nat, iv = .int .i64 k ∧ k ≤ Lb.length ∧ Hid (wr.ownsRow (M + 1) 3 1 lv ((Lb.take k).filter (fun z => decide (z ∈ La))).length (((Lb.take k).filter (fun z => decide (z ∈ La))).map (Value.int .i64))) ∧ Hid (Below (M + 1) Z wr)) (fun _ iv _ => Lb.length - (intOf iv).toNat)
      case atStart => exact ⟨0, rfl, Nat.zero_le _, hid (World.ownsRow_nil Z (M + 1) 3 1), hid (Below.refl _ _)⟩
      case round =>
        obtain ⟨k, rfl, hk, HO, HB⟩ := hrel
        obtain ⟨L, hL⟩ : ∃ L, (Lb.take k).filter (fun z => decide (z ∈ La)) = L := ⟨_, rfl⟩
        rw [hL] at HO
        have hLl : L.length ≤ k := by
          rw [← hL]
          exact Nat.le_trans (List.length_filter_le _ _) (by rw [List.length_take]; omega)
        by_cases hlt : k < Lb.length
        · obtain ⟨ae, y, rfl, hae, hy, hcy⟩ := Its.get Hrb.out hlt
          have b3 : (0 : Int) ≤ (k : Int) := by omega
          have b4 : (k : Int) < Lb.length := by omega
          have hcy1 := (HB.out.cell (p := ae.add k) (by rw [add_block]; have := HMw.out; omega)).trans hcy
          have Hy64 := hid (Hib.out y (List.mem_of_getElem? hy.out))
          have HMr := hid (HM4.out.keep (HB.out.block M (by omega)))
          have hlook := HMr.out.look Tryz.MTB17 Hy64.out
          have hst : (Lb.take (k + 1)).filter (fun z => decide (z ∈ La)) = L ++ (if decide (y ∈ La) then [y] else []) := by
            rw [List.take_add_one, hy.out, List.filter_append, hL]
            congr 1
            by_cases hyL : y ∈ La <;> simp [hyL]
          have Hst := hid hst
          rw [HF2.out y] at hlook
          clear hcy hL hst
          cases hyy : decide (y ∈ La) with
          | false =>
            rw [hyy] at hlook Hst
            rw [if_neg (by decide), List.append_nil] at Hst
            clear hyy
            go_wp2_with fail
            exact ⟨⟨k + 1, by go_num, by omega, by rw [Hst.out]; exact HO, HB⟩, by simp [intOf]; omega⟩
          | true =>
            rw [hyy] at hlook Hst
            rw [if_pos rfl] at Hst
            clear hyy
            have hn3 : L.length + 1 ≤ maxLen := by unfold maxLen; omega
            have hn4 : (L.length + 1) * 8 ≤ 140737488355328 := by omega
            have hB4 : M + 1 ≤ wr.heap.size := by have := HB.out.size; have := HMZ.out; omega
            go_wp2_with (at_builtin; refine wpList_append_own _ rfl _ _ 43 rfl (M + 1) 3 i0 (.int .i64 0) 1 8 Tryz.underlying43 hi0 hz0 hz1 hz2 rfl (by decide) _ _ _ rfl (HO.out.alloc _) ⟨_, 0, none⟩ 1 1 [.int .i64 y] rfl rfl (lit_one _ _ _) (by simp [Value.oneCell']) hn3 hn4 (le_alloc hB4 _) ?_; intro v1 w5 hown2 hgrow _)
            have bb : Below (M + 1) wr w5 := ((Below.refl (M + 1) wr).alloc hB4 _).grown hgrow (le_alloc hB4 _) (fun k hk => (HO.out.lt k hk).1)
            refine ⟨⟨k + 1, by go_num, by omega, ?_, hid (HB.out.trans bb)⟩, by simp [intOf]; omega⟩
            rw [Hst.out, List.length_append, List.map_append]
            exact hid hown2
        · obtain rfl : k = Lb.length := by omega
          have b4 : ¬ (Lb.length : Int) < Lb.length := by omega
          have hL2 : Lb.filter (fun z => decide (z ∈ La)) = L := by rw [← hL, List.take_length]
          have Hmem := hid (show ∀ z, z ∈ L ↔ z ∈ La ∧ z ∈ Lb from fun z => by
            rw [← hL2, List.mem_filter, decide_eq_true_iff]
            exact And.comm)
          have hB4 : M + 1 ≤ wr.heap.size := by have := HB.out.size; have := HMZ.out; omega
          have HS := hid (p_SortI (M + 1) _ L wr HO.out (by omega) hB4)
          have HLl := hid hLl
          have HBs := hid hB4
          clear hL hL2 HM4 HF2
          go_wp2_with fail
          refine (HS.out).mono ?_
          rintro e w6 ⟨rfl, ts, htl, hts, htm, hown6, bb6⟩
          have HC := hid (p_CompI (M + 1) _ ts w6 hown6 (by omega) (by have := bb6.size; omega))
          have Hts := hid hts
          have Htm := hid htm
          have Hbb6 := hid bb6
          clear hts htm hown6 bb6 HS
          go_wp2_with fail
          refine (HC.out).mono ?_
          rintro e w7 ⟨v7, rfl, hown7, bb7⟩
          have Hown7 := hid hown7
          have Hbb7 := hid bb7
          clear hown7 bb7
          go_wp2_with fail
          go_ret
          refine ⟨_, Lib.compact ts, rfl, own_mono Hown7.out (by have := HMw.out; omega), compact_rising Hts.out, fun z => by rw [compact_mem, Htm.out, Hmem.out], ?_⟩
          exact K4.out.2.trans ((HB.out.trans (Hbb6.out.trans Hbb7.out)).mono (by have := HMw.out; omega))
end Go.Proofs.YtgmgccepmalahaaGreat
