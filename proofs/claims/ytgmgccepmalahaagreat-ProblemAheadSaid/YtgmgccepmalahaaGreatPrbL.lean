/- The document's own answers for layer 17 (problem): Teaches, Share (the plain seat's). -/
import Derived.Test.YtgmgccepmalahaaGreatPrbK
namespace Go.Proofs.YtgmgccepmalahaaGreat
open Go.RowKit
open Whn (Gr Wh)

/-- does a person teach a class? -/
def tchB (l : List Cl) (n c : Int) : Bool := decide (0 ≤ c ∧ c < (l.length : Nat)) && decide (n ∈ (l.getD c.toNat ⟨[], 0, 0, [], [], [], 0⟩).p)
set_option maxRecDepth 20000 in
set_option maxHeartbeats 4000000 in
theorem r17_Teaches (x : PbA) (n c : Int) (w : World) (h : PbIn w x) : Calls Tryz.prog 117 #[pbv x, .int .i64 n, .int .i64 c] w (Did (.bool (tchB (x.cl.map (·.x)) n c)) w) := by
  have HI := hid h
  have Hr := hid (show tchB (x.cl.map (·.x)) n c = (decide (0 ≤ c ∧ c < (x.cl.length : Nat)) && decide (n ∈ ((x.cl.map (fun y : ClA => y.x)).getD c.toNat (⟨[], 0, 0, [], [], [], 0⟩ : Cl)).p)) from by unfold tchB; rw [List.length_map])
  have Hg := hid (fun i (y : ClA) (hy : x.cl[i]? = some y) => show (x.cl.map (fun y : ClA => y.x)).getD i (⟨[], 0, 0, [], [], [], 0⟩ : Cl) = y.x from by rw [List.getD_eq_getElem?_getD, List.getElem?_map, hy]; rfl)
  generalize tchB (x.cl.map (·.x)) n c = rr at *
  obtain ⟨G, W, hG, hW, K, hb0⟩ := (Mem.nil w).one (pbc x) 34
  obtain ⟨p0, p1, p2, p3, p4, p5, p6, p7, p8, p9, p10, p11, p12, p13, p14⟩ := K.out.pb (B := G) (x := x) (t := 34) (by simp)
  clear h hb0
  by_cases h0 : 0 ≤ c
  · by_cases h1 : c < (x.cl.length : Nat)
    · obtain ⟨i, rfl⟩ : ∃ i : Nat, c = i := ⟨c.toNat, by omega⟩
      obtain ⟨ad, y, e0, had, hy, hyl, _⟩ := Es.get enC_len (by decide) (HI.out.cl.below K.out.2 (Nat.le_refl _)) (k := i) (by omega)
      have hq := HI.out.cl.below K.out.2 (Nat.le_refl _)
      rw [e0] at hq p7
      have d3 : W.cell? ⟨(ad.add (i * 7)).block, (ad.add (i * 7)).off + 3, none⟩ = some (.slice y.r.a y.x.p.length y.r.ac) := es_fldK enC_len hq hy.out 3 (by decide) _ rfl
      have hci := HI.out.clI y hyl
      have HH := hid (r_Has y.r.a y.x.p.length y.r.ac y.x.p rfl (by have := hci.2.2.1; omega) n W W.heap.size ((hci.2.1.1.below K.out.2 (Nat.le_refl _)).more K.out.2.size))
      have Hd := hid (show rr = decide (n ∈ y.x.p) from by rw [Hr.out, decide_eq_true ⟨h0, h1⟩, Bool.true_and, Int.toNat_natCast, Hg.out i y hy.out])
      clear hq e0 Hr hci
      go_enter Tryz.func117, Tryz.ntmps117
      go_wp2_with fail
      refine HH.out.mono ?_
      rintro e Y ⟨rfl, rfl⟩
      go_wp2_with fail
      go_ret
      exact Did.mk (by rw [Hd.out]; rfl) K.out.2
    · have Hd := hid (show rr = false from by rw [Hr.out, decide_eq_false (fun h => h1 h.2)]; rfl)
      have u1 : ((x.cl.length : Nat) : Int) ≤ c := by omega
      clear Hr
      go_enter Tryz.func117, Tryz.ntmps117
      go_wp2_with fail
      go_ret
      exact Did.mk (by rw [Hd.out]; rfl) K.out.2
  · have Hd := hid (show rr = false from by rw [Hr.out, decide_eq_false (fun h => h0 h.1)]; rfl)
    clear Hr
    go_enter Tryz.func117, Tryz.ntmps117
    go_wp2_with fail
    go_ret
    exact Did.mk (by rw [Hd.out]; rfl) K.out.2
/-- who teaches both, of the first k numbers -/
def shrN (l : List Cl) (a b : Int) (k : Nat) : List Int := ((List.range k).map fun (i : Nat) => (i : Int)).filter fun i => tchB l i a && tchB l i b
theorem shrN_succ (l : List Cl) (a b : Int) (k : Nat) : shrN l a b (k + 1) = shrN l a b k ++ (if tchB l k a && tchB l k b then [(k : Int)] else []) := by
  unfold shrN
  rw [List.range_succ, List.map_append, List.filter_append]
  congr 1
  simp only [List.map_cons, List.map_nil, List.filter_cons, List.filter_nil]
theorem shrN_len (l : List Cl) (a b : Int) (k : Nat) : (shrN l a b k).length ≤ k := by
  unfold shrN
  refine Nat.le_trans (List.length_filter_le _ _) ?_
  rw [List.length_map, List.length_range]
  exact Nat.le_refl _
theorem Tryz.info_i17 : (Tryz.prog.info? 3).map (fun i => (i.zero, i.size, i.bytes)) = some (some (.int .i64 0), 1, 8) := by kernel_rfl
/-- hands out a row of numbers of the call's own -/
def OwI17 (m : List Int) (w : World) (e : Ending) (w' : World) : Prop := ∃ v, e = .returned v ∧ w'.ownsRow w.heap.size 3 1 v m.length (m.map (Value.int .i64)) ∧ Below w.heap.size w w'
set_option maxRecDepth 20000 in
set_option maxHeartbeats 4000000 in
theorem r17_Share (x : PbA) (a b : Int) (w : World) (h : PbIn w x) : Calls Tryz.prog 36 #[pbv x, .int .i64 a, .int .i64 b] w (OwI17 (shrN (x.cl.map (·.x)) a b 64) w) := by
  have HT := hid (fun n c X (hb : Below w.heap.size w X) => r17_Teaches x n c X (h.next hb))
  have Hst := hid (fun k => shrN_succ (x.cl.map (·.x)) a b k)
  have Hln := hid (fun k => shrN_len (x.cl.map (·.x)) a b k)
  have Hz := hid (show shrN (x.cl.map (·.x)) a b 0 = [] from rfl)
  generalize shrN (x.cl.map (·.x)) a b = F at *
  generalize tchB (x.cl.map (·.x)) = T at *
  obtain ⟨G, W, hG, hW, K, hb0⟩ := (Mem.nil w).one (pbc x) 34
  have Hcell := hid (fun X (h : Mem w X [(G, pbc x, 34)]) => h.pb (B := G) (x := x) (t := 34) (by simp))
  have HGw := hid (show w.heap.size ≤ G by omega)
  have HBw := hid (show ∀ X : World, Mem w X [(G, pbc x, 34)] → G + 1 ≤ X.heap.size from fun X h => (h.at_ (b := G) (cs := pbc x) (t := 34) (by simp)).lt)
  obtain ⟨i0, hi0, hz0, hz1, hz2⟩ := info_parts Tryz.info_i17
  clear h hb0
  go_enter Tryz.func36, Tryz.ntmps36
  go_wp2_with fail
  go_loopw [7, 8] (fun lv iv wr => ∃ i : Nat, iv = .int .i64 i ∧ i ≤ 64 ∧ Hid (wr.ownsRow (G + 1) 3 1 lv (F i).length ((F i).map (Value.int .i64))) ∧ Hid (Mem w wr [(G, pbc x, 34)])) (fun _ iv _ => 64 - (intOf iv).toNat)
  case atStart => exact ⟨0, rfl, Nat.zero_le _, by rw [Hz.out]; exact hid (World.ownsRow_nil W (G + 1) 3 1), K⟩
  case round =>
    clear K hW
    obtain ⟨i, rfl, hi, HO, KM⟩ := hrel
    obtain ⟨p0, p1, p2, p3, p4, p5, p6, p7, p8, p9, p10, p11, p12, p13, p14⟩ := Hcell.out _ KM.out
    have hl := Hln.out i
    have Hsi := hid (Hst.out i)
    by_cases hlt : i < 64
    · have i2 : (i : Int) < 64 := by omega
      obtain ⟨L, hL⟩ : ∃ L, F i = L := ⟨_, rfl⟩
      rw [hL] at HO hl Hsi
      clear hL
      go_wp2_with fail
      refine (HT.out i a _ KM.out.2).mono ?_
      rintro e Y1 ⟨rfl, bz⟩
      have K1 := hid (KM.out.next bz)
      have O1 := hid (own_below HO.out bz)
      clear p0 p1 p2 p3 p4 p5 p6 p7 p8 p9 p10 p11 p12 p13 p14 bz KM HO
      obtain ⟨p0, p1, p2, p3, p4, p5, p6, p7, p8, p9, p10, p11, p12, p13, p14⟩ := Hcell.out _ K1.out
      cases hta : T i a with
      | false =>
        rw [hta, Bool.false_and, if_neg (by decide), List.append_nil] at Hsi
        clear hta
        go_wp2_with fail
        exact ⟨⟨i + 1, by go_num, by omega, by rw [Hsi.out]; exact O1, K1⟩, by simp [intOf]; omega⟩
      | true =>
        rw [hta, Bool.true_and] at Hsi
        clear hta
        go_wp2_with fail
        refine (HT.out i b _ K1.out.2).mono ?_
        rintro e Y2 ⟨rfl, bz⟩
        have K2 := hid (K1.out.next bz)
        have O2 := hid (own_below O1.out bz)
        clear p0 p1 p2 p3 p4 p5 p6 p7 p8 p9 p10 p11 p12 p13 p14 bz K1 O1
        cases htb : T i b with
        | false =>
          rw [htb, if_neg (by decide), List.append_nil] at Hsi
          clear htb
          go_wp2_with fail
          exact ⟨⟨i + 1, by go_num, by omega, by rw [Hsi.out]; exact O2, K2⟩, by simp [intOf]; omega⟩
        | true =>
          rw [htb, if_pos rfl] at Hsi
          clear htb
          have hn3 : L.length + 1 ≤ maxLen := by unfold maxLen; omega
          have hn4 : (L.length + 1) * 8 ≤ 140737488355328 := by omega
          have hB4 := HBw.out _ K2.out
          go_wp2_with (at_builtin; refine wpList_append_own _ rfl _ _ 43 rfl (G + 1) 3 i0 (.int .i64 0) 1 8 Tryz.underlying43 hi0 hz0 hz1 hz2 rfl (by decide) _ _ _ rfl (O2.out.alloc _) ⟨_, 0, none⟩ 1 1 [.int .i64 i] rfl rfl (lit_one _ _ _) (by simp [Value.oneCell']) hn3 hn4 (le_alloc hB4 _) ?_; intro v1 w5 hown2 hgrow _)
          have bb : Below (G + 1) Y2 w5 := ((Below.refl (G + 1) Y2).alloc hB4 _).grown hgrow (le_alloc hB4 _) (fun k hk => (O2.out.lt k hk).1)
          have K6 : Mem w w5 [(G, pbc x, 34)] := ⟨fun p hp => (K2.out.1 p hp).below bb (by
            simp only [List.mem_cons, List.not_mem_nil, or_false] at hp
            rcases hp with rfl
            show G < G + 1; omega), K2.out.2.trans (bb.mono (by have := HGw.out; omega))⟩
          refine ⟨⟨i + 1, by go_num, by omega, ?_, hid K6⟩, by simp [intOf]; omega⟩
          rw [Hsi.out, List.length_append, List.map_append]
          exact hid hown2
    · obtain rfl : i = 64 := by omega
      go_wp2_with fail
      go_ret
      exact ⟨_, rfl, own_mono HO.out (by have := HGw.out; omega), KM.out.2⟩
end Go.Proofs.YtgmgccepmalahaaGreat
