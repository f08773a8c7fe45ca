/- Proves 'ManyGrowsSaid': for every input the Go function ManyGrows returns true, and each argument reads afterwards as it read before. Conditions: none beyond the row's own. -/
import Derived.Test.YtjjmajhldpoobaaRows
import Derived.WalkKit
import Derived.ProofKit
import Derived.OpenShut
import Derived.ShutString
import Derived.SliceStrings
import Derived.ChangeOld
import Derived.Below
import Derived.Test.YtjjmajhldpoobaaMnyV
namespace Go.Proofs.Ytjjmajhldpoobaa.manyGrows
open Go.ChangeShapes Go.WideShapes Go.ChangeAt Go.RowKit
open Go.ChangeMaps (open_string shut_string)
set_option linter.unusedVariables false

theorem own : ownKnob Try.prog.godebug = none := by kernel_rfl
theorem laidOut : laidOutB Try.prog = true := by kernel_rfl

/-- WHAT THE WALK IS TOLD OF A SLICE OF INTEGERS THAT CAME IN: it is nil; or it leads to a row of 'cap' cells, the numbers 'zs' (the first 'len' are its elements, the rest its spare room), each fitting its kind. -/
def IsRow (k : IntKind) (w : World) (a : Option Addr) (len cap : Nat) (zs : List Int) : Prop :=
  (a = none ∧ len = 0 ∧ cap = 0 ∧ zs = []) ∨
  ∃ x, a = some x ∧ len ≤ cap ∧ cap ≤ maxLen ∧ zs.length = cap ∧ (∀ i, i < zs.length → w.cell? (x.add i) = some (.int k (zs.getD i 0))) ∧ ∀ n ∈ zs, (Lit.int k n).wf = true

/-! ### STEP 1: THE WALK: the Go text returns true, AND WRITES NOTHING THAT WAS THERE: 'Below w.heap.size w w'' (Derived/Below.lean: '.refl', '.alloc', '.drew', '.setCell' at a new block, '.trans'). Open each 'IsRow' by 'rcases' AHEAD of 'go_enter'; part every test ahead of the walk. -/
set_option maxRecDepth 20000 in
set_option maxHeartbeats 16000000 in
theorem walk (a0 : Whn.Gr) (a1 : Int) (a2 : T2) (a3 : WsA) (a4 : WsA) (w : World) (w0 : Gok a0) (w1 : (Lit.int .i64 a1).wf = true) (w2 : T2ok a2) (w3 : WsIn w a3) (w4 : WsIn w a4) :
    Calls Try.prog 6 #[gv a0, .int .i64 a1, t2v a2, wsA a3, wsA a4] w fun e w' => e = .returned (.bool true) ∧ Below w.heap.size w w' := by
  obtain ⟨n0, n1⟩ := a2
  obtain ⟨wn0, wn1⟩ := w2
  simp only at wn0 wn1
  obtain ⟨l, A, c⟩ := a3
  obtain ⟨hw, hw1, hw2, hw3⟩ := w3
  simp only at hw hw1 hw2 hw3
  obtain ⟨m, D, d⟩ := a4
  obtain ⟨hv, hv1, hv2, hv3⟩ := w4
  simp only at hv hv1 hv2 hv3
  revert w0; generalize a0 = g; intro w0
  show Calls Try.prog 6 #[gv g, .int .i64 a1, .agg #[.int .i64 n0, .int .i64 n1], .slice A l.length c, .slice D m.length d] w (Did (.bool true) w)
  have hk : I64 a1 := by have := bounds_i64 w1; unfold I64; omega
  have hok : ∀ y ∈ l ++ m, Wok y := fun y hy => (List.mem_append.1 hy).elim (hw3 y) (hv3 y)
  have HF := hid (fun X => l_few16 l.length A c X)
  have HG := hid (fun X => l_few16 m.length D d X)
  have HH := hid (fun X => heads16 own16 X)
  have HBn := hid (fun hm X h => own16.broken g a1 n0 n1 false l A c X hk wn0 wn1 hw3 hm h)
  have HBm := hid (fun A2 c2 hm X h => own16.broken g a1 n0 n1 false (l ++ m) A2 c2 X hk wn0 wn1 hok hm h)
  have HLn := hid (fun hm X h => own16.least g a1 n0 n1 false l A c X hk wn0 wn1 hw3 hm h)
  have HLm := hid (fun A2 c2 hm X h => own16.least g a1 n0 n1 false (l ++ m) A2 c2 X hk wn0 wn1 hok hm h)
  have hgr := hid (fun h => Whn.brk_grows (g := g) (k := a1) (a := n0) (b := n1) (l := l) m h)
  have hle := Whn.least_grows g a1 n0 n1 l m
  have H1 := hid hw
  have H2 := hid hv
  clear hw hw1 hw2 hw3 hv hv1 hv2 hv3 wn0 wn1 hk w0 w1 hok
  obtain ⟨i0, hi0, hz0, hz1, hz2⟩ := info_parts Try.info_when
  obtain ⟨P, W, hP, hW, K, z0⟩ := (Mem.nil w).one (gc g) 23
  obtain ⟨R, V, hR, hV, K1, z1⟩ := K.out.one [.int .i64 n0, .int .i64 n1] 25
  clear K z0 z1
  generalize Whn.brkV g a1 n0 n1 l false = b1 at *
  generalize Whn.brkV g a1 n0 n1 (l ++ m) false = b2 at *
  generalize Whn.leastV g a1 n0 n1 l false = q1 at *
  generalize Whn.leastV g a1 n0 n1 (l ++ m) false = q2 at *
  go_enter Try.func6, Try.ntmps6
  go_wp2_with fail
  refine (HF.out _).mono ?_
  rintro e Y1 ⟨rfl, rfl⟩
  by_cases h12 : l.length ≤ 12
  rotate_left
  · have h12f := decide_eq_false h12
    rw [h12f]
    go_wp2_with fail
    refine (HH.out _).mono ?_
    rintro e Y1 ⟨rfl, bz⟩
    go_wp2_with fail
    go_ret
    exact Did.mk rfl (K1.out.next bz).2
  · have h12t := decide_eq_true h12
    rw [h12t]
    go_wp2_with fail
    refine (HG.out _).mono ?_
    rintro e Y1 ⟨rfl, rfl⟩
    by_cases g12 : m.length ≤ 12
    rotate_left
    · have g12f := decide_eq_false g12
      rw [g12f]
      go_wp2_with fail
      refine (HH.out _).mono ?_
      rintro e Y1 ⟨rfl, bz⟩
      go_wp2_with fail
      go_ret
      exact Did.mk rfl (K1.out.next bz).2
    · have g12t := decide_eq_true g12
      rw [g12t]
      have hlm : (l ++ m).length ≤ 10000 := by rw [List.length_append]; omega
      have HBn1 := hid (fun X h => HBn.out (by omega) X h)
      have HBm1 := hid (fun A2 c2 X h => HBm.out A2 c2 hlm X h)
      have HLn1 := hid (fun X h => HLn.out (by omega) X h)
      have HLm1 := hid (fun A2 c2 X h => HLm.out A2 c2 hlm X h)
      have q1a : 0 + l.length ≤ maxLen := by unfold maxLen; omega
      have q1b : (0 + l.length) * 24 ≤ 140737488355328 := by omega
      have q2a : 0 + l.length + m.length ≤ maxLen := by unfold maxLen; omega
      have q2b : (0 + l.length + m.length) * 24 ≤ 140737488355328 := by omega
      clear HBn HBm HLn HLm h12 h12t g12 g12t HF HG hlm
      rw [List.length_append] at HBm1 HLm1
      have hb0 := below_alloc V (.cells #[] 48)
      have own0 := World.ownsRow_lit (base := V.heap.size) (e := 48) (size := 4) V #[] 0 (Nat.le_refl _) (by unfold maxLen; omega) rfl
      have HA0 := hid (fun X h => (H1.out.below (w' := X) (h : Below w.heap.size w X) (Nat.le_refl _)).more h.size)
      have HD0 := hid (fun X h => (H2.out.below (w' := X) (h : Below w.heap.size w X) (Nat.le_refl _)).more h.size)
      have S1 := src_whs (P := Try.prog) (V.alloc (.cells #[] 48)) Try.underlying26 (c := c) rfl (HA0.out _ (K1.out.2.trans (hb0.mono K1.out.2.size)))
      go_upto_region 4 with (first | (at_builtin; refine wpList_append_srcN rfl _ _ 26 26 rfl V.heap.size 48 i0 (.agg #[.int .u32 0, .int .u8 0, .int .i64 0, .int .i64 0]) 4 24 Try.underlying26 hi0 hz0 hz1 hz2 rfl _ _ _ rfl own0 _ _ _ rfl S1 q1a q1b hb0.size ?_; intro v1 w1 hown1 hgr1; have bw1 := Below.grown hb0 hgr1 hb0.size (fun k hk => (own0.lt k hk).1); have S2 := src_whs (P := Try.prog) w1 Try.underlying26 (c := d) rfl (HD0.out _ (K1.out.2.trans (bw1.mono K1.out.2.size)))) | (at_builtin; refine wpList_append_srcN rfl _ _ 26 26 rfl V.heap.size 48 i0 (.agg #[.int .u32 0, .int .u8 0, .int .i64 0, .int .i64 0]) 4 24 Try.underlying26 hi0 hz0 hz1 hz2 rfl _ _ _ rfl hown1 _ _ _ rfl S2 q2a q2b bw1.size ?_; intro v2 w2 hown2 hgr2))
      have bw2 : Below V.heap.size V w2 := Below.grown bw1 hgr2 bw1.size (fun k hk => (hown1.lt k hk).1)
      have hownF : w2.ownsRow V.heap.size 48 4 v2 (l ++ m).length (wcells (l ++ m)) := by
        rw [List.length_append, wcells_append, ← Nat.zero_add l.length]
        exact hown2
      obtain ⟨A2, c2, rfl, hr2, _⟩ := own_whsM hownF
      have K2 := hid (K1.out.next bw2)
      have HR := hid hr2
      clear hownF hown2 hown1 hgr1 hgr2 bw1 bw2 S1 S2 own0 hb0 K1 hr2
      obtain ⟨q0, q1_, q2_⟩ := K2.out.gr (B := P) (g := g) (by simp)
      have e0 := (K2.out.at_ (b := R) (cs := [.int .i64 n0, .int .i64 n1]) (t := 25) (by simp)).cell (k := 0) rfl
      have e1 := (K2.out.at_ (b := R) (cs := [.int .i64 n0, .int .i64 n1]) (t := 25) (by simp)).cell (k := 1) rfl
      go_wp2_with fail
      refine (HBn1.out _ (HA0.out _ K2.out.2)).mono ?_
      rintro e Y1 ⟨rfl, bz⟩
      have K3 := hid (K2.out.next bz)
      have HR3 := hid (rd_next HR.out bz)
      clear q0 q1_ q2_ e0 e1 K2 bz HR
      cases b1 with
      | false =>
        go_wp2_with fail
        refine wp_region_held_drew (S := fun X => Mem w X [(R, [.int .i64 n0, .int .i64 n1], 25), (P, gc g, 23)]) (by kernel_rfl) K3.out.drew (fun hHeld => ?_)
        have K10 := hid K3.out.drew
        have HR10 := hid (rd_next HR3.out ((Below.refl _ _).drew))
        clear K3 HR3
        refine takeH 0 45 (gv g) rfl rfl (by kernel_rfl) (by kernel_rfl) (by kernel_rfl) (fun _ _ _ h => h) (by kernel_rfl) (fun X hX => by obtain ⟨q0, q1, q2⟩ := hX.gr (B := P) (g := g) (by simp); clear hX; go_simp) hHeld ?_
        simp only [Act.put, List.setIfInBounds_toArray, List.set_cons_zero, List.set_cons_succ]
        refine takeH 1 46 (.int .i64 a1) rfl rfl (by kernel_rfl) (by kernel_rfl) (by kernel_rfl) (fun _ _ _ h => h) (by kernel_rfl) (fun X hX => by clear hX; first | rfl | go_simp) hHeld ?_
        simp only [Act.put, List.setIfInBounds_toArray, List.set_cons_zero, List.set_cons_succ]
        refine takeH 2 47 (.pointer (some ⟨R, 0, none⟩)) rfl rfl (by kernel_rfl) (by kernel_rfl) (by kernel_rfl) (fun _ _ _ h => h) (by kernel_rfl) (fun X hX => by clear hX; first | rfl | go_simp) hHeld ?_
        simp only [Act.put, List.setIfInBounds_toArray, List.set_cons_zero, List.set_cons_succ]
        refine takeH 3 48 (.int .i64 n0) rfl rfl (by kernel_rfl) (by kernel_rfl) (by kernel_rfl) (fun _ _ _ h => h) (by kernel_rfl) (fun X hX => by have q0 := (hX.at_ (b := R) (cs := [.int .i64 n0, .int .i64 n1]) (t := 25) (by simp)).cell (k := 0) rfl; clear hX; go_simp) hHeld ?_
        simp only [Act.put, List.setIfInBounds_toArray, List.set_cons_zero, List.set_cons_succ]
        refine takeH 4 49 (.pointer (some ⟨R, 1, none⟩)) rfl rfl (by kernel_rfl) (by kernel_rfl) (by kernel_rfl) (fun _ _ _ h => h) (by kernel_rfl) (fun X hX => by clear hX; first | rfl | go_simp) hHeld ?_
        simp only [Act.put, List.setIfInBounds_toArray, List.set_cons_zero, List.set_cons_succ]
        refine takeH 5 50 (.int .i64 n1) rfl rfl (by kernel_rfl) (by kernel_rfl) (by kernel_rfl) (fun _ _ _ h => h) (by kernel_rfl) (fun X hX => by have q0 := (hX.at_ (b := R) (cs := [.int .i64 n0, .int .i64 n1]) (t := 25) (by simp)).cell (k := 1) rfl; clear hX; go_simp) hHeld ?_
        simp only [Act.put, List.setIfInBounds_toArray, List.set_cons_zero, List.set_cons_succ]
        refine takeH 6 51 (.slice A l.length c) rfl rfl (by kernel_rfl) (by kernel_rfl) (by kernel_rfl) (fun _ _ _ h => h) (by kernel_rfl) (fun X hX => by clear hX; first | rfl | go_simp) hHeld ?_
        simp only [Act.put, List.setIfInBounds_toArray, List.set_cons_zero, List.set_cons_succ]
        refine takeH 8 53 (gv g) rfl rfl (by kernel_rfl) (by kernel_rfl) (by kernel_rfl) (fun _ _ _ h => h) (by kernel_rfl) (fun X hX => by obtain ⟨q0, q1, q2⟩ := hX.gr (B := P) (g := g) (by simp); clear hX; go_simp) hHeld ?_
        simp only [Act.put, List.setIfInBounds_toArray, List.set_cons_zero, List.set_cons_succ]
        refine takeH 9 54 (.int .i64 a1) rfl rfl (by kernel_rfl) (by kernel_rfl) (by kernel_rfl) (fun _ _ _ h => h) (by kernel_rfl) (fun X hX => by clear hX; first | rfl | go_simp) hHeld ?_
        simp only [Act.put, List.setIfInBounds_toArray, List.set_cons_zero, List.set_cons_succ]
        refine takeH 10 55 (.pointer (some ⟨R, 0, none⟩)) rfl rfl (by kernel_rfl) (by kernel_rfl) (by kernel_rfl) (fun _ _ _ h => h) (by kernel_rfl) (fun X hX => by clear hX; first | rfl | go_simp) hHeld ?_
        simp only [Act.put, List.setIfInBounds_toArray, List.set_cons_zero, List.set_cons_succ]
        refine takeH 11 56 (.int .i64 n0) rfl rfl (by kernel_rfl) (by kernel_rfl) (by kernel_rfl) (fun _ _ _ h => h) (by kernel_rfl) (fun X hX => by have q0 := (hX.at_ (b := R) (cs := [.int .i64 n0, .int .i64 n1]) (t := 25) (by simp)).cell (k := 0) rfl; clear hX; go_simp) hHeld ?_
        simp only [Act.put, List.setIfInBounds_toArray, List.set_cons_zero, List.set_cons_succ]
        refine takeH 12 57 (.pointer (some ⟨R, 1, none⟩)) rfl rfl (by kernel_rfl) (by kernel_rfl) (by kernel_rfl) (fun _ _ _ h => h) (by kernel_rfl) (fun X hX => by clear hX; first | rfl | go_simp) hHeld ?_
        simp only [Act.put, List.setIfInBounds_toArray, List.set_cons_zero, List.set_cons_succ]
        refine takeH 13 58 (.int .i64 n1) rfl rfl (by kernel_rfl) (by kernel_rfl) (by kernel_rfl) (fun _ _ _ h => h) (by kernel_rfl) (fun X hX => by have q0 := (hX.at_ (b := R) (cs := [.int .i64 n0, .int .i64 n1]) (t := 25) (by simp)).cell (k := 1) rfl; clear hX; go_simp) hHeld ?_
        simp only [Act.put, List.setIfInBounds_toArray, List.set_cons_zero, List.set_cons_succ]
        refine takeH 14 59 (.slice A2 (l.length + m.length) c2) rfl rfl (by kernel_rfl) (by kernel_rfl) (by kernel_rfl) (fun _ _ _ h => h) (by kernel_rfl) (fun X hX => by clear hX; first | rfl | go_simp) hHeld ?_
        simp only [Act.put, List.setIfInBounds_toArray, List.set_cons_zero, List.set_cons_succ]
        refine wpAnyH_ready (rs := [7]) (by kernel_rfl) (by simp) ?_
        refine AllReadyH.cons rfl (fun KK hK => ?_) AllReadyH.nil
        simp only [List.getElem_toArray, List.getElem_cons_succ, List.getElem_cons_zero]
        go_simp
        refine (HLn1.out _ (HA0.out _ K10.out.2)).mono ?_
        rintro e Y11 ⟨rfl, bz⟩
        have K11 := hid (K10.out.next bz)
        have HR11 := hid (rd_next HR10.out bz)
        refine hK.out _ _ K11.out (fun hHeld => ?_)
        clear hK KK
        try simp only [Act.put, List.setIfInBounds_toArray, List.set_cons_zero, List.set_cons_succ]
        clear bz K10 HR10
        refine wpAnyH_ready (rs := [15]) (by kernel_rfl) (by simp) ?_
        refine AllReadyH.cons rfl (fun KK hK => ?_) AllReadyH.nil
        simp only [List.getElem_toArray, List.getElem_cons_succ, List.getElem_cons_zero]
        go_simp
        refine (HLm1.out _ _ _ HR11.out).mono ?_
        rintro e Y12 ⟨rfl, bz⟩
        have K12 := hid (K11.out.next bz)
        refine hK.out _ _ K12.out (fun hHeld => ?_)
        clear hK KK
        try simp only [Act.put, List.setIfInBounds_toArray, List.set_cons_zero, List.set_cons_succ]
        clear bz K11 
        refine takeH 16 61 (.bool true) rfl rfl (by kernel_rfl) (by kernel_rfl) (by kernel_rfl) (fun _ _ _ h => h) (by kernel_rfl) (fun X hX => by have := hle; clear hX; go_simp) hHeld ?_
        simp only [Act.put, List.setIfInBounds_toArray, List.set_cons_zero, List.set_cons_succ]
        refine takeH 17 62 (.bool true) rfl rfl (by kernel_rfl) (by kernel_rfl) (by kernel_rfl) (fun _ _ _ h => h) (by kernel_rfl) (fun X hX => by clear hX; first | rfl | go_simp) hHeld ?_
        simp only [Act.put, List.setIfInBounds_toArray, List.set_cons_zero, List.set_cons_succ]
        refine wpAnyH_ready (rs := [18]) (by kernel_rfl) (by simp) ?_
        refine AllReadyH.cons rfl (fun KK hK => ?_) AllReadyH.nil
        simp only [List.getElem_toArray, List.getElem_cons_succ, List.getElem_cons_zero]
        go_simp
        refine (HH.out _).mono ?_
        rintro e Y13 ⟨rfl, bz⟩
        have K13 := hid (K12.out.next bz)
        refine hK.out _ _ K13.out (fun hHeld => ?_)
        clear hK KK
        try simp only [Act.put, List.setIfInBounds_toArray, List.set_cons_zero, List.set_cons_succ]
        clear bz K12 
        refine takeH 19 64 (.bool true) rfl rfl (by kernel_rfl) (by kernel_rfl) (by kernel_rfl) (fun _ _ _ h => h) (by kernel_rfl) (fun X hX => by clear hX; first | rfl | go_simp) hHeld ?_
        simp only [Act.put, List.setIfInBounds_toArray, List.set_cons_zero, List.set_cons_succ]
        refine takeH 20 10 (.bool true) rfl rfl (by kernel_rfl) (by kernel_rfl) (by kernel_rfl) (fun _ _ _ h => h) (by kernel_rfl) (fun X hX => by clear hX; first | rfl | go_simp) hHeld ?_
        simp only [Act.put, List.setIfInBounds_toArray, List.set_cons_zero, List.set_cons_succ]
        refine wpAnyH_done (by kernel_rfl) ?_ _
        clear hHeld
        go_wp2_with fail
        go_ret
        exact ⟨rfl, K13.out.2⟩
      | true =>
        obtain rfl : b2 = true := hgr.out rfl
        obtain ⟨q0, q1_, q2_⟩ := K3.out.gr (B := P) (g := g) (by simp)
        have e0 := (K3.out.at_ (b := R) (cs := [.int .i64 n0, .int .i64 n1]) (t := 25) (by simp)).cell (k := 0) rfl
        have e1 := (K3.out.at_ (b := R) (cs := [.int .i64 n0, .int .i64 n1]) (t := 25) (by simp)).cell (k := 1) rfl
        go_wp2_with fail
        refine (HBm1.out _ _ _ HR3.out).mono ?_
        rintro e Y2 ⟨rfl, bz⟩
        have K4 := hid (K3.out.next bz)
        have HR4 := hid (rd_next HR3.out bz)
        clear q0 q1_ q2_ e0 e1 K3 bz HR3
        go_wp2_with fail
        refine wp_region_held_drew (S := fun X => Mem w X [(R, [.int .i64 n0, .int .i64 n1], 25), (P, gc g, 23)]) (by kernel_rfl) K4.out.drew (fun hHeld => ?_)
        have K10 := hid K4.out.drew
        have HR10 := hid (rd_next HR4.out ((Below.refl _ _).drew))
        clear K4 HR4
        refine takeH 0 45 (gv g) rfl rfl (by kernel_rfl) (by kernel_rfl) (by kernel_rfl) (fun _ _ _ h => h) (by kernel_rfl) (fun X hX => by obtain ⟨q0, q1, q2⟩ := hX.gr (B := P) (g := g) (by simp); clear hX; go_simp) hHeld ?_
        simp only [Act.put, List.setIfInBounds_toArray, List.set_cons_zero, List.set_cons_succ]
        refine takeH 1 46 (.int .i64 a1) rfl rfl (by kernel_rfl) (by kernel_rfl) (by kernel_rfl) (fun _ _ _ h => h) (by kernel_rfl) (fun X hX => by clear hX; first | rfl | go_simp) hHeld ?_
        simp only [Act.put, List.setIfInBounds_toArray, List.set_cons_zero, List.set_cons_succ]
        refine takeH 2 47 (.pointer (some ⟨R, 0, none⟩)) rfl rfl (by kernel_rfl) (by kernel_rfl) (by kernel_rfl) (fun _ _ _ h => h) (by kernel_rfl) (fun X hX => by clear hX; first | rfl | go_simp) hHeld ?_
        simp only [Act.put, List.setIfInBounds_toArray, List.set_cons_zero, List.set_cons_succ]
        refine takeH 3 48 (.int .i64 n0) rfl rfl (by kernel_rfl) (by kernel_rfl) (by kernel_rfl) (fun _ _ _ h => h) (by kernel_rfl) (fun X hX => by have q0 := (hX.at_ (b := R) (cs := [.int .i64 n0, .int .i64 n1]) (t := 25) (by simp)).cell (k := 0) rfl; clear hX; go_simp) hHeld ?_
        simp only [Act.put, List.setIfInBounds_toArray, List.set_cons_zero, List.set_cons_succ]
        refine takeH 4 49 (.pointer (some ⟨R, 1, none⟩)) rfl rfl (by kernel_rfl) (by kernel_rfl) (by kernel_rfl) (fun _ _ _ h => h) (by kernel_rfl) (fun X hX => by clear hX; first | rfl | go_simp) hHeld ?_
        simp only [Act.put, List.setIfInBounds_toArray, List.set_cons_zero, List.set_cons_succ]
        refine takeH 5 50 (.int .i64 n1) rfl rfl (by kernel_rfl) (by kernel_rfl) (by kernel_rfl) (fun _ _ _ h => h) (by kernel_rfl) (fun X hX => by have q0 := (hX.at_ (b := R) (cs := [.int .i64 n0, .int .i64 n1]) (t := 25) (by simp)).cell (k := 1) rfl; clear hX; go_simp) hHeld ?_
        simp only [Act.put, List.setIfInBounds_toArray, List.set_cons_zero, List.set_cons_succ]
        refine takeH 6 51 (.slice A l.length c) rfl rfl (by kernel_rfl) (by kernel_rfl) (by kernel_rfl) (fun _ _ _ h => h) (by kernel_rfl) (fun X hX => by clear hX; first | rfl | go_simp) hHeld ?_
        simp only [Act.put, List.setIfInBounds_toArray, List.set_cons_zero, List.set_cons_succ]
        refine takeH 8 53 (gv g) rfl rfl (by kernel_rfl) (by kernel_rfl) (by kernel_rfl) (fun _ _ _ h => h) (by kernel_rfl) (fun X hX => by obtain ⟨q0, q1, q2⟩ := hX.gr (B := P) (g := g) (by simp); clear hX; go_simp) hHeld ?_
        simp only [Act.put, List.setIfInBounds_toArray, List.set_cons_zero, List.set_cons_succ]
        refine takeH 9 54 (.int .i64 a1) rfl rfl (by kernel_rfl) (by kernel_rfl) (by kernel_rfl) (fun _ _ _ h => h) (by kernel_rfl) (fun X hX => by clear hX; first | rfl | go_simp) hHeld ?_
        simp only [Act.put, List.setIfInBounds_toArray, List.set_cons_zero, List.set_cons_succ]
        refine takeH 10 55 (.pointer (some ⟨R, 0, none⟩)) rfl rfl (by kernel_rfl) (by kernel_rfl) (by kernel_rfl) (fun _ _ _ h => h) (by kernel_rfl) (fun X hX => by clear hX; first | rfl | go_simp) hHeld ?_
        simp only [Act.put, List.setIfInBounds_toArray, List.set_cons_zero, List.set_cons_succ]
        refine takeH 11 56 (.int .i64 n0) rfl rfl (by kernel_rfl) (by kernel_rfl) (by kernel_rfl) (fun _ _ _ h => h) (by kernel_rfl) (fun X hX => by have q0 := (hX.at_ (b := R) (cs := [.int .i64 n0, .int .i64 n1]) (t := 25) (by simp)).cell (k := 0) rfl; clear hX; go_simp) hHeld ?_
        simp only [Act.put, List.setIfInBounds_toArray, List.set_cons_zero, List.set_cons_succ]
        refine takeH 12 57 (.pointer (some ⟨R, 1, none⟩)) rfl rfl (by kernel_rfl) (by kernel_rfl) (by kernel_rfl) (fun _ _ _ h => h) (by kernel_rfl) (fun X hX => by clear hX; first | rfl | go_simp) hHeld ?_
        simp only [Act.put, List.setIfInBounds_toArray, List.set_cons_zero, List.set_cons_succ]
        refine takeH 13 58 (.int .i64 n1) rfl rfl (by kernel_rfl) (by kernel_rfl) (by kernel_rfl) (fun _ _ _ h => h) (by kernel_rfl) (fun X hX => by have q0 := (hX.at_ (b := R) (cs := [.int .i64 n0, .int .i64 n1]) (t := 25) (by simp)).cell (k := 1) rfl; clear hX; go_simp) hHeld ?_
        simp only [Act.put, List.setIfInBounds_toArray, List.set_cons_zero, List.set_cons_succ]
        refine takeH 14 59 (.slice A2 (l.length + m.length) c2) rfl rfl (by kernel_rfl) (by kernel_rfl) (by kernel_rfl) (fun _ _ _ h => h) (by kernel_rfl) (fun X hX => by clear hX; first | rfl | go_simp) hHeld ?_
        simp only [Act.put, List.setIfInBounds_toArray, List.set_cons_zero, List.set_cons_succ]
        refine wpAnyH_ready (rs := [7]) (by kernel_rfl) (by simp) ?_
        refine AllReadyH.cons rfl (fun KK hK => ?_) AllReadyH.nil
        simp only [List.getElem_toArray, List.getElem_cons_succ, List.getElem_cons_zero]
        go_simp
        refine (HLn1.out _ (HA0.out _ K10.out.2)).mono ?_
        rintro e Y14 ⟨rfl, bz⟩
        have K11 := hid (K10.out.next bz)
        have HR11 := hid (rd_next HR10.out bz)
        refine hK.out _ _ K11.out (fun hHeld => ?_)
        clear hK KK
        try simp only [Act.put, List.setIfInBounds_toArray, List.set_cons_zero, List.set_cons_succ]
        clear bz K10 HR10
        refine wpAnyH_ready (rs := [15]) (by kernel_rfl) (by simp) ?_
        refine AllReadyH.cons rfl (fun KK hK => ?_) AllReadyH.nil
        simp only [List.getElem_toArray, List.getElem_cons_succ, List.getElem_cons_zero]
        go_simp
        refine (HLm1.out _ _ _ HR11.out).mono ?_
        rintro e Y15 ⟨rfl, bz⟩
        have K12 := hid (K11.out.next bz)
        refine hK.out _ _ K12.out (fun hHeld => ?_)
        clear hK KK
        try simp only [Act.put, List.setIfInBounds_toArray, List.set_cons_zero, List.set_cons_succ]
        clear bz K11 
        refine takeH 16 61 (.bool true) rfl rfl (by kernel_rfl) (by kernel_rfl) (by kernel_rfl) (fun _ _ _ h => h) (by kernel_rfl) (fun X hX => by have := hle; clear hX; go_simp) hHeld ?_
        simp only [Act.put, List.setIfInBounds_toArray, List.set_cons_zero, List.set_cons_succ]
        refine takeH 17 62 (.bool true) rfl rfl (by kernel_rfl) (by kernel_rfl) (by kernel_rfl) (fun _ _ _ h => h) (by kernel_rfl) (fun X hX => by clear hX; first | rfl | go_simp) hHeld ?_
        simp only [Act.put, List.setIfInBounds_toArray, List.set_cons_zero, List.set_cons_succ]
        refine wpAnyH_ready (rs := [18]) (by kernel_rfl) (by simp) ?_
        refine AllReadyH.cons rfl (fun KK hK => ?_) AllReadyH.nil
        simp only [List.getElem_toArray, List.getElem_cons_succ, List.getElem_cons_zero]
        go_simp
        refine (HH.out _).mono ?_
        rintro e Y16 ⟨rfl, bz⟩
        have K13 := hid (K12.out.next bz)
        refine hK.out _ _ K13.out (fun hHeld => ?_)
        clear hK KK
        try simp only [Act.put, List.setIfInBounds_toArray, List.set_cons_zero, List.set_cons_succ]
        clear bz K12 
        refine takeH 19 64 (.bool true) rfl rfl (by kernel_rfl) (by kernel_rfl) (by kernel_rfl) (fun _ _ _ h => h) (by kernel_rfl) (fun X hX => by clear hX; first | rfl | go_simp) hHeld ?_
        simp only [Act.put, List.setIfInBounds_toArray, List.set_cons_zero, List.set_cons_succ]
        refine takeH 20 10 (.bool true) rfl rfl (by kernel_rfl) (by kernel_rfl) (by kernel_rfl) (fun _ _ _ h => h) (by kernel_rfl) (fun X hX => by clear hX; first | rfl | go_simp) hHeld ?_
        simp only [Act.put, List.setIfInBounds_toArray, List.set_cons_zero, List.set_cons_succ]
        refine wpAnyH_done (by kernel_rfl) ?_ _
        clear hHeld
        go_wp2_with fail
        go_ret
        exact ⟨rfl, K13.out.2⟩

/-! ### THE ROW's STEP: WRITTEN OUT: LEAVE IT -/
set_option maxRecDepth 100000 in
theorem lifted (os : Os) (started : os.Started) (H : Type) (enc : TypeId × Value → H) :
    ReturnsInHanded {} Try.checked os 6 .any (Rows.manyGrowsSpec.pre6 enc Try.prog Try.f6 Rows.manyGrowsRow.domain false) (Rows.manyGrowsSpec.post enc Try.prog Try.f6 false true false false) := by
  refine returnsInHanded_of_change (C := Try.checked) own started (by kernel_rfl) Try.func6
    (ChangeSpec.witness6 (enc := enc) (C := Try.checked) false ⟨#[], #[.agg #[.int .i64 0, .int .i64 0, .int .i64 0], .int .i64 0, .agg #[.int .i64 0, .int .i64 0], .slice none 0 0, .slice none 0 0], []⟩ 8 (by kernel_rfl) (by kernel_rfl) (by kernel_rfl) (by kernel_rfl)) ?_
  intro W base args ds gs before hval0 hW hcnd _
  have hval : ∀ (j : Nat) t v, Try.f6.params[j]? = some t → args[j]? = some v → Value.okWide Try.prog W .any base t v := hval0
  have hW' := hW
  obtain ⟨p, q, hA0, hV, rfl, hfz, hnd⟩ := hW
  have hA : DataW.TrodAll enc Try.prog W 0 (fun _ => true) true Try.f6.params.toList args.toList ds p := hA0
  rw [Try.params6] at hA hval
  obtain ⟨v0, vs0, d0, ds0, p0, q0, hargs, rfl, rfl, h0, r0⟩ := trodAll_cons hA
  obtain ⟨v1, vs1, d1, ds1, p1, q1, rfl, rfl, rfl, h1, r1⟩ := trodAll_cons r0
  obtain ⟨v2, vs2, d2, ds2, p2, q2, rfl, rfl, rfl, h2, r2⟩ := trodAll_cons r1
  obtain ⟨v3, vs3, d3, ds3, p3, q3, rfl, rfl, rfl, h3, r3⟩ := trodAll_cons r2
  obtain ⟨v4, vs4, d4, ds4, p4, q4, rfl, rfl, rfl, h4, r4⟩ := trodAll_cons r3
  obtain ⟨rfl, rfl, rfl⟩ := trodAll_nil r4
  obtain rfl : args = #[v0, v1, v2, v3, v4] := by cases args; simp_all
  obtain ⟨rfl, rfl⟩ := trodVars_none hV
  have k0 := h0
  have lt0 : ∀ x ∈ p0, x.block < W.heap.size := by obtain ⟨m, hm⟩ := k0; exact DataW.trod_lt m _ _ _ hm
  obtain ⟨a0, rfl, w0⟩ := open_gr (hval 0 23 v0 rfl rfl) h0
  obtain ⟨a1, rfl, rfl, rfl, w1⟩ := open_int Try.underlying24 (hval 1 24 v1 rfl rfl) h1
  have k2 := h2
  have lt2 : ∀ x ∈ p2, x.block < W.heap.size := by obtain ⟨m, hm⟩ := k2; exact DataW.trod_lt m _ _ _ hm
  obtain ⟨a2, rfl, w2⟩ := open_arr2 (hval 2 25 v2 rfl rfl) h2
  have k3 := h3
  have lt3 : ∀ x ∈ p3, x.block < W.heap.size := by obtain ⟨m, hm⟩ := k3; exact DataW.trod_lt m _ _ _ hm
  obtain ⟨a3, rfl, w3⟩ := open_wsA (hval 3 26 v3 rfl rfl) h3
  have k4 := h4
  have lt4 : ∀ x ∈ p4, x.block < W.heap.size := by obtain ⟨m, hm⟩ := k4; exact DataW.trod_lt m _ _ _ hm
  obtain ⟨a4, rfl, w4⟩ := open_wsA (hval 4 26 v4 rfl rfl) h4
  clear hA0 hval0
  refine (walk a0 a1 a2 a3 a4 W w0 w1 w2 w3 w4).mono fun e W' ⟨he, bel⟩ => ?_
  subst he
  exact ⟨_, rfl, _, _, _, [], _, [], hW', trodAll_mk1 (shut_bool Try.underlying4 _), (trodAll_cons_mk (Below.trod laidOut (by kernel_rfl) (of_decide_eq_true (by kernel_rfl)) k0 bel lt0) (trodAll_cons_mk (shut_int Try.underlying24 w1) (trodAll_cons_mk (Below.trod laidOut (by kernel_rfl) (of_decide_eq_true (by kernel_rfl)) k2 bel lt2) (trodAll_cons_mk (Below.trod laidOut (by kernel_rfl) (of_decide_eq_true (by kernel_rfl)) k3 bel lt3) (trodAll_cons_mk (Below.trod laidOut (by kernel_rfl) (of_decide_eq_true (by kernel_rfl)) k4 bel lt4) trodAll_mk0))))), rfl, bel.frame _, fun h => by cases h⟩

theorem over : Rows.manyGrowsRow.holds Try.pinned (OpenSpec.ofChange Rows.manyGrowsSpec) :=
  OpenClaim.holds_of_wide 6 Try.f6 rfl rfl rfl rfl rfl rfl rfl ⟨rfl, rfl, rfl, rfl, rfl⟩ rfl rfl rfl rfl rfl (by kernel_rfl) Try.func6 (by kernel_rfl)
    (of_decide_eq_true (by kernel_rfl)) (by unfold Func.isWrapper; first | (rw [if_pos (by decide +kernel)]; kernel_rfl) | (rw [if_neg (by decide +kernel)]; exact ⟨rfl, rfl⟩))
    (fun os started H enc _ => lifted os started H enc)

/-- ████ THE STATEMENT ████ -/
theorem proved : Rows.ManyGrowsSaid := over
#print axioms proved
end Go.Proofs.Ytjjmajhldpoobaa.manyGrows
