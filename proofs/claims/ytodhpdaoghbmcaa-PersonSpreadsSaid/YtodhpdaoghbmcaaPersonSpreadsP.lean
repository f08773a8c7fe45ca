/- Proves 'PersonSpreadsSaid': for every input the Go function PersonSpreads returns true, and each argument reads afterwards as it read before. Conditions: none beyond the row's own. -/
import Derived.Test.YtodhpdaoghbmcaaRows
import Derived.WalkKit
import Derived.ProofKit
import Derived.OpenShut
import Derived.ShutString
import Derived.SliceStrings
import Derived.ChangeOld
import Derived.Below
import Derived.Test.YtodhpdaoghbmcaaPerH
import Derived.Test.YtodhpdaoghbmcaaPerV
import Derived.Test.YtodhpdaoghbmcaaRomK
namespace Go.Proofs.Ytodhpdaoghbmcaa.personSpreads
open Go.ChangeShapes Go.WideShapes Go.ChangeAt Go.RowKit
open Go.ChangeMaps (open_string shut_string)
set_option linter.unusedVariables false

theorem own : ownKnob Try.prog.godebug = none := by kernel_rfl
theorem laidOut : laidOutB Try.prog = true := by kernel_rfl

/-- WHAT THE WALK IS TOLD OF A SLICE OF INTEGERS THAT CAME IN: it is nil; or it leads to a row of 'cap' cells, the numbers 'zs' (the first 'len' are its elements, the rest its spare room), each fitting its kind. -/
def IsRow (k : IntKind) (w : World) (a : Option Addr) (len cap : Nat) (zs : List Int) : Prop :=
  (a = none ∧ len = 0 ∧ cap = 0 ∧ zs = []) ∨
  ∃ x, a = some x ∧ len ≤ cap ∧ cap ≤ maxLen ∧ zs.length = cap ∧ (∀ i, i < zs.length → w.cell? (x.add i) = some (.int k (zs.getD i 0))) ∧ ∀ n ∈ zs, (Lit.int k n).wf = true

theorem inD_more (g : Whn.Gr) (l : List Whn.Wh) (x : Whn.Wh) (D s : Nat) (h : Whn.inD g l D s = true) : Whn.inD g (l ++ [x]) D s = true := by
  unfold Whn.inD at *
  rw [List.any_append, h, Bool.true_or]
theorem spreads_at (g : Whn.Gr) (l : List Whn.Wh) (x : Whn.Wh) {D : Nat} (hD : D < Whn.daysN g) : ∃ a b c d : Int, (Whn.busy g l)[D]? = some a ∧ (Whn.spread g l)[D]? = some b ∧ (Whn.busy g (l ++ [x]))[D]? = some c ∧ (Whn.spread g (l ++ [x]))[D]? = some d ∧ a ≤ b ∧ c ≤ d ∧ a ≤ c ∧ b ≤ d ∧ (a = 0 ↔ b = 0) := by
  refine ⟨_, _, _, _, show (List.map _ _)[D]? = _ from ?_, show (List.map _ _)[D]? = _ from ?_, show (List.map _ _)[D]? = _ from ?_, show (List.map _ _)[D]? = _ from ?_, Whn.cnt_spr (Whn.inD g l D) g.s.toNat, Whn.cnt_spr (Whn.inD g (l ++ [x]) D) g.s.toNat, ?_, Whn.spr_mono (fun s _ h => inD_more g l x D s h), ?_⟩
  · rw [List.getElem?_map, List.getElem?_range hD]; rfl
  · rw [List.getElem?_map, List.getElem?_range hD]; rfl
  · rw [List.getElem?_map, List.getElem?_range hD]; rfl
  · rw [List.getElem?_map, List.getElem?_range hD]; rfl
  · have := Whn.cnt_mono (p := Whn.inD g l D) (q := Whn.inD g (l ++ [x]) D) (n := g.s.toNat) (fun s _ h => inD_more g l x D s h)
    omega
  · have := Whn.zero_both (Whn.inD g l D) g.s.toNat
    omega
/-- a row of so many ints -/
def NRet (N : Nat) (l : List Int) (w : World) (e : Ending) (w' : World) : Prop := ∃ A c, e = .returned (.slice A N c) ∧ Its w' w'.heap.size A l ∧ Below w.heap.size w w'
theorem nret {N : Nat} {l : List Int} {w w' : World} {e : Ending} (hn : l.length = N) (h : MoRet l w e w') : NRet N l w e w' := by
  obtain ⟨v, rfl, ho, hb⟩ := h
  obtain ⟨A1, cc, rfl, hr, _⟩ := own_rd ho
  exact ⟨A1, cc, by rw [hn], hr, hb⟩

/-! ### STEP 1: THE WALK: the Go text returns true, AND WRITES NOTHING THAT WAS THERE: 'Below w.heap.size w w'' (Derived/Below.lean: '.refl', '.alloc', '.drew', '.setCell' at a new block, '.trans'). Open each 'IsRow' by 'rcases' AHEAD of 'go_enter'; part every test ahead of the walk. -/
set_option maxRecDepth 20000 in
set_option maxHeartbeats 16000000 in
theorem walk (a0 : Whn.Gr) (a1 : WsA) (a2 : Whn.Wh) (w : World) (w0 : Gok a0) (w1 : WsIn w a1) (w2 : Wok a2) :
    Calls Try.prog 6 #[gv a0, wsA a1, wv a2] w fun e w' => e = .returned (.bool true) ∧ Below w.heap.size w w' := by
  obtain ⟨l, A, c⟩ := a1
  obtain ⟨hw, hlc, hcm, hok⟩ := w1
  simp only at hw hlc hcm hok
  show Calls Try.prog 6 #[gv a0, .slice A l.length c, wv a2] w (Did (.bool true) w)
  have HF := hid (fun X => p_fewL A l.length c X)
  have HH := hid (fun X => hd_okP X)
  by_cases hf : fewL l.length = true
  · have hm : l.length ≤ 30 := by
      unfold fewL at hf
      rw [decide_eq_true_iff] at hf
      omega
    rw [hf] at HF
    have H := hid hw
    have hok2 : ∀ y ∈ l ++ [a2], Wok y := fun y hy => by
      rcases List.mem_append.1 hy with h | h
      · exact hok y h
      · rw [List.mem_singleton] at h; rw [h]; exact w2
    have hll : (l ++ [a2]).length = l.length + 1 := by rw [List.length_append, List.length_singleton]
    have HB1 := hid (fun X h => (p_Busy a0 l A c hok (by omega) X h).mono fun _ _ h => nret (N := Whn.daysN a0) (Whn.busy_len _ _) h)
    have HS1 := hid (fun X h => (p_Spread a0 l A c hok (by omega) X h).mono fun _ _ h => nret (N := Whn.daysN a0) (Whn.spread_len _ _) h)
    have HB2 := hid (fun A2 c2 X h => (p_Busy a0 (l ++ [a2]) A2 c2 hok2 (by omega) X h).mono fun _ _ h => nret (N := Whn.daysN a0) (Whn.busy_len _ _) h)
    have HS2 := hid (fun A2 c2 X h => (p_Spread a0 (l ++ [a2]) A2 c2 hok2 (by omega) X h).mono fun _ _ h => nret (N := Whn.daysN a0) (Whn.spread_len _ _) h)
    have Hat := hid (fun D (hD : D < Whn.daysN a0) => spreads_at a0 l a2 hD)
    have Hla := hid (Whn.busy_len a0 l)
    have Hlb := hid (Whn.spread_len a0 l)
    have Hlc := hid (Whn.busy_len a0 (l ++ [a2]))
    have Hld := hid (Whn.spread_len a0 (l ++ [a2]))
    have hd := Whn.daysN_le a0
    generalize Whn.busy a0 l = la at *
    generalize Whn.spread a0 l = lb at *
    generalize Whn.busy a0 (l ++ [a2]) = lc at *
    generalize Whn.spread a0 (l ++ [a2]) = ld at *
    generalize Whn.daysN a0 = N at *
    have Hcell := hid (show wcells (l ++ [a2]) = wcells l ++ wc a2 from wcells_snoc l a2)
    rw [hll] at HB2 HS2
    generalize hL2 : l ++ [a2] = l2 at *
    have Hll := hid hll
    clear hok2 hok hf hw w0 w2 hL2 hll
    obtain ⟨G, W0, hG, hW0, K0, z0⟩ := (Mem.nil w).one (gc a0) 23
    obtain ⟨D, V, hD, hV, K, z1⟩ := K0.out.one (wc a2) 29
    clear z0 z1 K0
    obtain ⟨i0, hi0, hz0, hz1, hz2⟩ := info_parts Try.info_when
    go_enter Try.func6, Try.ntmps6
    go_wp2_with fail
    refine (HF.out _).mono ?_
    rintro e Y1 ⟨rfl, rfl⟩
    go_upto_region 3 with fail
    go_cut [7] (fun s7 wx => ∃ v, s7 = v ∧ wx.ownsRow V.heap.size 29 4 v (l.length + 1) (wcells l2) ∧ Below V.heap.size V wx)
    case first =>
      have HS1a := fun (w' : World) (hb : Below V.heap.size V w') => src_whs (P := Try.prog) w' Try.underlying24 (c := c) (rfl : l.length = l.length) (H.out.below (K.out.next hb).2 (Nat.le_refl _))
      have HS3 := fun (wa : World) => Src.ofSlice (P := Try.prog) (wa.alloc (.cells #[.int .u32 (a2.w : Int), .int .u8 (a2.d : Int), .int .i64 a2.s, .int .i64 a2.l] 29)) (size := 4) Try.underlying24 ⟨wa.heap.size, 0, none⟩ 1 1 (wc a2) rfl (lit_cells wa (wc a2) 29 (show 4 ≤ maxLen by unfold maxLen; omega)) (wcells_one [a2])
      have q1 : 0 + l.length ≤ maxLen := by unfold maxLen; omega
      have q2 : (0 + l.length) * 24 ≤ 140737488355328 := by omega
      have q3 : 0 + l.length + 1 ≤ maxLen := by unfold maxLen; omega
      have q4 : (0 + l.length + 1) * 24 ≤ 140737488355328 := by omega
      have hd0 : Below V.heap.size V V.drew := (Below.refl _ V).drew
      refine wp_region_held_drew (S := fun X => Below V.heap.size V X) (by kernel_rfl) hd0 (fun hHeld => ?_)
      refine takeH 1 18 (.slice A l.length c) rfl rfl (by kernel_rfl) (by kernel_rfl) (by kernel_rfl) (fun _ _ _ h => h) (by kernel_rfl) (fun X hX => by clear hX; first | rfl | go_simp) hHeld ?_
      simp only [Act.put, List.setIfInBounds_toArray, List.set_cons_zero, List.set_cons_succ]
      refine takeH 3 20 (wv a2) rfl rfl (by kernel_rfl) (by kernel_rfl) (by kernel_rfl) (fun _ _ _ h => h) (by kernel_rfl) (fun X hX => by obtain ⟨c0, c1, c2, c3⟩ := (K.out.next hX).wh (B := D) (x := a2) (by simp); clear hX; go_simp) hHeld ?_
      simp only [Act.put, List.setIfInBounds_toArray, List.set_cons_zero, List.set_cons_succ]
      refine wpAnyH_ready (rs := [0, 4]) (by kernel_rfl) (by simp) ?_
      refine AllReadyH.cons rfl (fun KK hK => ?_) ?_
      · simp only [List.getElem_toArray, List.getElem_cons_zero]
        go_simp
        have hB1 := Below.alloc hd0 hd0.size (.cells #[] 29)
        have own0 := World.ownsRow_lit (base := V.heap.size) (e := 29) (size := 4) V.drew #[] 0 hd0.size (by unfold maxLen; omega) rfl
        refine hK.out _ _ hB1 (fun hHeld => ?_)
        clear hK KK
        refine wpAnyH_ready (rs := [2, 4]) (by kernel_rfl) (by simp) ?_
        refine AllReadyH.cons rfl (fun KK hK => ?_) ?_
        · skip
          refine step_append_srcN rfl (.tmp 17) (.tmp 18) 24 24 rfl V.heap.size 29 i0 (.agg #[.int .u32 0, .int .u8 0, .int .i64 0, .int .i64 0]) 4 24 Try.underlying24 hi0 hz0 hz1 hz2 rfl _ _ _ (by rfl) own0 _ _ _ (by rfl) (HS1a _ hB1) q1 q2 hB1.size ?_
          intro va wa owna hgra
          have hBa : Below V.heap.size V wa := Below.grown hB1 hgra hB1.size (fun k hk => ((own0).lt k hk).1)
          refine hK.out _ _ hBa (fun hHeld => ?_)
          clear hK KK
          try simp only [Act.put, List.setIfInBounds_toArray]
          refine wpAnyH_ready (rs := [4]) (by kernel_rfl) (by simp) ?_
          refine AllReadyH.cons rfl (fun KK hK => ?_) AllReadyH.nil
          simp only [List.getElem_toArray, List.getElem_cons_succ, List.getElem_cons_zero]
          go_simp
          have hB8 := Below.alloc hBa hBa.size (.cells #[.int .u32 (a2.w : Int), .int .u8 (a2.d : Int), .int .i64 a2.s, .int .i64 a2.l] 29)
          refine hK.out _ _ hB8 (fun hHeld => ?_)
          clear hK KK
          have owna8 := owna.alloc (.cells #[.int .u32 (a2.w : Int), .int .u8 (a2.d : Int), .int .i64 a2.s, .int .i64 a2.l] 29)
          refine wpAnyH_ready (rs := [5]) (by kernel_rfl) (by simp) ?_
          refine AllReadyH.cons rfl (fun KK hK => ?_) AllReadyH.nil
          refine step_append_srcN rfl (.tmp 19) (.tmp 21) 24 24 rfl V.heap.size 29 i0 (.agg #[.int .u32 0, .int .u8 0, .int .i64 0, .int .i64 0]) 4 24 Try.underlying24 hi0 hz0 hz1 hz2 rfl _ _ _ (by rfl) owna8 _ _ _ (by rfl) (HS3 wa) q3 q4 hB8.size ?_
          intro vb wb ownb hgrb
          have hBb : Below V.heap.size V wb := Below.grown hB8 hgrb hB8.size (fun k hk => ((owna8).lt k hk).1)
          refine hK.out _ _ hBb (fun hHeld => ?_)
          clear hK KK
          try simp only [Act.put, List.setIfInBounds_toArray]
          refine wpAnyH_ready (rs := [6]) (by kernel_rfl) (by simp) ?_
          refine AllReadyH.cons rfl (fun KK hK => ?_) AllReadyH.nil
          simp only [List.getElem_toArray, List.getElem_cons_succ, List.getElem_cons_zero]
          go_simp
          refine hK.out _ _ hBb (fun hHeld => ?_)
          clear hK KK
          refine wpAnyH_done (by kernel_rfl) ?_ _
          go_wp2_with fail
          go_meet
          exact ⟨_, rfl, (by rw [Hcell.out, show l.length + 1 = 0 + l.length + 1 by omega]; exact ownb), hBb⟩
        · refine AllReadyH.cons rfl (fun KK hK => ?_) AllReadyH.nil
          simp only [List.getElem_toArray, List.getElem_cons_succ, List.getElem_cons_zero]
          go_simp
          have hB2 := Below.alloc hB1 hB1.size (.cells #[.int .u32 (a2.w : Int), .int .u8 (a2.d : Int), .int .i64 a2.s, .int .i64 a2.l] 29)
          refine hK.out _ _ hB2 (fun hHeld => ?_)
          clear hK KK
          have own2 := own0.alloc (.cells #[.int .u32 (a2.w : Int), .int .u8 (a2.d : Int), .int .i64 a2.s, .int .i64 a2.l] 29)
          refine wpAnyH_ready (rs := [2]) (by kernel_rfl) (by simp) ?_
          refine AllReadyH.cons rfl (fun KK hK => ?_) AllReadyH.nil
          refine step_append_srcN rfl (.tmp 17) (.tmp 18) 24 24 rfl V.heap.size 29 i0 (.agg #[.int .u32 0, .int .u8 0, .int .i64 0, .int .i64 0]) 4 24 Try.underlying24 hi0 hz0 hz1 hz2 rfl _ _ _ (by rfl) own2 _ _ _ (by rfl) (HS1a _ hB2) q1 q2 hB2.size ?_
          intro va wa owna hgra
          have hBa : Below V.heap.size V wa := Below.grown hB2 hgra hB2.size (fun k hk => ((own2).lt k hk).1)
          refine hK.out _ _ hBa (fun hHeld => ?_)
          clear hK KK
          try simp only [Act.put, List.setIfInBounds_toArray]
          refine wpAnyH_ready (rs := [5]) (by kernel_rfl) (by simp) ?_
          refine AllReadyH.cons rfl (fun KK hK => ?_) AllReadyH.nil
          refine step_append_srcN rfl (.tmp 19) (.tmp 21) 24 24 rfl V.heap.size 29 i0 (.agg #[.int .u32 0, .int .u8 0, .int .i64 0, .int .i64 0]) 4 24 Try.underlying24 hi0 hz0 hz1 hz2 rfl _ _ _ (by rfl) owna _ _ _ (by rfl) (wsrc_kept (P := Try.prog) hgra Try.underlying24 (g := V.heap.size + 1) (wlit2 (w := V.drew.alloc (.cells #[] 29)) (by simp) a2) (by simp) (by simp [Value.ownBlock])) q3 q4 hBa.size ?_
          intro vb wb ownb hgrb
          have hBb : Below V.heap.size V wb := Below.grown hBa hgrb hBa.size (fun k hk => ((owna).lt k hk).1)
          refine hK.out _ _ hBb (fun hHeld => ?_)
          clear hK KK
          try simp only [Act.put]
          refine wpAnyH_ready (rs := [6]) (by kernel_rfl) (by simp) ?_
          refine AllReadyH.cons rfl (fun KK hK => ?_) AllReadyH.nil
          simp only [List.getElem_toArray, List.getElem_cons_succ, List.getElem_cons_zero]
          go_simp
          refine hK.out _ _ hBb (fun hHeld => ?_)
          clear hK KK
          refine wpAnyH_done (by kernel_rfl) ?_ _
          go_wp2_with fail
          go_meet
          exact ⟨_, rfl, (by rw [Hcell.out, show l.length + 1 = 0 + l.length + 1 by omega]; exact ownb), hBb⟩
      · refine AllReadyH.cons rfl (fun KK hK => ?_) AllReadyH.nil
        simp only [List.getElem_toArray, List.getElem_cons_succ, List.getElem_cons_zero]
        go_simp
        have hB1 := Below.alloc hd0 hd0.size (.cells #[.int .u32 (a2.w : Int), .int .u8 (a2.d : Int), .int .i64 a2.s, .int .i64 a2.l] 29)
        refine hK.out _ _ hB1 (fun hHeld => ?_)
        clear hK KK
        refine wpAnyH_ready (rs := [0]) (by kernel_rfl) (by simp) ?_
        refine AllReadyH.cons rfl (fun KK hK => ?_) AllReadyH.nil
        simp only [List.getElem_toArray, List.getElem_cons_zero]
        go_simp
        have hB2 := Below.alloc hB1 hB1.size (.cells #[] 29)
        refine hK.out _ _ hB2 (fun hHeld => ?_)
        clear hK KK
        have own2 := World.ownsRow_lit (base := V.heap.size) (e := 29) (size := 4) (V.drew.alloc (.cells #[.int .u32 (a2.w : Int), .int .u8 (a2.d : Int), .int .i64 a2.s, .int .i64 a2.l] 29)) #[] 0 hB1.size (by unfold maxLen; omega) rfl
        rw [show (V.drew.alloc (.cells #[.int .u32 (a2.w : Int), .int .u8 (a2.d : Int), .int .i64 a2.s, .int .i64 a2.l] 29)).heap.size = V.heap.size + 1 by simp] at own2
        refine wpAnyH_ready (rs := [2]) (by kernel_rfl) (by simp) ?_
        refine AllReadyH.cons rfl (fun KK hK => ?_) AllReadyH.nil
        refine step_append_srcN rfl (.tmp 17) (.tmp 18) 24 24 rfl V.heap.size 29 i0 (.agg #[.int .u32 0, .int .u8 0, .int .i64 0, .int .i64 0]) 4 24 Try.underlying24 hi0 hz0 hz1 hz2 rfl _ _ _ (by rfl) own2 _ _ _ (by rfl) (HS1a _ hB2) q1 q2 hB2.size ?_
        intro va wa owna hgra
        have hBa : Below V.heap.size V wa := Below.grown hB2 hgra hB2.size (fun k hk => ((own2).lt k hk).1)
        refine hK.out _ _ hBa (fun hHeld => ?_)
        clear hK KK
        try simp only [Act.put, List.setIfInBounds_toArray]
        refine wpAnyH_ready (rs := [5]) (by kernel_rfl) (by simp) ?_
        refine AllReadyH.cons rfl (fun KK hK => ?_) AllReadyH.nil
        refine step_append_srcN rfl (.tmp 19) (.tmp 21) 24 24 rfl V.heap.size 29 i0 (.agg #[.int .u32 0, .int .u8 0, .int .i64 0, .int .i64 0]) 4 24 Try.underlying24 hi0 hz0 hz1 hz2 rfl _ _ _ (by rfl) owna _ _ _ (by rfl) (wsrc_kept (P := Try.prog) hgra Try.underlying24 (g := V.heap.size) (wlit_past V.drew a2 (.cells #[] 29)) (by simp; omega) (by simp [Value.ownBlock])) q3 q4 hBa.size ?_
        intro vb wb ownb hgrb
        have hBb : Below V.heap.size V wb := Below.grown hBa hgrb hBa.size (fun k hk => ((owna).lt k hk).1)
        refine hK.out _ _ hBb (fun hHeld => ?_)
        clear hK KK
        try simp only [Act.put]
        refine wpAnyH_ready (rs := [6]) (by kernel_rfl) (by simp) ?_
        refine AllReadyH.cons rfl (fun KK hK => ?_) AllReadyH.nil
        simp only [List.getElem_toArray, List.getElem_cons_succ, List.getElem_cons_zero]
        go_simp
        refine hK.out _ _ hBb (fun hHeld => ?_)
        clear hK KK
        refine wpAnyH_done (by kernel_rfl) ?_ _
        go_wp2_with fail
        go_meet
        exact ⟨_, rfl, (by rw [Hcell.out, show l.length + 1 = 0 + l.length + 1 by omega]; exact ownb), hBb⟩
    case rest =>
      revert wc
      intro W9 hcut
      obtain ⟨v, rfl, hown, hbl⟩ := hcut
      rw [← Hll.out] at hown
      obtain ⟨Am, cm, rfl, hwm, hcm2⟩ := own_whs hown
      rw [Hll.out]
      have K2 := hid (K.out.next hbl)
      have Hm := hid hwm
      clear hown hbl hwm hcm2 K
      go_wp2_with fail
      refine wp_region_held_drew (S := fun X => Mem w X [(D, wc a2, 29), (G, gc a0, 23)]) (by kernel_rfl) K2.out.drew (fun hHeld => ?_)
      have m0 : Whs W9.drew W9.drew.heap.size Am l2 := Hm.out
      refine takeH 0 23 (gv a0) rfl rfl (by kernel_rfl) (by kernel_rfl) (by kernel_rfl) (fun _ _ _ h => h) (by kernel_rfl) (fun X hX => by obtain ⟨q0, q1, q2⟩ := hX.gr (B := G) (g := a0) (by simp); clear hX; go_simp) hHeld ?_
      simp only [Act.put, List.setIfInBounds_toArray, List.set_cons_zero, List.set_cons_succ]
      refine takeH 1 24 (.slice A l.length c) rfl rfl (by kernel_rfl) (by kernel_rfl) (by kernel_rfl) (fun _ _ _ h => h) (by kernel_rfl) (fun X hX => by clear hX; first | rfl | go_simp) hHeld ?_
      simp only [Act.put, List.setIfInBounds_toArray, List.set_cons_zero, List.set_cons_succ]
      refine takeH 3 26 (gv a0) rfl rfl (by kernel_rfl) (by kernel_rfl) (by kernel_rfl) (fun _ _ _ h => h) (by kernel_rfl) (fun X hX => by obtain ⟨q0, q1, q2⟩ := hX.gr (B := G) (g := a0) (by simp); clear hX; go_simp) hHeld ?_
      simp only [Act.put, List.setIfInBounds_toArray, List.set_cons_zero, List.set_cons_succ]
      refine takeH 4 27 (.slice A l.length c) rfl rfl (by kernel_rfl) (by kernel_rfl) (by kernel_rfl) (fun _ _ _ h => h) (by kernel_rfl) (fun X hX => by clear hX; first | rfl | go_simp) hHeld ?_
      simp only [Act.put, List.setIfInBounds_toArray, List.set_cons_zero, List.set_cons_succ]
      refine takeH 6 29 (gv a0) rfl rfl (by kernel_rfl) (by kernel_rfl) (by kernel_rfl) (fun _ _ _ h => h) (by kernel_rfl) (fun X hX => by obtain ⟨q0, q1, q2⟩ := hX.gr (B := G) (g := a0) (by simp); clear hX; go_simp) hHeld ?_
      simp only [Act.put, List.setIfInBounds_toArray, List.set_cons_zero, List.set_cons_succ]
      refine takeH 7 30 (.slice Am (l.length + 1) cm) rfl rfl (by kernel_rfl) (by kernel_rfl) (by kernel_rfl) (fun _ _ _ h => h) (by kernel_rfl) (fun X hX => by clear hX; first | rfl | go_simp) hHeld ?_
      simp only [Act.put, List.setIfInBounds_toArray, List.set_cons_zero, List.set_cons_succ]
      refine takeH 9 32 (gv a0) rfl rfl (by kernel_rfl) (by kernel_rfl) (by kernel_rfl) (fun _ _ _ h => h) (by kernel_rfl) (fun X hX => by obtain ⟨q0, q1, q2⟩ := hX.gr (B := G) (g := a0) (by simp); clear hX; go_simp) hHeld ?_
      simp only [Act.put, List.setIfInBounds_toArray, List.set_cons_zero, List.set_cons_succ]
      refine takeH 10 33 (.slice Am (l.length + 1) cm) rfl rfl (by kernel_rfl) (by kernel_rfl) (by kernel_rfl) (fun _ _ _ h => h) (by kernel_rfl) (fun X hX => by clear hX; first | rfl | go_simp) hHeld ?_
      simp only [Act.put, List.setIfInBounds_toArray, List.set_cons_zero, List.set_cons_succ]
      refine wpAnyH_ready (rs := [2]) (by kernel_rfl) (by simp) ?_
      refine AllReadyH.cons rfl (fun KK hK => ?_) AllReadyH.nil
      simp only [List.getElem_toArray, List.getElem_cons_succ, List.getElem_cons_zero]
      go_simp
      refine (HB1.out _ ((H.out.below K2.out.drew.2 (Nat.le_refl _)).more K2.out.drew.2.size)).mono ?_
      rintro e Z20 ⟨A20, c20, rfl, i20, b20⟩
      have K20 := K2.out.drew.next b20
      have m20 := (m0.below b20 (Nat.le_refl _)).more b20.size
      refine hK.out _ _ K20 (fun hHeld => ?_)
      clear hK KK
      try simp only [Act.put, List.setIfInBounds_toArray, List.set_cons_zero, List.set_cons_succ]
      refine wpAnyH_ready (rs := [5]) (by kernel_rfl) (by simp) ?_
      refine AllReadyH.cons rfl (fun KK hK => ?_) AllReadyH.nil
      simp only [List.getElem_toArray, List.getElem_cons_succ, List.getElem_cons_zero]
      go_simp
      refine (HS1.out _ ((H.out.below K20.2 (Nat.le_refl _)).more K20.2.size)).mono ?_
      rintro e Z21 ⟨A21, c21, rfl, i21, b21⟩
      have K21 := K20.next b21
      have m21 := (m20.below b21 (Nat.le_refl _)).more b21.size
      have ia_21 := its_next i20 b21
      refine hK.out _ _ K21 (fun hHeld => ?_)
      clear hK KK
      try simp only [Act.put, List.setIfInBounds_toArray, List.set_cons_zero, List.set_cons_succ]
      refine wpAnyH_ready (rs := [8]) (by kernel_rfl) (by simp) ?_
      refine AllReadyH.cons rfl (fun KK hK => ?_) AllReadyH.nil
      simp only [List.getElem_toArray, List.getElem_cons_succ, List.getElem_cons_zero]
      go_simp
      refine (HB2.out Am cm _ m21).mono ?_
      rintro e Z22 ⟨A22, c22, rfl, i22, b22⟩
      have K22 := K21.next b22
      have m22 := (m21.below b22 (Nat.le_refl _)).more b22.size
      have ia_22 := its_next ia_21 b22
      have ib_22 := its_next i21 b22
      refine hK.out _ _ K22 (fun hHeld => ?_)
      clear hK KK
      try simp only [Act.put, List.setIfInBounds_toArray, List.set_cons_zero, List.set_cons_succ]
      refine wpAnyH_ready (rs := [11]) (by kernel_rfl) (by simp) ?_
      refine AllReadyH.cons rfl (fun KK hK => ?_) AllReadyH.nil
      simp only [List.getElem_toArray, List.getElem_cons_succ, List.getElem_cons_zero]
      go_simp
      refine (HS2.out Am cm _ m22).mono ?_
      rintro e Z23 ⟨A23, c23, rfl, i23, b23⟩
      have K23 := K22.next b23
      have m23 := (m22.below b23 (Nat.le_refl _)).more b23.size
      have ia_23 := its_next ia_22 b23
      have ib_23 := its_next ib_22 b23
      have ic_23 := its_next i22 b23
      refine hK.out _ _ K23 (fun hHeld => ?_)
      clear hK KK
      try simp only [Act.put, List.setIfInBounds_toArray, List.set_cons_zero, List.set_cons_succ]
      refine wpAnyH_ready (rs := [12]) (by kernel_rfl) (by simp) ?_
      refine AllReadyH.cons rfl (fun KK hK => ?_) AllReadyH.nil
      simp only [List.getElem_toArray, List.getElem_cons_succ, List.getElem_cons_zero]
      go_simp
      refine hK.out _ _ K23 (fun hHeld => ?_)
      clear hK KK
      try simp only [Act.put, List.setIfInBounds_toArray, List.set_cons_zero, List.set_cons_succ]
      refine wpAnyH_ready (rs := [13]) (by kernel_rfl) (by simp) ?_
      refine AllReadyH.cons rfl (fun KK hK => ?_) AllReadyH.nil
      simp only [List.getElem_toArray, List.getElem_cons_succ, List.getElem_cons_zero]
      go_simp
      refine hK.out _ _ K23 (fun hHeld => ?_)
      clear hK KK
      try simp only [Act.put, List.setIfInBounds_toArray, List.set_cons_zero, List.set_cons_succ]
      refine wpAnyH_ready (rs := [14]) (by kernel_rfl) (by simp) ?_
      refine AllReadyH.cons rfl (fun KK hK => ?_) AllReadyH.nil
      simp only [List.getElem_toArray, List.getElem_cons_succ, List.getElem_cons_zero]
      go_simp
      refine hK.out _ _ K23 (fun hHeld => ?_)
      clear hK KK
      try simp only [Act.put, List.setIfInBounds_toArray, List.set_cons_zero, List.set_cons_succ]
      refine wpAnyH_ready (rs := [15]) (by kernel_rfl) (by simp) ?_
      refine AllReadyH.cons rfl (fun KK hK => ?_) AllReadyH.nil
      simp only [List.getElem_toArray, List.getElem_cons_succ, List.getElem_cons_zero]
      go_simp
      refine hK.out _ _ K23 (fun hHeld => ?_)
      clear hK KK
      try simp only [Act.put, List.setIfInBounds_toArray, List.set_cons_zero, List.set_cons_succ]
      refine wpAnyH_done (by kernel_rfl) ?_ _
      have IA := hid ia_23
      have IB := hid ib_23
      have IC := hid ic_23
      have ID := hid i23
      have KZ := hid K23
      clear hHeld H Hm K2 HB1 HS1 HB2 HS2 HF Hcell Hll
      go_wp2_with fail
      go_loopw [12] (fun iv wr => ∃ i : Nat, iv = .int .i64 i ∧ i ≤ N ∧ Hid (Below Z23.heap.size Z23 wr)) (fun iv _ => N - (intOf iv).toNat)
      case atStart => exact ⟨0, rfl, Nat.zero_le _, hid (Below.refl _ _)⟩
      case round =>
        obtain ⟨i, rfl, hi, KB⟩ := hrel
        by_cases hil : i < N
        · obtain ⟨a, b, cc, d, h1, h2, h3, h4, r1, r2, r3, r4, r5⟩ := Hat.out i hil
          obtain ⟨ad1, z1, rfl, p1, hz1, hc1⟩ := Its.get IA.out (k := i) (by rw [Hla.out]; exact hil)
          obtain rfl : z1 = a := Option.some.inj (hz1.out.symm.trans h1)
          obtain ⟨ad2, z2, rfl, p2, hz2, hc2⟩ := Its.get IB.out (k := i) (by rw [Hlb.out]; exact hil)
          obtain rfl : z2 = b := Option.some.inj (hz2.out.symm.trans h2)
          obtain ⟨ad3, z3, rfl, p3, hz3, hc3⟩ := Its.get IC.out (k := i) (by rw [Hlc.out]; exact hil)
          obtain rfl : z3 = cc := Option.some.inj (hz3.out.symm.trans h3)
          obtain ⟨ad4, z4, rfl, p4, hz4, hc4⟩ := Its.get ID.out (k := i) (by rw [Hld.out]; exact hil)
          obtain rfl : z4 = d := Option.some.inj (hz4.out.symm.trans h4)
          have P1 := hid p1
          have C1 := hid hc1
          have P2 := hid p2
          have C2 := hid hc2
          have P3 := hid p3
          have C3 := hid hc3
          have P4 := hid p4
          have C4 := hid hc4
          obtain ⟨zz, e1, e2⟩ : ∃ zz : Bool, Hid ((z1 == 0) = zz) ∧ Hid ((z2 == 0) = zz) := ⟨_, hid rfl, hid (by rw [Bool.eq_iff_iff, beq_iff_eq, beq_iff_eq]; exact r5.symm)⟩
          have n1 : ¬ z2 < z1 := by omega
          have n2 : ¬ z4 < z3 := by omega
          have n3 : ¬ z3 < z1 := by omega
          have n4 : ¬ z4 < z2 := by omega
          have b3 : (0 : Int) ≤ (i : Int) := by omega
          have b4 : (i : Int) < (N : Int) := by omega
          have KD := KB.out.drew
          clear h1 h2 h3 h4 r1 r2 r3 r4 r5 p1 p2 p3 p4 hc1 hc2 hc3 hc4 hz1 hz2 hz3 hz4
          go_wp2_with fail
          refine wp_region_held_drew (S := fun X => Below Z23.heap.size Z23 X) (by kernel_rfl) KD (fun hHeld => ?_)
          refine takeH 0 60 (.slice (some ad1) N c20) rfl rfl (by kernel_rfl) (by kernel_rfl) (by kernel_rfl) (fun _ _ _ h => h) (by kernel_rfl) (fun X hX => by clear hX; first | rfl | go_simp) hHeld ?_
          simp only [Act.put, List.setIfInBounds_toArray, List.set_cons_zero, List.set_cons_succ]
          refine takeH 1 61 (.int .i64 i) rfl rfl (by kernel_rfl) (by kernel_rfl) (by kernel_rfl) (fun _ _ _ h => h) (by kernel_rfl) (fun X hX => by clear hX; first | rfl | go_simp) hHeld ?_
          simp only [Act.put, List.setIfInBounds_toArray, List.set_cons_zero, List.set_cons_succ]
          refine takeH 2 62 (.pointer (some (ad1.add i))) rfl rfl (by kernel_rfl) (by kernel_rfl) (by kernel_rfl) (fun _ _ _ h => h) (by kernel_rfl) (fun X hX => by clear hX; first | rfl | go_simp) hHeld ?_
          simp only [Act.put, List.setIfInBounds_toArray, List.set_cons_zero, List.set_cons_succ]
          refine takeH 3 63 (.int .i64 z1) rfl rfl (by kernel_rfl) (by kernel_rfl) (by kernel_rfl) (fun _ _ _ h => h) (by kernel_rfl) (fun X hX => by have q := (hX.cell (p := ad1.add i) (by rw [add_block]; exact P1.out)).trans C1.out; clear hX; go_simp) hHeld ?_
          simp only [Act.put, List.setIfInBounds_toArray, List.set_cons_zero, List.set_cons_succ]
          refine takeH 4 64 (.slice (some ad2) N c21) rfl rfl (by kernel_rfl) (by kernel_rfl) (by kernel_rfl) (fun _ _ _ h => h) (by kernel_rfl) (fun X hX => by clear hX; first | rfl | go_simp) hHeld ?_
          simp only [Act.put, List.setIfInBounds_toArray, List.set_cons_zero, List.set_cons_succ]
          refine takeH 5 65 (.int .i64 i) rfl rfl (by kernel_rfl) (by kernel_rfl) (by kernel_rfl) (fun _ _ _ h => h) (by kernel_rfl) (fun X hX => by clear hX; first | rfl | go_simp) hHeld ?_
          simp only [Act.put, List.setIfInBounds_toArray, List.set_cons_zero, List.set_cons_succ]
          refine takeH 6 66 (.pointer (some (ad2.add i))) rfl rfl (by kernel_rfl) (by kernel_rfl) (by kernel_rfl) (fun _ _ _ h => h) (by kernel_rfl) (fun X hX => by clear hX; first | rfl | go_simp) hHeld ?_
          simp only [Act.put, List.setIfInBounds_toArray, List.set_cons_zero, List.set_cons_succ]
          refine takeH 7 67 (.int .i64 z2) rfl rfl (by kernel_rfl) (by kernel_rfl) (by kernel_rfl) (fun _ _ _ h => h) (by kernel_rfl) (fun X hX => by have q := (hX.cell (p := ad2.add i) (by rw [add_block]; exact P2.out)).trans C2.out; clear hX; go_simp) hHeld ?_
          simp only [Act.put, List.setIfInBounds_toArray, List.set_cons_zero, List.set_cons_succ]
          refine takeH 8 68 (.bool false) rfl rfl (by kernel_rfl) (by kernel_rfl) (by kernel_rfl) (fun _ _ _ h => h) (by kernel_rfl) (fun X hX => by clear hX; first | rfl | go_simp) hHeld ?_
          simp only [Act.put, List.setIfInBounds_toArray, List.set_cons_zero, List.set_cons_succ]
          refine takeH 9 69 (.bool false) rfl rfl (by kernel_rfl) (by kernel_rfl) (by kernel_rfl) (fun _ _ _ h => h) (by kernel_rfl) (fun X hX => by clear hX; first | rfl | go_simp) hHeld ?_
          simp only [Act.put, List.setIfInBounds_toArray, List.set_cons_zero, List.set_cons_succ]
          refine takeH 10 70 (.slice (some ad3) N c22) rfl rfl (by kernel_rfl) (by kernel_rfl) (by kernel_rfl) (fun _ _ _ h => h) (by kernel_rfl) (fun X hX => by clear hX; first | rfl | go_simp) hHeld ?_
          simp only [Act.put, List.setIfInBounds_toArray, List.set_cons_zero, List.set_cons_succ]
          refine takeH 11 71 (.int .i64 i) rfl rfl (by kernel_rfl) (by kernel_rfl) (by kernel_rfl) (fun _ _ _ h => h) (by kernel_rfl) (fun X hX => by clear hX; first | rfl | go_simp) hHeld ?_
          simp only [Act.put, List.setIfInBounds_toArray, List.set_cons_zero, List.set_cons_succ]
          refine takeH 12 72 (.pointer (some (ad3.add i))) rfl rfl (by kernel_rfl) (by kernel_rfl) (by kernel_rfl) (fun _ _ _ h => h) (by kernel_rfl) (fun X hX => by clear hX; first | rfl | go_simp) hHeld ?_
          simp only [Act.put, List.setIfInBounds_toArray, List.set_cons_zero, List.set_cons_succ]
          refine takeH 13 73 (.int .i64 z3) rfl rfl (by kernel_rfl) (by kernel_rfl) (by kernel_rfl) (fun _ _ _ h => h) (by kernel_rfl) (fun X hX => by have q := (hX.cell (p := ad3.add i) (by rw [add_block]; exact P3.out)).trans C3.out; clear hX; go_simp) hHeld ?_
          simp only [Act.put, List.setIfInBounds_toArray, List.set_cons_zero, List.set_cons_succ]
          refine takeH 14 74 (.slice (some ad4) N c23) rfl rfl (by kernel_rfl) (by kernel_rfl) (by kernel_rfl) (fun _ _ _ h => h) (by kernel_rfl) (fun X hX => by clear hX; first | rfl | go_simp) hHeld ?_
          simp only [Act.put, List.setIfInBounds_toArray, List.set_cons_zero, List.set_cons_succ]
          refine takeH 15 75 (.int .i64 i) rfl rfl (by kernel_rfl) (by kernel_rfl) (by kernel_rfl) (fun _ _ _ h => h) (by kernel_rfl) (fun X hX => by clear hX; first | rfl | go_simp) hHeld ?_
          simp only [Act.put, List.setIfInBounds_toArray, List.set_cons_zero, List.set_cons_succ]
          refine takeH 16 76 (.pointer (some (ad4.add i))) rfl rfl (by kernel_rfl) (by kernel_rfl) (by kernel_rfl) (fun _ _ _ h => h) (by kernel_rfl) (fun X hX => by clear hX; first | rfl | go_simp) hHeld ?_
          simp only [Act.put, List.setIfInBounds_toArray, List.set_cons_zero, List.set_cons_succ]
          refine takeH 17 77 (.int .i64 z4) rfl rfl (by kernel_rfl) (by kernel_rfl) (by kernel_rfl) (fun _ _ _ h => h) (by kernel_rfl) (fun X hX => by have q := (hX.cell (p := ad4.add i) (by rw [add_block]; exact P4.out)).trans C4.out; clear hX; go_simp) hHeld ?_
          simp only [Act.put, List.setIfInBounds_toArray, List.set_cons_zero, List.set_cons_succ]
          refine takeH 18 78 (.bool false) rfl rfl (by kernel_rfl) (by kernel_rfl) (by kernel_rfl) (fun _ _ _ h => h) (by kernel_rfl) (fun X hX => by clear hX; first | rfl | go_simp) hHeld ?_
          simp only [Act.put, List.setIfInBounds_toArray, List.set_cons_zero, List.set_cons_succ]
          refine takeH 19 79 (.bool false) rfl rfl (by kernel_rfl) (by kernel_rfl) (by kernel_rfl) (fun _ _ _ h => h) (by kernel_rfl) (fun X hX => by clear hX; first | rfl | go_simp) hHeld ?_
          simp only [Act.put, List.setIfInBounds_toArray, List.set_cons_zero, List.set_cons_succ]
          refine takeH 20 80 (.bool false) rfl rfl (by kernel_rfl) (by kernel_rfl) (by kernel_rfl) (fun _ _ _ h => h) (by kernel_rfl) (fun X hX => by clear hX; first | rfl | go_simp) hHeld ?_
          simp only [Act.put, List.setIfInBounds_toArray, List.set_cons_zero, List.set_cons_succ]
          refine takeH 21 81 (.slice (some ad1) N c20) rfl rfl (by kernel_rfl) (by kernel_rfl) (by kernel_rfl) (fun _ _ _ h => h) (by kernel_rfl) (fun X hX => by clear hX; first | rfl | go_simp) hHeld ?_
          simp only [Act.put, List.setIfInBounds_toArray, List.set_cons_zero, List.set_cons_succ]
          refine takeH 22 82 (.int .i64 i) rfl rfl (by kernel_rfl) (by kernel_rfl) (by kernel_rfl) (fun _ _ _ h => h) (by kernel_rfl) (fun X hX => by clear hX; first | rfl | go_simp) hHeld ?_
          simp only [Act.put, List.setIfInBounds_toArray, List.set_cons_zero, List.set_cons_succ]
          refine takeH 23 83 (.pointer (some (ad1.add i))) rfl rfl (by kernel_rfl) (by kernel_rfl) (by kernel_rfl) (fun _ _ _ h => h) (by kernel_rfl) (fun X hX => by clear hX; first | rfl | go_simp) hHeld ?_
          simp only [Act.put, List.setIfInBounds_toArray, List.set_cons_zero, List.set_cons_succ]
          refine takeH 24 84 (.int .i64 z1) rfl rfl (by kernel_rfl) (by kernel_rfl) (by kernel_rfl) (fun _ _ _ h => h) (by kernel_rfl) (fun X hX => by have q := (hX.cell (p := ad1.add i) (by rw [add_block]; exact P1.out)).trans C1.out; clear hX; go_simp) hHeld ?_
          simp only [Act.put, List.setIfInBounds_toArray, List.set_cons_zero, List.set_cons_succ]
          refine takeH 25 85 (.slice (some ad3) N c22) rfl rfl (by kernel_rfl) (by kernel_rfl) (by kernel_rfl) (fun _ _ _ h => h) (by kernel_rfl) (fun X hX => by clear hX; first | rfl | go_simp) hHeld ?_
          simp only [Act.put, List.setIfInBounds_toArray, List.set_cons_zero, List.set_cons_succ]
          refine takeH 26 86 (.int .i64 i) rfl rfl (by kernel_rfl) (by kernel_rfl) (by kernel_rfl) (fun _ _ _ h => h) (by kernel_rfl) (fun X hX => by clear hX; first | rfl | go_simp) hHeld ?_
          simp only [Act.put, List.setIfInBounds_toArray, List.set_cons_zero, List.set_cons_succ]
          refine takeH 27 87 (.pointer (some (ad3.add i))) rfl rfl (by kernel_rfl) (by kernel_rfl) (by kernel_rfl) (fun _ _ _ h => h) (by kernel_rfl) (fun X hX => by clear hX; first | rfl | go_simp) hHeld ?_
          simp only [Act.put, List.setIfInBounds_toArray, List.set_cons_zero, List.set_cons_succ]
          refine takeH 28 88 (.int .i64 z3) rfl rfl (by kernel_rfl) (by kernel_rfl) (by kernel_rfl) (fun _ _ _ h => h) (by kernel_rfl) (fun X hX => by have q := (hX.cell (p := ad3.add i) (by rw [add_block]; exact P3.out)).trans C3.out; clear hX; go_simp) hHeld ?_
          simp only [Act.put, List.setIfInBounds_toArray, List.set_cons_zero, List.set_cons_succ]
          refine takeH 29 89 (.bool false) rfl rfl (by kernel_rfl) (by kernel_rfl) (by kernel_rfl) (fun _ _ _ h => h) (by kernel_rfl) (fun X hX => by clear hX; first | rfl | go_simp) hHeld ?_
          simp only [Act.put, List.setIfInBounds_toArray, List.set_cons_zero, List.set_cons_succ]
          refine takeH 30 90 (.bool false) rfl rfl (by kernel_rfl) (by kernel_rfl) (by kernel_rfl) (fun _ _ _ h => h) (by kernel_rfl) (fun X hX => by clear hX; first | rfl | go_simp) hHeld ?_
          simp only [Act.put, List.setIfInBounds_toArray, List.set_cons_zero, List.set_cons_succ]
          refine takeH 31 91 (.bool false) rfl rfl (by kernel_rfl) (by kernel_rfl) (by kernel_rfl) (fun _ _ _ h => h) (by kernel_rfl) (fun X hX => by clear hX; first | rfl | go_simp) hHeld ?_
          simp only [Act.put, List.setIfInBounds_toArray, List.set_cons_zero, List.set_cons_succ]
          refine takeH 32 92 (.slice (some ad2) N c21) rfl rfl (by kernel_rfl) (by kernel_rfl) (by kernel_rfl) (fun _ _ _ h => h) (by kernel_rfl) (fun X hX => by clear hX; first | rfl | go_simp) hHeld ?_
          simp only [Act.put, List.setIfInBounds_toArray, List.set_cons_zero, List.set_cons_succ]
          refine takeH 33 93 (.int .i64 i) rfl rfl (by kernel_rfl) (by kernel_rfl) (by kernel_rfl) (fun _ _ _ h => h) (by kernel_rfl) (fun X hX => by clear hX; first | rfl | go_simp) hHeld ?_
          simp only [Act.put, List.setIfInBounds_toArray, List.set_cons_zero, List.set_cons_succ]
          refine takeH 34 94 (.pointer (some (ad2.add i))) rfl rfl (by kernel_rfl) (by kernel_rfl) (by kernel_rfl) (fun _ _ _ h => h) (by kernel_rfl) (fun X hX => by clear hX; first | rfl | go_simp) hHeld ?_
          simp only [Act.put, List.setIfInBounds_toArray, List.set_cons_zero, List.set_cons_succ]
          refine takeH 35 95 (.int .i64 z2) rfl rfl (by kernel_rfl) (by kernel_rfl) (by kernel_rfl) (fun _ _ _ h => h) (by kernel_rfl) (fun X hX => by have q := (hX.cell (p := ad2.add i) (by rw [add_block]; exact P2.out)).trans C2.out; clear hX; go_simp) hHeld ?_
          simp only [Act.put, List.setIfInBounds_toArray, List.set_cons_zero, List.set_cons_succ]
          refine takeH 36 96 (.slice (some ad4) N c23) rfl rfl (by kernel_rfl) (by kernel_rfl) (by kernel_rfl) (fun _ _ _ h => h) (by kernel_rfl) (fun X hX => by clear hX; first | rfl | go_simp) hHeld ?_
          simp only [Act.put, List.setIfInBounds_toArray, List.set_cons_zero, List.set_cons_succ]
          refine takeH 37 97 (.int .i64 i) rfl rfl (by kernel_rfl) (by kernel_rfl) (by kernel_rfl) (fun _ _ _ h => h) (by kernel_rfl) (fun X hX => by clear hX; first | rfl | go_simp) hHeld ?_
          simp only [Act.put, List.setIfInBounds_toArray, List.set_cons_zero, List.set_cons_succ]
          refine takeH 38 98 (.pointer (some (ad4.add i))) rfl rfl (by kernel_rfl) (by kernel_rfl) (by kernel_rfl) (fun _ _ _ h => h) (by kernel_rfl) (fun X hX => by clear hX; first | rfl | go_simp) hHeld ?_
          simp only [Act.put, List.setIfInBounds_toArray, List.set_cons_zero, List.set_cons_succ]
          refine takeH 39 99 (.int .i64 z4) rfl rfl (by kernel_rfl) (by kernel_rfl) (by kernel_rfl) (fun _ _ _ h => h) (by kernel_rfl) (fun X hX => by have q := (hX.cell (p := ad4.add i) (by rw [add_block]; exact P4.out)).trans C4.out; clear hX; go_simp) hHeld ?_
          simp only [Act.put, List.setIfInBounds_toArray, List.set_cons_zero, List.set_cons_succ]
          refine takeH 40 100 (.bool false) rfl rfl (by kernel_rfl) (by kernel_rfl) (by kernel_rfl) (fun _ _ _ h => h) (by kernel_rfl) (fun X hX => by clear hX; first | rfl | go_simp) hHeld ?_
          simp only [Act.put, List.setIfInBounds_toArray, List.set_cons_zero, List.set_cons_succ]
          refine takeH 41 101 (.bool false) rfl rfl (by kernel_rfl) (by kernel_rfl) (by kernel_rfl) (fun _ _ _ h => h) (by kernel_rfl) (fun X hX => by clear hX; first | rfl | go_simp) hHeld ?_
          simp only [Act.put, List.setIfInBounds_toArray, List.set_cons_zero, List.set_cons_succ]
          refine takeH 42 102 (.bool false) rfl rfl (by kernel_rfl) (by kernel_rfl) (by kernel_rfl) (fun _ _ _ h => h) (by kernel_rfl) (fun X hX => by clear hX; first | rfl | go_simp) hHeld ?_
          simp only [Act.put, List.setIfInBounds_toArray, List.set_cons_zero, List.set_cons_succ]
          refine takeH 43 103 (.slice (some ad1) N c20) rfl rfl (by kernel_rfl) (by kernel_rfl) (by kernel_rfl) (fun _ _ _ h => h) (by kernel_rfl) (fun X hX => by clear hX; first | rfl | go_simp) hHeld ?_
          simp only [Act.put, List.setIfInBounds_toArray, List.set_cons_zero, List.set_cons_succ]
          refine takeH 44 104 (.int .i64 i) rfl rfl (by kernel_rfl) (by kernel_rfl) (by kernel_rfl) (fun _ _ _ h => h) (by kernel_rfl) (fun X hX => by clear hX; first | rfl | go_simp) hHeld ?_
          simp only [Act.put, List.setIfInBounds_toArray, List.set_cons_zero, List.set_cons_succ]
          refine takeH 45 105 (.pointer (some (ad1.add i))) rfl rfl (by kernel_rfl) (by kernel_rfl) (by kernel_rfl) (fun _ _ _ h => h) (by kernel_rfl) (fun X hX => by clear hX; first | rfl | go_simp) hHeld ?_
          simp only [Act.put, List.setIfInBounds_toArray, List.set_cons_zero, List.set_cons_succ]
          refine takeH 46 106 (.int .i64 z1) rfl rfl (by kernel_rfl) (by kernel_rfl) (by kernel_rfl) (fun _ _ _ h => h) (by kernel_rfl) (fun X hX => by have q := (hX.cell (p := ad1.add i) (by rw [add_block]; exact P1.out)).trans C1.out; clear hX; go_simp) hHeld ?_
          simp only [Act.put, List.setIfInBounds_toArray, List.set_cons_zero, List.set_cons_succ]
          refine takeH 47 107 (.bool zz) rfl rfl (by kernel_rfl) (by kernel_rfl) (by kernel_rfl) (fun _ _ _ h => h) (by kernel_rfl) (fun X hX => by clear hX; go_simp; exact e1.out) hHeld ?_
          simp only [Act.put, List.setIfInBounds_toArray, List.set_cons_zero, List.set_cons_succ]
          refine takeH 48 108 (.slice (some ad2) N c21) rfl rfl (by kernel_rfl) (by kernel_rfl) (by kernel_rfl) (fun _ _ _ h => h) (by kernel_rfl) (fun X hX => by clear hX; first | rfl | go_simp) hHeld ?_
          simp only [Act.put, List.setIfInBounds_toArray, List.set_cons_zero, List.set_cons_succ]
          refine takeH 49 109 (.int .i64 i) rfl rfl (by kernel_rfl) (by kernel_rfl) (by kernel_rfl) (fun _ _ _ h => h) (by kernel_rfl) (fun X hX => by clear hX; first | rfl | go_simp) hHeld ?_
          simp only [Act.put, List.setIfInBounds_toArray, List.set_cons_zero, List.set_cons_succ]
          refine takeH 50 110 (.pointer (some (ad2.add i))) rfl rfl (by kernel_rfl) (by kernel_rfl) (by kernel_rfl) (fun _ _ _ h => h) (by kernel_rfl) (fun X hX => by clear hX; first | rfl | go_simp) hHeld ?_
          simp only [Act.put, List.setIfInBounds_toArray, List.set_cons_zero, List.set_cons_succ]
          refine takeH 51 111 (.int .i64 z2) rfl rfl (by kernel_rfl) (by kernel_rfl) (by kernel_rfl) (fun _ _ _ h => h) (by kernel_rfl) (fun X hX => by have q := (hX.cell (p := ad2.add i) (by rw [add_block]; exact P2.out)).trans C2.out; clear hX; go_simp) hHeld ?_
          simp only [Act.put, List.setIfInBounds_toArray, List.set_cons_zero, List.set_cons_succ]
          refine takeH 52 112 (.bool zz) rfl rfl (by kernel_rfl) (by kernel_rfl) (by kernel_rfl) (fun _ _ _ h => h) (by kernel_rfl) (fun X hX => by clear hX; go_simp; exact e2.out) hHeld ?_
          simp only [Act.put, List.setIfInBounds_toArray, List.set_cons_zero, List.set_cons_succ]
          refine takeH 53 113 (.bool false) rfl rfl (by kernel_rfl) (by kernel_rfl) (by kernel_rfl) (fun _ _ _ h => h) (by kernel_rfl) (fun X hX => by clear hX; cases zz <;> go_simp) hHeld ?_
          simp only [Act.put, List.setIfInBounds_toArray, List.set_cons_zero, List.set_cons_succ]
          refine takeH 54 114 (.bool false) rfl rfl (by kernel_rfl) (by kernel_rfl) (by kernel_rfl) (fun _ _ _ h => h) (by kernel_rfl) (fun X hX => by clear hX; first | rfl | go_simp) hHeld ?_
          simp only [Act.put, List.setIfInBounds_toArray, List.set_cons_zero, List.set_cons_succ]
          refine wpAnyH_done (by kernel_rfl) ?_ _
          go_wp2_with fail
          exact ⟨⟨i + 1, by go_num, by omega, hid KD⟩, by simp [intOf]; omega⟩
        · obtain rfl : i = N := by omega
          have b4 : ¬ ((i : Nat) : Int) < (i : Int) := by omega
          go_wp2_with fail
          refine (HH.out _).mono ?_
          rintro e Y9 ⟨rfl, b9⟩
          go_wp2_with fail
          go_ret
          exact Did.mk rfl (KZ.out.2.trans ((KB.out.mono KZ.out.2.size).trans (b9.mono (Nat.le_trans KZ.out.2.size KB.out.size))))
  · have hf : fewL l.length = false := by cases h : fewL l.length with
      | true => exact absurd h hf
      | false => rfl
    rw [hf] at HF
    obtain ⟨G, W0, hG, hW0, K0, z0⟩ := (Mem.nil w).one (gc a0) 23
    obtain ⟨D, W1, hD, hW1, K1, z1⟩ := K0.out.one (wc a2) 29
    clear hf z0 z1 K0
    go_enter Try.func6, Try.ntmps6
    go_wp2_with fail
    refine (HF.out _).mono ?_
    rintro e Y1 ⟨rfl, rfl⟩
    go_wp2_with fail
    refine (HH.out _).mono ?_
    rintro e Y2 ⟨rfl, b2⟩
    go_wp2_with fail
    go_ret
    exact Did.mk rfl (K1.out.next b2).2

/-! ### THE ROW's STEP: WRITTEN OUT: LEAVE IT -/
set_option maxRecDepth 100000 in
theorem lifted (os : Os) (started : os.Started) (H : Type) (enc : TypeId × Value → H) :
    ReturnsInHanded {} Try.checked os 6 .any (Rows.personSpreadsSpec.pre6 enc Try.prog Try.f6 Rows.personSpreadsRow.domain false) (Rows.personSpreadsSpec.post enc Try.prog Try.f6 false true false false) := by
  refine returnsInHanded_of_change (C := Try.checked) own started (by kernel_rfl) Try.func6
    (ChangeSpec.witness6 (enc := enc) (C := Try.checked) false ⟨#[], #[.agg #[.int .i64 0, .int .i64 0, .int .i64 0], .slice none 0 0, .agg #[.int .u32 0, .int .u8 0, .int .i64 0, .int .i64 0]], []⟩ 8 (by kernel_rfl) (by kernel_rfl) (by kernel_rfl) (by kernel_rfl)) ?_
  intro W base args ds gs before hval0 hW hcnd _
  have hval : ∀ (j : Nat) t v, Try.f6.params[j]? = some t → args[j]? = some v → Value.okWide Try.prog W .any base t v := hval0
  have hW' := hW
  obtain ⟨p, q, hA0, hV, rfl, hfz, hnd⟩ := hW
  have hA : DataW.TrodAll enc Try.prog W 0 (fun _ => true) true Try.f6.params.toList args.toList ds p := hA0
  rw [Try.params6] at hA hval
  obtain ⟨v0, vs0, d0, ds0, p0, q0, hargs, rfl, rfl, h0, r0⟩ := trodAll_cons hA
  obtain ⟨v1, vs1, d1, ds1, p1, q1, rfl, rfl, rfl, h1, r1⟩ := trodAll_cons r0
  obtain ⟨v2, vs2, d2, ds2, p2, q2, rfl, rfl, rfl, h2, r2⟩ := trodAll_cons r1
  obtain ⟨rfl, rfl, rfl⟩ := trodAll_nil r2
  obtain rfl : args = #[v0, v1, v2] := by cases args; simp_all
  obtain ⟨rfl, rfl⟩ := trodVars_none hV
  have k0 := h0
  have lt0 : ∀ x ∈ p0, x.block < W.heap.size := by obtain ⟨m, hm⟩ := k0; exact DataW.trod_lt m _ _ _ hm
  obtain ⟨a0, rfl, w0⟩ := open_gr (hval 0 23 v0 rfl rfl) h0
  have k1 := h1
  have lt1 : ∀ x ∈ p1, x.block < W.heap.size := by obtain ⟨m, hm⟩ := k1; exact DataW.trod_lt m _ _ _ hm
  obtain ⟨a1, rfl, w1⟩ := open_wsA (hval 1 24 v1 rfl rfl) h1
  have k2 := h2
  have lt2 : ∀ x ∈ p2, x.block < W.heap.size := by obtain ⟨m, hm⟩ := k2; exact DataW.trod_lt m _ _ _ hm
  obtain ⟨a2, rfl, w2⟩ := open_wh (hval 2 29 v2 rfl rfl) h2
  clear hA0 hval0
  refine (walk a0 a1 a2 W w0 w1 w2).mono fun e W' ⟨he, bel⟩ => ?_
  subst he
  exact ⟨_, rfl, _, _, _, [], _, [], hW', trodAll_mk1 (shut_bool Try.underlying4 _), (trodAll_cons_mk (Below.trod laidOut (by kernel_rfl) (of_decide_eq_true (by kernel_rfl)) k0 bel lt0) (trodAll_cons_mk (Below.trod laidOut (by kernel_rfl) (of_decide_eq_true (by kernel_rfl)) k1 bel lt1) (trodAll_cons_mk (Below.trod laidOut (by kernel_rfl) (of_decide_eq_true (by kernel_rfl)) k2 bel lt2) trodAll_mk0))), rfl, bel.frame _, fun h => by cases h⟩

theorem over : Rows.personSpreadsRow.holds Try.pinned (OpenSpec.ofChange Rows.personSpreadsSpec) :=
  OpenClaim.holds_of_wide 6 Try.f6 rfl rfl rfl rfl rfl rfl rfl ⟨rfl, rfl, rfl, rfl, rfl⟩ rfl rfl rfl rfl rfl (by kernel_rfl) Try.func6 (by kernel_rfl)
    (of_decide_eq_true (by kernel_rfl)) (by unfold Func.isWrapper; first | (rw [if_pos (by decide +kernel)]; kernel_rfl) | (rw [if_neg (by decide +kernel)]; exact ⟨rfl, rfl⟩))
    (fun os started H enc _ => lifted os started H enc)

/-- ████ THE STATEMENT ████ -/
theorem proved : Rows.PersonSpreadsSaid := over
#print axioms proved
end Go.Proofs.Ytodhpdaoghbmcaa.personSpreads
