/- The library's Clone, and the closure of loadsOf, which calls itself (layer 14). -/
import Derived.Test.YtgkplcipplpobaaCrtF
namespace Go.Proofs.Ytgkplcipplpobaa
open Go.RowKit
open Whn (Gr Wh)

theorem run_eqlIn_slice_nil {P : Program} (w : World) (d : Nat) (t e : TypeId) (a : Option Addr) (l c : Nat) (h : P.underlying t = some (.slice e)) : (Op.equalIn (d + 1) t (.slice a l c) (.slice none 0 0)).run P w = .ok a.isNone w := by
  cases a <;> simp [Op.equalIn, run_underlying h]
theorem run_eq_slice_nil {P : Program} (w : World) (t e : TypeId) (a : Option Addr) (l c : Nat) (h : P.underlying t = some (.slice e)) : (binOp .eql t (.slice a l c) (.slice none 0 0)).run P w = .ok (.bool a.isNone) w := by
  have h1 : (Op.equal t (.slice a l c) (.slice none 0 0)).run P w = .ok a.isNone w := run_eqlIn_slice_nil w 9999 t e a l c h
  simp only [binOp]
  simp [h1]
set_option maxRecDepth 20000 in
set_option maxHeartbeats 1000000 in
theorem p_CloneI (ad : Addr) (n c : Nat) (l : List Int) (hn : l.length = n) (hm : n ≤ 1000000) (w : World) (h : Its w w.heap.size (some ad) l) :
    Calls Try.prog 55 #[.slice (some ad) n c] w (OwI l w) := by
  have hS := hid (fun X (hX : Below w.heap.size w X) => src_its (P := Try.prog) X Try.underlying29 (c := c) hn (h.below hX (Nat.le_refl _)))
  obtain ⟨i0, hi0, hz0, hz1, hz2⟩ := info_parts Try.info_int14
  have hL0 := hid (World.ownsRow_lit (base := w.heap.size) (e := 3) (size := 1) w #[] 0 (Nat.le_refl _) (by unfold maxLen; omega) rfl)
  have hb0 := below_alloc w (.cells #[] 3)
  have q1 : 0 + n ≤ maxLen := by unfold maxLen; omega
  have q2 : (0 + n) * 8 ≤ 140737488355328 := by omega
  clear h
  have Heq := run_eq_slice_nil (P := Try.prog) w 29 3 (some ad) n c Try.underlying29
  go_enter Try.func55, Try.ntmps55
  go_wp2_with (at_builtin; refine wpList_append_srcN rfl _ _ 29 29 rfl w.heap.size 3 i0 (.int .i64 0) 1 8 Try.underlying29 hi0 hz0 hz1 hz2 rfl _ _ _ rfl hL0.out _ _ _ rfl (hS.out _ hb0) q1 q2 hb0.size ?_; intro v1 w5 hown hgrow)
  go_ret
  refine ⟨v1, rfl, ?_, hb0.grown hgrow hb0.size (fun k hk => (hL0.out.lt k hk).1)⟩
  rw [hn]
  rw [Nat.zero_add] at hown
  exact hown
theorem src_obw {P : Program} {X : World} {e' tx t : TypeId} (hk : P.underlying tx = some (.slice e')) {b : Nat} {v : Value} (h : Ob X b [v] t) (h1 : v.oneCell' = true) : Src P 1 tx (.slice (some ⟨b, 0, none⟩) 1 1) 1 [v] X :=
  Src.ofSlice X hk ⟨b, 0, none⟩ 1 1 [v] rfl (fun j u hu => by
    have hj : j = 0 := by
      have := (List.getElem?_eq_some_iff.1 hu).1
      simp only [List.length_singleton] at this
      omega
    subst hj
    exact h.cell hu) (fun u hu => by
    rw [List.mem_singleton] at hu
    subst hu
    exact h1)
theorem Ob.grown {W W' : World} {b : Nat} {row : Option Nat} {cs : List Value} {t : TypeId} (h : Ob W b cs t) (hg : W.grownBy W' row) (hne : some b ≠ row) : Ob W' b cs t := (hg.block b h.lt hne).trans h
theorem own_at {w : World} {base b : Nat} {e : TypeId} {A : Option Addr} {n c : Nat} {xs : List Value} (h : w.ownsRow base e 1 (.slice A n c) n xs) (hb : b ≤ base) : ∀ ad, A = some ad → b ≤ ad.block := fun ad e => by
  rcases h.2 with ⟨hv, _⟩ | ⟨g, cap, cur, hv, hg, _⟩
  · injection hv with h1
    rw [h1] at e
    cases e
  · injection hv with h1
    rw [h1] at e
    injection e with e
    rw [← e]
    exact Nat.le_trans hb hg
theorem rows_next {w w' : World} {base : Nat} {v : Value} {ls : List (List Int)} {vals : List Value}
    (h : w.ownsRow base 29 1 v ls.length vals ∧ ∀ (k : Nat) (l : List Int), ls[k]? = some l → ∃ Ak ck, vals[k]? = some (Value.slice Ak l.length ck) ∧ l.length ≤ ck ∧ IntRow w Ak l ∧ ∀ ad, Ak = some ad → base ≤ ad.block) (hb : Below w.heap.size w w') :
    w'.ownsRow base 29 1 v ls.length vals ∧ ∀ (k : Nat) (l : List Int), ls[k]? = some l → ∃ Ak ck, vals[k]? = some (Value.slice Ak l.length ck) ∧ l.length ≤ ck ∧ IntRow w' Ak l ∧ ∀ ad, Ak = some ad → base ≤ ad.block :=
  ⟨own_below h.1 hb, fun k l hl => by
    obtain ⟨Ak, ck, h1, h2, h3, h4⟩ := h.2 k l hl
    exact ⟨Ak, ck, h1, h2, h3.next hb, h4⟩⟩
theorem take_set {cur : List Int} {k : Nat} (y : Int) (hk : k < cur.length) : (cur.set k y).take (k + 1) = cur.take k ++ [y] := by
  rw [List.take_add_one, List.getElem?_set_self hk, List.take_set_of_le (Nat.le_refl k)]
  rfl
theorem ob_its {X : World} {b : Nat} {cur : List Int} {t : TypeId} (h : Ob X b (cur.map (Value.int .i64)) t) : Its X X.heap.size (some ⟨b, 0, none⟩) cur := fun _ => ⟨⟨b, 0, none⟩, rfl, h.lt, fun k v hv => by
  rw [show (⟨b, 0, none⟩ : Addr).add k = ⟨b, k, none⟩ from by unfold Addr.add; split <;> simp_all]
  exact h.cell hv⟩
/-- the loads from k on are made -/
def ChRet (i : Ids) (A : Option Addr) (c : Nat) (l : List ClA) (B : Option Addr) (d : Nat) (ls : List (List Int)) (w : World) (k : Nat) (cur : List Int) (acc : List (List Int)) (e : Ending) (X : World) : Prop :=
  e = .returned (.tuple #[]) ∧ ∃ cur', cur'.length = ls.length ∧ cur'.take k = cur.take k ∧ Chs i A c l B d ls w X cur' acc
set_option maxRecDepth 20000 in
set_option maxHeartbeats 8000000 in
theorem p_choose0 (i : Ids) (hi : i.ok) (A : Option Addr) (c : Nat) (l : List ClA) (B : Option Addr) (d : Nat) (ls : List (List Int)) (hl : Lsok ls) (h4 : ls.length ≤ 4) (w : World) (hw : i.b = w.heap.size) (h : Es enC w w.heap.size A l) (hB : Rows2 w w.heap.size B ls)
    (cur : List Int) (acc : List (List Int)) (X : World) (hcl : cur.length = ls.length) (hcr : ∀ n ∈ cur, 0 ≤ n ∧ n < (l.length : Nat)) (hac : acc.length + 1 ≤ 4096) (hX : Chs i A c l B d ls w X cur acc) :
    Calls Try.prog 54 #[.int .i64 (ls.length : Int), .pointer (some ⟨i.W, 0, none⟩), .pointer (some ⟨i.L, 0, none⟩), .pointer (some ⟨i.S, 0, none⟩), .pointer (some ⟨i.R, 0, none⟩), .pointer (some ⟨i.F, 0, none⟩)] X (ChRet i A c l B d ls w ls.length cur (acc ++ (extN ls 0 cur).filter (holdC l ls))) := by
  have K := hid hX
  have hi2 := hid (show i.b ≤ i.L ∧ i.L < i.W ∧ i.W < i.R ∧ i.R < i.G ∧ i.G < i.S ∧ i.S < i.F ∧ i.F < i.base from hi)
  have HT := (p_together A c l B d ls hl (some ⟨i.G, 0, none⟩) ls.length cur (by rw [hcl]; exact hl.1) hcr X ((h.below hX.hB (Nat.le_refl _)).more hX.hB.size) ((hB.below hX.hB (Nat.le_refl _)).more hX.hB.size) (ob_its hX.hG))
  rw [hcl] at HT
  have HT1 := hid HT
  have HCl := hid (fun X (h : Chs i A c l B d ls w X cur acc) => p_CloneI ⟨i.G, 0, none⟩ ls.length ls.length cur hcl (by omega) X (ob_its h.hG))
  have Hno := hid (fun (h : holdC l ls cur = false) => show acc ++ (extN ls 0 cur).filter (holdC l ls) = acc by rw [extN, List.filter_cons, h]; simp)
  have Hye := hid (fun (h : holdC l ls cur = true) => show acc ++ (extN ls 0 cur).filter (holdC l ls) = acc ++ [cur] by rw [extN, List.filter_cons, h]; simp)
  generalize acc ++ (extN ls 0 cur).filter (holdC l ls) = res at *
  generalize holdC l ls cur = hc0 at *
  obtain ⟨j0, hj0, hy0, hy1, hy2⟩ := info_parts Try.info_row14
  have q5 : acc.length + 1 ≤ maxLen := by unfold maxLen; omega
  have q6 : (acc.length + 1) * 24 ≤ 140737488355328 := by omega
  have l0 := hX.hL.cell (k := 0) rfl
  have w0 := hX.hW.cell (k := 0) rfl
  have s0 := hX.hS.cell (k := 0) rfl
  clear hX HT h hB
  go_enter Try.func54, Try.ntmps54
  go_wp2_with fail
  refine HT1.out.mono ?_
  rintro e1 X1 ⟨rfl, bz⟩
  have K1 := hid (K.out.next bz)
  clear l0 w0 s0 bz K HT1
  cases hc0 with
  | false =>
    have hr := hid (Hno.out rfl)
    go_wp2_with fail
    refine bodyPost_ret (results_none rfl _ _ _) rfl ?_
    exact ⟨rfl, cur, hcl, rfl, by rw [hr.out]; exact K1.out⟩
  | true =>
    have Hyes := hid (Hye.out rfl)
    have KD := hid (K1.out.next (Below.refl _ X1).drew)
    clear K1 Hno Hye
    go_wp2_with fail
    refine wp_region_held_drew (S := fun X => Ob X i.S [Value.slice (some ⟨i.G, 0, none⟩) ls.length ls.length] 29) (by kernel_rfl) KD.out.hS (fun hHeld => ?_)
    refine takeH 1 19 (.slice (some ⟨i.G, 0, none⟩) ls.length ls.length) rfl rfl (by kernel_rfl) (by kernel_rfl) (by kernel_rfl) (fun _ _ _ h => h) (by kernel_rfl) (fun X hX => by have q := hX.cell (k := 0) rfl; clear hX; go_simp) hHeld ?_
    simp only [Act.put, List.setIfInBounds_toArray, List.set_cons_zero, List.set_cons_succ]
    refine wpAnyH_ready (rs := [0, 2]) (by kernel_rfl) (by simp) ?_
    refine AllReadyH.cons rfl (fun KK hK => ?_) (AllReadyH.cons rfl (fun KK hK => ?_) AllReadyH.nil)
    · skip
      obtain ⟨rv, hrv, vals, ho, hc⟩ := KD.out.hR
      have r0 := hrv.cell (k := 0) rfl
      simp only [List.getElem_toArray, List.getElem_cons_zero]
      go_simp
      refine hK.out _ _ KD.out.hS (fun hHeld => ?_)
      clear hK KK
      try simp only [Act.put, List.setIfInBounds_toArray, List.set_cons_zero, List.set_cons_succ]
      refine wpAnyH_ready (rs := [2]) (by kernel_rfl) (by simp) ?_
      refine AllReadyH.cons rfl (fun KK hK => ?_) AllReadyH.nil
      simp only [List.getElem_toArray, List.getElem_cons_succ, List.getElem_cons_zero]
      go_simp
      refine (HCl.out _ KD.out).mono ?_
      rintro e1 Y ⟨vc, rfl, hoc, bz⟩
      have KY := hid (KD.out.next bz)
      refine hK.out _ _ KY.out.hS (fun hHeld => ?_)
      clear hK KK
      try simp only [Act.put, List.setIfInBounds_toArray, List.set_cons_zero, List.set_cons_succ]
      obtain ⟨Bc, cc, rfl, hI, hcc⟩ := IntRow.of_own hoc
      rw [hcl] at hcc ⊢
      have Hbc := hid (fun ad (e : Bc = some ad) => show i.base ≤ ad.block from own_at hoc KD.out.hb ad e)
      refine wpAnyH_ready (rs := [3]) (by kernel_rfl) (by simp) ?_
      refine AllReadyH.cons rfl (fun KK hK => ?_) AllReadyH.nil
      simp only [List.getElem_toArray, List.getElem_cons_succ, List.getElem_cons_zero]
      go_simp
      have hb3 := below_alloc Y (.cells #[.slice Bc ls.length cc] 29)
      have K3 := hid (KY.out.next hb3)
      have hN := hid (Ob.new Y [Value.slice Bc ls.length cc] 29)
      have hI3 := hid (hI.next hb3)
      clear hb3
      refine hK.out _ _ K3.out.hS (fun hHeld => ?_)
      clear hK KK
      try simp only [Act.put, List.setIfInBounds_toArray, List.set_cons_zero, List.set_cons_succ]
      have hrv3 := (hrv.next bz).next (below_alloc Y (.cells #[.slice Bc ls.length cc] 29))
      obtain ⟨ho3, hc3⟩ := rows_next (rows_next ⟨ho, hc⟩ bz) (below_alloc Y (.cells #[.slice Bc ls.length cc] 29))
      have hN2 := hN.out
      have hb4 := K3.out.hb
      clear r0 ho hc hrv
      refine wpAnyH_ready (rs := [4]) (by kernel_rfl) (by simp) ?_
      refine AllReadyH.cons rfl (fun KK hK => ?_) AllReadyH.nil
      refine step_append_srcN rfl (.tmp 18) (.tmp 21) 34 34 rfl i.base 29 j0 (.slice none 0 0) 1 24 Try.underlying34 hj0 hy0 hy1 hy2 rfl _ _ _ (by rfl) ho3 _ _ _ (by rfl) (src_obw Try.underlying34 hN2 rfl) q5 q6 hb4 ?_
      intro v4 w4 hown4 hgr4
      obtain ⟨A4, c4, hv4, _, _⟩ := own_rd hown4
      subst hv4
      have hR4 := RowsAt.push (r := cur) (c := cc) (B := Bc) ho3 hc3 hI3.out (by rw [hcl]; exact hcc) Hbc.out hgr4 (by rw [hcl]; exact hown4)
      have hR4o := hid (Ob.grown hrv3 hgr4 (fun e => by have := (ho3.lt i.R e.symm).1; have := hi2.out; omega))
      have K5 := hid (K3.out.push hi hw hrv3 ho3 hgr4 hR4)
      have hS4 := Ob.grown K3.out.hS hgr4 (fun e => by have := (ho3.lt i.S e.symm).1; have := hi2.out; omega)
      have r4 := hR4o.out.cell (k := 0) rfl
      have f4 := hR4o.out.free 0
      refine hK.out _ _ hS4 (fun hHeld => ?_)
      clear hK KK
      try simp only [Act.put, List.setIfInBounds_toArray]
      clear hN2 hrv3 hR4
      refine wpAnyH_ready (rs := [5]) (by kernel_rfl) (by simp) ?_
      refine AllReadyH.cons rfl (fun KK hK => ?_) AllReadyH.nil
      simp only [List.getElem_toArray, List.getElem_cons_succ, List.getElem_cons_zero]
      go_simp
      refine hK.out _ _ K5.out.hS (fun hHeld => ?_)
      clear hK KK
      try simp only [Act.put]
      refine wpAnyH_done (by kernel_rfl) ?_ _
      clear hHeld r4 f4
      go_wp2_with fail
      refine bodyPost_ret (results_none rfl _ _ _) rfl ?_
      exact ⟨rfl, cur, hcl, rfl, by rw [Hyes.out]; exact K5.out⟩
    · skip
      simp only [List.getElem_toArray, List.getElem_cons_succ, List.getElem_cons_zero]
      go_simp
      refine (HCl.out _ KD.out).mono ?_
      rintro e1 Y ⟨vc, rfl, hoc, bz⟩
      have KY := hid (KD.out.next bz)
      refine hK.out _ _ KY.out.hS (fun hHeld => ?_)
      clear hK KK
      try simp only [Act.put, List.setIfInBounds_toArray, List.set_cons_zero, List.set_cons_succ]
      obtain ⟨Bc, cc, rfl, hI, hcc⟩ := IntRow.of_own hoc
      rw [hcl] at hcc ⊢
      have Hbc := hid (fun ad (e : Bc = some ad) => show i.base ≤ ad.block from own_at hoc KD.out.hb ad e)
      refine wpAnyH_ready (rs := [0, 3]) (by kernel_rfl) (by simp) ?_
      refine AllReadyH.cons rfl (fun KK hK => ?_) (AllReadyH.cons rfl (fun KK hK => ?_) AllReadyH.nil)
      · skip
        obtain ⟨rv, hrv, vals, ho, hc⟩ := KY.out.hR
        have r0 := hrv.cell (k := 0) rfl
        simp only [List.getElem_toArray, List.getElem_cons_zero]
        go_simp
        refine hK.out _ _ KY.out.hS (fun hHeld => ?_)
        clear hK KK
        try simp only [Act.put, List.setIfInBounds_toArray, List.set_cons_zero, List.set_cons_succ]
        refine wpAnyH_ready (rs := [3]) (by kernel_rfl) (by simp) ?_
        refine AllReadyH.cons rfl (fun KK hK => ?_) AllReadyH.nil
        simp only [List.getElem_toArray, List.getElem_cons_succ, List.getElem_cons_zero]
        go_simp
        have hb3 := below_alloc Y (.cells #[.slice Bc ls.length cc] 29)
        have K3 := hid (KY.out.next hb3)
        have hN := hid (Ob.new Y [Value.slice Bc ls.length cc] 29)
        have hI3 := hid (hI.next hb3)
        clear hb3
        refine hK.out _ _ K3.out.hS (fun hHeld => ?_)
        clear hK KK
        try simp only [Act.put, List.setIfInBounds_toArray, List.set_cons_zero, List.set_cons_succ]
        have hrv3 := hrv.next (below_alloc Y (.cells #[.slice Bc ls.length cc] 29))
        obtain ⟨ho3, hc3⟩ := rows_next ⟨ho, hc⟩ (below_alloc Y (.cells #[.slice Bc ls.length cc] 29))
        have hN2 := hN.out
        have hb4 := K3.out.hb
        clear r0 ho hc hrv
        refine wpAnyH_ready (rs := [4]) (by kernel_rfl) (by simp) ?_
        refine AllReadyH.cons rfl (fun KK hK => ?_) AllReadyH.nil
        refine step_append_srcN rfl (.tmp 18) (.tmp 21) 34 34 rfl i.base 29 j0 (.slice none 0 0) 1 24 Try.underlying34 hj0 hy0 hy1 hy2 rfl _ _ _ (by rfl) ho3 _ _ _ (by rfl) (src_obw Try.underlying34 hN2 rfl) q5 q6 hb4 ?_
        intro v4 w4 hown4 hgr4
        obtain ⟨A4, c4, hv4, _, _⟩ := own_rd hown4
        subst hv4
        have hR4 := RowsAt.push (r := cur) (c := cc) (B := Bc) ho3 hc3 hI3.out (by rw [hcl]; exact hcc) Hbc.out hgr4 (by rw [hcl]; exact hown4)
        have hR4o := hid (Ob.grown hrv3 hgr4 (fun e => by have := (ho3.lt i.R e.symm).1; have := hi2.out; omega))
        have K5 := hid (K3.out.push hi hw hrv3 ho3 hgr4 hR4)
        have hS4 := Ob.grown K3.out.hS hgr4 (fun e => by have := (ho3.lt i.S e.symm).1; have := hi2.out; omega)
        have r4 := hR4o.out.cell (k := 0) rfl
        have f4 := hR4o.out.free 0
        refine hK.out _ _ hS4 (fun hHeld => ?_)
        clear hK KK
        try simp only [Act.put, List.setIfInBounds_toArray]
        clear hN2 hrv3 hR4
        refine wpAnyH_ready (rs := [5]) (by kernel_rfl) (by simp) ?_
        refine AllReadyH.cons rfl (fun KK hK => ?_) AllReadyH.nil
        simp only [List.getElem_toArray, List.getElem_cons_succ, List.getElem_cons_zero]
        go_simp
        refine hK.out _ _ K5.out.hS (fun hHeld => ?_)
        clear hK KK
        try simp only [Act.put]
        refine wpAnyH_done (by kernel_rfl) ?_ _
        clear hHeld r4 f4
        go_wp2_with fail
        refine bodyPost_ret (results_none rfl _ _ _) rfl ?_
        exact ⟨rfl, cur, hcl, rfl, by rw [Hyes.out]; exact K5.out⟩
      · skip
        simp only [List.getElem_toArray, List.getElem_cons_succ, List.getElem_cons_zero]
        go_simp
        have hb3 := below_alloc Y (.cells #[.slice Bc ls.length cc] 29)
        have K3 := hid (KY.out.next hb3)
        have hN := hid (Ob.new Y [Value.slice Bc ls.length cc] 29)
        have hI3 := hid (hI.next hb3)
        clear hb3
        refine hK.out _ _ K3.out.hS (fun hHeld => ?_)
        clear hK KK
        try simp only [Act.put, List.setIfInBounds_toArray, List.set_cons_zero, List.set_cons_succ]
        refine wpAnyH_ready (rs := [0]) (by kernel_rfl) (by simp) ?_
        refine AllReadyH.cons rfl (fun KK hK => ?_) AllReadyH.nil
        obtain ⟨rv, hrv, vals, ho, hc⟩ := K3.out.hR
        have r0 := hrv.cell (k := 0) rfl
        simp only [List.getElem_toArray, List.getElem_cons_zero]
        go_simp
        refine hK.out _ _ K3.out.hS (fun hHeld => ?_)
        clear hK KK
        try simp only [Act.put, List.setIfInBounds_toArray, List.set_cons_zero, List.set_cons_succ]
        have hrv3 := hrv
        obtain ⟨ho3, hc3⟩ := And.intro ho hc
        have hN2 := hN.out
        have hb4 := K3.out.hb
        clear r0 ho hc hrv
        refine wpAnyH_ready (rs := [4]) (by kernel_rfl) (by simp) ?_
        refine AllReadyH.cons rfl (fun KK hK => ?_) AllReadyH.nil
        refine step_append_srcN rfl (.tmp 18) (.tmp 21) 34 34 rfl i.base 29 j0 (.slice none 0 0) 1 24 Try.underlying34 hj0 hy0 hy1 hy2 rfl _ _ _ (by rfl) ho3 _ _ _ (by rfl) (src_obw Try.underlying34 hN2 rfl) q5 q6 hb4 ?_
        intro v4 w4 hown4 hgr4
        obtain ⟨A4, c4, hv4, _, _⟩ := own_rd hown4
        subst hv4
        have hR4 := RowsAt.push (r := cur) (c := cc) (B := Bc) ho3 hc3 hI3.out (by rw [hcl]; exact hcc) Hbc.out hgr4 (by rw [hcl]; exact hown4)
        have hR4o := hid (Ob.grown hrv3 hgr4 (fun e => by have := (ho3.lt i.R e.symm).1; have := hi2.out; omega))
        have K5 := hid (K3.out.push hi hw hrv3 ho3 hgr4 hR4)
        have hS4 := Ob.grown K3.out.hS hgr4 (fun e => by have := (ho3.lt i.S e.symm).1; have := hi2.out; omega)
        have r4 := hR4o.out.cell (k := 0) rfl
        have f4 := hR4o.out.free 0
        refine hK.out _ _ hS4 (fun hHeld => ?_)
        clear hK KK
        try simp only [Act.put, List.setIfInBounds_toArray]
        clear hN2 hrv3 hR4
        refine wpAnyH_ready (rs := [5]) (by kernel_rfl) (by simp) ?_
        refine AllReadyH.cons rfl (fun KK hK => ?_) AllReadyH.nil
        simp only [List.getElem_toArray, List.getElem_cons_succ, List.getElem_cons_zero]
        go_simp
        refine hK.out _ _ K5.out.hS (fun hHeld => ?_)
        clear hK KK
        try simp only [Act.put]
        refine wpAnyH_done (by kernel_rfl) ?_ _
        clear hHeld r4 f4
        go_wp2_with fail
        refine bodyPost_ret (results_none rfl _ _ _) rfl ?_
        exact ⟨rfl, cur, hcl, rfl, by rw [Hyes.out]; exact K5.out⟩
end Go.Proofs.Ytgkplcipplpobaa
