/- The document's answer for layer 6: Put. -/
import Derived.Test.YtbkabjnklipmjaaTabB
namespace Go.Proofs.Ytbkabjnklipmjaa
open Go.RowKit
open Tbm (Kv)
set_option linter.unusedSimpArgs false

theorem src_prs {P : Program} (w : World) {e' tx : TypeId} (hk : P.underlying tx = some (.slice e')) {B : Nat} {A : Option Addr} {n c : Nat} {m : List Kv} (hn : m.length = n) (h : Prs w B A m) : Src P 2 tx (.slice A n c) n (pcells m) w := by
  by_cases hl : m = []
  · subst hl
    obtain rfl : n = 0 := hn.symm
    cases A with
    | none => exact Src.ofNil w hk c
    | some a => exact Src.ofSlice w hk a 0 c [] rfl (fun j u hu => by cases hu) (fun u hu => by cases hu)
  · obtain ⟨ad, rfl, _, hc⟩ := h (pcells_ne hl)
    exact Src.ofSlice w hk ad n c (pcells m) (by rw [pcells_len, hn]) hc (pcells_one m)
theorem Prs.take {w : World} {B : Nat} {A : Option Addr} {m : List Kv} (h : Prs w B A m) (k : Nat) : Prs w B A (m.take k) := by
  intro hn
  have hne : pcells m ≠ [] := by intro e; apply hn; rw [← pcells_take, e, List.take_nil]
  obtain ⟨ad, e, hb, hc⟩ := h hne
  refine ⟨ad, e, hb, fun j v hj => hc j v ?_⟩
  rw [← pcells_take, List.getElem?_take] at hj
  split at hj
  · exact hj
  · cases hj
theorem Prs.drop {w : World} {B : Nat} {A : Option Addr} {m : List Kv} (h : Prs w B A m) (k : Nat) {A' : Option Addr} (hA : k < m.length → A' = A.map (fun x => x.add (k * 2))) : Prs w B A' (m.drop k) := by
  intro hn
  have hne : pcells m ≠ [] := by intro e; apply hn; rw [← pcells_drop, e, List.drop_nil]
  have hA := hA (by
    rcases Nat.lt_or_ge k m.length with h | h
    · exact h
    · exact absurd (by rw [List.drop_eq_nil_of_le h]; rfl) hn)
  subst hA
  obtain ⟨ad, rfl, hb, hcl⟩ := h hne
  refine ⟨ad.add (k * 2), rfl, by rw [add_block]; exact hb, fun j v hj => ?_⟩
  rw [← pcells_drop, List.getElem?_drop] at hj
  rw [Addr.add_add]
  exact hcl _ _ hj
/-- a pair's literal, where it was made and behind what came then -/
theorem lit_pair (w : World) (key v : List UInt8) (t : TypeId) : ∀ j u, [txt key, txt v][j]? = some u → (w.alloc (.cells #[txt key, txt v] t)).cell? ((⟨w.heap.size, 0, none⟩ : Addr).add j) = some u := lit_cells w [txt key, txt v] t (show 2 ≤ maxLen by unfold maxLen; omega)

theorem lit_pair2 {w : World} {g : Nat} (hg : g = w.heap.size) (key v : List UInt8) (t : TypeId) : ∀ j u, [txt key, txt v][j]? = some u → (w.alloc (.cells #[txt key, txt v] t)).cell? ((⟨g, 0, none⟩ : Addr).add j) = some u := by
  subst hg
  exact lit_pair w key v t
theorem lit_past (w : World) (key v : List UInt8) (t : TypeId) (o : Obj) : ∀ j u, [txt key, txt v][j]? = some u → ((w.alloc (.cells #[txt key, txt v] t)).alloc o).cell? ((⟨w.heap.size, 0, none⟩ : Addr).add j) = some u := fun j u hj =>
  ((below_alloc (w.alloc (.cells #[txt key, txt v] t)) o).cell (by rw [add_block]; simp)).trans (lit_pair w key v t j u hj)
theorem src_kept {P : Program} {W wa : World} {ob : Option Nat} (hg : W.grownBy wa ob) {e' tx : TypeId} (hk : P.underlying tx = some (.slice e')) {g : Nat} {key v : List UInt8} (h : ∀ j u, [txt key, txt v][j]? = some u → W.cell? ((⟨g, 0, none⟩ : Addr).add j) = some u) (hlt : g < W.heap.size) (hne : some g ≠ ob) :
    Src P 2 tx (.slice (some ⟨g, 0, none⟩) 1 1) 1 [txt key, txt v] wa :=
  Src.ofSlice wa hk ⟨g, 0, none⟩ 1 1 [txt key, txt v] rfl (fun j u hj => (World.cell?_of_block (a := (⟨g, 0, none⟩ : Addr).add j) (by rw [add_block]; exact hg.block g hlt hne)).trans (h j u hj)) (pcells_one [(key, v)])

set_option maxRecDepth 20000 in
set_option maxHeartbeats 16000000 in
theorem r_Put (A : Option Addr) (n c : Nat) (m : List Kv) (hn : m.length = n) (hcap : n ≤ c) (hm : n ≤ 1000000) (key v : List UInt8) (B : Nat) (w : World) (hB : B ≤ w.heap.size) (h : Prs w B A m) :
    Calls Try.prog 14 #[.slice A n c, txt key, txt v] w (PrRet (Tbm.put m key v) w) := by
  subst hn
  have H := hid h
  obtain ⟨i0, hi0, hz0, hz1, hz2⟩ := info_parts Try.info_pair
  have hres := hid (show ∀ k pk, Tbm.pos key m = k → (if Tbm.hasAt key m then k + 1 else k) = pk → Tbm.put m key v = m.take k ++ (key, v) :: m.drop pk from fun k pk h1 h2 => by unfold Tbm.put; rw [h1, h2])
  have HS1 := hid (fun (k : Nat) (hk : k ≤ m.length) (w' : World) (hb : Below w.heap.size w w') => src_prs (P := Try.prog) w' Try.underlying29 (c := c) (by rw [List.length_take]; omega : (m.take k).length = k) (Prs.take (h.below hb hB) k))
  have HS2 := hid (fun (k : Nat) (A2 : Option Addr) (hA : k < m.length → A2 = A.map (fun x => x.add (k * 2))) (w' : World) (hb : Below w.heap.size w w') => src_prs (P := Try.prog) w' Try.underlying29 (c := c - k) (List.length_drop : (m.drop k).length = m.length - k) (Prs.drop (h.below hb hB) k hA))
  have HS3 := fun (wa : World) => Src.ofSlice (P := Try.prog) (wa.alloc (.cells #[txt key, txt v] 47)) (size := 2) Try.underlying29 ⟨wa.heap.size, 0, none⟩ 1 1 [txt key, txt v] rfl (lit_pair wa key v 47) (pcells_one [(key, v)])
  clear h
  go_enter Try.func14, Try.ntmps14
  go_wp2_with fail
  go_loop [7] (fun iv => ∃ k : Nat, iv = .int .i64 k ∧ k ≤ m.length ∧ Hid (∀ j p, j < k → m[j]? = some p → Tbm.less p.1 key = true)) (fun iv => m.length - (intOf iv).toNat)
  case atStart => exact ⟨0, rfl, Nat.zero_le _, hid (fun j p hj => by omega)⟩
  case round =>
    obtain ⟨k, rfl, hk, hpre⟩ := hrel
    by_cases hlt : k < m.length
    · obtain ⟨b0, o0, ky, vl, rfl, _, Hx, hc1, hc2⟩ := Prs.get H.out hlt
      have i1 : (0 : Int) ≤ (k : Int) := by omega
      have i2 : (k : Int) < (m.length : Int) := by omega
      have hl := less_bs ky key
      cases hls : Tbm.less ky key with
      | true =>
        rw [hls] at hl
        have Hls := hid hls
        clear hls
        go_wp2_with fail
        go_round
        case rel => exact ⟨k + 1, by go_num, by omega, hid (fun j p hj hp => by
          by_cases e : j = k
          · subst e; rw [Hx.out] at hp; injection hp with hp; subst hp; exact Hls.out
          · exact hpre.out j p (by omega) hp)⟩
        case measure => simp [intOf]; omega
      | false =>
        rw [hls] at hl
        have Hp := hid (Tbm.pos_of key m k hk hpre.out (fun p hp => by rw [Hx.out] at hp; injection hp with hp; subst hp; exact hls))
        clear hls hpre
        by_cases hkey : ky = key
        · have hb : ((bs ky).toList == (bs key).toList) = true := by rw [beq_txt, beq_iff_eq]; exact hkey
          have Hres := hid (hres.out k (k + 1) Hp.out (by unfold Tbm.hasAt; rw [Hp.out, Hx.out]; simp [hkey]))
          have hkey' := hid hkey
          clear hkey
          have i3 : (k : Int) + 1 ≤ (m.length : Int) := by omega
          by_cases hck : c = k + 1
          · have hml := hid (show m.length = k + 1 by omega)
            have Hck := hid hck
            have HS1 := HS1.out k hk
            have HS2 := HS2.out (k + 1) (some ⟨b0, o0, none⟩) (fun h => by have := hml.out; omega)
            have q1 : 0 + k ≤ maxLen := by unfold maxLen; omega
            have q2 : (0 + k) * 32 ≤ 140737488355328 := by omega
            have q3 : 0 + k + 1 ≤ maxLen := by unfold maxLen; omega
            have q4 : (0 + k + 1) * 32 ≤ 140737488355328 := by omega
            have q5 : 0 + k + 1 + (m.length - (k + 1)) ≤ maxLen := by unfold maxLen; omega
            have q6 : (0 + k + 1 + (m.length - (k + 1))) * 32 ≤ 140737488355328 := by omega
            clear hck i3
            go_wp2_with fail
            have hd0 : Below w.heap.size w w.drew := (Below.refl _ w).drew
            refine wp_region_held_drew (S := fun X => Below w.heap.size w X) (by kernel_rfl) hd0 (fun hHeld => ?_)
            refine takeH 1 41 (.slice (some ⟨b0, o0, none⟩) m.length c) rfl rfl (by kernel_rfl) (by kernel_rfl) (by kernel_rfl) (fun _ _ _ h => h) (by kernel_rfl) (fun X hX => by clear hX; first | rfl | go_simp) hHeld ?_
            simp only [Act.put, List.setIfInBounds_toArray, List.set_cons_zero, List.set_cons_succ]
            refine takeH 2 42 (.int .i64 (k : Int)) rfl rfl (by kernel_rfl) (by kernel_rfl) (by kernel_rfl) (fun _ _ _ h => h) (by kernel_rfl) (fun X hX => by clear hX; first | rfl | go_simp) hHeld ?_
            simp only [Act.put, List.setIfInBounds_toArray, List.set_cons_zero, List.set_cons_succ]
            refine takeH 3 43 (.slice (some ⟨b0, o0, none⟩) k c) rfl rfl (by kernel_rfl) (by kernel_rfl) (by kernel_rfl) (fun _ _ _ h => h) (by kernel_rfl) (fun X hX => by clear hX; go_simp; try (intro h; omega)) hHeld ?_
            simp only [Act.put, List.setIfInBounds_toArray, List.set_cons_zero, List.set_cons_succ]
            refine takeH 5 45 (txt key) rfl rfl (by kernel_rfl) (by kernel_rfl) (by kernel_rfl) (fun _ _ _ h => h) (by kernel_rfl) (fun X hX => by clear hX; first | rfl | go_simp) hHeld ?_
            simp only [Act.put, List.setIfInBounds_toArray, List.set_cons_zero, List.set_cons_succ]
            refine takeH 6 46 (txt v) rfl rfl (by kernel_rfl) (by kernel_rfl) (by kernel_rfl) (fun _ _ _ h => h) (by kernel_rfl) (fun X hX => by clear hX; first | rfl | go_simp) hHeld ?_
            simp only [Act.put, List.setIfInBounds_toArray, List.set_cons_zero, List.set_cons_succ]
            refine takeH 7 47 (.agg #[txt key, txt v]) rfl rfl (by kernel_rfl) (by kernel_rfl) (by kernel_rfl) (fun _ _ _ h => h) (by kernel_rfl) (fun X hX => by clear hX; first | rfl | go_simp) hHeld ?_
            simp only [Act.put, List.setIfInBounds_toArray, List.set_cons_zero, List.set_cons_succ]
            refine takeH 10 50 (.slice (some ⟨b0, o0, none⟩) m.length c) rfl rfl (by kernel_rfl) (by kernel_rfl) (by kernel_rfl) (fun _ _ _ h => h) (by kernel_rfl) (fun X hX => by clear hX; first | rfl | go_simp) hHeld ?_
            simp only [Act.put, List.setIfInBounds_toArray, List.set_cons_zero, List.set_cons_succ]
            refine takeH 11 51 (.int .i64 (k + 1 : Int)) rfl rfl (by kernel_rfl) (by kernel_rfl) (by kernel_rfl) (fun _ _ _ h => h) (by kernel_rfl) (fun X hX => by clear hX; first | rfl | go_simp) hHeld ?_
            simp only [Act.put, List.setIfInBounds_toArray, List.set_cons_zero, List.set_cons_succ]
            refine takeH 12 52 (.slice (some ⟨b0, o0, none⟩) (m.length - (k + 1)) (c - (k + 1))) rfl rfl (by kernel_rfl) (by kernel_rfl) (by kernel_rfl) (fun _ _ _ h => h) (by kernel_rfl) (fun X hX => by clear hX; have hck1 := Hck.out; have hml1 := hml.out; go_simp; try (intro h; omega)) hHeld ?_
            simp only [Act.put, List.setIfInBounds_toArray, List.set_cons_zero, List.set_cons_succ]
            refine wpAnyH_ready (rs := [0, 8]) (by kernel_rfl) (by simp) ?_
            refine AllReadyH.cons rfl (fun KK hK => ?_) ?_
            · simp only [List.getElem_toArray, List.getElem_cons_succ, List.getElem_cons_zero]
              go_simp
              have hB1 := Below.alloc hd0 hd0.size (.cells #[] 47)
              have hL1 := World.ownsRow_lit (base := w.heap.size) (e := 47) (size := 2) w.drew #[] 0 hd0.size (by unfold maxLen; omega) rfl
              refine hK.out _ _ hB1 (fun hHeld => ?_)
              clear hK KK
              refine wpAnyH_ready (rs := [4, 8]) (by kernel_rfl) (by simp) ?_
              refine AllReadyH.cons rfl (fun KK hK => ?_) ?_
              · skip
                refine step_append_srcN rfl (.tmp 40) (.tmp 43) 29 29 rfl w.heap.size 47 i0 (.agg #[.string ⟨#[]⟩, .string ⟨#[]⟩]) 2 32 Try.underlying29 hi0 hz0 hz1 hz2 rfl _ _ _ (by rfl) hL1 _ _ _ (by rfl) (HS1 _ hB1) q1 q2 hB1.size ?_
                intro va wa howna hgra
                have hba : Below w.heap.size w wa := Below.grown hB1 hgra hB1.size (fun k hk => ((hL1).lt k hk).1)
                refine hK.out _ _ hba (fun hHeld => ?_)
                clear hK KK
                try simp only [Act.put, List.setIfInBounds_toArray, List.set_cons_zero, List.set_cons_succ]
                refine wpAnyH_ready (rs := [8]) (by kernel_rfl) (by simp) ?_
                refine AllReadyH.cons rfl (fun KK hK => ?_) AllReadyH.nil
                simp only [List.getElem_toArray, List.getElem_cons_succ, List.getElem_cons_zero]
                go_simp
                have hB8 := Below.alloc hba hba.size (.cells #[txt key, txt v] 47)
                refine hK.out _ _ hB8 (fun hHeld => ?_)
                clear hK KK
                have howna8 := howna.alloc (.cells #[txt key, txt v] 47)
                refine wpAnyH_ready (rs := [9]) (by kernel_rfl) (by simp) ?_
                refine AllReadyH.cons rfl (fun KK hK => ?_) AllReadyH.nil
                refine step_append_srcN rfl (.tmp 44) (.tmp 48) 29 29 rfl w.heap.size 47 i0 (.agg #[.string ⟨#[]⟩, .string ⟨#[]⟩]) 2 32 Try.underlying29 hi0 hz0 hz1 hz2 rfl _ _ _ (by rfl) howna8 _ _ _ (by rfl) (HS3 wa) q3 q4 hB8.size ?_
                intro vb wb hownb hgrb
                have hbb : Below w.heap.size w wb := Below.grown hB8 hgrb hB8.size (fun k hk => ((howna8).lt k hk).1)
                refine hK.out _ _ hbb (fun hHeld => ?_)
                clear hK KK
                try simp only [Act.put, List.setIfInBounds_toArray, List.set_cons_zero, List.set_cons_succ]
                refine wpAnyH_ready (rs := [13]) (by kernel_rfl) (by simp) ?_
                refine AllReadyH.cons rfl (fun KK hK => ?_) AllReadyH.nil
                refine step_append_srcN rfl (.tmp 49) (.tmp 52) 29 29 rfl w.heap.size 47 i0 (.agg #[.string ⟨#[]⟩, .string ⟨#[]⟩]) 2 32 Try.underlying29 hi0 hz0 hz1 hz2 rfl _ _ _ (by rfl) hownb _ _ _ (by rfl) (HS2 wb hbb) q5 q6 hbb.size ?_
                intro vc wc hownc hgrc
                have hbc : Below w.heap.size w wc := Below.grown hbb hgrc hbb.size (fun k hk => ((hownb).lt k hk).1)
                refine hK.out _ _ hbc (fun hHeld => ?_)
                clear hK KK
                try simp only [Act.put, List.setIfInBounds_toArray, List.set_cons_zero, List.set_cons_succ]
                refine wpAnyH_ready (rs := [14]) (by kernel_rfl) (by simp) ?_
                refine AllReadyH.cons rfl (fun KK hK => ?_) AllReadyH.nil
                simp only [List.getElem_toArray, List.getElem_cons_succ, List.getElem_cons_zero]
                go_simp
                refine hK.out _ _ hbc (fun hHeld => ?_)
                clear hK KK
                refine wpAnyH_done (by kernel_rfl) ?_ _
                go_wp2_with fail
                go_ret
                exact PrRet.mk hownc (by rw [Hres.out, List.length_append, List.length_cons, List.length_take, List.length_drop]; omega) (by rw [Hres.out, pcells_append, pcells_cons, List.append_assoc]; rfl) hbc
              · refine AllReadyH.cons rfl (fun KK hK => ?_) AllReadyH.nil
                simp only [List.getElem_toArray, List.getElem_cons_succ, List.getElem_cons_zero]
                go_simp
                have hB2 := Below.alloc hB1 hB1.size (.cells #[txt key, txt v] 47)
                refine hK.out _ _ hB2 (fun hHeld => ?_)
                clear hK KK
                have hL2 := hL1.alloc (.cells #[txt key, txt v] 47)
                refine wpAnyH_ready (rs := [4]) (by kernel_rfl) (by simp) ?_
                refine AllReadyH.cons rfl (fun KK hK => ?_) AllReadyH.nil
                refine step_append_srcN rfl (.tmp 40) (.tmp 43) 29 29 rfl w.heap.size 47 i0 (.agg #[.string ⟨#[]⟩, .string ⟨#[]⟩]) 2 32 Try.underlying29 hi0 hz0 hz1 hz2 rfl _ _ _ (by rfl) hL2 _ _ _ (by rfl) (HS1 _ hB2) q1 q2 hB2.size ?_
                intro va wa howna hgra
                have hba : Below w.heap.size w wa := Below.grown hB2 hgra hB2.size (fun k hk => ((hL2).lt k hk).1)
                refine hK.out _ _ hba (fun hHeld => ?_)
                clear hK KK
                try simp only [Act.put, List.setIfInBounds_toArray, List.set_cons_zero, List.set_cons_succ]
                refine wpAnyH_ready (rs := [9]) (by kernel_rfl) (by simp) ?_
                refine AllReadyH.cons rfl (fun KK hK => ?_) AllReadyH.nil
                refine step_append_srcN rfl (.tmp 44) (.tmp 48) 29 29 rfl w.heap.size 47 i0 (.agg #[.string ⟨#[]⟩, .string ⟨#[]⟩]) 2 32 Try.underlying29 hi0 hz0 hz1 hz2 rfl _ _ _ (by rfl) howna _ _ _ (by rfl) (src_kept (P := Try.prog) hgra Try.underlying29 (g := w.heap.size + 1) (lit_pair2 (w := w.drew.alloc (.cells #[] 47)) (by simp) key v 47) (by simp) (by simp [Value.ownBlock])) q3 q4 hba.size ?_
                intro vb wb hownb hgrb
                have hbb : Below w.heap.size w wb := Below.grown hba hgrb hba.size (fun k hk => ((howna).lt k hk).1)
                refine hK.out _ _ hbb (fun hHeld => ?_)
                clear hK KK
                try simp only [Act.put, List.setIfInBounds_toArray, List.set_cons_zero, List.set_cons_succ]
                refine wpAnyH_ready (rs := [13]) (by kernel_rfl) (by simp) ?_
                refine AllReadyH.cons rfl (fun KK hK => ?_) AllReadyH.nil
                refine step_append_srcN rfl (.tmp 49) (.tmp 52) 29 29 rfl w.heap.size 47 i0 (.agg #[.string ⟨#[]⟩, .string ⟨#[]⟩]) 2 32 Try.underlying29 hi0 hz0 hz1 hz2 rfl _ _ _ (by rfl) hownb _ _ _ (by rfl) (HS2 wb hbb) q5 q6 hbb.size ?_
                intro vc wc hownc hgrc
                have hbc : Below w.heap.size w wc := Below.grown hbb hgrc hbb.size (fun k hk => ((hownb).lt k hk).1)
                refine hK.out _ _ hbc (fun hHeld => ?_)
                clear hK KK
                try simp only [Act.put, List.setIfInBounds_toArray, List.set_cons_zero, List.set_cons_succ]
                refine wpAnyH_ready (rs := [14]) (by kernel_rfl) (by simp) ?_
                refine AllReadyH.cons rfl (fun KK hK => ?_) AllReadyH.nil
                simp only [List.getElem_toArray, List.getElem_cons_succ, List.getElem_cons_zero]
                go_simp
                refine hK.out _ _ hbc (fun hHeld => ?_)
                clear hK KK
                refine wpAnyH_done (by kernel_rfl) ?_ _
                go_wp2_with fail
                go_ret
                exact PrRet.mk hownc (by rw [Hres.out, List.length_append, List.length_cons, List.length_take, List.length_drop]; omega) (by rw [Hres.out, pcells_append, pcells_cons, List.append_assoc]; rfl) hbc
            · refine AllReadyH.cons rfl (fun KK hK => ?_) AllReadyH.nil
              simp only [List.getElem_toArray, List.getElem_cons_succ, List.getElem_cons_zero]
              go_simp
              have hB1 := Below.alloc hd0 hd0.size (.cells #[txt key, txt v] 47)
              refine hK.out _ _ hB1 (fun hHeld => ?_)
              clear hK KK
              refine wpAnyH_ready (rs := [0]) (by kernel_rfl) (by simp) ?_
              refine AllReadyH.cons rfl (fun KK hK => ?_) AllReadyH.nil
              simp only [List.getElem_toArray, List.getElem_cons_succ, List.getElem_cons_zero]
              go_simp
              have hB2 := Below.alloc hB1 hB1.size (.cells #[] 47)
              refine hK.out _ _ hB2 (fun hHeld => ?_)
              clear hK KK
              have hL2 := World.ownsRow_lit (base := w.heap.size) (e := 47) (size := 2) (w.drew.alloc (.cells #[txt key, txt v] 47)) #[] 0 hB1.size (by unfold maxLen; omega) rfl
              rw [show (w.drew.alloc (.cells #[txt key, txt v] 47)).heap.size = w.heap.size + 1 by simp] at hL2
              refine wpAnyH_ready (rs := [4]) (by kernel_rfl) (by simp) ?_
              refine AllReadyH.cons rfl (fun KK hK => ?_) AllReadyH.nil
              refine step_append_srcN rfl (.tmp 40) (.tmp 43) 29 29 rfl w.heap.size 47 i0 (.agg #[.string ⟨#[]⟩, .string ⟨#[]⟩]) 2 32 Try.underlying29 hi0 hz0 hz1 hz2 rfl _ _ _ (by rfl) hL2 _ _ _ (by rfl) (HS1 _ hB2) q1 q2 hB2.size ?_
              intro va wa howna hgra
              have hba : Below w.heap.size w wa := Below.grown hB2 hgra hB2.size (fun k hk => ((hL2).lt k hk).1)
              refine hK.out _ _ hba (fun hHeld => ?_)
              clear hK KK
              try simp only [Act.put, List.setIfInBounds_toArray, List.set_cons_zero, List.set_cons_succ]
              refine wpAnyH_ready (rs := [9]) (by kernel_rfl) (by simp) ?_
              refine AllReadyH.cons rfl (fun KK hK => ?_) AllReadyH.nil
              refine step_append_srcN rfl (.tmp 44) (.tmp 48) 29 29 rfl w.heap.size 47 i0 (.agg #[.string ⟨#[]⟩, .string ⟨#[]⟩]) 2 32 Try.underlying29 hi0 hz0 hz1 hz2 rfl _ _ _ (by rfl) howna _ _ _ (by rfl) (src_kept (P := Try.prog) hgra Try.underlying29 (g := w.heap.size) (lit_past w.drew key v 47 (.cells #[] 47)) (by simp; omega) (by simp [Value.ownBlock])) q3 q4 hba.size ?_
              intro vb wb hownb hgrb
              have hbb : Below w.heap.size w wb := Below.grown hba hgrb hba.size (fun k hk => ((howna).lt k hk).1)
              refine hK.out _ _ hbb (fun hHeld => ?_)
              clear hK KK
              try simp only [Act.put, List.setIfInBounds_toArray, List.set_cons_zero, List.set_cons_succ]
              refine wpAnyH_ready (rs := [13]) (by kernel_rfl) (by simp) ?_
              refine AllReadyH.cons rfl (fun KK hK => ?_) AllReadyH.nil
              refine step_append_srcN rfl (.tmp 49) (.tmp 52) 29 29 rfl w.heap.size 47 i0 (.agg #[.string ⟨#[]⟩, .string ⟨#[]⟩]) 2 32 Try.underlying29 hi0 hz0 hz1 hz2 rfl _ _ _ (by rfl) hownb _ _ _ (by rfl) (HS2 wb hbb) q5 q6 hbb.size ?_
              intro vc wc hownc hgrc
              have hbc : Below w.heap.size w wc := Below.grown hbb hgrc hbb.size (fun k hk => ((hownb).lt k hk).1)
              refine hK.out _ _ hbc (fun hHeld => ?_)
              clear hK KK
              try simp only [Act.put, List.setIfInBounds_toArray, List.set_cons_zero, List.set_cons_succ]
              refine wpAnyH_ready (rs := [14]) (by kernel_rfl) (by simp) ?_
              refine AllReadyH.cons rfl (fun KK hK => ?_) AllReadyH.nil
              simp only [List.getElem_toArray, List.getElem_cons_succ, List.getElem_cons_zero]
              go_simp
              refine hK.out _ _ hbc (fun hHeld => ?_)
              clear hK KK
              refine wpAnyH_done (by kernel_rfl) ?_ _
              go_wp2_with fail
              go_ret
              exact PrRet.mk hownc (by rw [Hres.out, List.length_append, List.length_cons, List.length_take, List.length_drop]; omega) (by rw [Hres.out, pcells_append, pcells_cons, List.append_assoc]; rfl) hbc
          · have hck' : ¬ (c : Int) = (k : Int) + 1 := by omega
            have HS1 := HS1.out k hk
            have HS2 := HS2.out (k + 1) (some ⟨b0, o0 + (k + 1) * 2, none⟩) (fun _ => by simp [Addr.add_lit])
            have q1 : 0 + k ≤ maxLen := by unfold maxLen; omega
            have q2 : (0 + k) * 32 ≤ 140737488355328 := by omega
            have q3 : 0 + k + 1 ≤ maxLen := by unfold maxLen; omega
            have q4 : (0 + k + 1) * 32 ≤ 140737488355328 := by omega
            have q5 : 0 + k + 1 + (m.length - (k + 1)) ≤ maxLen := by unfold maxLen; omega
            have q6 : (0 + k + 1 + (m.length - (k + 1))) * 32 ≤ 140737488355328 := by omega
            go_wp2_with fail
            have hd0 : Below w.heap.size w w.drew := (Below.refl _ w).drew
            refine wp_region_held_drew (S := fun X => Below w.heap.size w X) (by kernel_rfl) hd0 (fun hHeld => ?_)
            refine takeH 1 41 (.slice (some ⟨b0, o0, none⟩) m.length c) rfl rfl (by kernel_rfl) (by kernel_rfl) (by kernel_rfl) (fun _ _ _ h => h) (by kernel_rfl) (fun X hX => by clear hX; first | rfl | go_simp) hHeld ?_
            simp only [Act.put, List.setIfInBounds_toArray, List.set_cons_zero, List.set_cons_succ]
            refine takeH 2 42 (.int .i64 (k : Int)) rfl rfl (by kernel_rfl) (by kernel_rfl) (by kernel_rfl) (fun _ _ _ h => h) (by kernel_rfl) (fun X hX => by clear hX; first | rfl | go_simp) hHeld ?_
            simp only [Act.put, List.setIfInBounds_toArray, List.set_cons_zero, List.set_cons_succ]
            refine takeH 3 43 (.slice (some ⟨b0, o0, none⟩) k c) rfl rfl (by kernel_rfl) (by kernel_rfl) (by kernel_rfl) (fun _ _ _ h => h) (by kernel_rfl) (fun X hX => by clear hX; go_simp; try (intro h; omega)) hHeld ?_
            simp only [Act.put, List.setIfInBounds_toArray, List.set_cons_zero, List.set_cons_succ]
            refine takeH 5 45 (txt key) rfl rfl (by kernel_rfl) (by kernel_rfl) (by kernel_rfl) (fun _ _ _ h => h) (by kernel_rfl) (fun X hX => by clear hX; first | rfl | go_simp) hHeld ?_
            simp only [Act.put, List.setIfInBounds_toArray, List.set_cons_zero, List.set_cons_succ]
            refine takeH 6 46 (txt v) rfl rfl (by kernel_rfl) (by kernel_rfl) (by kernel_rfl) (fun _ _ _ h => h) (by kernel_rfl) (fun X hX => by clear hX; first | rfl | go_simp) hHeld ?_
            simp only [Act.put, List.setIfInBounds_toArray, List.set_cons_zero, List.set_cons_succ]
            refine takeH 7 47 (.agg #[txt key, txt v]) rfl rfl (by kernel_rfl) (by kernel_rfl) (by kernel_rfl) (fun _ _ _ h => h) (by kernel_rfl) (fun X hX => by clear hX; first | rfl | go_simp) hHeld ?_
            simp only [Act.put, List.setIfInBounds_toArray, List.set_cons_zero, List.set_cons_succ]
            refine takeH 10 50 (.slice (some ⟨b0, o0, none⟩) m.length c) rfl rfl (by kernel_rfl) (by kernel_rfl) (by kernel_rfl) (fun _ _ _ h => h) (by kernel_rfl) (fun X hX => by clear hX; first | rfl | go_simp) hHeld ?_
            simp only [Act.put, List.setIfInBounds_toArray, List.set_cons_zero, List.set_cons_succ]
            refine takeH 11 51 (.int .i64 (k + 1 : Int)) rfl rfl (by kernel_rfl) (by kernel_rfl) (by kernel_rfl) (fun _ _ _ h => h) (by kernel_rfl) (fun X hX => by clear hX; first | rfl | go_simp) hHeld ?_
            simp only [Act.put, List.setIfInBounds_toArray, List.set_cons_zero, List.set_cons_succ]
            refine takeH 12 52 (.slice (some ⟨b0, o0 + (k + 1) * 2, none⟩) (m.length - (k + 1)) (c - (k + 1))) rfl rfl (by kernel_rfl) (by kernel_rfl) (by kernel_rfl) (fun _ _ _ h => h) (by kernel_rfl) (fun X hX => by clear hX; go_simp; try (intro h; omega)) hHeld ?_
            simp only [Act.put, List.setIfInBounds_toArray, List.set_cons_zero, List.set_cons_succ]
            refine wpAnyH_ready (rs := [0, 8]) (by kernel_rfl) (by simp) ?_
            refine AllReadyH.cons rfl (fun KK hK => ?_) ?_
            · simp only [List.getElem_toArray, List.getElem_cons_succ, List.getElem_cons_zero]
              go_simp
              have hB1 := Below.alloc hd0 hd0.size (.cells #[] 47)
              have hL1 := World.ownsRow_lit (base := w.heap.size) (e := 47) (size := 2) w.drew #[] 0 hd0.size (by unfold maxLen; omega) rfl
              refine hK.out _ _ hB1 (fun hHeld => ?_)
              clear hK KK
              refine wpAnyH_ready (rs := [4, 8]) (by kernel_rfl) (by simp) ?_
              refine AllReadyH.cons rfl (fun KK hK => ?_) ?_
              · skip
                refine step_append_srcN rfl (.tmp 40) (.tmp 43) 29 29 rfl w.heap.size 47 i0 (.agg #[.string ⟨#[]⟩, .string ⟨#[]⟩]) 2 32 Try.underlying29 hi0 hz0 hz1 hz2 rfl _ _ _ (by rfl) hL1 _ _ _ (by rfl) (HS1 _ hB1) q1 q2 hB1.size ?_
                intro va wa howna hgra
                have hba : Below w.heap.size w wa := Below.grown hB1 hgra hB1.size (fun k hk => ((hL1).lt k hk).1)
                refine hK.out _ _ hba (fun hHeld => ?_)
                clear hK KK
                try simp only [Act.put, List.setIfInBounds_toArray, List.set_cons_zero, List.set_cons_succ]
                refine wpAnyH_ready (rs := [8]) (by kernel_rfl) (by simp) ?_
                refine AllReadyH.cons rfl (fun KK hK => ?_) AllReadyH.nil
                simp only [List.getElem_toArray, List.getElem_cons_succ, List.getElem_cons_zero]
                go_simp
                have hB8 := Below.alloc hba hba.size (.cells #[txt key, txt v] 47)
                refine hK.out _ _ hB8 (fun hHeld => ?_)
                clear hK KK
                have howna8 := howna.alloc (.cells #[txt key, txt v] 47)
                refine wpAnyH_ready (rs := [9]) (by kernel_rfl) (by simp) ?_
                refine AllReadyH.cons rfl (fun KK hK => ?_) AllReadyH.nil
                refine step_append_srcN rfl (.tmp 44) (.tmp 48) 29 29 rfl w.heap.size 47 i0 (.agg #[.string ⟨#[]⟩, .string ⟨#[]⟩]) 2 32 Try.underlying29 hi0 hz0 hz1 hz2 rfl _ _ _ (by rfl) howna8 _ _ _ (by rfl) (HS3 wa) q3 q4 hB8.size ?_
                intro vb wb hownb hgrb
                have hbb : Below w.heap.size w wb := Below.grown hB8 hgrb hB8.size (fun k hk => ((howna8).lt k hk).1)
                refine hK.out _ _ hbb (fun hHeld => ?_)
                clear hK KK
                try simp only [Act.put, List.setIfInBounds_toArray, List.set_cons_zero, List.set_cons_succ]
                refine wpAnyH_ready (rs := [13]) (by kernel_rfl) (by simp) ?_
                refine AllReadyH.cons rfl (fun KK hK => ?_) AllReadyH.nil
                refine step_append_srcN rfl (.tmp 49) (.tmp 52) 29 29 rfl w.heap.size 47 i0 (.agg #[.string ⟨#[]⟩, .string ⟨#[]⟩]) 2 32 Try.underlying29 hi0 hz0 hz1 hz2 rfl _ _ _ (by rfl) hownb _ _ _ (by rfl) (HS2 wb hbb) q5 q6 hbb.size ?_
                intro vc wc hownc hgrc
                have hbc : Below w.heap.size w wc := Below.grown hbb hgrc hbb.size (fun k hk => ((hownb).lt k hk).1)
                refine hK.out _ _ hbc (fun hHeld => ?_)
                clear hK KK
                try simp only [Act.put, List.setIfInBounds_toArray, List.set_cons_zero, List.set_cons_succ]
                refine wpAnyH_ready (rs := [14]) (by kernel_rfl) (by simp) ?_
                refine AllReadyH.cons rfl (fun KK hK => ?_) AllReadyH.nil
                simp only [List.getElem_toArray, List.getElem_cons_succ, List.getElem_cons_zero]
                go_simp
                refine hK.out _ _ hbc (fun hHeld => ?_)
                clear hK KK
                refine wpAnyH_done (by kernel_rfl) ?_ _
                go_wp2_with fail
                go_ret
                exact PrRet.mk hownc (by rw [Hres.out, List.length_append, List.length_cons, List.length_take, List.length_drop]; omega) (by rw [Hres.out, pcells_append, pcells_cons, List.append_assoc]; rfl) hbc
              · refine AllReadyH.cons rfl (fun KK hK => ?_) AllReadyH.nil
                simp only [List.getElem_toArray, List.getElem_cons_succ, List.getElem_cons_zero]
                go_simp
                have hB2 := Below.alloc hB1 hB1.size (.cells #[txt key, txt v] 47)
                refine hK.out _ _ hB2 (fun hHeld => ?_)
                clear hK KK
                have hL2 := hL1.alloc (.cells #[txt key, txt v] 47)
                refine wpAnyH_ready (rs := [4]) (by kernel_rfl) (by simp) ?_
                refine AllReadyH.cons rfl (fun KK hK => ?_) AllReadyH.nil
                refine step_append_srcN rfl (.tmp 40) (.tmp 43) 29 29 rfl w.heap.size 47 i0 (.agg #[.string ⟨#[]⟩, .string ⟨#[]⟩]) 2 32 Try.underlying29 hi0 hz0 hz1 hz2 rfl _ _ _ (by rfl) hL2 _ _ _ (by rfl) (HS1 _ hB2) q1 q2 hB2.size ?_
                intro va wa howna hgra
                have hba : Below w.heap.size w wa := Below.grown hB2 hgra hB2.size (fun k hk => ((hL2).lt k hk).1)
                refine hK.out _ _ hba (fun hHeld => ?_)
                clear hK KK
                try simp only [Act.put, List.setIfInBounds_toArray, List.set_cons_zero, List.set_cons_succ]
                refine wpAnyH_ready (rs := [9]) (by kernel_rfl) (by simp) ?_
                refine AllReadyH.cons rfl (fun KK hK => ?_) AllReadyH.nil
                refine step_append_srcN rfl (.tmp 44) (.tmp 48) 29 29 rfl w.heap.size 47 i0 (.agg #[.string ⟨#[]⟩, .string ⟨#[]⟩]) 2 32 Try.underlying29 hi0 hz0 hz1 hz2 rfl _ _ _ (by rfl) howna _ _ _ (by rfl) (src_kept (P := Try.prog) hgra Try.underlying29 (g := w.heap.size + 1) (lit_pair2 (w := w.drew.alloc (.cells #[] 47)) (by simp) key v 47) (by simp) (by simp [Value.ownBlock])) q3 q4 hba.size ?_
                intro vb wb hownb hgrb
                have hbb : Below w.heap.size w wb := Below.grown hba hgrb hba.size (fun k hk => ((howna).lt k hk).1)
                refine hK.out _ _ hbb (fun hHeld => ?_)
                clear hK KK
                try simp only [Act.put, List.setIfInBounds_toArray, List.set_cons_zero, List.set_cons_succ]
                refine wpAnyH_ready (rs := [13]) (by kernel_rfl) (by simp) ?_
                refine AllReadyH.cons rfl (fun KK hK => ?_) AllReadyH.nil
                refine step_append_srcN rfl (.tmp 49) (.tmp 52) 29 29 rfl w.heap.size 47 i0 (.agg #[.string ⟨#[]⟩, .string ⟨#[]⟩]) 2 32 Try.underlying29 hi0 hz0 hz1 hz2 rfl _ _ _ (by rfl) hownb _ _ _ (by rfl) (HS2 wb hbb) q5 q6 hbb.size ?_
                intro vc wc hownc hgrc
                have hbc : Below w.heap.size w wc := Below.grown hbb hgrc hbb.size (fun k hk => ((hownb).lt k hk).1)
                refine hK.out _ _ hbc (fun hHeld => ?_)
                clear hK KK
                try simp only [Act.put, List.setIfInBounds_toArray, List.set_cons_zero, List.set_cons_succ]
                refine wpAnyH_ready (rs := [14]) (by kernel_rfl) (by simp) ?_
                refine AllReadyH.cons rfl (fun KK hK => ?_) AllReadyH.nil
                simp only [List.getElem_toArray, List.getElem_cons_succ, List.getElem_cons_zero]
                go_simp
                refine hK.out _ _ hbc (fun hHeld => ?_)
                clear hK KK
                refine wpAnyH_done (by kernel_rfl) ?_ _
                go_wp2_with fail
                go_ret
                exact PrRet.mk hownc (by rw [Hres.out, List.length_append, List.length_cons, List.length_take, List.length_drop]; omega) (by rw [Hres.out, pcells_append, pcells_cons, List.append_assoc]; rfl) hbc
            · refine AllReadyH.cons rfl (fun KK hK => ?_) AllReadyH.nil
              simp only [List.getElem_toArray, List.getElem_cons_succ, List.getElem_cons_zero]
              go_simp
              have hB1 := Below.alloc hd0 hd0.size (.cells #[txt key, txt v] 47)
              refine hK.out _ _ hB1 (fun hHeld => ?_)
              clear hK KK
              refine wpAnyH_ready (rs := [0]) (by kernel_rfl) (by simp) ?_
              refine AllReadyH.cons rfl (fun KK hK => ?_) AllReadyH.nil
              simp only [List.getElem_toArray, List.getElem_cons_succ, List.getElem_cons_zero]
              go_simp
              have hB2 := Below.alloc hB1 hB1.size (.cells #[] 47)
              refine hK.out _ _ hB2 (fun hHeld => ?_)
              clear hK KK
              have hL2 := World.ownsRow_lit (base := w.heap.size) (e := 47) (size := 2) (w.drew.alloc (.cells #[txt key, txt v] 47)) #[] 0 hB1.size (by unfold maxLen; omega) rfl
              rw [show (w.drew.alloc (.cells #[txt key, txt v] 47)).heap.size = w.heap.size + 1 by simp] at hL2
              refine wpAnyH_ready (rs := [4]) (by kernel_rfl) (by simp) ?_
              refine AllReadyH.cons rfl (fun KK hK => ?_) AllReadyH.nil
              refine step_append_srcN rfl (.tmp 40) (.tmp 43) 29 29 rfl w.heap.size 47 i0 (.agg #[.string ⟨#[]⟩, .string ⟨#[]⟩]) 2 32 Try.underlying29 hi0 hz0 hz1 hz2 rfl _ _ _ (by rfl) hL2 _ _ _ (by rfl) (HS1 _ hB2) q1 q2 hB2.size ?_
              intro va wa howna hgra
              have hba : Below w.heap.size w wa := Below.grown hB2 hgra hB2.size (fun k hk => ((hL2).lt k hk).1)
              refine hK.out _ _ hba (fun hHeld => ?_)
              clear hK KK
              try simp only [Act.put, List.setIfInBounds_toArray, List.set_cons_zero, List.set_cons_succ]
              refine wpAnyH_ready (rs := [9]) (by kernel_rfl) (by simp) ?_
              refine AllReadyH.cons rfl (fun KK hK => ?_) AllReadyH.nil
              refine step_append_srcN rfl (.tmp 44) (.tmp 48) 29 29 rfl w.heap.size 47 i0 (.agg #[.string ⟨#[]⟩, .string ⟨#[]⟩]) 2 32 Try.underlying29 hi0 hz0 hz1 hz2 rfl _ _ _ (by rfl) howna _ _ _ (by rfl) (src_kept (P := Try.prog) hgra Try.underlying29 (g := w.heap.size) (lit_past w.drew key v 47 (.cells #[] 47)) (by simp; omega) (by simp [Value.ownBlock])) q3 q4 hba.size ?_
              intro vb wb hownb hgrb
              have hbb : Below w.heap.size w wb := Below.grown hba hgrb hba.size (fun k hk => ((howna).lt k hk).1)
              refine hK.out _ _ hbb (fun hHeld => ?_)
              clear hK KK
              try simp only [Act.put, List.setIfInBounds_toArray, List.set_cons_zero, List.set_cons_succ]
              refine wpAnyH_ready (rs := [13]) (by kernel_rfl) (by simp) ?_
              refine AllReadyH.cons rfl (fun KK hK => ?_) AllReadyH.nil
              refine step_append_srcN rfl (.tmp 49) (.tmp 52) 29 29 rfl w.heap.size 47 i0 (.agg #[.string ⟨#[]⟩, .string ⟨#[]⟩]) 2 32 Try.underlying29 hi0 hz0 hz1 hz2 rfl _ _ _ (by rfl) hownb _ _ _ (by rfl) (HS2 wb hbb) q5 q6 hbb.size ?_
              intro vc wc hownc hgrc
              have hbc : Below w.heap.size w wc := Below.grown hbb hgrc hbb.size (fun k hk => ((hownb).lt k hk).1)
              refine hK.out _ _ hbc (fun hHeld => ?_)
              clear hK KK
              try simp only [Act.put, List.setIfInBounds_toArray, List.set_cons_zero, List.set_cons_succ]
              refine wpAnyH_ready (rs := [14]) (by kernel_rfl) (by simp) ?_
              refine AllReadyH.cons rfl (fun KK hK => ?_) AllReadyH.nil
              simp only [List.getElem_toArray, List.getElem_cons_succ, List.getElem_cons_zero]
              go_simp
              refine hK.out _ _ hbc (fun hHeld => ?_)
              clear hK KK
              refine wpAnyH_done (by kernel_rfl) ?_ _
              go_wp2_with fail
              go_ret
              exact PrRet.mk hownc (by rw [Hres.out, List.length_append, List.length_cons, List.length_take, List.length_drop]; omega) (by rw [Hres.out, pcells_append, pcells_cons, List.append_assoc]; rfl) hbc
        · have hb : ((bs ky).toList == (bs key).toList) = false := by rw [beq_txt, beq_eq_false_iff_ne]; exact hkey
          have Hres := hid (hres.out k k Hp.out (by unfold Tbm.hasAt; rw [Hp.out, Hx.out]; simp [hkey]))
          clear hkey
          have HS1 := HS1.out k hk
          have HS2 := HS2.out k (some ⟨b0, o0 + k * 2, none⟩) (fun _ => by simp [Addr.add_lit])
          have q1 : 0 + k ≤ maxLen := by unfold maxLen; omega
          have q2 : (0 + k) * 32 ≤ 140737488355328 := by omega
          have q3 : 0 + k + 1 ≤ maxLen := by unfold maxLen; omega
          have q4 : (0 + k + 1) * 32 ≤ 140737488355328 := by omega
          have q5 : 0 + k + 1 + (m.length - (k)) ≤ maxLen := by unfold maxLen; omega
          have q6 : (0 + k + 1 + (m.length - (k))) * 32 ≤ 140737488355328 := by omega
          go_wp2_with fail
          have hd0 : Below w.heap.size w w.drew := (Below.refl _ w).drew
          refine wp_region_held_drew (S := fun X => Below w.heap.size w X) (by kernel_rfl) hd0 (fun hHeld => ?_)
          refine takeH 1 41 (.slice (some ⟨b0, o0, none⟩) m.length c) rfl rfl (by kernel_rfl) (by kernel_rfl) (by kernel_rfl) (fun _ _ _ h => h) (by kernel_rfl) (fun X hX => by clear hX; first | rfl | go_simp) hHeld ?_
          simp only [Act.put, List.setIfInBounds_toArray, List.set_cons_zero, List.set_cons_succ]
          refine takeH 2 42 (.int .i64 (k : Int)) rfl rfl (by kernel_rfl) (by kernel_rfl) (by kernel_rfl) (fun _ _ _ h => h) (by kernel_rfl) (fun X hX => by clear hX; first | rfl | go_simp) hHeld ?_
          simp only [Act.put, List.setIfInBounds_toArray, List.set_cons_zero, List.set_cons_succ]
          refine takeH 3 43 (.slice (some ⟨b0, o0, none⟩) k c) rfl rfl (by kernel_rfl) (by kernel_rfl) (by kernel_rfl) (fun _ _ _ h => h) (by kernel_rfl) (fun X hX => by clear hX; go_simp; try (intro h; omega)) hHeld ?_
          simp only [Act.put, List.setIfInBounds_toArray, List.set_cons_zero, List.set_cons_succ]
          refine takeH 5 45 (txt key) rfl rfl (by kernel_rfl) (by kernel_rfl) (by kernel_rfl) (fun _ _ _ h => h) (by kernel_rfl) (fun X hX => by clear hX; first | rfl | go_simp) hHeld ?_
          simp only [Act.put, List.setIfInBounds_toArray, List.set_cons_zero, List.set_cons_succ]
          refine takeH 6 46 (txt v) rfl rfl (by kernel_rfl) (by kernel_rfl) (by kernel_rfl) (fun _ _ _ h => h) (by kernel_rfl) (fun X hX => by clear hX; first | rfl | go_simp) hHeld ?_
          simp only [Act.put, List.setIfInBounds_toArray, List.set_cons_zero, List.set_cons_succ]
          refine takeH 7 47 (.agg #[txt key, txt v]) rfl rfl (by kernel_rfl) (by kernel_rfl) (by kernel_rfl) (fun _ _ _ h => h) (by kernel_rfl) (fun X hX => by clear hX; first | rfl | go_simp) hHeld ?_
          simp only [Act.put, List.setIfInBounds_toArray, List.set_cons_zero, List.set_cons_succ]
          refine takeH 10 50 (.slice (some ⟨b0, o0, none⟩) m.length c) rfl rfl (by kernel_rfl) (by kernel_rfl) (by kernel_rfl) (fun _ _ _ h => h) (by kernel_rfl) (fun X hX => by clear hX; first | rfl | go_simp) hHeld ?_
          simp only [Act.put, List.setIfInBounds_toArray, List.set_cons_zero, List.set_cons_succ]
          refine takeH 11 51 (.int .i64 (k : Int)) rfl rfl (by kernel_rfl) (by kernel_rfl) (by kernel_rfl) (fun _ _ _ h => h) (by kernel_rfl) (fun X hX => by clear hX; first | rfl | go_simp) hHeld ?_
          simp only [Act.put, List.setIfInBounds_toArray, List.set_cons_zero, List.set_cons_succ]
          refine takeH 12 52 (.slice (some ⟨b0, o0 + k * 2, none⟩) (m.length - k) (c - k)) rfl rfl (by kernel_rfl) (by kernel_rfl) (by kernel_rfl) (fun _ _ _ h => h) (by kernel_rfl) (fun X hX => by clear hX; go_simp; try (intro h; omega)) hHeld ?_
          simp only [Act.put, List.setIfInBounds_toArray, List.set_cons_zero, List.set_cons_succ]
          refine wpAnyH_ready (rs := [0, 8]) (by kernel_rfl) (by simp) ?_
          refine AllReadyH.cons rfl (fun KK hK => ?_) ?_
          · simp only [List.getElem_toArray, List.getElem_cons_succ, List.getElem_cons_zero]
            go_simp
            have hB1 := Below.alloc hd0 hd0.size (.cells #[] 47)
            have hL1 := World.ownsRow_lit (base := w.heap.size) (e := 47) (size := 2) w.drew #[] 0 hd0.size (by unfold maxLen; omega) rfl
            refine hK.out _ _ hB1 (fun hHeld => ?_)
            clear hK KK
            refine wpAnyH_ready (rs := [4, 8]) (by kernel_rfl) (by simp) ?_
            refine AllReadyH.cons rfl (fun KK hK => ?_) ?_
            · skip
              refine step_append_srcN rfl (.tmp 40) (.tmp 43) 29 29 rfl w.heap.size 47 i0 (.agg #[.string ⟨#[]⟩, .string ⟨#[]⟩]) 2 32 Try.underlying29 hi0 hz0 hz1 hz2 rfl _ _ _ (by rfl) hL1 _ _ _ (by rfl) (HS1 _ hB1) q1 q2 hB1.size ?_
              intro va wa howna hgra
              have hba : Below w.heap.size w wa := Below.grown hB1 hgra hB1.size (fun k hk => ((hL1).lt k hk).1)
              refine hK.out _ _ hba (fun hHeld => ?_)
              clear hK KK
              try simp only [Act.put, List.setIfInBounds_toArray, List.set_cons_zero, List.set_cons_succ]
              refine wpAnyH_ready (rs := [8]) (by kernel_rfl) (by simp) ?_
              refine AllReadyH.cons rfl (fun KK hK => ?_) AllReadyH.nil
              simp only [List.getElem_toArray, List.getElem_cons_succ, List.getElem_cons_zero]
              go_simp
              have hB8 := Below.alloc hba hba.size (.cells #[txt key, txt v] 47)
              refine hK.out _ _ hB8 (fun hHeld => ?_)
              clear hK KK
              have howna8 := howna.alloc (.cells #[txt key, txt v] 47)
              refine wpAnyH_ready (rs := [9]) (by kernel_rfl) (by simp) ?_
              refine AllReadyH.cons rfl (fun KK hK => ?_) AllReadyH.nil
              refine step_append_srcN rfl (.tmp 44) (.tmp 48) 29 29 rfl w.heap.size 47 i0 (.agg #[.string ⟨#[]⟩, .string ⟨#[]⟩]) 2 32 Try.underlying29 hi0 hz0 hz1 hz2 rfl _ _ _ (by rfl) howna8 _ _ _ (by rfl) (HS3 wa) q3 q4 hB8.size ?_
              intro vb wb hownb hgrb
              have hbb : Below w.heap.size w wb := Below.grown hB8 hgrb hB8.size (fun k hk => ((howna8).lt k hk).1)
              refine hK.out _ _ hbb (fun hHeld => ?_)
              clear hK KK
              try simp only [Act.put, List.setIfInBounds_toArray, List.set_cons_zero, List.set_cons_succ]
              refine wpAnyH_ready (rs := [13]) (by kernel_rfl) (by simp) ?_
              refine AllReadyH.cons rfl (fun KK hK => ?_) AllReadyH.nil
              refine step_append_srcN rfl (.tmp 49) (.tmp 52) 29 29 rfl w.heap.size 47 i0 (.agg #[.string ⟨#[]⟩, .string ⟨#[]⟩]) 2 32 Try.underlying29 hi0 hz0 hz1 hz2 rfl _ _ _ (by rfl) hownb _ _ _ (by rfl) (HS2 wb hbb) q5 q6 hbb.size ?_
              intro vc wc hownc hgrc
              have hbc : Below w.heap.size w wc := Below.grown hbb hgrc hbb.size (fun k hk => ((hownb).lt k hk).1)
              refine hK.out _ _ hbc (fun hHeld => ?_)
              clear hK KK
              try simp only [Act.put, List.setIfInBounds_toArray, List.set_cons_zero, List.set_cons_succ]
              refine wpAnyH_ready (rs := [14]) (by kernel_rfl) (by simp) ?_
              refine AllReadyH.cons rfl (fun KK hK => ?_) AllReadyH.nil
              simp only [List.getElem_toArray, List.getElem_cons_succ, List.getElem_cons_zero]
              go_simp
              refine hK.out _ _ hbc (fun hHeld => ?_)
              clear hK KK
              refine wpAnyH_done (by kernel_rfl) ?_ _
              go_wp2_with fail
              go_ret
              exact PrRet.mk hownc (by rw [Hres.out, List.length_append, List.length_cons, List.length_take, List.length_drop]; omega) (by rw [Hres.out, pcells_append, pcells_cons, List.append_assoc]; rfl) hbc
            · refine AllReadyH.cons rfl (fun KK hK => ?_) AllReadyH.nil
              simp only [List.getElem_toArray, List.getElem_cons_succ, List.getElem_cons_zero]
              go_simp
              have hB2 := Below.alloc hB1 hB1.size (.cells #[txt key, txt v] 47)
              refine hK.out _ _ hB2 (fun hHeld => ?_)
              clear hK KK
              have hL2 := hL1.alloc (.cells #[txt key, txt v] 47)
              refine wpAnyH_ready (rs := [4]) (by kernel_rfl) (by simp) ?_
              refine AllReadyH.cons rfl (fun KK hK => ?_) AllReadyH.nil
              refine step_append_srcN rfl (.tmp 40) (.tmp 43) 29 29 rfl w.heap.size 47 i0 (.agg #[.string ⟨#[]⟩, .string ⟨#[]⟩]) 2 32 Try.underlying29 hi0 hz0 hz1 hz2 rfl _ _ _ (by rfl) hL2 _ _ _ (by rfl) (HS1 _ hB2) q1 q2 hB2.size ?_
              intro va wa howna hgra
              have hba : Below w.heap.size w wa := Below.grown hB2 hgra hB2.size (fun k hk => ((hL2).lt k hk).1)
              refine hK.out _ _ hba (fun hHeld => ?_)
              clear hK KK
              try simp only [Act.put, List.setIfInBounds_toArray, List.set_cons_zero, List.set_cons_succ]
              refine wpAnyH_ready (rs := [9]) (by kernel_rfl) (by simp) ?_
              refine AllReadyH.cons rfl (fun KK hK => ?_) AllReadyH.nil
              refine step_append_srcN rfl (.tmp 44) (.tmp 48) 29 29 rfl w.heap.size 47 i0 (.agg #[.string ⟨#[]⟩, .string ⟨#[]⟩]) 2 32 Try.underlying29 hi0 hz0 hz1 hz2 rfl _ _ _ (by rfl) howna _ _ _ (by rfl) (src_kept (P := Try.prog) hgra Try.underlying29 (g := w.heap.size + 1) (lit_pair2 (w := w.drew.alloc (.cells #[] 47)) (by simp) key v 47) (by simp) (by simp [Value.ownBlock])) q3 q4 hba.size ?_
              intro vb wb hownb hgrb
              have hbb : Below w.heap.size w wb := Below.grown hba hgrb hba.size (fun k hk => ((howna).lt k hk).1)
              refine hK.out _ _ hbb (fun hHeld => ?_)
              clear hK KK
              try simp only [Act.put, List.setIfInBounds_toArray, List.set_cons_zero, List.set_cons_succ]
              refine wpAnyH_ready (rs := [13]) (by kernel_rfl) (by simp) ?_
              refine AllReadyH.cons rfl (fun KK hK => ?_) AllReadyH.nil
              refine step_append_srcN rfl (.tmp 49) (.tmp 52) 29 29 rfl w.heap.size 47 i0 (.agg #[.string ⟨#[]⟩, .string ⟨#[]⟩]) 2 32 Try.underlying29 hi0 hz0 hz1 hz2 rfl _ _ _ (by rfl) hownb _ _ _ (by rfl) (HS2 wb hbb) q5 q6 hbb.size ?_
              intro vc wc hownc hgrc
              have hbc : Below w.heap.size w wc := Below.grown hbb hgrc hbb.size (fun k hk => ((hownb).lt k hk).1)
              refine hK.out _ _ hbc (fun hHeld => ?_)
              clear hK KK
              try simp only [Act.put, List.setIfInBounds_toArray, List.set_cons_zero, List.set_cons_succ]
              refine wpAnyH_ready (rs := [14]) (by kernel_rfl) (by simp) ?_
              refine AllReadyH.cons rfl (fun KK hK => ?_) AllReadyH.nil
              simp only [List.getElem_toArray, List.getElem_cons_succ, List.getElem_cons_zero]
              go_simp
              refine hK.out _ _ hbc (fun hHeld => ?_)
              clear hK KK
              refine wpAnyH_done (by kernel_rfl) ?_ _
              go_wp2_with fail
              go_ret
              exact PrRet.mk hownc (by rw [Hres.out, List.length_append, List.length_cons, List.length_take, List.length_drop]; omega) (by rw [Hres.out, pcells_append, pcells_cons, List.append_assoc]; rfl) hbc
          · refine AllReadyH.cons rfl (fun KK hK => ?_) AllReadyH.nil
            simp only [List.getElem_toArray, List.getElem_cons_succ, List.getElem_cons_zero]
            go_simp
            have hB1 := Below.alloc hd0 hd0.size (.cells #[txt key, txt v] 47)
            refine hK.out _ _ hB1 (fun hHeld => ?_)
            clear hK KK
            refine wpAnyH_ready (rs := [0]) (by kernel_rfl) (by simp) ?_
            refine AllReadyH.cons rfl (fun KK hK => ?_) AllReadyH.nil
            simp only [List.getElem_toArray, List.getElem_cons_succ, List.getElem_cons_zero]
            go_simp
            have hB2 := Below.alloc hB1 hB1.size (.cells #[] 47)
            refine hK.out _ _ hB2 (fun hHeld => ?_)
            clear hK KK
            have hL2 := World.ownsRow_lit (base := w.heap.size) (e := 47) (size := 2) (w.drew.alloc (.cells #[txt key, txt v] 47)) #[] 0 hB1.size (by unfold maxLen; omega) rfl
            rw [show (w.drew.alloc (.cells #[txt key, txt v] 47)).heap.size = w.heap.size + 1 by simp] at hL2
            refine wpAnyH_ready (rs := [4]) (by kernel_rfl) (by simp) ?_
            refine AllReadyH.cons rfl (fun KK hK => ?_) AllReadyH.nil
            refine step_append_srcN rfl (.tmp 40) (.tmp 43) 29 29 rfl w.heap.size 47 i0 (.agg #[.string ⟨#[]⟩, .string ⟨#[]⟩]) 2 32 Try.underlying29 hi0 hz0 hz1 hz2 rfl _ _ _ (by rfl) hL2 _ _ _ (by rfl) (HS1 _ hB2) q1 q2 hB2.size ?_
            intro va wa howna hgra
            have hba : Below w.heap.size w wa := Below.grown hB2 hgra hB2.size (fun k hk => ((hL2).lt k hk).1)
            refine hK.out _ _ hba (fun hHeld => ?_)
            clear hK KK
            try simp only [Act.put, List.setIfInBounds_toArray, List.set_cons_zero, List.set_cons_succ]
            refine wpAnyH_ready (rs := [9]) (by kernel_rfl) (by simp) ?_
            refine AllReadyH.cons rfl (fun KK hK => ?_) AllReadyH.nil
            refine step_append_srcN rfl (.tmp 44) (.tmp 48) 29 29 rfl w.heap.size 47 i0 (.agg #[.string ⟨#[]⟩, .string ⟨#[]⟩]) 2 32 Try.underlying29 hi0 hz0 hz1 hz2 rfl _ _ _ (by rfl) howna _ _ _ (by rfl) (src_kept (P := Try.prog) hgra Try.underlying29 (g := w.heap.size) (lit_past w.drew key v 47 (.cells #[] 47)) (by simp; omega) (by simp [Value.ownBlock])) q3 q4 hba.size ?_
            intro vb wb hownb hgrb
            have hbb : Below w.heap.size w wb := Below.grown hba hgrb hba.size (fun k hk => ((howna).lt k hk).1)
            refine hK.out _ _ hbb (fun hHeld => ?_)
            clear hK KK
            try simp only [Act.put, List.setIfInBounds_toArray, List.set_cons_zero, List.set_cons_succ]
            refine wpAnyH_ready (rs := [13]) (by kernel_rfl) (by simp) ?_
            refine AllReadyH.cons rfl (fun KK hK => ?_) AllReadyH.nil
            refine step_append_srcN rfl (.tmp 49) (.tmp 52) 29 29 rfl w.heap.size 47 i0 (.agg #[.string ⟨#[]⟩, .string ⟨#[]⟩]) 2 32 Try.underlying29 hi0 hz0 hz1 hz2 rfl _ _ _ (by rfl) hownb _ _ _ (by rfl) (HS2 wb hbb) q5 q6 hbb.size ?_
            intro vc wc hownc hgrc
            have hbc : Below w.heap.size w wc := Below.grown hbb hgrc hbb.size (fun k hk => ((hownb).lt k hk).1)
            refine hK.out _ _ hbc (fun hHeld => ?_)
            clear hK KK
            try simp only [Act.put, List.setIfInBounds_toArray, List.set_cons_zero, List.set_cons_succ]
            refine wpAnyH_ready (rs := [14]) (by kernel_rfl) (by simp) ?_
            refine AllReadyH.cons rfl (fun KK hK => ?_) AllReadyH.nil
            simp only [List.getElem_toArray, List.getElem_cons_succ, List.getElem_cons_zero]
            go_simp
            refine hK.out _ _ hbc (fun hHeld => ?_)
            clear hK KK
            refine wpAnyH_done (by kernel_rfl) ?_ _
            go_wp2_with fail
            go_ret
            exact PrRet.mk hownc (by rw [Hres.out, List.length_append, List.length_cons, List.length_take, List.length_drop]; omega) (by rw [Hres.out, pcells_append, pcells_cons, List.append_assoc]; rfl) hbc
    · obtain rfl : k = m.length := by omega
      have Hp := hid (Tbm.pos_of key m m.length hk hpre.out (fun p hp => by rw [List.getElem?_eq_none (Nat.le_refl _)] at hp; cases hp))
      have Hres := hid (hres.out m.length m.length Hp.out (by unfold Tbm.hasAt; rw [Hp.out, List.getElem?_eq_none (Nat.le_refl _)]; rfl))
      clear hpre
      by_cases hck : c = m.length
      · subst hck
        have HS1 := HS1.out m.length hk
        have HS2 := HS2.out m.length A (fun h => absurd h (Nat.lt_irrefl _))
        simp only [Nat.sub_self] at HS2
        have q1 : 0 + m.length ≤ maxLen := by unfold maxLen; omega
        have q2 : (0 + m.length) * 32 ≤ 140737488355328 := by omega
        have q3 : 0 + m.length + 1 ≤ maxLen := by unfold maxLen; omega
        have q4 : (0 + m.length + 1) * 32 ≤ 140737488355328 := by omega
        have q5 : 0 + m.length + 1 + 0 ≤ maxLen := by unfold maxLen; omega
        have q6 : (0 + m.length + 1 + 0) * 32 ≤ 140737488355328 := by omega
        go_wp2_with fail
        have hd0 : Below w.heap.size w w.drew := (Below.refl _ w).drew
        refine wp_region_held_drew (S := fun X => Below w.heap.size w X) (by kernel_rfl) hd0 (fun hHeld => ?_)
        refine takeH 1 41 (.slice A m.length m.length) rfl rfl (by kernel_rfl) (by kernel_rfl) (by kernel_rfl) (fun _ _ _ h => h) (by kernel_rfl) (fun X hX => by clear hX; first | rfl | go_simp) hHeld ?_
        simp only [Act.put, List.setIfInBounds_toArray, List.set_cons_zero, List.set_cons_succ]
        refine takeH 2 42 (.int .i64 (m.length : Int)) rfl rfl (by kernel_rfl) (by kernel_rfl) (by kernel_rfl) (fun _ _ _ h => h) (by kernel_rfl) (fun X hX => by clear hX; first | rfl | go_simp) hHeld ?_
        simp only [Act.put, List.setIfInBounds_toArray, List.set_cons_zero, List.set_cons_succ]
        refine takeH 3 43 (.slice A m.length m.length) rfl rfl (by kernel_rfl) (by kernel_rfl) (by kernel_rfl) (fun _ _ _ h => h) (by kernel_rfl) (fun X hX => by clear hX; go_simp; try (intro h; omega)) hHeld ?_
        simp only [Act.put, List.setIfInBounds_toArray, List.set_cons_zero, List.set_cons_succ]
        refine takeH 5 45 (txt key) rfl rfl (by kernel_rfl) (by kernel_rfl) (by kernel_rfl) (fun _ _ _ h => h) (by kernel_rfl) (fun X hX => by clear hX; first | rfl | go_simp) hHeld ?_
        simp only [Act.put, List.setIfInBounds_toArray, List.set_cons_zero, List.set_cons_succ]
        refine takeH 6 46 (txt v) rfl rfl (by kernel_rfl) (by kernel_rfl) (by kernel_rfl) (fun _ _ _ h => h) (by kernel_rfl) (fun X hX => by clear hX; first | rfl | go_simp) hHeld ?_
        simp only [Act.put, List.setIfInBounds_toArray, List.set_cons_zero, List.set_cons_succ]
        refine takeH 7 47 (.agg #[txt key, txt v]) rfl rfl (by kernel_rfl) (by kernel_rfl) (by kernel_rfl) (fun _ _ _ h => h) (by kernel_rfl) (fun X hX => by clear hX; first | rfl | go_simp) hHeld ?_
        simp only [Act.put, List.setIfInBounds_toArray, List.set_cons_zero, List.set_cons_succ]
        refine takeH 10 50 (.slice A m.length m.length) rfl rfl (by kernel_rfl) (by kernel_rfl) (by kernel_rfl) (fun _ _ _ h => h) (by kernel_rfl) (fun X hX => by clear hX; first | rfl | go_simp) hHeld ?_
        simp only [Act.put, List.setIfInBounds_toArray, List.set_cons_zero, List.set_cons_succ]
        refine takeH 11 51 (.int .i64 (m.length : Int)) rfl rfl (by kernel_rfl) (by kernel_rfl) (by kernel_rfl) (fun _ _ _ h => h) (by kernel_rfl) (fun X hX => by clear hX; first | rfl | go_simp) hHeld ?_
        simp only [Act.put, List.setIfInBounds_toArray, List.set_cons_zero, List.set_cons_succ]
        refine takeH 12 52 (.slice A 0 0) rfl rfl (by kernel_rfl) (by kernel_rfl) (by kernel_rfl) (fun _ _ _ h => h) (by kernel_rfl) (fun X hX => by clear hX; go_simp; try (intro h; omega)) hHeld ?_
        simp only [Act.put, List.setIfInBounds_toArray, List.set_cons_zero, List.set_cons_succ]
        refine wpAnyH_ready (rs := [0, 8]) (by kernel_rfl) (by simp) ?_
        refine AllReadyH.cons rfl (fun KK hK => ?_) ?_
        · simp only [List.getElem_toArray, List.getElem_cons_succ, List.getElem_cons_zero]
          go_simp
          have hB1 := Below.alloc hd0 hd0.size (.cells #[] 47)
          have hL1 := World.ownsRow_lit (base := w.heap.size) (e := 47) (size := 2) w.drew #[] 0 hd0.size (by unfold maxLen; omega) rfl
          refine hK.out _ _ hB1 (fun hHeld => ?_)
          clear hK KK
          refine wpAnyH_ready (rs := [4, 8]) (by kernel_rfl) (by simp) ?_
          refine AllReadyH.cons rfl (fun KK hK => ?_) ?_
          · skip
            refine step_append_srcN rfl (.tmp 40) (.tmp 43) 29 29 rfl w.heap.size 47 i0 (.agg #[.string ⟨#[]⟩, .string ⟨#[]⟩]) 2 32 Try.underlying29 hi0 hz0 hz1 hz2 rfl _ _ _ (by rfl) hL1 _ _ _ (by rfl) (HS1 _ hB1) q1 q2 hB1.size ?_
            intro va wa howna hgra
            have hba : Below w.heap.size w wa := Below.grown hB1 hgra hB1.size (fun k hk => ((hL1).lt k hk).1)
            refine hK.out _ _ hba (fun hHeld => ?_)
            clear hK KK
            try simp only [Act.put, List.setIfInBounds_toArray, List.set_cons_zero, List.set_cons_succ]
            refine wpAnyH_ready (rs := [8]) (by kernel_rfl) (by simp) ?_
            refine AllReadyH.cons rfl (fun KK hK => ?_) AllReadyH.nil
            simp only [List.getElem_toArray, List.getElem_cons_succ, List.getElem_cons_zero]
            go_simp
            have hB8 := Below.alloc hba hba.size (.cells #[txt key, txt v] 47)
            refine hK.out _ _ hB8 (fun hHeld => ?_)
            clear hK KK
            have howna8 := howna.alloc (.cells #[txt key, txt v] 47)
            refine wpAnyH_ready (rs := [9]) (by kernel_rfl) (by simp) ?_
            refine AllReadyH.cons rfl (fun KK hK => ?_) AllReadyH.nil
            refine step_append_srcN rfl (.tmp 44) (.tmp 48) 29 29 rfl w.heap.size 47 i0 (.agg #[.string ⟨#[]⟩, .string ⟨#[]⟩]) 2 32 Try.underlying29 hi0 hz0 hz1 hz2 rfl _ _ _ (by rfl) howna8 _ _ _ (by rfl) (HS3 wa) q3 q4 hB8.size ?_
            intro vb wb hownb hgrb
            have hbb : Below w.heap.size w wb := Below.grown hB8 hgrb hB8.size (fun k hk => ((howna8).lt k hk).1)
            refine hK.out _ _ hbb (fun hHeld => ?_)
            clear hK KK
            try simp only [Act.put, List.setIfInBounds_toArray, List.set_cons_zero, List.set_cons_succ]
            refine wpAnyH_ready (rs := [13]) (by kernel_rfl) (by simp) ?_
            refine AllReadyH.cons rfl (fun KK hK => ?_) AllReadyH.nil
            refine step_append_srcN rfl (.tmp 49) (.tmp 52) 29 29 rfl w.heap.size 47 i0 (.agg #[.string ⟨#[]⟩, .string ⟨#[]⟩]) 2 32 Try.underlying29 hi0 hz0 hz1 hz2 rfl _ _ _ (by rfl) hownb _ _ _ (by rfl) (HS2 wb hbb) q5 q6 hbb.size ?_
            intro vc wc hownc hgrc
            have hbc : Below w.heap.size w wc := Below.grown hbb hgrc hbb.size (fun k hk => ((hownb).lt k hk).1)
            refine hK.out _ _ hbc (fun hHeld => ?_)
            clear hK KK
            try simp only [Act.put, List.setIfInBounds_toArray, List.set_cons_zero, List.set_cons_succ]
            refine wpAnyH_ready (rs := [14]) (by kernel_rfl) (by simp) ?_
            refine AllReadyH.cons rfl (fun KK hK => ?_) AllReadyH.nil
            simp only [List.getElem_toArray, List.getElem_cons_succ, List.getElem_cons_zero]
            go_simp
            refine hK.out _ _ hbc (fun hHeld => ?_)
            clear hK KK
            refine wpAnyH_done (by kernel_rfl) ?_ _
            go_wp2_with fail
            go_ret
            exact PrRet.mk hownc (by rw [Hres.out, List.length_append, List.length_cons, List.length_take, List.length_drop]; omega) (by rw [Hres.out, pcells_append, pcells_cons, List.append_assoc]; rfl) hbc
          · refine AllReadyH.cons rfl (fun KK hK => ?_) AllReadyH.nil
            simp only [List.getElem_toArray, List.getElem_cons_succ, List.getElem_cons_zero]
            go_simp
            have hB2 := Below.alloc hB1 hB1.size (.cells #[txt key, txt v] 47)
            refine hK.out _ _ hB2 (fun hHeld => ?_)
            clear hK KK
            have hL2 := hL1.alloc (.cells #[txt key, txt v] 47)
            refine wpAnyH_ready (rs := [4]) (by kernel_rfl) (by simp) ?_
            refine AllReadyH.cons rfl (fun KK hK => ?_) AllReadyH.nil
            refine step_append_srcN rfl (.tmp 40) (.tmp 43) 29 29 rfl w.heap.size 47 i0 (.agg #[.string ⟨#[]⟩, .string ⟨#[]⟩]) 2 32 Try.underlying29 hi0 hz0 hz1 hz2 rfl _ _ _ (by rfl) hL2 _ _ _ (by rfl) (HS1 _ hB2) q1 q2 hB2.size ?_
            intro va wa howna hgra
            have hba : Below w.heap.size w wa := Below.grown hB2 hgra hB2.size (fun k hk => ((hL2).lt k hk).1)
            refine hK.out _ _ hba (fun hHeld => ?_)
            clear hK KK
            try simp only [Act.put, List.setIfInBounds_toArray, List.set_cons_zero, List.set_cons_succ]
            refine wpAnyH_ready (rs := [9]) (by kernel_rfl) (by simp) ?_
            refine AllReadyH.cons rfl (fun KK hK => ?_) AllReadyH.nil
            refine step_append_srcN rfl (.tmp 44) (.tmp 48) 29 29 rfl w.heap.size 47 i0 (.agg #[.string ⟨#[]⟩, .string ⟨#[]⟩]) 2 32 Try.underlying29 hi0 hz0 hz1 hz2 rfl _ _ _ (by rfl) howna _ _ _ (by rfl) (src_kept (P := Try.prog) hgra Try.underlying29 (g := w.heap.size + 1) (lit_pair2 (w := w.drew.alloc (.cells #[] 47)) (by simp) key v 47) (by simp) (by simp [Value.ownBlock])) q3 q4 hba.size ?_
            intro vb wb hownb hgrb
            have hbb : Below w.heap.size w wb := Below.grown hba hgrb hba.size (fun k hk => ((howna).lt k hk).1)
            refine hK.out _ _ hbb (fun hHeld => ?_)
            clear hK KK
            try simp only [Act.put, List.setIfInBounds_toArray, List.set_cons_zero, List.set_cons_succ]
            refine wpAnyH_ready (rs := [13]) (by kernel_rfl) (by simp) ?_
            refine AllReadyH.cons rfl (fun KK hK => ?_) AllReadyH.nil
            refine step_append_srcN rfl (.tmp 49) (.tmp 52) 29 29 rfl w.heap.size 47 i0 (.agg #[.string ⟨#[]⟩, .string ⟨#[]⟩]) 2 32 Try.underlying29 hi0 hz0 hz1 hz2 rfl _ _ _ (by rfl) hownb _ _ _ (by rfl) (HS2 wb hbb) q5 q6 hbb.size ?_
            intro vc wc hownc hgrc
            have hbc : Below w.heap.size w wc := Below.grown hbb hgrc hbb.size (fun k hk => ((hownb).lt k hk).1)
            refine hK.out _ _ hbc (fun hHeld => ?_)
            clear hK KK
            try simp only [Act.put, List.setIfInBounds_toArray, List.set_cons_zero, List.set_cons_succ]
            refine wpAnyH_ready (rs := [14]) (by kernel_rfl) (by simp) ?_
            refine AllReadyH.cons rfl (fun KK hK => ?_) AllReadyH.nil
            simp only [List.getElem_toArray, List.getElem_cons_succ, List.getElem_cons_zero]
            go_simp
            refine hK.out _ _ hbc (fun hHeld => ?_)
            clear hK KK
            refine wpAnyH_done (by kernel_rfl) ?_ _
            go_wp2_with fail
            go_ret
            exact PrRet.mk hownc (by rw [Hres.out, List.length_append, List.length_cons, List.length_take, List.length_drop]; omega) (by rw [Hres.out, pcells_append, pcells_cons, List.append_assoc]; rfl) hbc
        · refine AllReadyH.cons rfl (fun KK hK => ?_) AllReadyH.nil
          simp only [List.getElem_toArray, List.getElem_cons_succ, List.getElem_cons_zero]
          go_simp
          have hB1 := Below.alloc hd0 hd0.size (.cells #[txt key, txt v] 47)
          refine hK.out _ _ hB1 (fun hHeld => ?_)
          clear hK KK
          refine wpAnyH_ready (rs := [0]) (by kernel_rfl) (by simp) ?_
          refine AllReadyH.cons rfl (fun KK hK => ?_) AllReadyH.nil
          simp only [List.getElem_toArray, List.getElem_cons_succ, List.getElem_cons_zero]
          go_simp
          have hB2 := Below.alloc hB1 hB1.size (.cells #[] 47)
          refine hK.out _ _ hB2 (fun hHeld => ?_)
          clear hK KK
          have hL2 := World.ownsRow_lit (base := w.heap.size) (e := 47) (size := 2) (w.drew.alloc (.cells #[txt key, txt v] 47)) #[] 0 hB1.size (by unfold maxLen; omega) rfl
          rw [show (w.drew.alloc (.cells #[txt key, txt v] 47)).heap.size = w.heap.size + 1 by simp] at hL2
          refine wpAnyH_ready (rs := [4]) (by kernel_rfl) (by simp) ?_
          refine AllReadyH.cons rfl (fun KK hK => ?_) AllReadyH.nil
          refine step_append_srcN rfl (.tmp 40) (.tmp 43) 29 29 rfl w.heap.size 47 i0 (.agg #[.string ⟨#[]⟩, .string ⟨#[]⟩]) 2 32 Try.underlying29 hi0 hz0 hz1 hz2 rfl _ _ _ (by rfl) hL2 _ _ _ (by rfl) (HS1 _ hB2) q1 q2 hB2.size ?_
          intro va wa howna hgra
          have hba : Below w.heap.size w wa := Below.grown hB2 hgra hB2.size (fun k hk => ((hL2).lt k hk).1)
          refine hK.out _ _ hba (fun hHeld => ?_)
          clear hK KK
          try simp only [Act.put, List.setIfInBounds_toArray, List.set_cons_zero, List.set_cons_succ]
          refine wpAnyH_ready (rs := [9]) (by kernel_rfl) (by simp) ?_
          refine AllReadyH.cons rfl (fun KK hK => ?_) AllReadyH.nil
          refine step_append_srcN rfl (.tmp 44) (.tmp 48) 29 29 rfl w.heap.size 47 i0 (.agg #[.string ⟨#[]⟩, .string ⟨#[]⟩]) 2 32 Try.underlying29 hi0 hz0 hz1 hz2 rfl _ _ _ (by rfl) howna _ _ _ (by rfl) (src_kept (P := Try.prog) hgra Try.underlying29 (g := w.heap.size) (lit_past w.drew key v 47 (.cells #[] 47)) (by simp; omega) (by simp [Value.ownBlock])) q3 q4 hba.size ?_
          intro vb wb hownb hgrb
          have hbb : Below w.heap.size w wb := Below.grown hba hgrb hba.size (fun k hk => ((howna).lt k hk).1)
          refine hK.out _ _ hbb (fun hHeld => ?_)
          clear hK KK
          try simp only [Act.put, List.setIfInBounds_toArray, List.set_cons_zero, List.set_cons_succ]
          refine wpAnyH_ready (rs := [13]) (by kernel_rfl) (by simp) ?_
          refine AllReadyH.cons rfl (fun KK hK => ?_) AllReadyH.nil
          refine step_append_srcN rfl (.tmp 49) (.tmp 52) 29 29 rfl w.heap.size 47 i0 (.agg #[.string ⟨#[]⟩, .string ⟨#[]⟩]) 2 32 Try.underlying29 hi0 hz0 hz1 hz2 rfl _ _ _ (by rfl) hownb _ _ _ (by rfl) (HS2 wb hbb) q5 q6 hbb.size ?_
          intro vc wc hownc hgrc
          have hbc : Below w.heap.size w wc := Below.grown hbb hgrc hbb.size (fun k hk => ((hownb).lt k hk).1)
          refine hK.out _ _ hbc (fun hHeld => ?_)
          clear hK KK
          try simp only [Act.put, List.setIfInBounds_toArray, List.set_cons_zero, List.set_cons_succ]
          refine wpAnyH_ready (rs := [14]) (by kernel_rfl) (by simp) ?_
          refine AllReadyH.cons rfl (fun KK hK => ?_) AllReadyH.nil
          simp only [List.getElem_toArray, List.getElem_cons_succ, List.getElem_cons_zero]
          go_simp
          refine hK.out _ _ hbc (fun hHeld => ?_)
          clear hK KK
          refine wpAnyH_done (by kernel_rfl) ?_ _
          go_wp2_with fail
          go_ret
          exact PrRet.mk hownc (by rw [Hres.out, List.length_append, List.length_cons, List.length_take, List.length_drop]; omega) (by rw [Hres.out, pcells_append, pcells_cons, List.append_assoc]; rfl) hbc
      · have hck' : ¬ (c : Int) = (m.length : Int) := by omega
        have HS1 := HS1.out m.length hk
        have HS2 := HS2.out m.length (A.map (fun x => x.add (m.length * 2))) (fun _ => rfl)
        simp only [Nat.sub_self] at HS2
        have q1 : 0 + m.length ≤ maxLen := by unfold maxLen; omega
        have q2 : (0 + m.length) * 32 ≤ 140737488355328 := by omega
        have q3 : 0 + m.length + 1 ≤ maxLen := by unfold maxLen; omega
        have q4 : (0 + m.length + 1) * 32 ≤ 140737488355328 := by omega
        have q5 : 0 + m.length + 1 + 0 ≤ maxLen := by unfold maxLen; omega
        have q6 : (0 + m.length + 1 + 0) * 32 ≤ 140737488355328 := by omega
        go_wp2_with fail
        have hd0 : Below w.heap.size w w.drew := (Below.refl _ w).drew
        refine wp_region_held_drew (S := fun X => Below w.heap.size w X) (by kernel_rfl) hd0 (fun hHeld => ?_)
        refine takeH 1 41 (.slice A m.length c) rfl rfl (by kernel_rfl) (by kernel_rfl) (by kernel_rfl) (fun _ _ _ h => h) (by kernel_rfl) (fun X hX => by clear hX; first | rfl | go_simp) hHeld ?_
        simp only [Act.put, List.setIfInBounds_toArray, List.set_cons_zero, List.set_cons_succ]
        refine takeH 2 42 (.int .i64 (m.length : Int)) rfl rfl (by kernel_rfl) (by kernel_rfl) (by kernel_rfl) (fun _ _ _ h => h) (by kernel_rfl) (fun X hX => by clear hX; first | rfl | go_simp) hHeld ?_
        simp only [Act.put, List.setIfInBounds_toArray, List.set_cons_zero, List.set_cons_succ]
        refine takeH 3 43 (.slice A m.length c) rfl rfl (by kernel_rfl) (by kernel_rfl) (by kernel_rfl) (fun _ _ _ h => h) (by kernel_rfl) (fun X hX => by clear hX; go_simp; try (intro h; omega)) hHeld ?_
        simp only [Act.put, List.setIfInBounds_toArray, List.set_cons_zero, List.set_cons_succ]
        refine takeH 5 45 (txt key) rfl rfl (by kernel_rfl) (by kernel_rfl) (by kernel_rfl) (fun _ _ _ h => h) (by kernel_rfl) (fun X hX => by clear hX; first | rfl | go_simp) hHeld ?_
        simp only [Act.put, List.setIfInBounds_toArray, List.set_cons_zero, List.set_cons_succ]
        refine takeH 6 46 (txt v) rfl rfl (by kernel_rfl) (by kernel_rfl) (by kernel_rfl) (fun _ _ _ h => h) (by kernel_rfl) (fun X hX => by clear hX; first | rfl | go_simp) hHeld ?_
        simp only [Act.put, List.setIfInBounds_toArray, List.set_cons_zero, List.set_cons_succ]
        refine takeH 7 47 (.agg #[txt key, txt v]) rfl rfl (by kernel_rfl) (by kernel_rfl) (by kernel_rfl) (fun _ _ _ h => h) (by kernel_rfl) (fun X hX => by clear hX; first | rfl | go_simp) hHeld ?_
        simp only [Act.put, List.setIfInBounds_toArray, List.set_cons_zero, List.set_cons_succ]
        refine takeH 10 50 (.slice A m.length c) rfl rfl (by kernel_rfl) (by kernel_rfl) (by kernel_rfl) (fun _ _ _ h => h) (by kernel_rfl) (fun X hX => by clear hX; first | rfl | go_simp) hHeld ?_
        simp only [Act.put, List.setIfInBounds_toArray, List.set_cons_zero, List.set_cons_succ]
        refine takeH 11 51 (.int .i64 (m.length : Int)) rfl rfl (by kernel_rfl) (by kernel_rfl) (by kernel_rfl) (fun _ _ _ h => h) (by kernel_rfl) (fun X hX => by clear hX; first | rfl | go_simp) hHeld ?_
        simp only [Act.put, List.setIfInBounds_toArray, List.set_cons_zero, List.set_cons_succ]
        refine takeH 12 52 (.slice (A.map (fun x => x.add (m.length * 2))) 0 (c - m.length)) rfl rfl (by kernel_rfl) (by kernel_rfl) (by kernel_rfl) (fun _ _ _ h => h) (by kernel_rfl) (fun X hX => by clear hX; go_simp; try (intro h; omega)) hHeld ?_
        simp only [Act.put, List.setIfInBounds_toArray, List.set_cons_zero, List.set_cons_succ]
        refine wpAnyH_ready (rs := [0, 8]) (by kernel_rfl) (by simp) ?_
        refine AllReadyH.cons rfl (fun KK hK => ?_) ?_
        · simp only [List.getElem_toArray, List.getElem_cons_succ, List.getElem_cons_zero]
          go_simp
          have hB1 := Below.alloc hd0 hd0.size (.cells #[] 47)
          have hL1 := World.ownsRow_lit (base := w.heap.size) (e := 47) (size := 2) w.drew #[] 0 hd0.size (by unfold maxLen; omega) rfl
          refine hK.out _ _ hB1 (fun hHeld => ?_)
          clear hK KK
          refine wpAnyH_ready (rs := [4, 8]) (by kernel_rfl) (by simp) ?_
          refine AllReadyH.cons rfl (fun KK hK => ?_) ?_
          · skip
            refine step_append_srcN rfl (.tmp 40) (.tmp 43) 29 29 rfl w.heap.size 47 i0 (.agg #[.string ⟨#[]⟩, .string ⟨#[]⟩]) 2 32 Try.underlying29 hi0 hz0 hz1 hz2 rfl _ _ _ (by rfl) hL1 _ _ _ (by rfl) (HS1 _ hB1) q1 q2 hB1.size ?_
            intro va wa howna hgra
            have hba : Below w.heap.size w wa := Below.grown hB1 hgra hB1.size (fun k hk => ((hL1).lt k hk).1)
            refine hK.out _ _ hba (fun hHeld => ?_)
            clear hK KK
            try simp only [Act.put, List.setIfInBounds_toArray, List.set_cons_zero, List.set_cons_succ]
            refine wpAnyH_ready (rs := [8]) (by kernel_rfl) (by simp) ?_
            refine AllReadyH.cons rfl (fun KK hK => ?_) AllReadyH.nil
            simp only [List.getElem_toArray, List.getElem_cons_succ, List.getElem_cons_zero]
            go_simp
            have hB8 := Below.alloc hba hba.size (.cells #[txt key, txt v] 47)
            refine hK.out _ _ hB8 (fun hHeld => ?_)
            clear hK KK
            have howna8 := howna.alloc (.cells #[txt key, txt v] 47)
            refine wpAnyH_ready (rs := [9]) (by kernel_rfl) (by simp) ?_
            refine AllReadyH.cons rfl (fun KK hK => ?_) AllReadyH.nil
            refine step_append_srcN rfl (.tmp 44) (.tmp 48) 29 29 rfl w.heap.size 47 i0 (.agg #[.string ⟨#[]⟩, .string ⟨#[]⟩]) 2 32 Try.underlying29 hi0 hz0 hz1 hz2 rfl _ _ _ (by rfl) howna8 _ _ _ (by rfl) (HS3 wa) q3 q4 hB8.size ?_
            intro vb wb hownb hgrb
            have hbb : Below w.heap.size w wb := Below.grown hB8 hgrb hB8.size (fun k hk => ((howna8).lt k hk).1)
            refine hK.out _ _ hbb (fun hHeld => ?_)
            clear hK KK
            try simp only [Act.put, List.setIfInBounds_toArray, List.set_cons_zero, List.set_cons_succ]
            refine wpAnyH_ready (rs := [13]) (by kernel_rfl) (by simp) ?_
            refine AllReadyH.cons rfl (fun KK hK => ?_) AllReadyH.nil
            refine step_append_srcN rfl (.tmp 49) (.tmp 52) 29 29 rfl w.heap.size 47 i0 (.agg #[.string ⟨#[]⟩, .string ⟨#[]⟩]) 2 32 Try.underlying29 hi0 hz0 hz1 hz2 rfl _ _ _ (by rfl) hownb _ _ _ (by rfl) (HS2 wb hbb) q5 q6 hbb.size ?_
            intro vc wc hownc hgrc
            have hbc : Below w.heap.size w wc := Below.grown hbb hgrc hbb.size (fun k hk => ((hownb).lt k hk).1)
            refine hK.out _ _ hbc (fun hHeld => ?_)
            clear hK KK
            try simp only [Act.put, List.setIfInBounds_toArray, List.set_cons_zero, List.set_cons_succ]
            refine wpAnyH_ready (rs := [14]) (by kernel_rfl) (by simp) ?_
            refine AllReadyH.cons rfl (fun KK hK => ?_) AllReadyH.nil
            simp only [List.getElem_toArray, List.getElem_cons_succ, List.getElem_cons_zero]
            go_simp
            refine hK.out _ _ hbc (fun hHeld => ?_)
            clear hK KK
            refine wpAnyH_done (by kernel_rfl) ?_ _
            go_wp2_with fail
            go_ret
            exact PrRet.mk hownc (by rw [Hres.out, List.length_append, List.length_cons, List.length_take, List.length_drop]; omega) (by rw [Hres.out, pcells_append, pcells_cons, List.append_assoc]; rfl) hbc
          · refine AllReadyH.cons rfl (fun KK hK => ?_) AllReadyH.nil
            simp only [List.getElem_toArray, List.getElem_cons_succ, List.getElem_cons_zero]
            go_simp
            have hB2 := Below.alloc hB1 hB1.size (.cells #[txt key, txt v] 47)
            refine hK.out _ _ hB2 (fun hHeld => ?_)
            clear hK KK
            have hL2 := hL1.alloc (.cells #[txt key, txt v] 47)
            refine wpAnyH_ready (rs := [4]) (by kernel_rfl) (by simp) ?_
            refine AllReadyH.cons rfl (fun KK hK => ?_) AllReadyH.nil
            refine step_append_srcN rfl (.tmp 40) (.tmp 43) 29 29 rfl w.heap.size 47 i0 (.agg #[.string ⟨#[]⟩, .string ⟨#[]⟩]) 2 32 Try.underlying29 hi0 hz0 hz1 hz2 rfl _ _ _ (by rfl) hL2 _ _ _ (by rfl) (HS1 _ hB2) q1 q2 hB2.size ?_
            intro va wa howna hgra
            have hba : Below w.heap.size w wa := Below.grown hB2 hgra hB2.size (fun k hk => ((hL2).lt k hk).1)
            refine hK.out _ _ hba (fun hHeld => ?_)
            clear hK KK
            try simp only [Act.put, List.setIfInBounds_toArray, List.set_cons_zero, List.set_cons_succ]
            refine wpAnyH_ready (rs := [9]) (by kernel_rfl) (by simp) ?_
            refine AllReadyH.cons rfl (fun KK hK => ?_) AllReadyH.nil
            refine step_append_srcN rfl (.tmp 44) (.tmp 48) 29 29 rfl w.heap.size 47 i0 (.agg #[.string ⟨#[]⟩, .string ⟨#[]⟩]) 2 32 Try.underlying29 hi0 hz0 hz1 hz2 rfl _ _ _ (by rfl) howna _ _ _ (by rfl) (src_kept (P := Try.prog) hgra Try.underlying29 (g := w.heap.size + 1) (lit_pair2 (w := w.drew.alloc (.cells #[] 47)) (by simp) key v 47) (by simp) (by simp [Value.ownBlock])) q3 q4 hba.size ?_
            intro vb wb hownb hgrb
            have hbb : Below w.heap.size w wb := Below.grown hba hgrb hba.size (fun k hk => ((howna).lt k hk).1)
            refine hK.out _ _ hbb (fun hHeld => ?_)
            clear hK KK
            try simp only [Act.put, List.setIfInBounds_toArray, List.set_cons_zero, List.set_cons_succ]
            refine wpAnyH_ready (rs := [13]) (by kernel_rfl) (by simp) ?_
            refine AllReadyH.cons rfl (fun KK hK => ?_) AllReadyH.nil
            refine step_append_srcN rfl (.tmp 49) (.tmp 52) 29 29 rfl w.heap.size 47 i0 (.agg #[.string ⟨#[]⟩, .string ⟨#[]⟩]) 2 32 Try.underlying29 hi0 hz0 hz1 hz2 rfl _ _ _ (by rfl) hownb _ _ _ (by rfl) (HS2 wb hbb) q5 q6 hbb.size ?_
            intro vc wc hownc hgrc
            have hbc : Below w.heap.size w wc := Below.grown hbb hgrc hbb.size (fun k hk => ((hownb).lt k hk).1)
            refine hK.out _ _ hbc (fun hHeld => ?_)
            clear hK KK
            try simp only [Act.put, List.setIfInBounds_toArray, List.set_cons_zero, List.set_cons_succ]
            refine wpAnyH_ready (rs := [14]) (by kernel_rfl) (by simp) ?_
            refine AllReadyH.cons rfl (fun KK hK => ?_) AllReadyH.nil
            simp only [List.getElem_toArray, List.getElem_cons_succ, List.getElem_cons_zero]
            go_simp
            refine hK.out _ _ hbc (fun hHeld => ?_)
            clear hK KK
            refine wpAnyH_done (by kernel_rfl) ?_ _
            go_wp2_with fail
            go_ret
            exact PrRet.mk hownc (by rw [Hres.out, List.length_append, List.length_cons, List.length_take, List.length_drop]; omega) (by rw [Hres.out, pcells_append, pcells_cons, List.append_assoc]; rfl) hbc
        · refine AllReadyH.cons rfl (fun KK hK => ?_) AllReadyH.nil
          simp only [List.getElem_toArray, List.getElem_cons_succ, List.getElem_cons_zero]
          go_simp
          have hB1 := Below.alloc hd0 hd0.size (.cells #[txt key, txt v] 47)
          refine hK.out _ _ hB1 (fun hHeld => ?_)
          clear hK KK
          refine wpAnyH_ready (rs := [0]) (by kernel_rfl) (by simp) ?_
          refine AllReadyH.cons rfl (fun KK hK => ?_) AllReadyH.nil
          simp only [List.getElem_toArray, List.getElem_cons_succ, List.getElem_cons_zero]
          go_simp
          have hB2 := Below.alloc hB1 hB1.size (.cells #[] 47)
          refine hK.out _ _ hB2 (fun hHeld => ?_)
          clear hK KK
          have hL2 := World.ownsRow_lit (base := w.heap.size) (e := 47) (size := 2) (w.drew.alloc (.cells #[txt key, txt v] 47)) #[] 0 hB1.size (by unfold maxLen; omega) rfl
          rw [show (w.drew.alloc (.cells #[txt key, txt v] 47)).heap.size = w.heap.size + 1 by simp] at hL2
          refine wpAnyH_ready (rs := [4]) (by kernel_rfl) (by simp) ?_
          refine AllReadyH.cons rfl (fun KK hK => ?_) AllReadyH.nil
          refine step_append_srcN rfl (.tmp 40) (.tmp 43) 29 29 rfl w.heap.size 47 i0 (.agg #[.string ⟨#[]⟩, .string ⟨#[]⟩]) 2 32 Try.underlying29 hi0 hz0 hz1 hz2 rfl _ _ _ (by rfl) hL2 _ _ _ (by rfl) (HS1 _ hB2) q1 q2 hB2.size ?_
          intro va wa howna hgra
          have hba : Below w.heap.size w wa := Below.grown hB2 hgra hB2.size (fun k hk => ((hL2).lt k hk).1)
          refine hK.out _ _ hba (fun hHeld => ?_)
          clear hK KK
          try simp only [Act.put, List.setIfInBounds_toArray, List.set_cons_zero, List.set_cons_succ]
          refine wpAnyH_ready (rs := [9]) (by kernel_rfl) (by simp) ?_
          refine AllReadyH.cons rfl (fun KK hK => ?_) AllReadyH.nil
          refine step_append_srcN rfl (.tmp 44) (.tmp 48) 29 29 rfl w.heap.size 47 i0 (.agg #[.string ⟨#[]⟩, .string ⟨#[]⟩]) 2 32 Try.underlying29 hi0 hz0 hz1 hz2 rfl _ _ _ (by rfl) howna _ _ _ (by rfl) (src_kept (P := Try.prog) hgra Try.underlying29 (g := w.heap.size) (lit_past w.drew key v 47 (.cells #[] 47)) (by simp; omega) (by simp [Value.ownBlock])) q3 q4 hba.size ?_
          intro vb wb hownb hgrb
          have hbb : Below w.heap.size w wb := Below.grown hba hgrb hba.size (fun k hk => ((howna).lt k hk).1)
          refine hK.out _ _ hbb (fun hHeld => ?_)
          clear hK KK
          try simp only [Act.put, List.setIfInBounds_toArray, List.set_cons_zero, List.set_cons_succ]
          refine wpAnyH_ready (rs := [13]) (by kernel_rfl) (by simp) ?_
          refine AllReadyH.cons rfl (fun KK hK => ?_) AllReadyH.nil
          refine step_append_srcN rfl (.tmp 49) (.tmp 52) 29 29 rfl w.heap.size 47 i0 (.agg #[.string ⟨#[]⟩, .string ⟨#[]⟩]) 2 32 Try.underlying29 hi0 hz0 hz1 hz2 rfl _ _ _ (by rfl) hownb _ _ _ (by rfl) (HS2 wb hbb) q5 q6 hbb.size ?_
          intro vc wc hownc hgrc
          have hbc : Below w.heap.size w wc := Below.grown hbb hgrc hbb.size (fun k hk => ((hownb).lt k hk).1)
          refine hK.out _ _ hbc (fun hHeld => ?_)
          clear hK KK
          try simp only [Act.put, List.setIfInBounds_toArray, List.set_cons_zero, List.set_cons_succ]
          refine wpAnyH_ready (rs := [14]) (by kernel_rfl) (by simp) ?_
          refine AllReadyH.cons rfl (fun KK hK => ?_) AllReadyH.nil
          simp only [List.getElem_toArray, List.getElem_cons_succ, List.getElem_cons_zero]
          go_simp
          refine hK.out _ _ hbc (fun hHeld => ?_)
          clear hK KK
          refine wpAnyH_done (by kernel_rfl) ?_ _
          go_wp2_with fail
          go_ret
          exact PrRet.mk hownc (by rw [Hres.out, List.length_append, List.length_cons, List.length_take, List.length_drop]; omega) (by rw [Hres.out, pcells_append, pcells_cons, List.append_assoc]; rfl) hbc
end Go.Proofs.Ytbkabjnklipmjaa
