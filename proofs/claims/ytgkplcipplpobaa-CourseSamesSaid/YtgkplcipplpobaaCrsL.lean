/- The document's own Loads for layer 14 (course). -/
import Derived.Test.YtgkplcipplpobaaCrsK
namespace Go.Proofs.Ytgkplcipplpobaa
open Go.RowKit
open Whn (Gr Wh)

set_option maxRecDepth 20000 in
set_option maxHeartbeats 8000000 in
theorem r_Loads (A : Option Addr) (c : Nat) (l : List ClA) (x : Cs) (B : Option Addr) (d : Nat) (hl : Wsok x.ws) (w : World) (h : Es enC w w.heap.size A l) (hB : Rows3 w w.heap.size B x.ws) :
    Calls Try.prog 21 #[.slice A l.length c, csv x B d] w (RRet (loadsC l x) w) := by
  have HRg := hid (fun X h => r_RightCs (l.length : Nat) x B d hl X h)
  have HWs := hid (fun ls h => hl.2 ls h)
  have H1 := hid h
  have H2 := hid hB
  obtain ⟨P, W, hP, hW, K, hb0⟩ := (Mem.nil w).one (csc x B d) 24
  have HPw := hid (show w.heap.size ≤ P from by omega)
  have HPW := hid (show P < W.heap.size from (K.out.at_ (b := P) (cs := csc x B d) (t := 24) (by simp)).lt)
  obtain ⟨e0, e1⟩ := K.out.cs (B := P) (x := x) (A := B) (c := d) (t := 24) (by simp)
  clear hb0 h hB hl
  cases hR : csRight (l.length : Nat) x with
  | false =>
    have Hr := hid (show loadsC l x = [] by unfold loadsC; rw [hR]; rfl)
    rw [hR] at HRg
    clear hR
    go_enter Try.func21, Try.ntmps21
    go_wp2_with fail
    refine (HRg.out _ (H2.out.next K.out.2)).mono ?_
    rintro e Y ⟨rfl, bz⟩
    have K2 := hid (K.out.next bz)
    clear e0 e1 bz K hP hW
    go_wp2_with fail
    go_ret
    refine ⟨none, 0, by rw [Hr.out]; rfl, by rw [Hr.out]; exact fun h => absurd rfl h, by rw [Hr.out]; exact Nat.le_refl _, K2.out.2, fun ad e => by cases e⟩
  | true =>
    have Hr := hid (show loadsC l x = x.ws.flatMap (loadsW l) by unfold loadsC; rw [hR]; rfl)
    obtain ⟨hw4, hwl⟩ := right_ws hR
    have Hwl := hid hwl
    rw [hR] at HRg
    have Hz := hid (ld_zero l x.ws)
    have Hyes := hid (fun k m u r h1 h2 h3 => ld_yes (l := l) (ws := x.ws) (k := k) (m := m) (u := u) (r := r) h1 h2 h3)
    have Hno := hid (fun k m u r h1 h2 h3 => ld_no (l := l) (ws := x.ws) (k := k) (m := m) (u := u) (r := r) h1 h2 h3)
    have Hway := hid (fun k u h1 => ld_way (l := l) (ws := x.ws) (k := k) (u := u) h1)
    have Hend := hid (ld_end l x.ws)
    have Hlen := hid (fun k m => ld_len (l := l) (ws := x.ws) (k := k) (m := m) hw4 (fun ls hls => allN_max (fun z hz => ((hwl ls hls).2 z hz).1) (hwl ls hls).1))
    rw [← Hr.out] at Hend
    generalize ldN l x.ws = ld at *
    generalize loadsC l x = res at *
    obtain ⟨j0, hj0, hy0, hy1, hy2⟩ := info_parts Try.info_row14
    clear hR hwl Hr
    go_enter Try.func21, Try.ntmps21
    go_wp2_with fail
    refine (HRg.out _ (H2.out.next K.out.2)).mono ?_
    rintro e Y ⟨rfl, bz⟩
    have K0 := hid (K.out.next bz)
    have HPY := hid (show P + 1 ≤ Y.heap.size from by have := HPW.out; have := bz.size; omega)
    clear e0 e1 bz K hP hW HRg
    have own0 := hid (show OwR Y (P + 1) (.slice none 0 0) (ld 0 0) from by rw [Hz.out]; exact ⟨[], World.ownsRow_nil _ _ _ _, fun k l hl => by cases hl⟩)
    go_wp2_with fail
    go_loopw [5, 6] (fun ov i wr => ∃ (k : Nat), i = .int .i64 k ∧ k ≤ x.ws.length ∧ Hid (Mem w wr [(P, csc x B d, 24)]) ∧ Hid (OwR wr (P + 1) ov (ld k 0)) ∧ Hid (P + 1 ≤ wr.heap.size)) (fun _ i _ => x.ws.length - (intOf i).toNat)
    case atStart => exact ⟨0, rfl, Nat.zero_le _, K0, own0, HPY⟩
    case round =>
      clear K0 own0 HPY
      obtain ⟨V, rfl⟩ : ∃ V, V = wr := ⟨_, rfl⟩
      obtain ⟨k, rfl, hk, K1, HO, HPV⟩ := hrel
      obtain ⟨e0, e1⟩ := K1.out.cs (B := P) (x := x) (A := B) (c := d) (t := 24) (by simp)
      by_cases hlt : k < x.ws.length
      · obtain ⟨ad, Ak, ck, u, hae, hadb, hx, hxl, hcx, hrx, hckx⟩ := H2.out.at_ hlt
        obtain ⟨hu4, hu8⟩ := Hwl.out u hxl
        have HU8 := hid hu8
        have b1 : (0 : Int) ≤ (k : Int) := by omega
        have b2 : (k : Int) < x.ws.length := by omega
        rw [hae] at e1
        have Hae := hid hae
        have hbx : (ad.add k).block < w.heap.size := by rw [add_block]; exact hadb
        have Hcx := hid hcx
        have HU := hid hrx
        have Hall := hid (fun X h => r_all Ak ck u hu4 (fun z hz => (HU8.out z hz).1) X h)
        have hcx1 := (K1.out.2.cell (p := ad.add k) hbx).trans hcx
        have Hyes1 := hid (fun m r h2 h3 => Hyes.out k m u r hx.out h2 h3)
        have Hno1 := hid (fun m r h2 h3 => Hno.out k m u r hx.out h2 h3)
        have Hway1 := hid (Hway.out k u hx.out)
        have Hlen1 := hid (Hlen.out k)
        have Hok := hid (HWs.out u hxl)
        have Hmax := hid (allN_max (fun z hz => (HU8.out z hz).1) hu4)
        have Hin := hid (show ∀ r ∈ allN u u.length, r.length ≤ 4 ∧ ∀ n ∈ r, 0 ≤ n ∧ n < (l.length : Nat) from fun r hr => ⟨by rw [allN_row hr]; exact hu4, fun n hn => by
          obtain ⟨z, hz, hnz⟩ := allN_mem hr n hn
          exact (HU8.out z hz).2 n hnz⟩)
        clear hcx hrx hckx hx hae hu8 Hyes Hno Hway Hlen Hend Hwl
        go_wp2_with fail
        refine (Hall.out _ ((HU.out.below K1.out.2 (Nat.le_refl _)).more K1.out.2.size)).mono ?_
        rintro e Y ⟨AL, cL, rfl, hrr, hcL, bz, hfr⟩
        have K2 := hid (K1.out.next bz)
        have HO2 := hid (HO.out.next bz)
        have HRR := hid hrr
        have HPY := hid (Nat.le_trans HPV.out bz.size)
        have Hap := hid (show ∀ ad, AL = some ad → ∀ (v : Value) ls, OwR V (P + 1) v ls → v.ownBlock ≠ some ad.block from fun a2 e v ls ho he => by
          have h1 := hfr a2 e
          obtain ⟨vals, ho, _⟩ := ho
          have h2 := (ho.lt _ he).2
          omega)
        have Hap1 := hid (fun (a2 : Addr) e => Hap.out a2 e _ _ HO.out)
        clear e0 e1 hcx1 bz hrr hfr K1 HO HPV Hap Hall
        obtain ⟨LL, hLL⟩ : ∃ LL, allN u u.length = LL := ⟨_, rfl⟩
        rw [hLL] at Hyes1 Hno1 Hway1 Hmax Hin HRR hcL ⊢
        clear hLL
        go_wp2_with fail
        go_loopw [5, 8] (fun ov i wr => ∃ (m : Nat), i = .int .i64 m ∧ m ≤ LL.length ∧ Hid (Mem w wr [(P, csc x B d, 24)]) ∧ Hid (OwR wr (P + 1) ov (ld k m)) ∧ Hid (RRow wr AL LL) ∧ Hid (P + 1 ≤ wr.heap.size) ∧ Hid (∀ a2, AL = some a2 → ov.ownBlock ≠ some a2.block)) (fun _ i _ => LL.length - (intOf i).toNat)
        case atStart => exact ⟨0, rfl, Nat.zero_le _, K2, HO2, HRR, HPY, Hap1⟩
        case round =>
          clear K2 HO2 HRR HPY Hap1
          obtain ⟨V2, rfl⟩ : ∃ V, V = wr := ⟨_, rfl⟩
          obtain ⟨m, rfl, hm, K2, HO2, HRR, HPY, Hap1⟩ := hrel
          by_cases hlt2 : m < LL.length
          · obtain ⟨ae, Bk, dk, r, hbe, haeb, hy, hyl, hcy, hry, hdky⟩ := HRR.out.get hlt2
            obtain ⟨hr4, hrin⟩ := Hin.out r hyl
            obtain ⟨e0, e1⟩ := K2.out.cs (B := P) (x := x) (A := B) (c := d) (t := 24) (by simp)
            rw [Hae.out] at e1
            have hcx1 := (K2.out.2.cell (p := ad.add k) hbx).trans Hcx.out
            have b3 : (0 : Int) ≤ (m : Int) := by omega
            have b4 : (m : Int) < LL.length := by omega
            have HH := hid (fun X (hX : Below V2.heap.size V2 X) => r_holds A c l Ak ck u Hok.out Bk dk r (by unfold maxLen; omega) hrin X ((H1.out.below (below2 K2.out.2 hX) (Nat.le_refl _)).more (below2 K2.out.2 hX).size) ((HU.out.below (below2 K2.out.2 hX) (Nat.le_refl _)).more (below2 K2.out.2 hX).size) (hry.next hX).its)
            have hPV2 : P < V2.heap.size := HPY.out
            have hdV2 : (ad.add k).block < V2.heap.size := Nat.lt_of_lt_of_le hbx K2.out.2.size
            have heV2 : (ae.add m).block < V2.heap.size := by rw [add_block]; exact haeb
            have HIr := hid hry
            have Hy1 := hid (fun h => Hyes1.out m r hy.out h)
            have Hn1 := hid (fun h => Hno1.out m r hy.out h)
            have Hlm := hid (Hlen1.out m)
            have hmx := Hmax.out
            subst hbe
            clear hry hrin hy hyl
            go_wp2_with fail
            have hd0 : Below V2.heap.size V2 V2.drew := (Below.refl _ V2).drew
            refine wp_region_held_drew (S := fun X => Below V2.heap.size V2 X) (by kernel_rfl) hd0 (fun hHeld => ?_)
            refine takeH 0 34 (.slice A l.length c) rfl rfl (by kernel_rfl) (by kernel_rfl) (by kernel_rfl) (fun _ _ _ h => h) (by kernel_rfl) (fun X hX => by clear hX; first | rfl | go_simp) hHeld ?_
            simp only [Act.put, List.setIfInBounds_toArray, List.set_cons_zero, List.set_cons_succ]
            refine takeH 1 35 (.pointer (some ⟨P, 1, none⟩)) rfl rfl (by kernel_rfl) (by kernel_rfl) (by kernel_rfl) (fun _ _ _ h => h) (by kernel_rfl) (fun X hX => by clear hX; first | rfl | go_simp) hHeld ?_
            simp only [Act.put, List.setIfInBounds_toArray, List.set_cons_zero, List.set_cons_succ]
            refine takeH 2 36 (.slice (some ad) x.ws.length d) rfl rfl (by kernel_rfl) (by kernel_rfl) (by kernel_rfl) (fun _ _ _ h => h) (by kernel_rfl) (fun X hX => by have q := (hX.cell (p := ⟨P, 1, none⟩) hPV2).trans e1; clear hX; go_simp) hHeld ?_
            simp only [Act.put, List.setIfInBounds_toArray, List.set_cons_zero, List.set_cons_succ]
            refine takeH 3 37 (.int .i64 (k : Int)) rfl rfl (by kernel_rfl) (by kernel_rfl) (by kernel_rfl) (fun _ _ _ h => h) (by kernel_rfl) (fun X hX => by clear hX; first | rfl | go_simp) hHeld ?_
            simp only [Act.put, List.setIfInBounds_toArray, List.set_cons_zero, List.set_cons_succ]
            refine takeH 4 38 (.pointer (some (ad.add k))) rfl rfl (by kernel_rfl) (by kernel_rfl) (by kernel_rfl) (fun _ _ _ h => h) (by kernel_rfl) (fun X hX => by clear hX; first | rfl | go_simp) hHeld ?_
            simp only [Act.put, List.setIfInBounds_toArray, List.set_cons_zero, List.set_cons_succ]
            refine takeH 5 39 (.agg #[.slice Ak u.length ck]) rfl rfl (by kernel_rfl) (by kernel_rfl) (by kernel_rfl) (fun _ _ _ h => h) (by kernel_rfl) (fun X hX => by have q := (hX.cell hdV2).trans hcx1; clear hX; go_simp) hHeld ?_
            simp only [Act.put, List.setIfInBounds_toArray, List.set_cons_zero, List.set_cons_succ]
            refine takeH 6 40 (.slice (some ae) LL.length cL) rfl rfl (by kernel_rfl) (by kernel_rfl) (by kernel_rfl) (fun _ _ _ h => h) (by kernel_rfl) (fun X hX => by clear hX; first | rfl | go_simp) hHeld ?_
            simp only [Act.put, List.setIfInBounds_toArray, List.set_cons_zero, List.set_cons_succ]
            refine takeH 7 41 (.int .i64 (m : Int)) rfl rfl (by kernel_rfl) (by kernel_rfl) (by kernel_rfl) (fun _ _ _ h => h) (by kernel_rfl) (fun X hX => by clear hX; first | rfl | go_simp) hHeld ?_
            simp only [Act.put, List.setIfInBounds_toArray, List.set_cons_zero, List.set_cons_succ]
            refine takeH 8 42 (.pointer (some (ae.add m))) rfl rfl (by kernel_rfl) (by kernel_rfl) (by kernel_rfl) (fun _ _ _ h => h) (by kernel_rfl) (fun X hX => by clear hX; first | rfl | go_simp) hHeld ?_
            simp only [Act.put, List.setIfInBounds_toArray, List.set_cons_zero, List.set_cons_succ]
            refine takeH 9 43 (.slice Bk r.length dk) rfl rfl (by kernel_rfl) (by kernel_rfl) (by kernel_rfl) (fun _ _ _ h => h) (by kernel_rfl) (fun X hX => by have q := (hX.cell heV2).trans hcy; clear hX; go_simp) hHeld ?_
            simp only [Act.put, List.setIfInBounds_toArray, List.set_cons_zero, List.set_cons_succ]
            refine wpAnyH_ready (rs := [10]) (by kernel_rfl) (by simp) ?_
            refine AllReadyH.cons rfl (fun KK hK => ?_) AllReadyH.nil
            simp only [List.getElem_toArray, List.getElem_cons_succ, List.getElem_cons_zero]
            go_simp
            refine (HH.out _ hd0).mono ?_
            rintro e Y2 ⟨rfl, b9⟩
            refine hK.out _ _ (hd0.trans b9) (fun hHeld => ?_)
            clear hK KK
            try simp only [Act.put, List.setIfInBounds_toArray, List.set_cons_zero, List.set_cons_succ]
            refine wpAnyH_done (by kernel_rfl) ?_ _
            clear hHeld
            have bz := hd0.trans b9
            have K4 := hid (K2.out.next bz)
            have HO4 := hid (HO2.out.next bz)
            have HR4 := hid (HRR.out.next bz)
            have HI4 := hid (HIr.out.next bz)
            have HP4 := hid (Nat.le_trans HPY.out bz.size)
            have haeb4 := hid (Nat.lt_of_lt_of_le haeb bz.size)
            have hcy4 := (bz.cell (p := ae.add m) (by rw [add_block]; exact haeb)).trans hcy
            clear e0 e1 hcx1 hcy bz HIr HRR HO2 K2 HPY HH
            cases hS : holdC l u r with
            | false =>
              have h1 := Hn1.out hS
              rw [← h1] at HO4
              clear Hy1 Hn1 hS
              go_wp2_with fail
              exact ⟨⟨m + 1, by go_num, by omega, K4, HO4, HR4, HP4, Hap1⟩, by simp [intOf]; omega⟩
            | true =>
              have Hld := hid (Hy1.out hS)
              obtain ⟨vals, ho, hc⟩ := HO4.out.next (below_alloc Y2 (.cells #[.slice Bk r.length dk] 29))
              have Hho := hid ho
              have Hhc := hid hc
              have q5 : (ld k m).length + 1 ≤ maxLen := by have := Hlm.out; unfold maxLen; omega
              have q6 : ((ld k m).length + 1) * 24 ≤ 140737488355328 := by have := Hlm.out; omega
              have hsz := le_alloc HP4.out (.cells #[.slice Bk r.length dk] 29)
              clear Hy1 Hn1 hS ho hc
              go_wp2_with (at_builtin; refine wpList_append_apartN rfl _ _ 34 34 rfl (P + 1) 29 j0 (.slice none 0 0) 1 24 Try.underlying34 hj0 hy0 hy1 hy2 rfl _ _ _ rfl Hho.out _ _ _ rfl (src_obv Try.underlying34 (Ob.new _ [_] _) rfl) q5 q6 hsz ?_; intro v1 w5 hown2 hgr hap)
              have hB : Below (P + 1) Y2 w5 := ((Below.refl (P + 1) Y2).alloc HP4.out _).grown hgr (le_alloc HP4.out _) (fun k hk => (Hho.out.lt k hk).1)
              have K5 : Mem w w5 [(P, csc x B d, 24)] := ⟨fun p hp => (K4.out.1 p hp).below hB (by
                simp only [List.mem_cons, List.not_mem_nil, or_false] at hp
                subst hp
                show P < P + 1; omega), K4.out.2.trans (hB.mono (by have := HPw.out; omega))⟩
              have HR5 := hid ((HR4.out.next (below_alloc Y2 (.cells #[.slice Bk r.length dk] 29))).grown hgr (OwR.typ Hho.out) (fun a2 e h => Hap1.out a2 e h.symm))
              have HO5 := hid (OwR.push Hho.out Hhc.out (HI4.out.next (below_alloc Y2 (.cells #[.slice Bk r.length dk] 29))) hdky hgr hown2)
              rw [← Hld.out] at HO5
              have hp5 : P + 1 ≤ w5.heap.size := Nat.le_trans HP4.out hB.size
              have Hap5 := hid (show ∀ a2, some ae = some a2 → v1.ownBlock ≠ some a2.block from fun a2 e h => by
                rcases hap with h2 | h2
                · exact Hap1.out a2 e (h2.symm.trans h)
                · rw [h2] at h
                  injection e with e
                  subst e
                  injection h with h
                  have := haeb4.out
                  have := (below_alloc Y2 (.cells #[.slice Bk r.length dk] 29)).size
                  omega)
              exact ⟨⟨m + 1, by go_num, by omega, hid K5, HO5, HR5, hid hp5, Hap5⟩, by simp [intOf]; omega⟩
          · obtain rfl : m = LL.length := by omega
            have b4 : ¬ (LL.length : Int) < LL.length := by omega
            rw [Hway1.out] at HO2
            clear Hyes1 Hno1 Hway1 Hin
            go_wp2_with fail
            exact ⟨⟨k + 1, by go_num, by omega, K2, HO2, HPY⟩, by simp [intOf]; omega⟩
      · obtain rfl : k = x.ws.length := by omega
        have b2 : ¬ (x.ws.length : Int) < x.ws.length := by omega
        rw [Hend.out] at HO
        obtain ⟨A1, c1, rfl, hr1, hc1, ha1⟩ := HO.out.rrow
        have Hbs := hid (fun (a2 : Addr) e => show w.heap.size ≤ a2.block from by
          obtain ⟨vals, ho, _⟩ := HO.out
          have := (ho.lt _ (ha1 a2 e).symm).1
          have := HPw.out
          omega)
        have HA := hid hr1
        clear Hyes Hno Hway Hlen Hend Hwl hr1 ha1 HO
        go_wp2_with fail
        go_ret
        exact ⟨A1, c1, rfl, HA.out, hc1, K1.out.2, Hbs.out⟩
end Go.Proofs.Ytgkplcipplpobaa
