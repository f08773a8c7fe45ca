/- The document's own answers for layer 17 (problem): student, weigh, first. The document's own answers for layer 17 (problem): first. -/
import Derived.Test.YtgmgccepmalahaaGreatPrbB
namespace Go.Proofs.YtgmgccepmalahaaGreat
open Go.RowKit
open Whn (Gr Wh)

theorem Mem.st {w X : World} {l : Obs} (h : Mem w X l) {B : Nat} {x : StA} {t : TypeId} (hm : (B, enS x, t) ∈ l) : X.cell? ⟨B, 0, none⟩ = some (txt x.x.n) ∧ X.cell? ⟨B, 1, none⟩ = some (.slice x.a x.x.l.length x.c) := ⟨h.cell hm rfl, h.cell hm rfl⟩
def stB (n : Int) (x : St) : Bool := nameOk x.n && (decide (x.l.length ≤ 6) && risingB x.l n)
set_option maxRecDepth 20000 in
set_option maxHeartbeats 4000000 in
theorem r17_student (n : Int) (x : StA) (w : World) (h : StIn w x) : Calls Tryz.prog 145 #[.int .i64 n, stv x.x x.a x.c] w (Did (.bool (stB n x.x)) w) := by
  have HN := hid (fun X => r_Name (bs x.x.n) X)
  rw [bs_data] at HN
  have hl := h.2.2.1
  have hlm : x.x.l.length ≤ maxLen := by omega
  have HR := hid (fun X h => r_Rising x.a x.c x.x.l hlm n X h)
  have H := hid h.2.1
  have Hr := hid (show stB n x.x = (nameOk x.x.n && (decide (x.x.l.length ≤ 6) && risingB x.x.l n)) from rfl)
  generalize stB n x.x = rr at *
  generalize nameOk x.x.n = nk at *
  generalize risingB x.x.l n = ri at *
  obtain ⟨R, W, hR, hW, K, hb0⟩ := (Mem.nil w).one (enS x) 70
  obtain ⟨c0, c1⟩ := K.out.st (B := R) (x := x) (t := 70) (by simp)
  clear h hb0
  obtain ⟨L, hL⟩ : ∃ L, x.x.l.length = L := ⟨_, rfl⟩
  unfold stv
  unfold enS at hW K
  rw [hL] at c1 hW K HR Hr ⊢
  unfold maxLen at hl
  rw [hL] at hl
  clear hL hlm
  cases nk with
  | false =>
    rw [Bool.false_and] at Hr
    go_enter Tryz.func145, Tryz.ntmps145
    go_wp2_with fail
    refine (HN.out _).mono ?_
    rintro e w1 ⟨rfl, rfl⟩
    go_wp2_with fail
    go_ret
    exact Did.mk (by rw [Hr.out]; rfl) K.out.2
  | true =>
    rw [Bool.true_and] at Hr
    by_cases h6 : L ≤ 6
    · have u1 : (L : Int) ≤ 6 := by omega
      rw [decide_eq_true h6, Bool.true_and] at Hr
      clear h6
      go_enter Tryz.func145, Tryz.ntmps145
      go_wp2_with fail
      refine (HN.out _).mono ?_
      rintro e w1 ⟨rfl, rfl⟩
      go_wp2_with fail
      refine (HR.out _ ((H.out.below K.out.2 (Nat.le_refl _)).more K.out.2.size)).mono ?_
      rintro e w1 ⟨rfl, bz⟩
      have K1 := hid (K.out.next bz)
      clear c0 c1
      go_wp2_with fail
      go_ret
      exact Did.mk (by rw [Hr.out]; rfl) K1.out.2
    · have u1 : ¬ (L : Int) ≤ 6 := by omega
      rw [decide_eq_false h6, Bool.false_and] at Hr
      clear h6
      go_enter Tryz.func145, Tryz.ntmps145
      go_wp2_with fail
      refine (HN.out _).mono ?_
      rintro e w1 ⟨rfl, rfl⟩
      go_wp2_with fail
      go_ret
      exact Did.mk (by rw [Hr.out]; rfl) K.out.2
/-! ### weights -/
def wtB (l : List Int) : Bool := l.all fun n => decide (0 ≤ n) && decide (n ≤ 1000)
theorem ob_its {X : World} {g : Nat} {L : List Int} {t : TypeId} (h : Ob X g (L.map (Value.int .i64)) t) : Its X X.heap.size (some ⟨g, 0, none⟩) L := fun _ => ⟨_, rfl, h.lt, fun k v hk => by
  have := h.cell hk
  rcases Nat.eq_zero_or_pos k with rfl | hp
  · exact this
  · rw [show ((⟨g, 0, none⟩ : Addr).add k) = ⟨g, k, none⟩ by unfold Addr.add; simp; omega]
    exact this⟩
abbrev wgv (a b c d : Int) : Value := .agg #[.int .i64 a, .int .i64 b, .int .i64 c, .int .i64 d]
set_option maxRecDepth 20000 in
set_option maxHeartbeats 4000000 in
theorem r17_weigh (a b c d : Int) (w : World) : Calls Tryz.prog 57 #[wgv a b c d] w (Did (.bool (wtB [a, b, c, d])) w) := by
  obtain ⟨R, W, hR, hW, K, hb0⟩ := (Mem.nil w).one [.int .i64 a, .int .i64 b, .int .i64 c, .int .i64 d] 32
  have c0 := K.out.cell (b := R) (cs := [.int .i64 a, .int .i64 b, .int .i64 c, .int .i64 d]) (t := 32) (by simp) (k := 0) rfl
  have c1 := K.out.cell (b := R) (cs := [.int .i64 a, .int .i64 b, .int .i64 c, .int .i64 d]) (t := 32) (by simp) (k := 1) rfl
  have c2 := K.out.cell (b := R) (cs := [.int .i64 a, .int .i64 b, .int .i64 c, .int .i64 d]) (t := 32) (by simp) (k := 2) rfl
  have c3 := K.out.cell (b := R) (cs := [.int .i64 a, .int .i64 b, .int .i64 c, .int .i64 d]) (t := 32) (by simp) (k := 3) rfl
  obtain ⟨Q, V, hQ, hV, K2, hb2⟩ := K.out.one [.int .i64 a, .int .i64 b, .int .i64 c, .int .i64 d] 3
  have hI := hid (ob_its (L := [a, b, c, d]) (K2.out.at_ (b := Q) (cs := [.int .i64 a, .int .i64 b, .int .i64 c, .int .i64 d]) (t := 3) (by simp)))
  have K3 := hid (K2.out.sub (l' := []) (by simp))
  clear hb0 hb2 K K2
  have hl4 : [a, b, c, d].length = 4 := rfl
  have Hr : Hid (∀ (i : Nat) (y : Int), [a, b, c, d][i]? = some y → (decide (0 ≤ y) && decide (y ≤ 1000)) = false → wtB [a, b, c, d] = false) := hid (fun i y hy h => by
    unfold wtB
    rw [List.all_eq_false]
    exact ⟨y, List.mem_of_getElem? hy, by rw [h]; decide⟩)
  have Hy : Hid ((∀ (i : Nat) (y : Int), i < 4 → [a, b, c, d][i]? = some y → (decide (0 ≤ y) && decide (y ≤ 1000)) = true) → wtB [a, b, c, d] = true) := hid (fun h => by
    unfold wtB
    rw [List.all_eq_true]
    intro y hy
    obtain ⟨i, hi⟩ := List.mem_iff_getElem?.1 hy
    exact h i y (by have := (List.getElem?_eq_some_iff.1 hi).1; exact this) hi)
  generalize wtB [a, b, c, d] = rr at *
  go_enter Tryz.func57, Tryz.ntmps57
  go_wp2_with fail
  generalize hll : [a, b, c, d] = ll at *
  clear c0 c1 c2 c3 hll
  go_loopw [4] (fun iv wr => ∃ i : Nat, iv = .int .i64 i ∧ i ≤ 4 ∧ Hid (∀ (j : Nat) (y : Int), j < i → ll[j]? = some y → (decide (0 ≤ y) && decide (y ≤ 1000)) = true) ∧ Hid (Below V.heap.size V wr)) (fun iv _ => 4 - (intOf iv).toNat)
  case atStart => exact ⟨0, rfl, Nat.zero_le _, hid (fun j y hj _ => absurd hj (Nat.not_lt_zero j)), hid (Below.refl _ _)⟩
  case round =>
    obtain ⟨i, rfl, hi, HA, HBy⟩ := hrel
    by_cases hlt : i < 4
    · obtain ⟨ad, y, e1, had, hy, hc⟩ := Its.get (hI.out.below HBy.out (Nat.le_refl _)) (k := i) (by rw [hl4]; exact hlt)
      injection e1 with e1
      subst e1
      rw [show ((⟨Q, 0, none⟩ : Addr).add i) = ⟨Q, i, none⟩ by unfold Addr.add; split <;> simp_all] at hc
      have i1 : (0 : Int) ≤ (i : Int) := by omega
      have i2 : (i : Int) < 4 := by omega
      by_cases h0 : 0 ≤ y
      · by_cases h1 : y ≤ 1000
        · have y1 : ¬ y < 0 := by omega
          have y2 : ¬ 1000 < y := by omega
          have Hq := hid (show (decide (0 ≤ y) && decide (y ≤ 1000)) = true by rw [decide_eq_true h0, decide_eq_true h1]; rfl)
          clear h0 h1
          go_wp2_with fail
          exact ⟨⟨i + 1, by go_num, by omega, hid (fun j z hj hz => by
            rcases Nat.lt_succ_iff_lt_or_eq.1 hj with h | rfl
            · exact HA.out j z h hz
            · obtain rfl := Option.some.inj (hz.symm.trans hy.out)
              exact Hq.out), HBy⟩, by simp [intOf]; omega⟩
        · have y1 : ¬ y < 0 := by omega
          have y2 : 1000 < y := by omega
          have Hd := hid (Hr.out i y hy.out (by rw [decide_eq_false h1, Bool.and_false]))
          clear h0 h1
          go_wp2_with fail
          go_ret
          exact Did.mk (by rw [Hd.out]; rfl) (K3.out.2.trans (HBy.out.mono K3.out.2.size))
      · have y1 : y < 0 := by omega
        have Hd := hid (Hr.out i y hy.out (by rw [decide_eq_false h0, Bool.false_and]))
        clear h0
        go_wp2_with fail
        go_ret
        exact Did.mk (by rw [Hd.out]; rfl) (K3.out.2.trans (HBy.out.mono K3.out.2.size))
    · obtain rfl : i = 4 := by omega
      have Hd := hid (Hy.out (fun j y hj hy => HA.out j y hj hy))
      go_wp2_with fail
      go_ret
      exact Did.mk (by rw [Hd.out]; rfl) (K3.out.2.trans (HBy.out.mono K3.out.2.size))
/-! ### the first that is wrong -/
def badAt (ns : List (List UInt8)) (rs : List Bool) (most : Int) (i : Nat) : Bool := decide ((i : Int) = most) || (!(rs.getD i false) || (ns.take i).any (fun z => decide (z = ns.getD i [])))
def fst17 (ns : List (List UInt8)) (rs : List Bool) (most : Int) : Int := match (List.range ns.length).find? (badAt ns rs most) with | some i => (i : Int) | none => -1
theorem find_range {p : Nat → Bool} {n i : Nat} (hi : i < n) (h : p i = true) (hb : ∀ j, j < i → p j = false) : (List.range n).find? p = some i := by
  rw [List.find?_range_eq_some]
  exact ⟨h, List.mem_range.2 hi, fun j hj => by rw [hb j hj]; rfl⟩
theorem fst17_some {ns : List (List UInt8)} {rs : List Bool} {most : Int} {i : Nat} (hi : i < ns.length) (h : badAt ns rs most i = true) (hb : ∀ j, j < i → badAt ns rs most j = false) : fst17 ns rs most = (i : Int) := by
  unfold fst17; rw [find_range hi h hb]
theorem fst17_none {ns : List (List UInt8)} {rs : List Bool} {most : Int} (hb : ∀ j, j < ns.length → badAt ns rs most j = false) : fst17 ns rs most = -1 := by
  unfold fst17
  rw [List.find?_eq_none.2 (fun j hj => by rw [hb j (List.mem_range.1 hj)]; decide)]
end Go.Proofs.YtgmgccepmalahaaGreat
namespace Go.Proofs.YtgmgccepmalahaaGreat
open Go.RowKit
open Whn (Gr Wh)

theorem any_step {ns : List (List UInt8)} {z : List UInt8} {k : Nat} {y : List UInt8} (h : ns[k]? = some y) : (ns.take (k + 1)).any (fun u => decide (u = z)) = ((ns.take k).any (fun u => decide (u = z)) || decide (y = z)) := by
  rw [List.take_add_one, h, List.any_append]
  simp
set_option maxRecDepth 20000 in
set_option maxHeartbeats 4000000 in
theorem r17_first (ns : List (List UInt8)) (rs : List Bool) (most : Int) (hl : rs.length = ns.length) (hm : ns.length ≤ 100000) (A A2 : Option Addr) (c c2 : Nat) (w : World) (h : Rd w w.heap.size A (ns.map txt)) (h2 : Rd w w.heap.size A2 (rs.map Value.bool)) :
    Calls Tryz.prog 141 #[.slice A ns.length c, .slice A2 rs.length c2, .int .i64 most] w (Did (.int .i64 (fst17 ns rs most)) w) := by
  have H := hid h
  have H2 := hid h2
  have Hs := hid (fun i (hi : i < ns.length) h hb => fst17_some (ns := ns) (rs := rs) (most := most) (i := i) hi h hb)
  have Hn := hid (fun hb => fst17_none (ns := ns) (rs := rs) (most := most) hb)
  have Hb := hid (fun i z (hz : ns[i]? = some z) q (hq : rs[i]? = some q) => show badAt ns rs most i = (decide ((i : Int) = most) || (!q || (ns.take i).any (fun u => decide (u = z)))) by
    unfold badAt
    rw [List.getD_eq_getElem?_getD, hq, List.getD_eq_getElem?_getD, hz]; rfl)
  have Hst := hid (fun (z : List UInt8) k y (h : ns[k]? = some y) => any_step (z := z) h)
  have Hz0 := hid (fun (z : List UInt8) => show (ns.take 0).any (fun u => decide (u = z)) = false from rfl)
  generalize fst17 ns rs most = rr at *
  generalize badAt ns rs most = bd at *
  obtain ⟨an, han⟩ : ∃ an : List UInt8 → Nat → Bool, ∀ z k, (ns.take k).any (fun u => decide (u = z)) = an z k := ⟨_, fun _ _ => rfl⟩
  simp only [han] at Hb Hst Hz0
  clear h h2 han
  have hl2 := hid hl
  rw [hl]
  clear hl
  go_enter Tryz.func141, Tryz.ntmps141
  go_wp2_with fail
  go_loopw [7, 8] (fun iv kv wr => ∃ i : Nat, iv = .int .i64 i ∧ i ≤ ns.length ∧ Hid (∀ j, j < i → bd j = false) ∧ Hid (Below w.heap.size w wr)) (fun iv _ _ => ns.length - (intOf iv).toNat)
  case atStart => exact ⟨0, rfl, Nat.zero_le _, hid (fun j hj => absurd hj (Nat.not_lt_zero j)), hid (Below.refl _ _)⟩
  case round =>
    obtain ⟨i, rfl, hi, HA, HBy⟩ := hrel
    by_cases hlt : i < ns.length
    · obtain ⟨ad, rfl, had, hc⟩ := Rd.at_ (H.out.below HBy.out (Nat.le_refl _)) (k := i) (by rw [List.length_map]; exact hlt)
      obtain ⟨ad2, rfl, had2, hc2⟩ := Rd.at_ (H2.out.below HBy.out (Nat.le_refl _)) (k := i) (by rw [List.length_map, hl2.out]; exact hlt)
      obtain ⟨z, hz⟩ : ∃ z, ns[i]? = some z := ⟨_, List.getElem?_eq_getElem hlt⟩
      obtain ⟨q, hq⟩ : ∃ q, rs[i]? = some q := ⟨_, List.getElem?_eq_getElem (by rw [hl2.out]; exact hlt)⟩
      rw [List.getElem_map] at hc hc2
      obtain rfl : ns[i] = z := by have := List.getElem?_eq_getElem hlt; rw [hz] at this; exact (Option.some.inj this).symm
      have hq2 : rs[i]'(by rw [hl2.out]; exact hlt) = q := by have := List.getElem?_eq_getElem (l := rs) (i := i) (by rw [hl2.out]; exact hlt); rw [hq] at this; exact (Option.some.inj this).symm
      rw [hq2] at hc2
      have Hbi := hid (Hb.out i _ hz q hq)
      generalize hzz : ns[i] = z at *
      have Hzi := hid hz
      clear hzz hz hq hq2
      have i1 : (0 : Int) ≤ (i : Int) := by omega
      have i2 : (i : Int) < (ns.length : Int) := by omega
      by_cases hmo : (i : Int) = most
      · have e1 : ((i : Int) == most) = true := by rw [beq_iff_eq]; exact hmo
        have Hd := hid (Hs.out i hlt (by rw [Hbi.out, decide_eq_true hmo]; rfl) HA.out)
        clear hmo
        go_wp2_with fail
        go_ret
        exact Did.mk (by rw [Hd.out]; rfl) HBy.out
      · have e1 : ((i : Int) == most) = false := by rw [beq_eq_false_iff_ne]; exact hmo
        rw [decide_eq_false hmo, Bool.false_or] at Hbi
        clear hmo
        cases q with
        | false =>
          have Hd := hid (Hs.out i hlt (by rw [Hbi.out]; rfl) HA.out)
          go_wp2_with fail
          go_ret
          exact Did.mk (by rw [Hd.out]; rfl) HBy.out
        | true =>
          rw [Bool.not_true, Bool.false_or] at Hbi
          go_wp2_with fail
          go_loopw [8] (fun kv wr => ∃ k : Nat, kv = .int .i64 k ∧ k ≤ i ∧ Hid (an z k = false) ∧ Hid (Below w.heap.size w wr)) (fun kv _ => i - (intOf kv).toNat)
          case atStart => exact ⟨0, rfl, Nat.zero_le _, hid (Hz0.out z), HBy⟩
          case round =>
            clear HBy hc hc2
            obtain ⟨k, rfl, hk, HK, HBy⟩ := hrel
            by_cases hki : k < i
            · obtain ⟨y, hy⟩ : ∃ y, ns[k]? = some y := ⟨_, List.getElem?_eq_getElem (by omega)⟩
              have Hcy := hid (fun X (hb : Below w.heap.size w X) => show X.cell? (ad.add k) = some (txt y) from by
                obtain ⟨ad', e', _, hck⟩ := Rd.at_ (H.out.below hb (Nat.le_refl _)) (k := k) (by rw [List.length_map]; omega)
                injection e' with e'
                subst e'
                rw [List.getElem_map] at hck
                have hy2 : ns[k]'(by omega) = y := by have := List.getElem?_eq_getElem (l := ns) (i := k) (by omega); rw [hy] at this; exact (Option.some.inj this).symm
                rwa [hy2] at hck)
              have Hcz := hid (fun X (hb : Below w.heap.size w X) => show X.cell? (ad.add i) = some (txt z) from by
                obtain ⟨ad', e', _, hck⟩ := Rd.at_ (H.out.below hb (Nat.le_refl _)) (k := i) (by rw [List.length_map]; omega)
                injection e' with e'
                subst e'
                rw [List.getElem_map] at hck
                have hy2 : ns[i]'(by omega) = z := by have := List.getElem?_eq_getElem (l := ns) (i := i) (by omega); rw [Hzi.out] at this; exact (Option.some.inj this).symm
                rwa [hy2] at hck)
              have Hsk := hid (Hst.out z k y hy)
              clear hy
              have k1 : (0 : Int) ≤ (k : Int) := by omega
              have k2 : (k : Int) < (i : Int) := by omega
              have k3 : (k : Int) < (ns.length : Int) := by omega
              by_cases hyz : y = z
              · have q1 : ((bs y).toList == (bs z).toList) = true := by rw [hyz]; simp
                have Hd := hid (Hs.out i hlt (by
                  rw [Hbi.out]
                  have key : ∀ m, k < m → m ≤ ns.length → an z m = true := by
                    intro m
                    induction m with
                    | zero => intro h; exact absurd h (Nat.not_lt_zero _)
                    | succ m ih =>
                      intro h1 h2
                      obtain ⟨u, hu⟩ : ∃ u, ns[m]? = some u := ⟨_, List.getElem?_eq_getElem (by omega)⟩
                      rw [Hst.out z m u hu]
                      rcases Nat.lt_succ_iff_lt_or_eq.1 h1 with h | rfl
                      · rw [ih h (by omega)]; rfl
                      · rw [← Hst.out z k u hu, Hsk.out, decide_eq_true hyz, Bool.or_true]
                  exact key i hki (by omega)) HA.out)
                clear hyz
                go_wp2_with fail
                refine wp_region_held_drew (S := fun X => Below w.heap.size w X) (by kernel_rfl) HBy.out.drew (fun hHeld => ?_)
                refine takeH 0 31 (.slice (some ad) ns.length c) rfl rfl (by kernel_rfl) (by kernel_rfl) (by kernel_rfl) (fun _ _ _ h => h) (by kernel_rfl) (fun X hX => by clear hX; first | rfl | go_simp) hHeld ?_
                simp only [Act.put, List.setIfInBounds_toArray, List.set_cons_zero, List.set_cons_succ]
                refine takeH 1 32 (.int .i64 k) rfl rfl (by kernel_rfl) (by kernel_rfl) (by kernel_rfl) (fun _ _ _ h => h) (by kernel_rfl) (fun X hX => by clear hX; first | rfl | go_simp) hHeld ?_
                simp only [Act.put, List.setIfInBounds_toArray, List.set_cons_zero, List.set_cons_succ]
                refine takeH 2 33 (.pointer (some (ad.add k))) rfl rfl (by kernel_rfl) (by kernel_rfl) (by kernel_rfl) (fun _ _ _ h => h) (by kernel_rfl) (fun X hX => by clear hX; first | rfl | go_simp) hHeld ?_
                simp only [Act.put, List.setIfInBounds_toArray, List.set_cons_zero, List.set_cons_succ]
                refine takeH 3 34 (txt y) rfl rfl (by kernel_rfl) (by kernel_rfl) (by kernel_rfl) (fun _ _ _ h => h) (by kernel_rfl) (fun X hX => by have yc := Hcy.out _ hX; clear hX; go_simp) hHeld ?_
                simp only [Act.put, List.setIfInBounds_toArray, List.set_cons_zero, List.set_cons_succ]
                refine takeH 4 35 (.slice (some ad) ns.length c) rfl rfl (by kernel_rfl) (by kernel_rfl) (by kernel_rfl) (fun _ _ _ h => h) (by kernel_rfl) (fun X hX => by clear hX; first | rfl | go_simp) hHeld ?_
                simp only [Act.put, List.setIfInBounds_toArray, List.set_cons_zero, List.set_cons_succ]
                refine takeH 5 36 (.int .i64 i) rfl rfl (by kernel_rfl) (by kernel_rfl) (by kernel_rfl) (fun _ _ _ h => h) (by kernel_rfl) (fun X hX => by clear hX; first | rfl | go_simp) hHeld ?_
                simp only [Act.put, List.setIfInBounds_toArray, List.set_cons_zero, List.set_cons_succ]
                refine takeH 6 37 (.pointer (some (ad.add i))) rfl rfl (by kernel_rfl) (by kernel_rfl) (by kernel_rfl) (fun _ _ _ h => h) (by kernel_rfl) (fun X hX => by clear hX; first | rfl | go_simp) hHeld ?_
                simp only [Act.put, List.setIfInBounds_toArray, List.set_cons_zero, List.set_cons_succ]
                refine takeH 7 38 (txt z) rfl rfl (by kernel_rfl) (by kernel_rfl) (by kernel_rfl) (fun _ _ _ h => h) (by kernel_rfl) (fun X hX => by have yc := Hcz.out _ hX; clear hX; go_simp) hHeld ?_
                simp only [Act.put, List.setIfInBounds_toArray, List.set_cons_zero, List.set_cons_succ]
                refine takeH 8 39 (.bool true) rfl rfl (by kernel_rfl) (by kernel_rfl) (by kernel_rfl) (fun _ _ _ h => h) (by kernel_rfl) (fun X hX => by clear hX; first | rfl | go_simp) hHeld ?_
                simp only [Act.put, List.setIfInBounds_toArray, List.set_cons_zero, List.set_cons_succ]
                refine wpAnyH_done (by kernel_rfl) ?_ _
                clear hHeld
                go_wp2_with fail
                go_ret
                exact Did.mk (by rw [Hd.out]; rfl) HBy.out.drew
              · have q1 : ((bs y).toList == (bs z).toList) = false := by rw [list_of, list_of, bs_data, bs_data, beq_eq_false_iff_ne]; exact hyz
                have Hk2 := hid (show an z (k + 1) = false by rw [Hsk.out, HK.out, decide_eq_false hyz]; rfl)
                clear hyz
                go_wp2_with fail
                refine wp_region_held_drew (S := fun X => Below w.heap.size w X) (by kernel_rfl) HBy.out.drew (fun hHeld => ?_)
                refine takeH 0 31 (.slice (some ad) ns.length c) rfl rfl (by kernel_rfl) (by kernel_rfl) (by kernel_rfl) (fun _ _ _ h => h) (by kernel_rfl) (fun X hX => by clear hX; first | rfl | go_simp) hHeld ?_
                simp only [Act.put, List.setIfInBounds_toArray, List.set_cons_zero, List.set_cons_succ]
                refine takeH 1 32 (.int .i64 k) rfl rfl (by kernel_rfl) (by kernel_rfl) (by kernel_rfl) (fun _ _ _ h => h) (by kernel_rfl) (fun X hX => by clear hX; first | rfl | go_simp) hHeld ?_
                simp only [Act.put, List.setIfInBounds_toArray, List.set_cons_zero, List.set_cons_succ]
                refine takeH 2 33 (.pointer (some (ad.add k))) rfl rfl (by kernel_rfl) (by kernel_rfl) (by kernel_rfl) (fun _ _ _ h => h) (by kernel_rfl) (fun X hX => by clear hX; first | rfl | go_simp) hHeld ?_
                simp only [Act.put, List.setIfInBounds_toArray, List.set_cons_zero, List.set_cons_succ]
                refine takeH 3 34 (txt y) rfl rfl (by kernel_rfl) (by kernel_rfl) (by kernel_rfl) (fun _ _ _ h => h) (by kernel_rfl) (fun X hX => by have yc := Hcy.out _ hX; clear hX; go_simp) hHeld ?_
                simp only [Act.put, List.setIfInBounds_toArray, List.set_cons_zero, List.set_cons_succ]
                refine takeH 4 35 (.slice (some ad) ns.length c) rfl rfl (by kernel_rfl) (by kernel_rfl) (by kernel_rfl) (fun _ _ _ h => h) (by kernel_rfl) (fun X hX => by clear hX; first | rfl | go_simp) hHeld ?_
                simp only [Act.put, List.setIfInBounds_toArray, List.set_cons_zero, List.set_cons_succ]
                refine takeH 5 36 (.int .i64 i) rfl rfl (by kernel_rfl) (by kernel_rfl) (by kernel_rfl) (fun _ _ _ h => h) (by kernel_rfl) (fun X hX => by clear hX; first | rfl | go_simp) hHeld ?_
                simp only [Act.put, List.setIfInBounds_toArray, List.set_cons_zero, List.set_cons_succ]
                refine takeH 6 37 (.pointer (some (ad.add i))) rfl rfl (by kernel_rfl) (by kernel_rfl) (by kernel_rfl) (fun _ _ _ h => h) (by kernel_rfl) (fun X hX => by clear hX; first | rfl | go_simp) hHeld ?_
                simp only [Act.put, List.setIfInBounds_toArray, List.set_cons_zero, List.set_cons_succ]
                refine takeH 7 38 (txt z) rfl rfl (by kernel_rfl) (by kernel_rfl) (by kernel_rfl) (fun _ _ _ h => h) (by kernel_rfl) (fun X hX => by have yc := Hcz.out _ hX; clear hX; go_simp) hHeld ?_
                simp only [Act.put, List.setIfInBounds_toArray, List.set_cons_zero, List.set_cons_succ]
                refine takeH 8 39 (.bool false) rfl rfl (by kernel_rfl) (by kernel_rfl) (by kernel_rfl) (fun _ _ _ h => h) (by kernel_rfl) (fun X hX => by clear hX; first | rfl | go_simp) hHeld ?_
                simp only [Act.put, List.setIfInBounds_toArray, List.set_cons_zero, List.set_cons_succ]
                refine wpAnyH_done (by kernel_rfl) ?_ _
                clear hHeld
                go_wp2_with fail
                exact ⟨⟨k + 1, by go_num, by omega, Hk2, hid HBy.out.drew⟩, by simp [intOf]; omega⟩
            · obtain rfl : k = i := by omega
              have k2 : ¬ (k : Int) < (k : Int) := by omega
              have Hbf := hid (Hbi.out.trans HK.out)
              go_wp2_with fail
              exact ⟨⟨k + 1, by go_num, by omega, hid (fun j hj => by
                rcases Nat.lt_succ_iff_lt_or_eq.1 hj with h | rfl
                · exact HA.out j h
                · exact Hbf.out), HBy⟩, by simp [intOf]; omega⟩
    · obtain rfl : i = ns.length := by omega
      have i2 : ¬ (ns.length : Int) < (ns.length : Int) := by omega
      have Hd := hid (Hn.out HA.out)
      go_wp2_with fail
      go_ret
      exact Did.mk (by rw [Hd.out]; rfl) HBy.out
end Go.Proofs.YtgmgccepmalahaaGreat
