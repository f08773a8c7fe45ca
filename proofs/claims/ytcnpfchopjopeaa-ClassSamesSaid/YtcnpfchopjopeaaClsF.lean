/- The document's own answers for layer 13 (class): Cheapest. -/
import Derived.Test.YtcnpfchopjopeaaClsE
import Derived.Test.YtcnpfchopjopeaaClsC
namespace Go.Proofs.Ytcnpfchopjopeaa
open Go.RowKit
open Whn (Gr Wh)

/-- the first of the cheapest, and what it costs: at -1 there is none -/
def chp (f : Se → Int × Int) (l : List Se) : Nat → Int × Int
  | 0 => (-1, 0)
  | k + 1 => match l[k]? with
    | some s => if (chp f l k).1 < 0 ∨ (f s).1 < (chp f l k).2 - (f s).2 then ((k : Int), (f s).1 + (f s).2) else chp f l k
    | none => chp f l k
theorem chp_some {f : Se → Int × Int} {l : List Se} {k : Nat} {s : Se} (h : l[k]? = some s) : chp f l (k + 1) = if (chp f l k).1 < 0 ∨ (f s).1 < (chp f l k).2 - (f s).2 then ((k : Int), (f s).1 + (f s).2) else chp f l k := by
  rw [chp, h]
theorem chp_bnd {f : Se → Int × Int} {l : List Se} (hf : ∀ s ∈ l, -1000000 ≤ (f s).1 ∧ (f s).1 ≤ 1000000 ∧ -1000000 ≤ (f s).2 ∧ (f s).2 ≤ 1000000) (k : Nat) (hk : k ≤ l.length) : -1 ≤ (chp f l k).1 ∧ (chp f l k).1 < k ∧ -2000000 ≤ (chp f l k).2 ∧ (chp f l k).2 ≤ 2000000 := by
  induction k with
  | zero => exact ⟨Int.le_refl _, by show (-1 : Int) < 0; omega, by show (-2000000 : Int) ≤ 0; omega, by show (0 : Int) ≤ 2000000; omega⟩
  | succ k ih =>
    have := ih (by omega)
    rw [chp_some (List.getElem?_eq_getElem (show k < l.length by omega))]
    have := hf l[k] (List.getElem_mem _)
    split
    · simp only; omega
    · omega
def cheap (x : Cl) : Int × Int := chp (fun s => (costT x s, costP x s)) (seats x) (seats x).length
def cheapS (x : Cl) : Se := if (cheap x).1 < 0 then ⟨0, 0⟩ else (seats x).getD (cheap x).1.toNat ⟨0, 0⟩
def cheapN (x : Cl) : Int := if (cheap x).1 < 0 then 0 else (cheap x).2
/-- no costs beyond all bounds -/
def Tame (x : Cl) : Prop := (∀ y ∈ x.t, -1000000 ≤ y.c ∧ y.c ≤ 1000000) ∧ ∀ y ∈ x.l, -1000000 ≤ y.c ∧ y.c ≤ 1000000
theorem costT_bnd {x : Cl} (h : Tame x) (s : Se) : -1000000 ≤ costT x s ∧ costT x s ≤ 1000000 := by
  unfold costT
  split
  · rw [List.getD_eq_getElem?_getD]
    cases hq : x.t[s.t.toNat]? with
    | none => show (-1000000 : Int) ≤ 0 ∧ (0 : Int) ≤ 1000000; omega
    | some y => exact h.1 y (List.mem_of_getElem? hq)
  · omega
theorem costP_bnd {x : Cl} (h : Tame x) (s : Se) : -1000000 ≤ costP x s ∧ costP x s ≤ 1000000 := by
  unfold costP
  split
  · rw [List.getD_eq_getElem?_getD]
    cases hq : x.l[s.p.toNat]? with
    | none => show (-1000000 : Int) ≤ 0 ∧ (0 : Int) ≤ 1000000; omega
    | some y => exact h.2 y (List.mem_of_getElem? hq)
  · omega
theorem Clw.next2 {w w' : World} {x : Cl} {r : Cw} (h : Clw w w.heap.size x r) (hb : Below w.heap.size w w') : Clw w' w'.heap.size x r := h.next hb
set_option maxRecDepth 20000 in
set_option maxHeartbeats 4000000 in
theorem r_Cheapest (x : Cl) (r : Cw) (hN : x.t.length ≤ 1000) (hM : x.l.length ≤ 1000) (ht : Tame x) (w : World) (h : Clw w w.heap.size x r) : Calls Try.prog 25 #[cv x r] w (Did (.tuple #[sv (cheapS x), .int .i64 (cheapN x)]) w) := by
  have HSe := hid (fun X => r_Seats x r hN hM X)
  have HCo := hid (fun s X h => r_Cost x r s X h)
  have HC := hid h
  have Hb := hid (fun k hk => chp_bnd (f := fun s => (costT x s, costP x s)) (l := seats x) (fun s _ => ⟨(costT_bnd ht s).1, (costT_bnd ht s).2, (costP_bnd ht s).1, (costP_bnd ht s).2⟩) k hk)
  have Hcb := hid (fun s => And.intro (costT_bnd ht s) (costP_bnd ht s))
  have Hst := hid (fun k s (h : (seats x)[k]? = some s) => chp_some (f := fun s => (costT x s, costP x s)) h)
  have Hz := hid (show chp (fun s => (costT x s, costP x s)) (seats x) 0 = (-1, 0) from rfl)
  have HS := hid (show cheapS x = if (chp (fun s => (costT x s, costP x s)) (seats x) (seats x).length).1 < 0 then ⟨0, 0⟩ else (seats x).getD (chp (fun s => (costT x s, costP x s)) (seats x) (seats x).length).1.toNat ⟨0, 0⟩ from rfl)
  have HN := hid (show cheapN x = if (chp (fun s => (costT x s, costP x s)) (seats x) (seats x).length).1 < 0 then 0 else (chp (fun s => (costT x s, costP x s)) (seats x) (seats x).length).2 from rfl)
  have hll : (seats x).length ≤ 1100000 := by
    have h1 := seatsTo_len x (x.t.length * (x.l.length + 1))
    have h2 := Nat.mul_le_mul hN (show x.l.length + 1 ≤ 1001 by omega)
    show (seatsTo x _).length ≤ _
    omega
  generalize cheapS x = cS at *
  generalize cheapN x = cN at *
  generalize chp (fun s => (costT x s, costP x s)) (seats x) = cc at *
  generalize seats x = l at *
  clear h ht
  obtain ⟨B, W, hB, hW, K, z0⟩ := (Mem.nil w).one (ccl x r) 30
  obtain ⟨R, V, hR, hV, K1, z1⟩ := K.out.one (sc ⟨0, 0⟩) 41
  have HBR := hid (show w.heap.size ≤ B ∧ B < R from by
    have q1 := (K.out.at_ (b := B) (cs := ccl x r) (t := 30) (by simp)).lt
    omega)
  clear K z0 z1
  obtain ⟨e0, e1, e2, e3, e4, e5, e6⟩ := K1.out.cl (B := B) (x := x) (r := r) (t := 30) (by simp)
  go_enter Try.func25, Try.ntmps25
  go_wp2_with fail
  refine (HSe.out _).mono ?_
  rintro e Y1 ⟨v, rfl, hown, b1⟩
  have K2 := hid (K1.out.next b1)
  clear e0 e1 e2 e3 e4 e5 e6
  obtain ⟨A1, c, rfl, hes, hlc⟩ := own_es hown
  have HE := hid hes
  clear hown hes b1 K1
  go_wp2_with fail
  go_loopw [5, 6, 7] (fun av nv iv wr => ∃ i : Nat, iv = .int .i64 i ∧ i ≤ l.length ∧ av = .int .i64 (cc i).1 ∧ nv = .int .i64 (cc i).2 ∧ Hid (Mem w wr [(R, sc ⟨0, 0⟩, 41), (B, ccl x r, 30)]) ∧ Hid (Below Y1.heap.size Y1 wr)) (fun _ _ iv _ => l.length - (intOf iv).toNat)
  case atStart => exact ⟨0, rfl, Nat.zero_le _, by rw [Hz.out], by rw [Hz.out], K2, hid (Below.refl _ _)⟩
  case round =>
    obtain ⟨i, rfl, hi, rfl, rfl, KM, KB⟩ := hrel
    have hb := Hb.out i hi
    by_cases hil : i < l.length
    · obtain ⟨ad, s, rfl, hadb, hs, _, hcell⟩ := Es.get sc_len (by decide) HE.out hil
      have hc0 := hcell 0 _ rfl
      have hc1 := hcell 1 _ rfl
      rw [Nat.add_zero] at hc0
      rw [add_add _ _ _ (by omega)] at hc1
      have hd0 := (KB.out.cell (p := ad.add (i * 2)) (by rw [add_block]; exact hadb)).trans hc0
      have hd1 := (KB.out.cell (p := ⟨(ad.add (i * 2)).block, (ad.add (i * 2)).off + 1, none⟩) (by show (ad.add (i * 2)).block < _; rw [add_block]; exact hadb)).trans hc1
      have hcs := Hst.out i s hs.out
      have hcb := Hcb.out s
      try simp only at hcs
      try simp only at hcb
      have b3 : (0 : Int) ≤ (i : Int) := by omega
      have b4 : (i : Int) < (l.length : Int) := by omega
      obtain ⟨ca, hca⟩ : ∃ ca, costT x s = ca := ⟨_, rfl⟩
      obtain ⟨cb, hcb2⟩ : ∃ cb, costP x s = cb := ⟨_, rfl⟩
      have HCo1 := hid (fun X h => HCo.out s X h)
      rw [hca, hcb2] at HCo1 hcs hcb
      obtain ⟨⟨za, zn⟩, hzz⟩ : ∃ z, cc i = z := ⟨_, rfl⟩
      rw [hzz] at hcs hb ⊢
      try simp only at hcs
      try simp only at hb
      have Hcs := hid hcs
      obtain ⟨h1, h2, h3, h4⟩ := hb
      obtain ⟨⟨h5, h6⟩, h7, h8⟩ := hcb
      clear hcs hca hcb2 hzz hc0 hc1 hcell Hz HS HN Hb Hcb Hst HCo
      go_wp2_with fail
      refine wp_region_held_drew (S := fun X => Mem w X [(R, sc ⟨0, 0⟩, 41), (B, ccl x r, 30)]) (by kernel_rfl) KM.out.drew (fun hHeld => ?_)
      refine takeH 0 19 (cv x r) rfl rfl (by kernel_rfl) (by kernel_rfl) (by kernel_rfl) (fun _ _ _ h => h) (by kernel_rfl) (fun X hX => by obtain ⟨q0, q1, q2, q3, q4, q5, q6⟩ := hX.cl (B := B) (x := x) (r := r) (t := 30) (by simp); clear hX; go_simp) hHeld ?_
      simp only [Act.put, List.setIfInBounds_toArray, List.set_cons_zero, List.set_cons_succ]
      refine takeH 1 20 (.slice (some ad) l.length c) rfl rfl (by kernel_rfl) (by kernel_rfl) (by kernel_rfl) (fun _ _ _ h => h) (by kernel_rfl) (fun X hX => by clear hX; first | rfl | go_simp) hHeld ?_
      simp only [Act.put, List.setIfInBounds_toArray, List.set_cons_zero, List.set_cons_succ]
      refine takeH 2 21 (.int .i64 i) rfl rfl (by kernel_rfl) (by kernel_rfl) (by kernel_rfl) (fun _ _ _ h => h) (by kernel_rfl) (fun X hX => by clear hX; first | rfl | go_simp) hHeld ?_
      simp only [Act.put, List.setIfInBounds_toArray, List.set_cons_zero, List.set_cons_succ]
      refine takeH 3 22 (.pointer (some (ad.add (i * 2)))) rfl rfl (by kernel_rfl) (by kernel_rfl) (by kernel_rfl) (fun _ _ _ h => h) (by kernel_rfl) (fun X hX => by clear hX; first | rfl | go_simp) hHeld ?_
      simp only [Act.put, List.setIfInBounds_toArray, List.set_cons_zero, List.set_cons_succ]
      refine wpAnyH_ready (rs := [4]) (by kernel_rfl) (by simp) ?_
      refine AllReadyH.cons rfl (fun KK hK => ?_) AllReadyH.nil
      simp only [List.getElem_toArray, List.getElem_cons_succ, List.getElem_cons_zero]
      go_simp
      refine hK.out _ _ KM.out.drew (fun hHeld => ?_)
      clear hK KK
      try simp only [Act.put, List.setIfInBounds_toArray, List.set_cons_zero, List.set_cons_succ]
      refine wpAnyH_ready (rs := [5]) (by kernel_rfl) (by simp) ?_
      refine AllReadyH.cons rfl (fun KK hK => ?_) AllReadyH.nil
      simp only [List.getElem_toArray, List.getElem_cons_succ, List.getElem_cons_zero]
      go_simp
      refine (HCo1.out _ (HC.out.next2 KM.out.drew.2)).mono ?_
      rintro e Z1 ⟨rfl, b5⟩
      have K5 := KM.out.drew.next b5
      refine hK.out _ _ K5 (fun hHeld => ?_)
      clear hK KK
      try simp only [Act.put, List.setIfInBounds_toArray, List.set_cons_zero, List.set_cons_succ]
      refine takeH 6 18 (.tuple #[.int .i64 ca, .int .i64 cb]) rfl rfl (by kernel_rfl) (by kernel_rfl) (by kernel_rfl) (fun _ _ _ h => h) (by kernel_rfl) (fun X hX => by clear hX; first | rfl | go_simp) hHeld ?_
      simp only [Act.put, List.setIfInBounds_toArray, List.set_cons_zero, List.set_cons_succ]
      refine takeH 7 25 (.int .i64 ca) rfl rfl (by kernel_rfl) (by kernel_rfl) (by kernel_rfl) (fun _ _ _ h => h) (by kernel_rfl) (fun X hX => by clear hX; first | rfl | go_simp) hHeld ?_
      simp only [Act.put, List.setIfInBounds_toArray, List.set_cons_zero, List.set_cons_succ]
      refine takeH 8 26 (.int .i64 cb) rfl rfl (by kernel_rfl) (by kernel_rfl) (by kernel_rfl) (fun _ _ _ h => h) (by kernel_rfl) (fun X hX => by clear hX; first | rfl | go_simp) hHeld ?_
      simp only [Act.put, List.setIfInBounds_toArray, List.set_cons_zero, List.set_cons_succ]
      refine wpAnyH_ready (rs := [9]) (by kernel_rfl) (by simp) ?_
      refine AllReadyH.cons rfl (fun KK hK => ?_) AllReadyH.nil
      simp only [List.getElem_toArray, List.getElem_cons_succ, List.getElem_cons_zero]
      go_simp
      refine hK.out _ _ K5 (fun hHeld => ?_)
      clear hK KK
      try simp only [Act.put, List.setIfInBounds_toArray, List.set_cons_zero, List.set_cons_succ]
      refine wpAnyH_ready (rs := [10]) (by kernel_rfl) (by simp) ?_
      refine AllReadyH.cons rfl (fun KK hK => ?_) AllReadyH.nil
      simp only [List.getElem_toArray, List.getElem_cons_succ, List.getElem_cons_zero]
      go_simp
      refine hK.out _ _ K5 (fun hHeld => ?_)
      clear hK KK
      try simp only [Act.put, List.setIfInBounds_toArray, List.set_cons_zero, List.set_cons_succ]
      refine wpAnyH_done (by kernel_rfl) ?_ _
      have KB2 := hid ((KB.out.drew).trans (b5.mono KB.out.size))
      have K6 := hid K5
      clear hHeld KM KB K5 b5 hd0 hd1
      by_cases c1 : za < 0
      · rw [if_pos (.inl c1)] at Hcs
        go_wp2_with fail
        exact ⟨⟨i + 1, by go_num, by omega, by rw [Hcs.out], by rw [Hcs.out], K6, KB2⟩, by simp [intOf]; omega⟩
      · by_cases c2 : ca < zn - cb
        · rw [if_pos (.inr c2)] at Hcs
          go_wp2_with fail
          exact ⟨⟨i + 1, by go_num, by omega, by rw [Hcs.out], by rw [Hcs.out], K6, KB2⟩, by simp [intOf]; omega⟩
        · rw [if_neg (fun h => h.elim c1 c2)] at Hcs
          go_wp2_with fail
          exact ⟨⟨i + 1, by go_num, by omega, by rw [Hcs.out], by rw [Hcs.out], K6, KB2⟩, by simp [intOf]; omega⟩
    · obtain rfl : i = l.length := by omega
      have b4 : ¬ ((l.length : Nat) : Int) < (l.length : Int) := by omega
      obtain ⟨⟨za, zn⟩, hzz⟩ : ∃ z, cc l.length = z := ⟨_, rfl⟩
      rw [hzz] at HS HN hb ⊢
      have HS := hid (show cS = if za < 0 then ⟨0, 0⟩ else l.getD za.toNat ⟨0, 0⟩ from HS.out)
      have HN := hid (show cN = if za < 0 then 0 else zn from HN.out)
      obtain ⟨h1, h2, h3, h4⟩ := hb
      have h1 : -1 ≤ za := h1
      have h2 : za < (l.length : Nat) := h2
      have hOR := KM.out.at_ (b := R) (cs := sc ⟨0, 0⟩) (t := 41) (by simp)
      have r0 := hOR.cell (k := 0) rfl
      have r1 := hOR.cell (k := 1) rfl
      have s0 := hOR.free 0
      have s1 := hOR.free 1
      have K7 := hid (KM.out.sub (l' := [(R, sc ⟨0, 0⟩, 41)]) (by simp))
      clear hOR Hb Hcb Hst HCo hzz Hz h3 h4
      by_cases c1 : za < 0
      · rw [if_pos c1] at HS HN
        have hS := HS.out
        have hN2 := HN.out
        subst hS; subst hN2
        have K8 := hid (((K7.out.set (by have := HBR.out; omega) (by intro p hp; cases hp) 0 (.int .i64 0)).set (by have := HBR.out; omega) (by intro p hp; cases hp) 1 (.int .i64 0)))
        go_wp2_with fail
        obtain ⟨y0, y1⟩ := K8.out.se (B := R) (s := ⟨0, 0⟩) (t := 41) (by simp)
        simp only at y0 y1
        exact bodyPost_ret (v := .tuple #[.agg #[.int .i64 0, .int .i64 0], .int .i64 0]) (by simp [results, Try.results25, go_sem, y0, y1]) rfl (Did.mk rfl K8.out.2)
      · rw [if_neg c1] at HS HN
        obtain ⟨k, rfl⟩ := Int.eq_ofNat_of_zero_le (show 0 ≤ za by omega)
        have hk : k < l.length := by omega
        obtain ⟨ad, s, rfl, hadb, hs, _, hcell⟩ := Es.get sc_len (by decide) HE.out hk
        have hS : cS = s := by rw [HS.out, Int.toNat_natCast, List.getD_eq_getElem?_getD, hs.out]; rfl
        have hN2 := HN.out
        subst hS; subst hN2
        have hc0 := hcell 0 _ rfl
        have hc1 := hcell 1 _ rfl
        rw [Nat.add_zero] at hc0
        rw [add_add _ _ _ (by omega)] at hc1
        have hd0 := (KB.out.cell (p := ad.add (k * 2)) (by rw [add_block]; exact hadb)).trans hc0
        have hd1 := (KB.out.cell (p := ⟨(ad.add (k * 2)).block, (ad.add (k * 2)).off + 1, none⟩) (by show (ad.add (k * 2)).block < _; rw [add_block]; exact hadb)).trans hc1
        have K8 := hid (((K7.out.set (by have := HBR.out; omega) (by intro p hp; cases hp) 0 (.int .i64 cS.t)).set (by have := HBR.out; omega) (by intro p hp; cases hp) 1 (.int .i64 cS.p)))
        have b3 : (0 : Int) ≤ (k : Int) := by omega
        have b5 : (k : Int) < (l.length : Int) := by omega
        clear hc0 hc1 hcell HS HN K7
        go_wp2_with fail
        obtain ⟨y0, y1⟩ := K8.out.se (B := R) (s := cS) (t := 41) (by simp)
        exact bodyPost_ret (v := .tuple #[sv cS, .int .i64 cN]) (by simp [results, Try.results25, go_sem, y0, y1]) rfl (Did.mk rfl K8.out.2)
end Go.Proofs.Ytcnpfchopjopeaa
