/- Contracts of the program's own functions of layer 14 (course): isLoad, Takes. -/
import Derived.Test.YtgkplcipplpobaaCrtI
import Derived.Test.YtgkplcipplpobaaCrsO
namespace Go.Proofs.Ytgkplcipplpobaa
open Go.RowKit
open Whn (Gr Wh)

theorem its_next' {X X' : World} {A : Option Addr} {L : List Int} (h : Its X X.heap.size A L) (hb : Below X.heap.size X X') : Its X' X'.heap.size A L := (h.below hb (Nat.le_refl _)).more hb.size
def isL (u : List (List Int)) (r : List Int) : Bool := decide (u.length = r.length) && (List.range u.length).all fun i => decide (r.getD i 0 ∈ u.getD i [])
theorem allN_of {ls : List (List Int)} : ∀ {k : Nat} {r : List Int}, r.length = k → (∀ i, i < k → r.getD i 0 ∈ ls.getD i []) → r ∈ allN ls k
  | 0, r, h, _ => by
    have : r = [] := List.eq_nil_of_length_eq_zero h
    subst this
    rw [allN]; simp
  | k + 1, r, h, hr => by
    have hk : k < r.length := by omega
    have e : r = r.take k ++ [r[k]] := by
      have := List.take_add_one (l := r) (i := k)
      rw [List.take_of_length_le (by omega), List.getElem?_eq_getElem hk] at this
      exact this
    have ht : (r.take k).length = k := by rw [List.length_take]; omega
    have ih := allN_of (ls := ls) ht (fun i hi => by
      have := hr i (by omega)
      rwa [show (r.take k).getD i 0 = r.getD i 0 by rw [List.getD_eq_getElem?_getD, List.getD_eq_getElem?_getD, List.getElem?_take_of_lt hi]])
    rw [allN, List.mem_flatMap]
    refine ⟨r.take k, ih, ?_⟩
    unfold addC
    rw [List.mem_map]
    refine ⟨r[k], ?_, e.symm⟩
    have := hr k (by omega)
    rwa [getD_of (List.getElem?_eq_getElem hk)] at this
theorem isL_iff (u : List (List Int)) (r : List Int) : isL u r = true ↔ r ∈ allN u u.length := by
  unfold isL
  rw [Bool.and_eq_true, decide_eq_true_iff, List.all_eq_true]
  constructor
  · rintro ⟨h1, h2⟩
    exact allN_of h1.symm (fun i hi => of_decide_eq_true (h2 i (List.mem_range.2 hi)))
  · intro h
    exact ⟨(allN_row h).symm, fun i hi => decide_eq_true (allN_at h i (List.mem_range.1 hi))⟩
def takesC (l : List ClA) (x : Cs) (r : List Int) : Bool := csRight (l.length : Nat) x && x.ws.any fun u => isL u r && holdC l u r
theorem takes_in (l : List ClA) (x : Cs) (r : List Int) : takesC l x r = true ↔ r ∈ loadsC l x := by
  unfold takesC loadsC
  cases csRight (l.length : Nat) x with
  | false => simp
  | true =>
    rw [Bool.true_and, if_pos rfl, List.any_eq_true, List.mem_flatMap]
    constructor
    · rintro ⟨u, hu, h⟩
      rw [Bool.and_eq_true] at h
      exact ⟨u, hu, List.mem_filter.2 ⟨(isL_iff u r).1 h.1, h.2⟩⟩
    · rintro ⟨u, hu, h⟩
      obtain ⟨h1, h2⟩ := List.mem_filter.1 h
      exact ⟨u, hu, by rw [Bool.and_eq_true]; exact ⟨(isL_iff u r).2 h1, h2⟩⟩
set_option maxRecDepth 4000 in
theorem p_isL1 (A : Option Addr) (c : Nat) (l : List Int) (hm : l.length ≤ maxLen) (x : Int) (w : World) (h : Its w w.heap.size A l) :
    Calls Try.prog 58 #[.slice A l.length c, .int .i64 x] w (Did (.bool (decide (x ∈ l))) w) := by
  have HI := hid (p_ContD A l.length c l rfl hm x w h)
  clear h
  go_enter Try.func58, Try.ntmps58
  go_wp2_with fail
  refine (HI.out).mono ?_
  rintro e w1 ⟨rfl, b1⟩
  go_wp2_with fail
  go_ret
  exact Did.mk rfl b1
set_option maxRecDepth 20000 in
set_option maxHeartbeats 4000000 in
theorem p_EqL (B : Option Addr) (d : Nat) (u : List (List Int)) (hl : Lsok u) (C : Option Addr) (e : Nat) (r : List Int) (w : World) (hB : Rows2 w w.heap.size B u) (hC : Its w w.heap.size C r) :
    Calls Try.prog 57 #[.slice B u.length d, .slice C r.length e, .func (.func 58) #[] #[]] w (Did (.bool (isL u r)) w) := by
  have hm := hl.1
  unfold maxLen at hm
  have HL := hid hl.2
  have HP := hid (fun A c l hm x X h => p_isL1 A c l hm x X h)
  by_cases hlen : (u.length : Int) = (r.length : Int)
  · have Hn := hid (show u.length = r.length by omega)
    have Hr := hid (show isL u r = (List.range u.length).all (fun i => decide (r.getD i 0 ∈ u.getD i [])) by unfold isL; rw [decide_eq_true Hn.out, Bool.true_and])
    generalize isL u r = q at *
    have H := hid hB
    have H2 := hid hC
    have hne : ((u.length : Int) != (r.length : Int)) = false := by rw [bne_eq_false_iff_eq]; exact hlen
    have K0 := hid (Below.refl w.heap.size w)
    clear hB hC hlen hl
    go_enter Try.func57, Try.ntmps57
    go_wp2_with fail
    go_loopw [17] (fun i wr => ∃ (k : Nat), i = .int .i64 k ∧ k ≤ u.length ∧ Hid (Below w.heap.size w wr) ∧ Hid (∀ i, i < k → (fun i => decide (r.getD i 0 ∈ u.getD i [])) i = true)) (fun i _ => u.length - (intOf i).toNat)
    case atStart => exact ⟨0, rfl, Nat.zero_le _, K0, hid (fun i hi => absurd hi (Nat.not_lt_zero i))⟩
    case round =>
      clear K0
      obtain ⟨k, rfl, hk, K1, hsame⟩ := hrel
      by_cases hlt : k < u.length
      · obtain ⟨ad, Ak, ck, v, rfl, hadb, hx, hxl, hcx, hrx, hckx⟩ := H.out.get hlt
        obtain ⟨ae, y, rfl, haeb, hy, hcy⟩ := Its.get H2.out (k := k) (by have := Hn.out; omega)
        have b1 : (0 : Int) ≤ (k : Int) := by omega
        have b2 : (k : Int) < u.length := by omega
        have b3 : (k : Int) < r.length := by have := Hn.out; omega
        have hbx : (ad.add k).block < w.heap.size := by rw [add_block]; exact hadb
        have hby : (ae.add k).block < w.heap.size := by rw [add_block]; exact haeb
        have hcx1 := (K1.out.cell (p := ad.add k) hbx).trans hcx
        have hcy1 := (K1.out.cell (p := ae.add k) hby).trans hcy
        have HI := hid (HP.out Ak ck v (HL.out v hxl).1 y _ ((hrx.below K1.out (Nat.le_refl _)).more K1.out.size))
        have Hk := hid (show decide (r.getD k 0 ∈ u.getD k []) = decide (y ∈ v) by rw [getD_of hy.out, List.getD_eq_getElem?_getD, hx.out]; rfl)
        clear hrx hckx hcx hcy HP
        go_wp2_with fail
        refine HI.out.mono ?_
        rintro e Y ⟨rfl, bz⟩
        have K2 := hid (K1.out.trans (bz.mono K1.out.size))
        clear HI bz hcx1 hcy1
        cases hR : decide (y ∈ v) with
        | true =>
          have hn := hid (range_next (f := fun i => decide (r.getD i 0 ∈ u.getD i [])) hsame.out (Hk.out.trans hR))
          clear hsame
          go_wp2_with fail
          exact ⟨⟨k + 1, by go_num, by omega, K2, hn⟩, by simp [intOf]; omega⟩
        | false =>
          have hres := hid (range_no (f := fun i => decide (r.getD i 0 ∈ u.getD i [])) hlt (Hk.out.trans hR))
          clear hsame
          go_wp2_with fail
          go_ret
          exact Did.mk (by rw [Hr.out, hres.out]; rfl) K2.out
      · have hall := hid (range_yes (n := u.length) (f := fun i => decide (r.getD i 0 ∈ u.getD i [])) (fun i hi => hsame.out i (by omega)))
        have b2 : ¬ (k : Int) < u.length := by omega
        clear hsame HP
        go_wp2_with fail
        go_ret
        exact Did.mk (by rw [Hr.out, hall.out]; rfl) K1.out
  · have hne : ((u.length : Int) != (r.length : Int)) = true := by rw [bne_iff_ne]; exact hlen
    have hres := hid (show isL u r = false by unfold isL; rw [decide_eq_false (show ¬ u.length = r.length by omega), Bool.false_and])
    clear hlen hB hC
    go_enter Try.func57, Try.ntmps57
    go_wp2
    go_ret
    exact Did.mk (by rw [hres.out]; rfl) (Below.refl _ _)
set_option maxRecDepth 4000 in
theorem p_isLoad (B : Option Addr) (d : Nat) (u : List (List Int)) (hl : Lsok u) (C : Option Addr) (e : Nat) (r : List Int) (w : World) (hB : Rows2 w w.heap.size B u) (hC : Its w w.heap.size C r) :
    Calls Try.prog 44 #[.agg #[.slice B u.length d], .slice C r.length e] w (Did (.bool (isL u r)) w) := by
  have HI := hid (fun X h h' => p_EqL B d u hl C e r X h h')
  have H := hid hB
  have H2 := hid hC
  obtain ⟨P, W, hP, hW, K, hb0⟩ := (Mem.nil w).one [.slice B u.length d] 42
  have c0 := K.out.cell (b := P) (cs := [.slice B u.length d]) (t := 42) (by simp) (k := 0) rfl
  clear hB hC hb0
  go_enter Try.func44, Try.ntmps44
  go_wp2_with fail
  refine (HI.out _ (H.out.next K.out.2) (its_next' H2.out K.out.2)).mono ?_
  rintro e1 Y ⟨rfl, bz⟩
  have K2 := hid (K.out.next bz)
  clear c0 hP hW bz
  go_wp2_with fail
  go_ret
  exact Did.mk rfl K2.out.2
set_option maxRecDepth 20000 in
set_option maxHeartbeats 4000000 in
theorem p_take1 (A : Option Addr) (c : Nat) (l : List ClA) (B : Option Addr) (d : Nat) (u : List (List Int)) (hl : Lsok u) (h8 : ∀ p ∈ u, ∀ n ∈ p, 0 ≤ n ∧ n < (l.length : Nat)) (C : Option Addr) (e : Nat) (r : List Int) (hrm : r.length ≤ maxLen) (Lb Cb : Nat) (w : World)
    (h : Es enC w w.heap.size A l) (hB : Rows2 w w.heap.size B u) (hC : Its w w.heap.size C r) (hLb : w.cell? ⟨Lb, 0, none⟩ = some (.slice A l.length c)) (hCb : w.cell? ⟨Cb, 0, none⟩ = some (.slice C r.length e)) :
    Calls Try.prog 43 #[.agg #[.slice B u.length d], .pointer (some ⟨Cb, 0, none⟩), .pointer (some ⟨Lb, 0, none⟩)] w (Did (.bool (isL u r && holdC l u r)) w) := by
  have HI := hid (fun X h h' => p_isLoad B d u hl C e r X h h')
  have HT := hid (fun hr X h h' h'' => p_together A c l B d u hl C e r hrm hr X h h' h'')
  have Hin := hid (fun (hi : isL u r = true) n (hn : n ∈ r) => show 0 ≤ n ∧ n < (l.length : Nat) by
    obtain ⟨p, hp, hnp⟩ := allN_mem ((isL_iff u r).1 hi) n hn
    exact h8 p hp n hnp)
  have H := hid h
  have H1 := hid hB
  have H2 := hid hC
  have HLb := hid hLb
  have HCb := hid hCb
  have HLl := hid (show Lb < w.heap.size from World.block_lt_of_cell? _ _ hLb)
  have HCl := hid (show Cb < w.heap.size from World.block_lt_of_cell? _ _ hCb)
  generalize isL u r = q1 at *
  generalize holdC l u r = q2 at *
  obtain ⟨P, W, hP, hW, K, hb0⟩ := (Mem.nil w).one [.slice B u.length d] 42
  have c0 := K.out.cell (b := P) (cs := [.slice B u.length d]) (t := 42) (by simp) (k := 0) rfl
  have c1 := (K.out.2.cell (p := ⟨Lb, 0, none⟩) HLl.out).trans hLb
  have c2 := (K.out.2.cell (p := ⟨Cb, 0, none⟩) HCl.out).trans hCb
  clear h hB hC hb0 hLb hCb h8
  go_enter Try.func43, Try.ntmps43
  go_wp2_with fail
  refine (HI.out _ (H1.out.next K.out.2) (its_next' H2.out K.out.2)).mono ?_
  rintro e1 Y ⟨rfl, bz⟩
  have K2 := hid (K.out.next bz)
  clear c0 c1 c2 hP hW bz K HI
  cases q1 with
  | false =>
    go_wp2_with fail
    go_ret
    exact Did.mk rfl K2.out.2
  | true =>
    have c0 := K2.out.cell (b := P) (cs := [.slice B u.length d]) (t := 42) (by simp) (k := 0) rfl
    have c1 := (K2.out.2.cell (p := ⟨Lb, 0, none⟩) HLl.out).trans HLb.out
    have c2 := (K2.out.2.cell (p := ⟨Cb, 0, none⟩) HCl.out).trans HCb.out
    have HT1 := hid (fun X h h' h'' => HT.out (Hin.out rfl) X h h' h'')
    clear HT Hin
    go_wp2_with fail
    refine (HT1.out _ ((H.out.below K2.out.2 (Nat.le_refl _)).more K2.out.2.size) (H1.out.next K2.out.2) (its_next' H2.out K2.out.2)).mono ?_
    rintro e1 Y2 ⟨rfl, bz⟩
    have K3 := hid (K2.out.next bz)
    clear c0 c1 c2 bz K2
    go_wp2_with fail
    go_ret
    exact Did.mk (by simp) K3.out.2
def TkP (l : List ClA) (ws : List (List (List Int))) (r : List Int) : Prop := ∃ u ∈ ws, (isL u r && holdC l u r) = true
set_option maxRecDepth 20000 in
set_option maxHeartbeats 4000000 in
theorem p_IxTake (A : Option Addr) (c : Nat) (l : List ClA) (B : Option Addr) (d : Nat) (ws : List (List (List Int))) (hl : Wsok ws) (h8 : ∀ u ∈ ws, ∀ p ∈ u, ∀ n ∈ p, 0 ≤ n ∧ n < (l.length : Nat)) (C : Option Addr) (e : Nat) (r : List Int) (hrm : r.length ≤ maxLen) (Lb Cb : Nat) (w : World)
    (h : Es enC w w.heap.size A l) (hB : Rows3 w w.heap.size B ws) (hC : Its w w.heap.size C r) (hLb : w.cell? ⟨Lb, 0, none⟩ = some (.slice A l.length c)) (hCb : w.cell? ⟨Cb, 0, none⟩ = some (.slice C r.length e)) :
    Calls Try.prog 56 #[.slice B ws.length d, .func (.func 43) #[] #[.pointer (some ⟨Cb, 0, none⟩), .pointer (some ⟨Lb, 0, none⟩)]] w (IxS (TkP l ws r) w) := by
  have hm := hl.1
  unfold maxLen at hm
  have HL := hid hl.2
  have HP := hid (fun B d u hl h8 X h hB hC hLb hCb => p_take1 A c l B d u hl h8 C e r hrm Lb Cb X h hB hC hLb hCb)
  have H := hid h
  have H1 := hid hB
  have H2 := hid hC
  have H8 := hid h8
  have HLb := hid hLb
  have HCb := hid hCb
  have HLl := hid (show Lb < w.heap.size from World.block_lt_of_cell? _ _ hLb)
  have HCl := hid (show Cb < w.heap.size from World.block_lt_of_cell? _ _ hCb)
  obtain ⟨f, hf⟩ : ∃ f : List (List Int) → Bool, (fun u => isL u r && holdC l u r) = f := ⟨_, rfl⟩
  have Hf := hid (fun u => show (isL u r && holdC l u r) = f u from congrFun hf u)
  clear h hB hC hLb hCb h8 hl hf
  go_enter Try.func56, Try.ntmps56
  go_wp2_with fail
  go_loopw [8] (fun i wr => ∃ (k : Nat), i = .int .i64 k ∧ k ≤ ws.length ∧ Hid (Below w.heap.size w wr) ∧ Hid (∀ u ∈ ws.take k, ¬ f u = true)) (fun i _ => ws.length - (intOf i).toNat)
  case atStart => exact ⟨0, rfl, Nat.zero_le _, hid (Below.refl _ _), hid (fun p hp => by simp at hp)⟩
  case round =>
    obtain ⟨k, rfl, hk, HB, hsame⟩ := hrel
    by_cases hlt : k < ws.length
    · obtain ⟨ad, Ak, ck, v, rfl, hadb, hx, hxl, hcx, hrx, hckx⟩ := H1.out.at_ hlt
      have b1 : (0 : Int) ≤ (k : Int) := by omega
      have b2 : (k : Int) < ws.length := by omega
      have hbx : (ad.add k).block < w.heap.size := by rw [add_block]; exact hadb
      have hcx1 := (HB.out.cell (p := ad.add k) hbx).trans hcx
      have HP1 := HP.out Ak ck v (HL.out v hxl) (H8.out v hxl) wr ((H.out.below HB.out (Nat.le_refl _)).more HB.out.size) ((hrx.below HB.out (Nat.le_refl _)).more HB.out.size) (its_next' H2.out HB.out) ((HB.out.cell (p := ⟨Lb, 0, none⟩) HLl.out).trans HLb.out) ((HB.out.cell (p := ⟨Cb, 0, none⟩) HCl.out).trans HCb.out)
      rw [Hf.out v] at HP1
      have HP2 := hid HP1
      clear hrx hckx hcx HP HP1
      go_wp2_with fail
      refine (HP2.out).mono ?_
      rintro e Y ⟨rfl, bz⟩
      have HB2 := hid (HB.out.trans (bz.mono HB.out.size))
      clear hcx1 bz HP2
      cases hR : f v with
      | true =>
        have hres := hid (show TkP l ws r from ⟨v, hxl, (Hf.out v).trans hR⟩)
        clear hR hsame
        go_wp2_with fail
        go_ret
        exact ⟨k, rfl, ⟨fun _ => hres.out, fun _ => by omega⟩, HB2.out⟩
      | false =>
        have hn := hid (ex_next (P := fun u => f u = true) hx.out hsame.out (by rw [hR]; decide))
        clear hR hsame
        go_wp2_with fail
        exact ⟨⟨k + 1, by go_num, by omega, HB2, hn⟩, by simp [intOf]; omega⟩
    · have b2 : ¬ (k : Int) < ws.length := by omega
      have hall := hid (show ¬ TkP l ws r from fun ⟨p, hp, hx⟩ => hsame.out p (by rw [List.take_of_length_le (by omega)]; exact hp) ((Hf.out p).symm.trans hx))
      clear hsame HP
      go_wp2_with fail
      go_ret
      exact ⟨-1, rfl, ⟨fun h => absurd h (by decide), fun h => absurd h hall.out⟩, HB.out⟩
set_option maxRecDepth 4000 in
theorem p_CtTake (A : Option Addr) (c : Nat) (l : List ClA) (B : Option Addr) (d : Nat) (ws : List (List (List Int))) (hl : Wsok ws) (h8 : ∀ u ∈ ws, ∀ p ∈ u, ∀ n ∈ p, 0 ≤ n ∧ n < (l.length : Nat)) (C : Option Addr) (e : Nat) (r : List Int) (hrm : r.length ≤ maxLen) (Lb Cb : Nat) (w : World)
    (h : Es enC w w.heap.size A l) (hB : Rows3 w w.heap.size B ws) (hC : Its w w.heap.size C r) (hLb : w.cell? ⟨Lb, 0, none⟩ = some (.slice A l.length c)) (hCb : w.cell? ⟨Cb, 0, none⟩ = some (.slice C r.length e)) :
    Calls Try.prog 42 #[.slice B ws.length d, .func (.func 43) #[] #[.pointer (some ⟨Cb, 0, none⟩), .pointer (some ⟨Lb, 0, none⟩)]] w (CtRet (TkP l ws r) w) := by
  have HI := hid (p_IxTake A c l B d ws hl h8 C e r hrm Lb Cb w h hB hC hLb hCb)
  clear h hB hC hLb hCb
  go_enter Try.func42, Try.ntmps42
  go_wp2_with fail
  refine (HI.out).mono ?_
  rintro e w1 ⟨z, rfl, hz, b1⟩
  have Hz := hid hz
  clear hz
  go_wp2_with fail
  go_ret
  exact ⟨_, rfl, by rw [decide_eq_true_iff]; exact Hz.out, b1⟩
set_option maxRecDepth 20000 in
set_option maxHeartbeats 4000000 in
theorem p_TakesC (A : Option Addr) (c : Nat) (l : List ClA) (hlm : l.length ≤ maxLen) (x : Cs) (B : Option Addr) (d : Nat) (hl : Wsok x.ws) (C : Option Addr) (e : Nat) (r : List Int) (hrm : r.length ≤ maxLen) (w : World) (h : Es enC w w.heap.size A l) (hB : Rows3 w w.heap.size B x.ws) (hC : Its w w.heap.size C r) :
    Calls Try.prog 22 #[.slice A l.length c, csv x B d, .slice C r.length e] w (Did (.bool (takesC l x r)) w) := by
  unfold maxLen at hlm
  have HRi := hid (fun X h => p_RightCs (l.length : Int) (by unfold I64; omega) x B d hl X h)
  have HT := hid (fun h8 Lb Cb X h hB hC hLb hCb => p_CtTake A c l B d x.ws hl h8 C e r hrm Lb Cb X h hB hC hLb hCb)
  have Hr := hid (show takesC l x r = (csRight (l.length : Nat) x && x.ws.any fun u => isL u r && holdC l u r) from rfl)
  have Hws := hid (fun h => right_ws (e := (l.length : Nat)) (x := x) h)
  have H := hid h
  have H1 := hid hB
  have H2 := hid hC
  generalize takesC l x r = res at *
  generalize csRight (l.length : Nat) x = rr at *
  obtain ⟨Lb, W1, hLb, hW1, K1, z1⟩ := (Mem.nil w).one [.slice A l.length c] 32
  obtain ⟨P, W2, hP, hW2, K2, z2⟩ := K1.out.one (csc x B d) 24
  obtain ⟨Cb, W3, hCb, hW3, K3, z3⟩ := K2.out.one [.slice C r.length e] 29
  clear h hB hC z1 z2 z3 K1 K2
  obtain ⟨e0, e1⟩ := K3.out.cs (B := P) (x := x) (A := B) (c := d) (t := 24) (by simp)
  have c0 := K3.out.cell (b := Lb) (cs := [.slice A l.length c]) (t := 32) (by simp) (k := 0) rfl
  go_enter Try.func22, Try.ntmps22
  go_wp2_with fail
  refine (HRi.out _ (H1.out.next K3.out.2)).mono ?_
  rintro e2 Y ⟨rfl, bz⟩
  have K := hid (K3.out.next bz)
  clear e0 e1 c0 hLb hW1 hP hW2 hCb hW3 bz K3 HRi
  cases rr with
  | false =>
    go_wp2_with fail
    go_ret
    exact Did.mk (by rw [Hr.out]; rfl) K.out.2
  | true =>
    obtain ⟨_, hws⟩ := Hws.out rfl
    obtain ⟨e0, e1⟩ := K.out.cs (B := P) (x := x) (A := B) (c := d) (t := 24) (by simp)
    have HT1 := hid (HT.out (fun u hu p hp => ((hws u hu).2 p hp).2) Lb Cb Y ((H.out.below K.out.2 (Nat.le_refl _)).more K.out.2.size) (H1.out.next K.out.2) (its_next' H2.out K.out.2) (K.out.cell (b := Lb) (cs := [.slice A l.length c]) (t := 32) (by simp) (k := 0) rfl) (K.out.cell (b := Cb) (cs := [.slice C r.length e]) (t := 29) (by simp) (k := 0) rfl))
    clear Hws hws HT
    go_wp2_with fail
    refine (HT1.out).mono ?_
    rintro e2 Y2 ⟨b, rfl, hb, bz⟩
    have Hb := hid (show b = res by
      rw [Hr.out, Bool.true_and, Bool.eq_iff_iff, hb, List.any_eq_true]; rfl)
    have K4 := hid (K.out.next bz)
    clear e0 e1 hb bz K
    go_wp2_with fail
    go_ret
    exact Did.mk (by rw [Hb.out]; simp) K4.out.2
end Go.Proofs.Ytgkplcipplpobaa
