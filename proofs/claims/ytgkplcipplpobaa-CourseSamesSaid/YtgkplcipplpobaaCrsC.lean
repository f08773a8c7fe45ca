/- The laws' own few and light, and the document's own Count, for layer 14 (course). -/
import Derived.Test.YtgkplcipplpobaaCrsB
namespace Go.Proofs.Ytgkplcipplpobaa
open Go.RowKit
open Whn (Gr Wh)

def okW (ls : List (List Int)) : Bool := decide (ls.length ≤ 6) && ls.all fun l => decide (l.length ≤ 10)
def fewC (x : Cs) : Bool := decide (x.ws.length ≤ 6) && x.ws.all okW
theorem all_no {α : Type} {f : α → Bool} {l : List α} {k : Nat} {a : α} (h : l[k]? = some a) (hf : f a = false) : l.all f = false := by
  rw [List.all_eq_false]
  exact ⟨a, List.mem_of_getElem? h, by rw [hf]; simp⟩
theorem all_yes {α : Type} {f : α → Bool} {l : List α} (h : ∀ i, i < l.length → ∀ y, l[i]? = some y → f y = true) : l.all f = true := by
  rw [List.all_eq_true]
  intro y hy
  obtain ⟨i, hi, e⟩ := List.mem_iff_getElem.1 hy
  exact h i hi y (by rw [List.getElem?_eq_getElem hi, e])
theorem all_next {α : Type} {f : α → Bool} {l : List α} {k : Nat} {a : α} (ha : l[k]? = some a) (hf : f a = true) (h : ∀ i, i < k → ∀ y, l[i]? = some y → f y = true) : ∀ i, i < k + 1 → ∀ y, l[i]? = some y → f y = true := fun i hi y hy => by
  rcases Nat.lt_or_ge i k with h' | h'
  · exact h i h' y hy
  · obtain rfl : i = k := by omega
    rw [ha] at hy
    rw [← Option.some.inj hy]; exact hf
set_option maxRecDepth 20000 in
set_option maxHeartbeats 4000000 in
theorem l_fewC (x : Cs) (A : Option Addr) (c : Nat) (hl : Wsok x.ws) (w : World) (h : Rows3 w w.heap.size A x.ws) :
    Calls Try.prog 9 #[csv x A c] w (Did (.bool (fewC x)) w) := by
  have hm := hl.1
  unfold maxLen at hm
  have Hr := hid (show fewC x = (decide (x.ws.length ≤ 6) && x.ws.all okW) from rfl)
  have HL := hid hl.2
  generalize fewC x = q at *
  obtain ⟨P, W, hP, hW, K, hb0⟩ := (Mem.nil w).one (csc x A c) 24
  obtain ⟨e0, e1⟩ := K.out.cs (B := P) (x := x) (A := A) (c := c) (t := 24) (by simp)
  have H := hid (h.below K.out.2 (Nat.le_refl _))
  clear h hl hb0
  by_cases c1 : x.ws.length ≤ 6
  · rw [decide_eq_true c1, Bool.true_and] at Hr
    have m1 : ¬ ((x.ws.length : Int) > 6) := by omega
    go_enter Try.func9, Try.ntmps9
    go_wp2_with fail
    clear hP hW
    go_loopw [3] (fun i wr => ∃ (k : Nat), i = .int .i64 k ∧ k ≤ x.ws.length ∧ W = wr ∧ Hid (∀ i, i < k → ∀ ls, x.ws[i]? = some ls → okW ls = true)) (fun i _ => x.ws.length - (intOf i).toNat)
    case atStart => exact ⟨0, rfl, Nat.zero_le _, rfl, hid (fun i hi => absurd hi (Nat.not_lt_zero i))⟩
    case round =>
      obtain ⟨k, rfl, hk, rfl, hsame⟩ := hrel
      by_cases hlt : k < x.ws.length
      · obtain ⟨ad, Ak, ck, u, hae, hadb, hx, hxl, hcx, hrx, hckx⟩ := H.out.at_ hlt
        have hul := (HL.out u hxl).1
        unfold maxLen at hul
        have b1 : (0 : Int) ≤ (k : Int) := by omega
        have b2 : (k : Int) < x.ws.length := by omega
        rw [hae] at e1
        have Hbad := hid (fun (h : okW u = false) => all_no hx.out h)
        have Hnx := hid (fun (h : okW u = true) => all_next hx.out h hsame.out)
        have HR := hid hrx
        clear hrx hsame hckx
        by_cases g1 : u.length ≤ 6
        · have m2 : ¬ ((u.length : Int) > 6) := by omega
          have Hok := hid (show okW u = u.all fun l => decide (l.length ≤ 10) by unfold okW; rw [decide_eq_true g1, Bool.true_and])
          go_wp2_with fail
          go_loopw [4] (fun i wr => ∃ (j : Nat), i = .int .i64 j ∧ j ≤ u.length ∧ W = wr ∧ Hid (∀ i, i < j → ∀ l, u[i]? = some l → decide (l.length ≤ 10) = true)) (fun i _ => u.length - (intOf i).toNat)
          case atStart => exact ⟨0, rfl, Nat.zero_le _, rfl, hid (fun i hi => absurd hi (Nat.not_lt_zero i))⟩
          case round =>
            obtain ⟨j, rfl, hj, rfl, hsame⟩ := hrel
            by_cases hlt2 : j < u.length
            · obtain ⟨ae, Bk, dk, v, hbe, haeb, hy, hyl, hcy, hry, hdky⟩ := HR.out.get hlt2
              have b3 : (0 : Int) ≤ (j : Int) := by omega
              have b4 : (j : Int) < u.length := by omega
              rw [hbe] at hcx
              clear hry hdky
              by_cases g2 : v.length ≤ 10
              · have m3 : ¬ ((v.length : Int) > 10) := by omega
                have hn := hid (all_next (f := fun l : List Int => decide (l.length ≤ 10)) hy.out (decide_eq_true g2) hsame.out)
                clear hsame Hbad Hnx
                go_wp2_with fail
                exact ⟨⟨j + 1, by go_num, by omega, trivial, hn⟩, by simp [intOf]; omega⟩
              · have m3 : ((v.length : Int) > 10) := by omega
                have hb := hid (Hbad.out (by rw [Hok.out]; exact all_no hy.out (decide_eq_false g2)))
                clear hsame Hbad Hnx
                go_wp2_with fail
                go_ret
                exact Did.mk (by rw [Hr.out, hb.out]; rfl) K.out.2
            · have b4 : ¬ (j : Int) < u.length := by omega
              have hn := hid (Hnx.out (by rw [Hok.out]; exact all_yes (fun i hi => hsame.out i (by omega))))
              clear hsame Hbad Hnx
              go_wp2_with fail
              exact ⟨⟨k + 1, by omega, by omega, hn⟩, by simp [intOf]; omega⟩
        · have m2 : ((u.length : Int) > 6) := by omega
          have hb := hid (Hbad.out (by unfold okW; rw [decide_eq_false g1, Bool.false_and]))
          clear Hbad Hnx
          go_wp2_with fail
          go_ret
          exact Did.mk (by rw [Hr.out, hb.out]; rfl) K.out.2
      · have b2 : ¬ (k : Int) < x.ws.length := by omega
        have hn := hid (all_yes (fun i hi => hsame.out i (by omega)))
        clear hsame
        go_wp2_with fail
        go_ret
        exact Did.mk (by rw [Hr.out, hn.out]; rfl) K.out.2
  · rw [decide_eq_false c1, Bool.false_and] at Hr
    have m1 : ((x.ws.length : Int) > 6) := by omega
    go_enter Try.func9, Try.ntmps9
    go_wp2_with fail
    go_ret
    exact Did.mk (by rw [Hr.out]; rfl) K.out.2
/-- how many loads the first parts of a way have; the first ways -/
def wayN (ls : List (List Int)) : Nat → Nat
  | 0 => 1
  | k + 1 => min (wayN ls k * min (ls.getD k []).length 65536) 65536
def cntN (ws : List (List (List Int))) : Nat → Nat
  | 0 => 0
  | k + 1 => min (cntN ws k + wayN (ws.getD k []) (ws.getD k []).length) 65536
theorem wayN_le (ls : List (List Int)) : ∀ k, wayN ls k ≤ 65536
  | 0 => by rw [wayN]; omega
  | k + 1 => by rw [wayN]; omega
theorem cntN_le (ws : List (List (List Int))) : ∀ k, cntN ws k ≤ 65536
  | 0 => by rw [cntN]; omega
  | k + 1 => by rw [cntN]; omega
def cntC (x : Cs) : Nat := cntN x.ws x.ws.length
set_option maxRecDepth 20000 in
set_option maxHeartbeats 4000000 in
theorem r_CountCs (x : Cs) (A : Option Addr) (c : Nat) (hl : Wsok x.ws) (w : World) (h : Rows3 w w.heap.size A x.ws) :
    Calls Try.prog 17 #[csv x A c] w (Did (.int .i64 (cntC x : Nat)) w) := by
  have hm := hl.1
  unfold maxLen at hm
  have HL := hid hl.2
  have Hall := hid (show cntN x.ws x.ws.length = cntC x from rfl)
  have Hz := hid (show cntN x.ws 0 = 0 from rfl)
  have Hst := hid (fun k u (h : x.ws[k]? = some u) => show cntN x.ws (k + 1) = min (cntN x.ws k + wayN u u.length) 65536 by rw [cntN, List.getD_eq_getElem?_getD, h]; rfl)
  have Hle := hid (fun k => cntN_le x.ws k)
  generalize cntC x = q at *
  generalize cntN x.ws = cn at *
  obtain ⟨P, W, hP, hW, K, hb0⟩ := (Mem.nil w).one (csc x A c) 24
  obtain ⟨e0, e1⟩ := K.out.cs (B := P) (x := x) (A := A) (c := c) (t := 24) (by simp)
  have H := hid (h.below K.out.2 (Nat.le_refl _))
  clear h hl hb0
  go_enter Try.func17, Try.ntmps17
  go_wp2_with fail
  clear hP hW
  go_loopw [3, 4] (fun sv i wr => ∃ (k : Nat), i = .int .i64 k ∧ sv = .int .i64 (cn k : Nat) ∧ k ≤ x.ws.length ∧ W = wr) (fun _ i _ => x.ws.length - (intOf i).toNat)
  case atStart => exact ⟨0, rfl, by rw [Hz.out]; rfl, Nat.zero_le _, rfl⟩
  case round =>
    obtain ⟨k, rfl, rfl, hk, rfl⟩ := hrel
    by_cases hlt : k < x.ws.length
    · obtain ⟨ad, Ak, ck, u, hae, hadb, hx, hxl, hcx, hrx, hckx⟩ := H.out.at_ hlt
      have hul := (HL.out u hxl).1
      unfold maxLen at hul
      have HLu := hid (HL.out u hxl).2
      have b1 : (0 : Int) ≤ (k : Int) := by omega
      have b2 : (k : Int) < x.ws.length := by omega
      rw [hae] at e1
      have HR := hid hrx
      have hst := Hst.out k u hx.out
      have hle := Hle.out k
      have Hws := hid (fun j v (h : u[j]? = some v) => show wayN u (j + 1) = min (wayN u j * min v.length 65536) 65536 by rw [wayN, List.getD_eq_getElem?_getD, h]; rfl)
      have Hwz := hid (show wayN u 0 = 1 from rfl)
      have Hwl := hid (fun j => wayN_le u j)
      generalize wayN u = wn at *
      obtain ⟨sm, hsm⟩ : ∃ sm, cn k = sm := ⟨_, rfl⟩
      rw [hsm] at hst hle ⊢
      have Hst1 := hid hst
      clear hrx hckx hst hsm Hst Hle Hz Hall
      go_wp2_with fail
      go_loopw [5, 6] (fun nv i wr => ∃ (j : Nat), i = .int .i64 j ∧ nv = .int .i64 (wn j : Nat) ∧ j ≤ u.length ∧ W = wr) (fun _ i _ => u.length - (intOf i).toNat)
      case atStart => exact ⟨0, rfl, by rw [Hwz.out]; rfl, Nat.zero_le _, rfl⟩
      case round =>
        obtain ⟨j, rfl, rfl, hj, rfl⟩ := hrel
        by_cases hlt2 : j < u.length
        · obtain ⟨ae, Bk, dk, v, hbe, haeb, hy, hyl, hcy, hry, hdky⟩ := HR.out.get hlt2
          have hvl := (HLu.out v hyl).1
          unfold maxLen at hvl
          have b3 : (0 : Int) ≤ (j : Int) := by omega
          have b4 : (j : Int) < u.length := by omega
          rw [hbe] at hcx
          have hws := Hws.out j v hy.out
          have hwl := Hwl.out j
          obtain ⟨a, ha⟩ : ∃ a, wn j = a := ⟨_, rfl⟩
          rw [ha] at hws hwl ⊢
          obtain ⟨mn, hmn⟩ : ∃ mn, min v.length 65536 = mn := ⟨_, rfl⟩
          rw [hmn] at hws
          have hmnl : mn ≤ 65536 := by omega
          obtain ⟨pr, hpr⟩ : ∃ pr, a * mn = pr := ⟨_, rfl⟩
          rw [hpr] at hws
          have hprl : pr ≤ 4294967296 := by
            rw [← hpr]
            exact Nat.mul_le_mul hwl hmnl
          have hpi : (a : Int) * (mn : Int) = (pr : Int) := by rw [← hpr, Int.natCast_mul]
          have qw : IntKind.i64.wrap ((a : Int) * (mn : Int)) = (pr : Int) := by rw [hpi, IntKind.wrap_i64]; omega
          have q1 : (if (65536 : Int) < (v.length : Int) then (65536 : Int) else (v.length : Int)) = (mn : Int) := by split <;> omega
          have q2 : (if (v.length : Int) < 65536 then (v.length : Int) else (65536 : Int)) = (mn : Int) := by split <;> omega
          have q3 : (if v.length < 65536 then (v.length : Int) else (65536 : Int)) = (mn : Int) := by split <;> omega
          have q4 : (if 65536 < v.length then (65536 : Int) else (v.length : Int)) = (mn : Int) := by split <;> omega
          obtain ⟨fn, hfn⟩ : ∃ fn, min pr 65536 = fn := ⟨_, rfl⟩
          rw [hfn] at hws
          have r1 : (if (65536 : Int) < (pr : Int) then (65536 : Int) else (pr : Int)) = (fn : Int) := by split <;> omega
          have r2 : (if (pr : Int) < 65536 then (pr : Int) else (65536 : Int)) = (fn : Int) := by split <;> omega
          have r3 : (if pr < 65536 then (pr : Int) else (65536 : Int)) = (fn : Int) := by split <;> omega
          have r4 : (if 65536 < pr then (65536 : Int) else (pr : Int)) = (fn : Int) := by split <;> omega
          have Hws1 := hid hws
          clear hry hdky hws ha hmn hpr hprl hpi hfn hwl hmnl hvl Hws Hwl Hwz
          go_wp2_with fail
          exact ⟨⟨j + 1, by go_num, by rw [Hws1.out], by omega, trivial⟩, by simp [intOf]; omega⟩
        · obtain rfl : j = u.length := by omega
          have b4 : ¬ (u.length : Int) < u.length := by omega
          have hwl := Hwl.out u.length
          obtain ⟨a, ha⟩ : ∃ a, wn u.length = a := ⟨_, rfl⟩
          have hst := Hst1.out
          rw [ha] at hst hwl ⊢
          have qw : IntKind.i64.wrap ((sm : Int) + (a : Int)) = (sm : Int) + (a : Int) := by rw [IntKind.wrap_i64]; omega
          obtain ⟨fn, hfn⟩ : ∃ fn, min (sm + a) 65536 = fn := ⟨_, rfl⟩
          rw [hfn] at hst
          have Hst2 := hid hst
          have r1 : (if (65536 : Int) < (sm : Int) + (a : Int) then (65536 : Int) else (sm : Int) + (a : Int)) = (fn : Int) := by split <;> omega
          have r2 : (if (sm : Int) + (a : Int) < 65536 then (sm : Int) + (a : Int) else (65536 : Int)) = (fn : Int) := by split <;> omega
          clear hst ha hfn Hws Hwl Hwz Hst1
          go_wp2_with fail
          exact ⟨⟨k + 1, by go_num, by rw [Hst2.out], by omega, trivial⟩, by simp [intOf]; omega⟩
    · obtain rfl : k = x.ws.length := by omega
      have b2 : ¬ (x.ws.length : Int) < x.ws.length := by omega
      have Ha := hid Hall.out
      clear Hst Hle Hz Hall
      go_wp2_with fail
      go_ret
      exact Did.mk (by rw [Ha.out]; rfl) K.out.2
def lightC (x : Cs) : Bool := fewC x && decide (cntC x ≤ 600)
set_option maxRecDepth 20000 in
theorem l_lightC (x : Cs) (A : Option Addr) (c : Nat) (hl : Wsok x.ws) (w : World) (h : Rows3 w w.heap.size A x.ws) :
    Calls Try.prog 18 #[csv x A c] w (Did (.bool (lightC x)) w) := by
  have HF := hid (fun X h => l_fewC x A c hl X h)
  have HC := hid (fun X h => r_CountCs x A c hl X h)
  have H := hid h
  have Hr := hid (show lightC x = (fewC x && decide (cntC x ≤ 600)) from rfl)
  generalize lightC x = q at *
  generalize fewC x = f1 at *
  generalize cntC x = cc at *
  clear h hl
  obtain ⟨P, W, hP, hW, K, hb0⟩ := (Mem.nil w).one (csc x A c) 24
  clear hb0
  obtain ⟨e0, e1⟩ := K.out.cs (B := P) (x := x) (A := A) (c := c) (t := 24) (by simp)
  go_enter Try.func18, Try.ntmps18
  go_wp2_with fail
  refine (HF.out _ (H.out.next K.out.2)).mono ?_
  rintro e Y ⟨rfl, bz⟩
  have K2 := hid (K.out.next bz)
  clear e0 e1 bz K hP hW
  obtain ⟨e0, e1⟩ := K2.out.cs (B := P) (x := x) (A := A) (c := c) (t := 24) (by simp)
  cases f1 with
  | false =>
    go_wp2_with fail
    go_ret
    exact Did.mk (by rw [Hr.out]; rfl) K2.out.2
  | true =>
    go_wp2_with fail
    refine (HC.out _ (H.out.next K2.out.2)).mono ?_
    rintro e Y2 ⟨rfl, bz⟩
    have K3 := hid (K2.out.next bz)
    clear e0 e1 bz K2
    by_cases c1 : cc ≤ 600
    · have q1 : decide ((cc : Int) ≤ 600) = true := decide_eq_true (by omega)
      rw [decide_eq_true c1] at Hr
      go_wp2_with fail
      go_ret
      exact Did.mk (by rw [Hr.out]; rfl) K3.out.2
    · have q1 : decide ((cc : Int) ≤ 600) = false := decide_eq_false (by omega)
      rw [decide_eq_false c1] at Hr
      go_wp2_with fail
      go_ret
      exact Did.mk (by rw [Hr.out]; rfl) K3.out.2
end Go.Proofs.Ytgkplcipplpobaa
