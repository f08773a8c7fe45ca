/- Contracts of the program's own functions of layer 14 (course): within, isClass, product, countOf, Count; and room's Name. -/
import Derived.Test.YtgkplcipplpobaaCrsD
namespace Go.Proofs.Ytgkplcipplpobaa
open Go.RowKit
open Whn (Gr Wh)

def inB (n a b : Int) : Bool := decide (a ≤ n) && decide (n ≤ b)
theorem inB_true {n a b : Int} (h1 : a ≤ n) (h2 : n ≤ b) : inB n a b = true := by unfold inB; rw [decide_eq_true h1, decide_eq_true h2]; rfl
theorem inB_false {n a b : Int} (h : n < a ∨ b < n) : inB n a b = false := by
  unfold inB
  by_cases h1 : a ≤ n
  · rw [decide_eq_false (show ¬ n ≤ b by omega), Bool.and_false]
  · rw [decide_eq_false h1, Bool.false_and]
theorem p_wi (n a b : Int) (w : World) : Calls Try.prog 49 #[.int .i64 n, .int .i64 a, .int .i64 b] w (fun e w' => e = .returned (.bool (inB n a b)) ∧ w = w') := by
  by_cases h1 : a ≤ n
  · have h2 := hid (show decide (n ≤ b) = inB n a b by unfold inB; rw [decide_eq_true h1, Bool.true_and])
    go_enter Try.func49, Try.ntmps49
    go_wp2_with fail
    go_ret
    exact ⟨congrArg (fun z => Ending.returned (Value.bool z)) h2.out, rfl⟩
  · have h2 := hid (show false = inB n a b from (inB_false (by omega)).symm)
    go_enter Try.func49, Try.ntmps49
    go_wp2_with fail
    go_ret
    exact ⟨congrArg (fun z => Ending.returned (Value.bool z)) h2.out, rfl⟩
theorem p_wic (n a b : Int) (w : World) : Calls Try.prog 30 #[.int .i64 n, .int .i64 a, .int .i64 b] w (fun e w' => e = .returned (.bool (inB n a b)) ∧ w = w') := by
  by_cases h1 : a ≤ n
  · have h2 := hid (show decide (n ≤ b) = inB n a b by unfold inB; rw [decide_eq_true h1, Bool.true_and])
    go_enter Try.func30, Try.ntmps30
    go_wp2_with fail
    go_ret
    exact ⟨congrArg (fun z => Ending.returned (Value.bool z)) h2.out, rfl⟩
  · have h2 := hid (show false = inB n a b from (inB_false (by omega)).symm)
    go_enter Try.func30, Try.ntmps30
    go_wp2_with fail
    go_ret
    exact ⟨congrArg (fun z => Ending.returned (Value.bool z)) h2.out, rfl⟩
theorem p_Name (s : ByteArray) (w : World) : Calls Try.prog 29 #[.string s] w (fun e w' => e = .returned (.bool (nameOk s.data.toList)) ∧ w = w') := by
  have HI := hid (fun n a b w => p_wi n a b w)
  have Hr := hid (show inB (s.size : Int) 1 24 = nameOk s.data.toList by
    unfold inB nameOk
    have e : s.data.toList.length = s.size := rfl
    rw [e]
    congr 1 <;> (rw [decide_eq_decide]; omega))
  go_enter Try.func29, Try.ntmps29
  go_wp2_with fail
  refine (HI.out _ _ _ _).mono ?_
  rintro e w1 ⟨rfl, rfl⟩
  go_wp2_with fail
  go_ret
  exact ⟨congrArg (fun z => Ending.returned (Value.bool z)) Hr.out, rfl⟩
/-- is it the number of one of m classes? -/
def clB (m : Nat) (n : Int) : Bool := decide (0 ≤ n) && decide (n < (m : Int))
theorem p_isClass (A : Option Addr) (m c : Nat) (n : Int) (w : World) : Calls Try.prog 46 #[.slice A m c, .int .i64 n] w (fun e w' => e = .returned (.bool (clB m n)) ∧ w = w') := by
  by_cases h1 : 0 ≤ n
  · have h2 := hid (show decide (n < (m : Int)) = clB m n by unfold clB; rw [decide_eq_true h1, Bool.true_and])
    go_enter Try.func46, Try.ntmps46
    go_wp2_with fail
    go_ret
    exact ⟨congrArg (fun z => Ending.returned (Value.bool z)) h2.out, rfl⟩
  · have h2 := hid (show false = clB m n by unfold clB; rw [decide_eq_false h1, Bool.false_and])
    go_enter Try.func46, Try.ntmps46
    go_wp2_with fail
    go_ret
    exact ⟨congrArg (fun z => Ending.returned (Value.bool z)) h2.out, rfl⟩
theorem prod_many {a b : Nat} (ha : 0 < a) (h : 65536 / a < b) (h1 : a ≤ 65536) : min (a * min b 65536) 65536 = 65536 := by
  have h2 : 65536 < a * (65536 / a + 1) := Nat.lt_mul_div_succ 65536 ha
  have h3 : a * (65536 / a + 1) ≤ a * b := Nat.mul_le_mul_left a h
  have h4 : a * min b 65536 = min (a * b) (a * 65536) := Nat.mul_min_mul_left a b 65536 |>.symm
  have h5 : 65536 ≤ a * 65536 := Nat.le_mul_of_pos_left 65536 ha
  rw [h4]
  omega
theorem prod_few {a b : Nat} (ha : 0 < a) (h : b ≤ 65536 / a) : min (a * min b 65536) 65536 = a * b ∧ a * b ≤ 65536 := by
  have h2 : a * b ≤ 65536 := Nat.le_trans (Nat.mul_le_mul_left a h) (Nat.mul_div_le 65536 a)
  have h3 : b ≤ a * b := Nat.le_mul_of_pos_left b ha
  rw [Nat.min_eq_left (show b ≤ 65536 by omega)]
  omega
theorem p_product (a b : Nat) (ha : a ≤ 65536) (w : World) : Calls Try.prog 53 #[.int .i64 (a : Int), .int .i64 (b : Int)] w (fun e w' => e = .returned (.int .i64 (min (a * min b 65536) 65536 : Nat)) ∧ w = w') := by
  by_cases h0 : 0 < a
  · have c0 : (a : Int) > 0 := by omega
    have c1 : ((a : Int) == 0) = false := by rw [beq_eq_false_iff_ne]; omega
    obtain ⟨d, hd⟩ : ∃ d, 65536 / a = d := ⟨_, rfl⟩
    have hd2 : d ≤ 65536 := by rw [← hd]; exact Nat.div_le_self _ _
    have e2 : (65536 : Int) / (a : Int) = (d : Int) := by
      rw [show (65536 : Int) / (a : Int) = ((65536 / a : Nat) : Int) from rfl, hd]
    have c2 : IntKind.i64.wrap (65536 / (a : Int)) = 65536 / (a : Int) := by
      rw [e2, IntKind.wrap_i64]
      omega
    have hma := hid (fun h => prod_many h0 (b := b) h ha)
    have hfe := hid (fun h => prod_few h0 (b := b) h)
    rw [hd] at hma hfe
    clear hd
    by_cases h1 : d < b
    · have c3 : (65536 : Int) / (a : Int) < (b : Int) := by rw [e2]; omega
      have hr := hid (hma.out h1)
      clear h1 e2
      go_enter Try.func53, Try.ntmps53
      go_wp2_with fail
      go_ret
      exact ⟨ret_k (by rw [hr.out]; rfl), rfl⟩
    · have c3 : ¬ (65536 : Int) / (a : Int) < (b : Int) := by rw [e2]; omega
      have hr := hid (hfe.out (show b ≤ d by omega))
      have q : IntKind.i64.wrap ((a : Int) * (b : Int)) = ((a * b : Nat) : Int) := by
        rw [← Int.natCast_mul, IntKind.wrap_i64]
        have := hr.out.2
        omega
      clear h1 e2
      go_enter Try.func53, Try.ntmps53
      go_wp2_with fail
      go_ret
      exact ⟨ret_k (by rw [hr.out.1, Int.natCast_mul]), rfl⟩
  · obtain rfl : a = 0 := by omega
    have hr := hid (show min (0 * min b 65536) 65536 = 0 by rw [Nat.zero_mul]; rfl)
    go_enter Try.func53, Try.ntmps53
    go_wp2_with fail
    go_ret
    exact ⟨ret_k (by rw [hr.out]; simp), rfl⟩
set_option maxRecDepth 20000 in
set_option maxHeartbeats 2000000 in
theorem p_countOf (B : Option Addr) (d : Nat) (u : List (List Int)) (hl : Lsok u) (w : World) (h : Rows2 w w.heap.size B u) :
    Calls Try.prog 38 #[.agg #[.slice B u.length d]] w (Did (.int .i64 (wayN u u.length : Nat)) w) := by
  have hm := hl.1
  unfold maxLen at hm
  have HP := hid (fun a b h X => p_product a b h X)
  have Hws := hid (fun j v (h : u[j]? = some v) => show wayN u (j + 1) = min (wayN u j * min v.length 65536) 65536 by rw [wayN, List.getD_eq_getElem?_getD, h]; rfl)
  have Hwz := hid (show wayN u 0 = 1 from rfl)
  have Hwl := hid (fun j => wayN_le u j)
  generalize wayN u = wn at *
  obtain ⟨P, W, hP, hW, K, hb0⟩ := (Mem.nil w).one [.slice B u.length d] 42
  have c0 := K.out.cell (b := P) (cs := [.slice B u.length d]) (t := 42) (by simp) (k := 0) rfl
  have HR := hid (h.below K.out.2 (Nat.le_refl _))
  clear h hl hb0
  go_enter Try.func38, Try.ntmps38
  go_wp2_with fail
  clear hP hW
  go_loopw [3, 9] (fun nv i wr => ∃ (j : Nat), i = .int .i64 j ∧ nv = .int .i64 (wn j : Nat) ∧ j ≤ u.length ∧ W = wr) (fun _ i _ => u.length - (intOf i).toNat)
  case atStart => exact ⟨0, rfl, by rw [Hwz.out]; rfl, Nat.zero_le _, rfl⟩
  case round =>
    obtain ⟨j, rfl, rfl, hj, rfl⟩ := hrel
    by_cases hlt2 : j < u.length
    · obtain ⟨ae, Bk, dk, v, hbe, haeb, hy, hyl, hcy, hry, hdky⟩ := HR.out.get hlt2
      subst hbe
      have b3 : (0 : Int) ≤ (j : Int) := by omega
      have b4 : (j : Int) < u.length := by omega
      have HP1 := hid (HP.out (wn j) v.length (Hwl.out j))
      rw [← Hws.out j v hy.out] at HP1
      clear hry hdky Hws Hwl Hwz HP
      go_wp2_with fail
      refine (HP1.out _).mono ?_
      rintro e w1 ⟨rfl, rfl⟩
      go_wp2_with fail
      exact ⟨⟨j + 1, by go_num, rfl, by omega, trivial⟩, by simp [intOf]; omega⟩
    · obtain rfl : j = u.length := by omega
      have b4 : ¬ (u.length : Int) < u.length := by omega
      clear Hws Hwl Hwz HP
      go_wp2_with fail
      go_ret
      exact Did.mk rfl K.out.2
set_option maxRecDepth 20000 in
set_option maxHeartbeats 4000000 in
theorem p_CountC (x : Cs) (A : Option Addr) (c : Nat) (hl : Wsok x.ws) (w : World) (h : Rows3 w w.heap.size A x.ws) :
    Calls Try.prog 16 #[csv x A c] w (Did (.int .i64 (cntC x : Nat)) w) := by
  have hm := hl.1
  unfold maxLen at hm
  have HL := hid hl.2
  have HP := hid (fun B d u hl X h => p_countOf B d u hl X h)
  have Hall := hid (show cntN x.ws x.ws.length = cntC x from rfl)
  have Hz := hid (show cntN x.ws 0 = 0 from rfl)
  have Hst := hid (fun k u (h : x.ws[k]? = some u) => show cntN x.ws (k + 1) = min (cntN x.ws k + wayN u u.length) 65536 by rw [cntN, List.getD_eq_getElem?_getD, h]; rfl)
  have Hle := hid (fun k => cntN_le x.ws k)
  generalize cntC x = q at *
  generalize cntN x.ws = cn at *
  obtain ⟨P, W, hP, hW, K, hb0⟩ := (Mem.nil w).one (csc x A c) 24
  obtain ⟨e0, e1⟩ := K.out.cs (B := P) (x := x) (A := A) (c := c) (t := 24) (by simp)
  have H := hid h
  clear h hl hb0
  go_enter Try.func16, Try.ntmps16
  go_wp2_with fail
  have K0 := hid (K.out.sub (l' := []) (by simp))
  clear hP hW K e0 e1
  go_loopw [3, 9] (fun sv i wr => ∃ (k : Nat), i = .int .i64 k ∧ sv = .int .i64 (cn k : Nat) ∧ k ≤ x.ws.length ∧ Hid (Mem w wr [])) (fun _ i _ => x.ws.length - (intOf i).toNat)
  case atStart => exact ⟨0, rfl, by rw [Hz.out]; rfl, Nat.zero_le _, K0⟩
  case round =>
    clear K0
    obtain ⟨k, rfl, rfl, hk, K⟩ := hrel
    by_cases hlt : k < x.ws.length
    · obtain ⟨ad, Ak, ck, u, hae, hadb, hx, hxl, hcx, hrx, hckx⟩ := H.out.at_ hlt
      subst hae
      have b1 : (0 : Int) ≤ (k : Int) := by omega
      have b2 : (k : Int) < x.ws.length := by omega
      have hbx : (ad.add k).block < w.heap.size := by rw [add_block]; exact hadb
      have hcx1 := (K.out.2.cell (p := ad.add k) hbx).trans hcx
      have HR := hid hrx
      obtain ⟨D, U, hD, hU, K2, hb2⟩ := K.out.one [.slice Ak u.length ck] 42
      have d0 := K2.out.cell (b := D) (cs := [.slice Ak u.length ck]) (t := 42) (by simp) (k := 0) rfl
      have HP1 := hid (fun X h => HP.out Ak ck u (HL.out u hxl) X h)
      have Hw1 := hid (show wayN u u.length ≤ 65536 from wayN_le _ _)
      have Hst1 := hid (Hst.out k u hx.out)
      have Hle1 := hid (Hle.out k)
      generalize wayN u u.length = a at *
      clear hrx hckx hcx hb2 Hst Hle Hz Hall HP
      go_wp2_with fail
      refine (HP1.out _ ((HR.out.below K2.out.2 (Nat.le_refl _)).more K2.out.2.size)).mono ?_
      rintro e Y ⟨rfl, bz⟩
      have K3 := hid ((K2.out.next bz).sub (l' := []) (by simp))
      obtain ⟨sm, hsm⟩ : ∃ sm, cn k = sm := ⟨_, rfl⟩
      have hst := Hst1.out
      have hle := Hle1.out
      have hwl := Hw1.out
      rw [hsm] at hst hle ⊢
      have qw : IntKind.i64.wrap ((sm : Int) + (a : Int)) = (sm : Int) + (a : Int) := by rw [IntKind.wrap_i64]; omega
      obtain ⟨fn, hfn⟩ : ∃ fn, min (sm + a) 65536 = fn := ⟨_, rfl⟩
      rw [hfn] at hst
      have Hst2 := hid hst
      have r1 : (if (65536 : Int) < (sm : Int) + (a : Int) then (65536 : Int) else (sm : Int) + (a : Int)) = (fn : Int) := by split <;> omega
      have r2 : (if (sm : Int) + (a : Int) < 65536 then (sm : Int) + (a : Int) else (65536 : Int)) = (fn : Int) := by split <;> omega
      clear hst hfn hsm Hst1 d0 hcx1 bz hD hU
      go_wp2_with fail
      exact ⟨⟨k + 1, by go_num, by rw [Hst2.out], by omega, K3⟩, by simp [intOf]; omega⟩
    · obtain rfl : k = x.ws.length := by omega
      have b2 : ¬ (x.ws.length : Int) < x.ws.length := by omega
      have Ha := hid Hall.out
      clear Hst Hle Hz Hall HP
      go_wp2_with fail
      go_ret
      exact Did.mk (by rw [Ha.out]; rfl) K.out.2
end Go.Proofs.Ytgkplcipplpobaa
