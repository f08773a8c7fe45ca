/- What the proof of ProblemCopies stands on, part 10. -/
import Derived.Maps.OwnSet
import Derived.Maps.OwnOps
import Derived.Maps.Views
import Derived.OwnWalk
import Derived.Carry
import Derived.Test.YtgmgccepmalahaaGreatCpAF
import Derived.Test.YtgmgccepmalahaaGreatCpAG
import Derived.Test.YtgmgccepmalahaaGreatCpAH
namespace Go.Proofs.YtgmgccepmalahaaGreat
open Go.RowKit
open Whn (Gr Wh)
theorem p_wic (n a b : Int) (w : World) : Calls Tryz.prog 183 #[.int .i64 n, .int .i64 a, .int .i64 b] w (fun e w' => e = .returned (.bool (inB n a b)) ∧ w = w') := by
 by_cases h1 : a ≤ n
 · have h2 := hid (show decide (n ≤ b) = inB n a b by unfold inB; rw [decide_eq_true h1, Bool.true_and])
   go_enter Tryz.func183, Tryz.ntmps183
   go_wp2_with fail
   go_ret
   exact ⟨congrArg (fun z => Ending.returned (Value.bool z)) h2.out, rfl⟩
 · have h2 := hid (show false = inB n a b from (inB_false (by omega)).symm)
   go_enter Tryz.func183, Tryz.ntmps183
   go_wp2_with fail
   go_ret
   exact ⟨congrArg (fun z => Ending.returned (Value.bool z)) h2.out, rfl⟩
set_option maxRecDepth 8000 in
theorem p_sameRow (A A2 : Option Addr) (c c2 : Nat) (l ms : List Int) (hm : l.length ≤ maxLen) (w : World) (h : Its w w.heap.size A l) (h2 : Its w w.heap.size A2 ms) :
 Calls Tryz.prog 192 #[.slice A l.length c, .slice A2 ms.length c2] w (Did (.bool (decide (l = ms))) w) := by
 have HI := hid (p_EqualI A A2 c c2 l ms hm w h h2)
 clear h h2
 go_enter Tryz.func192, Tryz.ntmps192
 go_wp2_with fail
 refine HI.out.mono ?_
 rintro e w1 ⟨rfl, b1⟩
 go_wp2_with fail
 go_ret
 exact Did.mk rfl b1
set_option maxRecDepth 20000 in
set_option maxHeartbeats 4000000 in
theorem p_EqR (A A2 : Option Addr) (c c2 : Nat) (ls ms : List (List Int)) (hl : Lsok ls) (w : World) (h : Rows2 w w.heap.size A ls) (h2 : Rows2 w w.heap.size A2 ms) :
 Calls Tryz.prog 85 #[.slice A ls.length c, .slice A2 ms.length c2, .func (.func 192) #[] #[]] w (Did (.bool (decide (ls = ms))) w) := by
 have hm := hl.1
 unfold maxLen at hm
 have HL := hid hl.2
 have HP := hid (fun A A2 c c2 l ms hm X h h2 => p_sameRow A A2 c c2 l ms hm X h h2)
 by_cases hlen : (ls.length : Int) = (ms.length : Int)
 · have Hn := hid (show ls.length = ms.length by omega)
   have H := hid h
   have H2 := hid h2
   have hne : ((ls.length : Int) != (ms.length : Int)) = false := by rw [bne_eq_false_iff_eq]; exact hlen
   have K0 := hid (Below.refl w.heap.size w)
   clear h h2 hlen hl
   go_enter Tryz.func85, Tryz.ntmps85
   go_wp2_with fail
   go_loopw [17] (fun i wr => ∃ (k : Nat), i = .int .i64 k ∧ k ≤ ls.length ∧ Hid (Below w.heap.size w wr) ∧ Hid (ls.take k = ms.take k)) (fun i _ => ls.length - (intOf i).toNat)
   case atStart => exact ⟨0, rfl, Nat.zero_le _, K0, hid rfl⟩
   case round =>
    clear K0
    obtain ⟨k, rfl, hk, K1, hsame⟩ := hrel
    by_cases hlt : k < ls.length
    · obtain ⟨ad, Ak, ck, x, rfl, hadb, hx, hxl, hcx, hrx, hckx⟩ := H.out.get hlt
      obtain ⟨ae, Bk, dk, y, rfl, haeb, hy, _, hcy, hry, hdky⟩ := H2.out.get (k := k) (by have := Hn.out; omega)
      have b1 : (0 : Int) ≤ (k : Int) := by omega
      have b2 : (k : Int) < ls.length := by omega
      have b3 : (k : Int) < ms.length := by have := Hn.out; omega
      have hbx : (ad.add k).block < w.heap.size := by rw [add_block]; exact hadb
      have hby : (ae.add k).block < w.heap.size := by rw [add_block]; exact haeb
      have hcx1 := (K1.out.cell (p := ad.add k) hbx).trans hcx
      have hcy1 := (K1.out.cell (p := ae.add k) hby).trans hcy
      have HI := hid (HP.out Ak Bk ck dk x y (HL.out x hxl).1 _ ((hrx.below K1.out (Nat.le_refl _)).more K1.out.size) ((hry.below K1.out (Nat.le_refl _)).more K1.out.size))
      clear hrx hry hckx hdky hcx hcy HP
      go_wp2_with fail
      refine HI.out.mono ?_
      rintro e Y ⟨rfl, bz⟩
      have K2 := hid (K1.out.trans (bz.mono K1.out.size))
      clear HI bz hcx1 hcy1
      cases hR : decide (x = y) with
      | true =>
       have hn := hid (show ls.take (k + 1) = ms.take (k + 1) by rw [List.take_add_one, List.take_add_one, hsame.out, hx.out, hy.out, of_decide_eq_true hR])
       clear hsame
       go_wp2_with fail
       exact ⟨⟨k + 1, by go_num, by omega, K2, hn⟩, by simp [intOf]; omega⟩
      | false =>
       have hres := hid (decide_eq_false (takes_ne hx.out hy.out (of_decide_eq_false hR)))
       clear hsame
       go_wp2_with fail
       go_ret
       exact Did.mk (by rw [hres.out]; rfl) K2.out
    · have hall := hid (decide_eq_true (takes_all hsame.out (by omega) Hn.out))
      have b2 : ¬ (k : Int) < ls.length := by omega
      clear hsame HP
      go_wp2_with fail
      go_ret
      exact Did.mk (by rw [hall.out]; rfl) K1.out
 · have hne : ((ls.length : Int) != (ms.length : Int)) = true := by rw [bne_iff_ne]; exact hlen
   have hres := hid (show decide (ls = ms) = false by rw [decide_eq_false_iff_not]; intro e; exact hlen (by rw [e]))
   clear hlen h h2
   go_enter Tryz.func85, Tryz.ntmps85
   go_wp2
   go_ret
   exact Did.mk (by rw [hres.out]; rfl) (Below.refl _ _)
set_option maxRecDepth 8000 in
theorem p_sameWay (A A2 : Option Addr) (c c2 : Nat) (ls ms : List (List Int)) (hl : Lsok ls) (w : World) (h : Rows2 w w.heap.size A ls) (h2 : Rows2 w w.heap.size A2 ms) :
 Calls Tryz.prog 160 #[.agg #[.slice A ls.length c], .agg #[.slice A2 ms.length c2]] w (Did (.bool (decide (ls = ms))) w) := by
 have HI := hid (fun X h h2 => p_EqR A A2 c c2 ls ms hl X h h2)
 have H := hid h
 have H2 := hid h2
 obtain ⟨P, W, hP, hW, K, hb0⟩ := (Mem.nil w).one [.slice A ls.length c] 67
 obtain ⟨R, V, hR, hV, K1, hb1⟩ := K.out.one [.slice A2 ms.length c2] 67
 have c0 := K1.out.cell (b := P) (cs := [.slice A ls.length c]) (t := 67) (by simp) (k := 0) rfl
 have c1 := K1.out.cell (b := R) (cs := [.slice A2 ms.length c2]) (t := 67) (by simp) (k := 0) rfl
 clear h h2 hb0 hb1 K
 go_enter Tryz.func160, Tryz.ntmps160
 go_wp2_with fail
 refine (HI.out _ (H.out.next K1.out.2) (H2.out.next K1.out.2)).mono ?_
 rintro e Y ⟨rfl, bz⟩
 have K2 := hid (K1.out.next bz)
 clear c0 c1 hP hW hR hV bz
 go_wp2_with fail
 go_ret
 exact Did.mk rfl K2.out.2
set_option maxRecDepth 20000 in
set_option maxHeartbeats 4000000 in
theorem p_EqW (A A2 : Option Addr) (c c2 : Nat) (ls ms : List (List (List Int))) (hl : Wsok ls) (w : World) (h : Rows3 w w.heap.size A ls) (h2 : Rows3 w w.heap.size A2 ms) :
 Calls Tryz.prog 159 #[.slice A ls.length c, .slice A2 ms.length c2, .func (.func 160) #[] #[]] w (Did (.bool (decide (ls = ms))) w) := by
 have hm := hl.1
 unfold maxLen at hm
 have HL := hid hl.2
 have HP := hid (fun A A2 c c2 l ms hm X h h2 => p_sameWay A A2 c c2 l ms hm X h h2)
 by_cases hlen : (ls.length : Int) = (ms.length : Int)
 · have Hn := hid (show ls.length = ms.length by omega)
   have H := hid h
   have H2 := hid h2
   have hne : ((ls.length : Int) != (ms.length : Int)) = false := by rw [bne_eq_false_iff_eq]; exact hlen
   have K0 := hid (Mem.nil w)
   clear h h2 hlen hl
   go_enter Tryz.func159, Tryz.ntmps159
   go_wp2_with fail
   go_loopw [17] (fun i wr => ∃ (k : Nat), i = .int .i64 k ∧ k ≤ ls.length ∧ Hid (Mem w wr []) ∧ Hid (ls.take k = ms.take k)) (fun i _ => ls.length - (intOf i).toNat)
   case atStart => exact ⟨0, rfl, Nat.zero_le _, K0, hid rfl⟩
   case round =>
    clear K0
    obtain ⟨k, rfl, hk, K1, hsame⟩ := hrel
    by_cases hlt : k < ls.length
    · obtain ⟨ad, Ak, ck, x, rfl, hadb, hx, hxl, hcx, hrx, hckx⟩ := H.out.at_ hlt
      obtain ⟨ae, Bk, dk, y, rfl, haeb, hy, _, hcy, hry, hdky⟩ := H2.out.at_ (k := k) (by have := Hn.out; omega)
      have b1 : (0 : Int) ≤ (k : Int) := by omega
      have b2 : (k : Int) < ls.length := by omega
      have b3 : (k : Int) < ms.length := by have := Hn.out; omega
      have hbx : (ad.add k).block < w.heap.size := by rw [add_block]; exact hadb
      have hby : (ae.add k).block < w.heap.size := by rw [add_block]; exact haeb
      have hcx1 := (K1.out.2.cell (p := ad.add k) hbx).trans hcx
      obtain ⟨D, U, hD, hU, K2, hb2⟩ := K1.out.one [.slice Ak x.length ck] 67
      have hcy1 := (K2.out.2.cell (p := ae.add k) hby).trans hcy
      obtain ⟨E, V, hE, hV, K3, hb3⟩ := K2.out.one [.slice Bk y.length dk] 67
      have d0 := K3.out.cell (b := D) (cs := [.slice Ak x.length ck]) (t := 67) (by simp) (k := 0) rfl
      have d1 := K3.out.cell (b := E) (cs := [.slice Bk y.length dk]) (t := 67) (by simp) (k := 0) rfl
      have HI := hid (HP.out Ak Bk ck dk x y (HL.out x hxl) _ ((hrx.below K3.out.2 (Nat.le_refl _)).more K3.out.2.size) ((hry.below K3.out.2 (Nat.le_refl _)).more K3.out.2.size))
      clear hrx hry hckx hdky hcx hcy HP hb2 hb3 K2
      go_wp2_with fail
      refine HI.out.mono ?_
      rintro e Y ⟨rfl, bz⟩
      have K4 := hid ((K3.out.next bz).sub (l' := []) (by simp))
      clear HI bz hcx1 hcy1 hD hU hE hV d0 d1 K3
      cases hR : decide (x = y) with
      | true =>
       have hn := hid (show ls.take (k + 1) = ms.take (k + 1) by rw [List.take_add_one, List.take_add_one, hsame.out, hx.out, hy.out, of_decide_eq_true hR])
       clear hsame
       go_wp2_with fail
       exact ⟨⟨k + 1, by go_num, by omega, K4, hn⟩, by simp [intOf]; omega⟩
      | false =>
       have hres := hid (decide_eq_false (takes_ne hx.out hy.out (of_decide_eq_false hR)))
       clear hsame
       go_wp2_with fail
       go_ret
       exact Did.mk (by rw [hres.out]; rfl) K4.out.2
    · have hall := hid (decide_eq_true (takes_all hsame.out (by omega) Hn.out))
      have b2 : ¬ (k : Int) < ls.length := by omega
      clear hsame HP
      go_wp2_with fail
      go_ret
      exact Did.mk (by rw [hall.out]; rfl) K1.out.2
 · have hne : ((ls.length : Int) != (ms.length : Int)) = true := by rw [bne_iff_ne]; exact hlen
   have hres := hid (show decide (ls = ms) = false by rw [decide_eq_false_iff_not]; intro e; exact hlen (by rw [e]))
   clear hlen h h2
   go_enter Tryz.func159, Tryz.ntmps159
   go_wp2
   go_ret
   exact Did.mk (by rw [hres.out]; rfl) (Below.refl _ _)
set_option maxRecDepth 20000 in
set_option maxHeartbeats 4000000 in
theorem p_SameCs (x y : Cs) (A A2 : Option Addr) (c c2 : Nat) (hl : Wsok x.ws) (w : World) (h : Rows3 w w.heap.size A x.ws) (h2 : Rows3 w w.heap.size A2 y.ws) :
 Calls Tryz.prog 92 #[csv x A c, csv y A2 c2] w (Did (.bool (csEq x y)) w) := by
 have HI := hid (fun X h h2 => p_EqW A A2 c c2 x.ws y.ws hl X h h2)
 have Hr := hid (show csEq x y = (decide (x.n = y.n) && decide (x.ws = y.ws)) from rfl)
 generalize csEq x y = q at *
 obtain ⟨P, W, hP, hW, K, hb0⟩ := (Mem.nil w).one (csc x A c) 65
 obtain ⟨R, V, hR, hV, K1, hb1⟩ := K.out.one (csc y A2 c2) 65
 clear K hb0 hb1
 obtain ⟨e0, e1⟩ := K1.out.cs (B := P) (x := x) (A := A) (c := c) (t := 65) (by simp)
 obtain ⟨f0, f1⟩ := K1.out.cs (B := R) (x := y) (A := A2) (c := c2) (t := 65) (by simp)
 have H := hid h
 have H2 := hid h2
 clear h h2
 by_cases c1 : x.n = y.n
 · have q1 : ((bs x.n).toList == (bs y.n).toList) = true := by rw [list_of, list_of, bs_data, bs_data, beq_iff_eq]; exact c1
   rw [decide_eq_true c1, Bool.true_and] at Hr
   clear c1
   go_enter Tryz.func92, Tryz.ntmps92
   go_wp2_with fail
   refine (HI.out _ (H.out.next K1.out.2) (H2.out.next K1.out.2)).mono ?_
   rintro e Y ⟨rfl, bz⟩
   have K2 := hid (K1.out.next bz)
   clear e0 e1 f0 f1 hP hW hR hV bz
   go_wp2_with fail
   go_ret
   exact Did.mk (by rw [Hr.out]; rfl) K2.out.2
 · have q1 : ((bs x.n).toList == (bs y.n).toList) = false := by rw [list_of, list_of, bs_data, bs_data, beq_eq_false_iff_ne]; exact c1
   rw [decide_eq_false c1, Bool.false_and] at Hr
   clear c1
   go_enter Tryz.func92, Tryz.ntmps92
   go_wp2_with fail
   go_ret
   exact Did.mk (by rw [Hr.out]; rfl) K1.out.2
end Go.Proofs.YtgmgccepmalahaaGreat
namespace Go.Proofs.YtgmgccepmalahaaGreat
open Go.RowKit Go.Maps
structure MapTB (P : Program) (T K E : TypeId) : Prop where
 t : P.underlying T = some (.map K E)
 k : P.underlying K = some (.int .i64)
 e : P.underlying E = some .bool
 z : ∀ w, (zeroValue E).run P w = .ok (.bool false) w
def add1 (f : Int → Bool) (k : Int) : Int → Bool := fun x => if x = k then true else f x
theorem add1_same (f : Int → Bool) (k : Int) : add1 f k k = true := if_pos rfl
theorem add1_other (f : Int → Bool) {k x : Int} (h : x ≠ k) : add1 f k x = f x := if_neg h
def BM (P : Program) (K E : TypeId) (w : World) (b n : Nat) (f : Int → Bool) : Prop :=
 ∃ D : DataW Unit, w.ownsMap P K (plainElem P E) b n D ∧ Maps.size D = n ∧ (∀ k, Maps.has D (.int .i64 k) = f k) ∧ ∀ k, f k = true → D.atKey (.int .i64 k) (.lit (.bool false)) = .lit (.bool true)
end Go.Proofs.YtgmgccepmalahaaGreat
namespace Go.Proofs.YtgmgccepmalahaaGreat
open Go.RowKit Go.Maps
section
variable {P : Program} {T K E : TypeId} {w : World} {b n : Nat} {f : Int → Bool}
theorem ownB_tight {H : Type} {R : Value → Option (DataW H × List MemPlace)} {D : DataW H} (h : w.ownsMap P K R b n D) : w.ownsMap P K R b (Maps.size D) D := by
 obtain ⟨es, clock, hb, F, _, rfl⟩ := h
 exact ⟨es, clock, hb, F, by simp [Maps.size, length_sorted], rfl⟩
theorem wfB_i64 {i : Int} (h : I64 i) : (Lit.int .i64 i).wf = true := WalkArith.wf_i64 (by unfold I64 at h; omega)
theorem BM.made (w : World) : BM P K E (w.alloc (.map #[] 0)) w.heap.size 0 (fun _ => false) :=
 ⟨.map [], World.ownsMap_made w P K _, rfl, fun k => by simp [Maps.has], fun k h => by cases h⟩
theorem BM.lt (h : BM P K E w b n f) : b < w.heap.size := by obtain ⟨D, h, _⟩ := h; exact h.lt
theorem keyB_ne {a c : Int} (h : a ≠ c) : Lit.int .i64 a ≠ .int .i64 c := fun e => by injection e; contradiction
theorem plainElem_bool_inv {H : Type} {e : TypeId} (he : P.underlying e = some .bool) {v : Value} {z : DataW H × List MemPlace} (h : plainElem P e v = some z) : ∃ a, v = .bool a ∧ z = (.lit (.bool a), []) := by
 unfold plainElem at h
 rw [he] at h
 cases v <;> simp at h
 subst h
 exact ⟨_, rfl, rfl⟩
theorem BM.look (M : MapTB P T K E) (h : BM P K E w b n f) {key : Int} (hk : I64 key) : (Instr.lookup T (.map (some b)) (.int .i64 key) false).run P w = .ok (.bool (f key)) w := by
 obtain ⟨D, ho, _, hh, ha⟩ := h
 obtain ⟨v, ps, hr, hv⟩ := ho.lookup (int_keyed M.k) M.t (M.z w) (plainElem_bool M.e false) (keyOf_int_mk M.k (wfB_i64 hk))
 obtain ⟨c, rfl, hc⟩ := plainElem_bool_inv M.e hv
 have hc1 := congrArg Prod.fst hc
 simp only at hc1
 rw [hr]
 cases hf : f key with
 | false =>
  have h0 : D.atKey (.int .i64 key) (.lit (.bool false)) = .lit (.bool false) := atKey_of_not_has (by rw [hh, hf]) _
  rw [h0] at hc1
  injection hc1 with hc1
  injection hc1 with hc1
  subst hc1; rfl
 | true =>
  rw [ha key hf] at hc1
  injection hc1 with hc1
  injection hc1 with hc1
  subst hc1; rfl
theorem BM.store (M : MapTB P T K E) (h : BM P K E w b n f) (hn : n < maxLen) {key : Int} (hk : I64 key) : ∃ w', (Instr.mapUpdate T (.map (some b)) (.int .i64 key) (.bool true)).run P w = .ok () w' ∧ BM P K E w' b (if f key then n else n + 1) (add1 f key) ∧ w.grownBy w' (some b) := by
 obtain ⟨D, ho, hs, hh, ha⟩ := h
 have hkey := keyOf_int_mk M.k (wfB_i64 hk)
 obtain ⟨w', hr, ho', hg⟩ := ho.update (int_keyed M.k) M.t hn hkey (plainElem_bool M.e true)
 have hsz : Maps.size (D.put (.int .i64 key) (.lit (.bool true))) = if f key then n else n + 1 := by
  rw [size_put (ho.tidy (int_keyed M.k)), hh, hs]
 refine ⟨w', hr, ⟨_, by rw [← hsz]; exact ownB_tight ho', hsz, fun k => ?_, fun k hf => ?_⟩, hg⟩
 · by_cases e : k = key
   · subst e
     rw [add1_same, has_put_same (ho.isMap) (by trivial)]
   · rw [add1_other f e, has_put_other (keyB_ne e), hh]
 · by_cases e : k = key
   · subst e
     exact atKey_put_same (ho.isMap) (by trivial) _ _
   · rw [add1_other f e] at hf
     rw [atKey_put_other (keyB_ne e)]
     exact ha k hf
end
end Go.Proofs.YtgmgccepmalahaaGreat
namespace Go.Proofs.YtgmgccepmalahaaGreat
open Go.RowKit Go.Maps
section
variable {P : Program} {T K E : TypeId} {w : World} {b n : Nat} {f : Int → Bool} {ops : Array Oper} {rest : List Oper} {o : Oper} {a : Act} {Q : Exit → Act → World → Prop}
theorem wpList_bm_store (hg : o.guard = none) (m x v : Operand) (hop : o.op = Op.mapUpdate T m x v) (M : MapTB P T K E) (h : BM P K E w b n f) (hn : n < maxLen) (hm : a.eval m = .map (some b)) {key : Int} (hx : a.eval x = .int .i64 key) (hv : a.eval v = .bool true) (hk : I64 key)
 (hK : ∀ w', BM P K E w' b (if f key then n else n + 1) (add1 f key) → w.grownBy w' (some b) → wpList P ops Q rest (a.put o.dst undef) w') : wpList P ops Q (o :: rest) a w := by
 refine wpList_plain hg fun K' hK' => ?_
 obtain ⟨w', hrun, r1, r2⟩ := h.store M hn hk
 unfold Oper.wp
 simp [execOp, hop, hm, hx, hv, hrun, Result.andThen]
 exact hK' _ _ (hK w' r1 r2)
end
end Go.Proofs.YtgmgccepmalahaaGreat
namespace Go.Proofs.YtgmgccepmalahaaGreat
open Go.RowKit
open Whn (Gr Wh)
def lsN (l : List Int) (k : Nat) : Int := if k = 0 then 0 else l.getD (k - 1) 0 + 1
theorem okR_least {l : List Int} {e : Int} {k : Nat} {a : Int} (ha : l[k]? = some a) (h0 : 0 ≤ lsN l k) : okR l e k = (decide (lsN l k ≤ a) && decide (a < e)) := by
 unfold okR
 rw [getD_of ha]
 unfold lsN at h0 ⊢
 by_cases hk : k = 0
 · rw [if_pos hk, decide_eq_true hk, Bool.true_or, Bool.and_true]
 · rw [if_neg hk] at h0 ⊢
   rw [decide_eq_false hk, Bool.false_or]
   by_cases h1 : l.getD (k - 1) 0 < a
   · rw [decide_eq_true h1, Bool.and_true, decide_eq_true (show 0 ≤ a by omega), decide_eq_true (show l.getD (k - 1) 0 + 1 ≤ a by omega)]
   · rw [decide_eq_false h1, Bool.and_false, decide_eq_false (show ¬ l.getD (k - 1) 0 + 1 ≤ a by omega), Bool.false_and]
theorem lsN_next {l : List Int} {k : Nat} {a : Int} (ha : l[k]? = some a) : lsN l (k + 1) = a + 1 := by
 unfold lsN
 rw [if_neg (by omega), Nat.add_sub_cancel, getD_of ha]
theorem rising_lt {l : List Int} {e : Int} (h : risingB l e = true) : ∀ (j i : Nat), i < j → j < l.length → l.getD i 0 < l.getD j 0 := by
 unfold risingB at h
 rw [List.all_eq_true] at h
 intro j
 induction j with
 | zero => intro i hi; omega
 | succ j ih =>
  intro i hi hj
  have h1 := h (j + 1) (List.mem_range.2 hj)
  unfold okR at h1
  rw [Bool.and_eq_true, decide_eq_false (show ¬ j + 1 = 0 by omega), Bool.false_or, decide_eq_true_iff, Nat.add_sub_cancel] at h1
  rcases Nat.lt_or_ge i j with h2 | h2
  · exact Int.lt_trans (ih i h2 (by omega)) h1.2
  · obtain rfl : i = j := by omega
    exact h1.2
theorem rising_new {l : List Int} {e : Int} (h : risingB l e = true) {j : Nat} {y : Int} (hy : l[j]? = some y) : y ∉ l.take j := by
 intro hm
 obtain ⟨i, hi, e1⟩ := List.mem_iff_getElem.1 hm
 rw [List.length_take] at hi
 have hj := (List.getElem?_eq_some_iff.1 hy).1
 rw [List.getElem_take] at e1
 have := rising_lt h j i (by omega) hj
 rw [getD_of hy, getD_of (a := y) (by rw [List.getElem?_eq_getElem (show i < l.length by omega), e1])] at this
 omega
set_option maxRecDepth 20000 in
set_option maxHeartbeats 4000000 in
theorem p_rightPart (e : Int) (he : I64 e) (A : Option Addr) (c : Nat) (l : List Int) (hm : l.length ≤ maxLen) (w : World) (h : Its w w.heap.size A l) :
 Calls Tryz.prog 210 #[.int .i64 e, .slice A l.length c] w (fun e1 w' => e1 = .returned (.bool (decide (1 ≤ l.length) && decide (l.length ≤ 8) && risingB l e)) ∧ w = w') := by
 have HI := hid (fun X => p_wic (l.length : Int) 1 8 X)
 unfold maxLen at hm
 unfold I64 at he
 have H := hid h
 have Hr := hid (show (decide (1 ≤ l.length) && decide (l.length ≤ 8) && risingB l e) = (inB (l.length : Int) 1 8 && risingB l e) by
  congr 1
  unfold inB
  congr 1 <;> (rw [decide_eq_decide]; omega))
 generalize (decide (1 ≤ l.length) && decide (l.length ≤ 8) && risingB l e) = q at *
 have Hyes := hid (fun h => risingB_yes (l := l) (e := e) h)
 have Hno := hid (fun i hi h => risingB_no (l := l) (e := e) (i := i) hi h)
 generalize risingB l e = rr at *
 generalize inB (l.length : Int) 1 8 = bb at *
 clear h
 go_enter Tryz.func210, Tryz.ntmps210
 go_wp2_with fail
 refine (HI.out _).mono ?_
 rintro e1 w1 ⟨rfl, rfl⟩
 cases bb with
 | false =>
  go_wp2_with fail
  go_ret
  exact ⟨congrArg (fun z => Ending.returned (Value.bool z)) Hr.out.symm, rfl⟩
 | true =>
  rw [Bool.true_and] at Hr
  go_wp2_with fail
  have HLs := hid (show lsN l 0 = 0 from rfl)
  go_loopw [5, 14] (fun sv i wr => ∃ (k : Nat), i = .int .i64 k ∧ sv = .int .i64 (lsN l k) ∧ k ≤ l.length ∧ w = wr ∧ Hid (∀ i, i < k → okR l e i = true) ∧ Hid (0 ≤ lsN l k ∧ (k = 0 ∨ lsN l k ≤ e))) (fun _ i _ => l.length - (intOf i).toNat)
  case atStart => exact ⟨0, rfl, rfl, Nat.zero_le _, rfl, hid (fun i hi => absurd hi (Nat.not_lt_zero i)), hid ⟨by rw [HLs.out]; decide, .inl rfl⟩⟩
  case round =>
   obtain ⟨k, rfl, rfl, hk, rfl, hsame, HB⟩ := hrel
   by_cases hlt : k < l.length
   · obtain ⟨ad, a, rfl, hadb, ha, hca⟩ := Its.get H.out hlt
     have b1 : (0 : Int) ≤ (k : Int) := by omega
     have b2 : (k : Int) < l.length := by omega
     have Hok := hid (okR_least (e := e) ha.out HB.out.1)
     have Hnx := hid (lsN_next ha.out)
     have Hl0 := HB.out
     have Hnext := hid (fun (h : okR l e k = true) => show ∀ i, i < k + 1 → okR l e i = true from fun i hi => by
      rcases Nat.lt_or_ge i k with h' | h'
      · exact hsame.out i h'
      · obtain rfl : i = k := by omega
        exact h)
     have Hbad := hid (fun (h : okR l e k = false) => Hno.out k hlt h)
     obtain ⟨ls, hls⟩ : ∃ ls, lsN l k = ls := ⟨_, rfl⟩
     rw [hls] at Hok Hl0 ⊢
     clear Hyes Hno hsame hls HB
     by_cases c1 : a < ls
     · have hb := hid (Hbad.out (by rw [Hok.out, decide_eq_false (show ¬ ls ≤ a by omega), Bool.false_and]))
       clear Hnext Hbad Hok Hl0
       go_wp2_with fail
       go_ret
       exact ⟨congrArg (fun z => Ending.returned (Value.bool z)) (Hr.out.trans hb.out).symm, rfl⟩
     · by_cases c2 : a ≥ e
       · have hb := hid (Hbad.out (by rw [Hok.out, decide_eq_false (show ¬ a < e by omega), Bool.and_false]))
         clear Hnext Hbad Hok Hl0
         go_wp2_with fail
         go_ret
         exact ⟨congrArg (fun z => Ending.returned (Value.bool z)) (Hr.out.trans hb.out).symm, rfl⟩
       · have hn := hid (Hnext.out (by rw [Hok.out, decide_eq_true (show ls ≤ a by omega), decide_eq_true (show a < e by omega)]; rfl))
         have qw : IntKind.i64.wrap (a + 1) = a + 1 := by rw [IntKind.wrap_i64]; omega
         have hl2 := hid (show 0 ≤ lsN l (k + 1) ∧ (k + 1 = 0 ∨ lsN l (k + 1) ≤ e) from ⟨by rw [Hnx.out]; omega, .inr (by rw [Hnx.out]; omega)⟩)
         clear Hnext Hbad Hok Hl0
         go_wp2_with fail
         exact ⟨⟨k + 1, by go_num, by rw [Hnx.out], by omega, trivial, hn, hl2⟩, by simp [intOf]; omega⟩
   · have hall := hid (Hyes.out (fun i hi => hsame.out i (by omega)))
     have b2 : ¬ (k : Int) < l.length := by omega
     clear Hyes Hno hsame HB
     go_wp2_with fail
     go_ret
     exact ⟨congrArg (fun z => Ending.returned (Value.bool z)) (Hr.out.trans hall.out).symm, rfl⟩
theorem Tryz.MTB : MapTB Tryz.prog 136 3 4 := ⟨by kernel_rfl, by kernel_rfl, by kernel_rfl, fun w => by kernel_rfl⟩
abbrev BMp (w : World) (b n : Nat) (f : Int → Bool) : Prop := BM Tryz.prog 3 4 w b n f
set_option maxRecDepth 20000 in
set_option maxHeartbeats 4000000 in
theorem p_rightWay (e : Int) (he : I64 e) (B : Option Addr) (d : Nat) (u : List (List Int)) (hl : Lsok u) (w : World) (h : Rows2 w w.heap.size B u) :
 Calls Tryz.prog 184 #[.int .i64 e, .agg #[.slice B u.length d]] w (Did (.bool (wayR e u)) w) := by
 have hm := hl.1
 unfold maxLen at hm
 have HL := hid hl.2
 have HI := hid (fun X => p_wic (u.length : Int) 1 4 X)
 have HP := hid (fun A c l hm X h => p_rightPart e he A c l hm X h)
 have Hr := hid (show wayR e u = (inB (u.length : Int) 1 4 && (List.range u.length).all (partOk e u)) by
  unfold wayR
  congr 1
  unfold inB
  congr 1 <;> (rw [decide_eq_decide]; omega))
 have Hin := hid (fun (h : inB (u.length : Int) 1 4 = true) => show u.length ≤ 4 by
  unfold inB at h
  rw [Bool.and_eq_true, decide_eq_true_iff, decide_eq_true_iff] at h
  omega)
 generalize wayR e u = q at *
 generalize inB (u.length : Int) 1 4 = bb at *
 obtain ⟨P, W, hP, hW, K, hb0⟩ := (Mem.nil w).one [.slice B u.length d] 67
 have c0 := K.out.cell (b := P) (cs := [.slice B u.length d]) (t := 67) (by simp) (k := 0) rfl
 have HR := hid h
 clear h hl hb0
 go_enter Tryz.func184, Tryz.ntmps184
 go_wp2_with fail
 refine (HI.out _).mono ?_
 rintro e1 w1 ⟨rfl, rfl⟩
 clear hP hW
 cases bb with
 | false =>
  go_wp2_with fail
  go_ret
  exact Did.mk (by rw [Hr.out]; rfl) K.out.2
 | true =>
  rw [Bool.true_and] at Hr
  have Hu4 := Hin.out rfl
  obtain ⟨M, V, hM, hV, HM0, hbV⟩ : ∃ M V, W.heap.size = M ∧ W.alloc (.map #[] 0) = V ∧ Hid (BMp V M 0 (fun _ => false)) ∧ Below W.heap.size W V := ⟨_, _, rfl, rfl, hid (BM.made W), below_alloc W _⟩
  have c1 := (hbV.cell (p := ⟨P, 0, none⟩) (K.out.at_ (b := P) (cs := [.slice B u.length d]) (t := 67) (by simp)).lt).trans c0
  have HB0 := hid (show Below w.heap.size w V from K.out.2.trans (hbV.mono K.out.2.size))
  have HMw := hid (show w.heap.size ≤ M by rw [← hM]; exact K.out.2.size)
  have hmm := @run_makeMap Tryz.prog
  have Hf0 := hid (show ∀ z, (fun _ : Int => false) z = decide (z ∈ (u.take 0).flatten) from fun z => by simp)
  go_wp2_with fail
  clear hM hV hbV c0 c1 K hmm
  go_loopw [19] (fun i wr => ∃ (k n : Nat) (f : Int → Bool), i = .int .i64 k ∧ k ≤ u.length ∧ n ≤ 8 * k ∧ Hid (Below w.heap.size w wr) ∧ Hid (BMp wr M n f) ∧ Hid (∀ z, f z = decide (z ∈ (u.take k).flatten)) ∧ Hid (∀ i, i < k → partOk e u i = true)) (fun i _ => u.length - (intOf i).toNat)
  case atStart => exact ⟨0, 0, _, rfl, Nat.zero_le _, Nat.le_refl _, HB0, HM0, Hf0, hid (fun i hi => absurd hi (Nat.not_lt_zero i))⟩
  case round =>
   clear HB0 HM0 Hf0
   obtain ⟨k, n, f, rfl, hk, hn, HB, HM, HF, hsame⟩ := hrel
   by_cases hlt : k < u.length
   · obtain ⟨ad, Ak, ck, v, rfl, hadb, hx, hxl, hcx, hrx, hckx⟩ := HR.out.get hlt
     have hvl := (HL.out v hxl).1
     have HLv := hid (HL.out v hxl).2
     have b1 : (0 : Int) ≤ (k : Int) := by omega
     have b2 : (k : Int) < u.length := by omega
     have hbx : (ad.add k).block < w.heap.size := by rw [add_block]; exact hadb
     have hcx1 := (HB.out.cell (p := ad.add k) hbx).trans hcx
     have HV := hid hrx
     have HP1 := hid (fun X h => HP.out Ak ck v hvl X h)
     have Hpk := hid (show partOk e u k = ((decide (1 ≤ v.length) && decide (v.length ≤ 8) && risingB v e) && v.all fun n => !decide (n ∈ (u.take k).flatten)) by unfold partOk; rw [List.getD_eq_getElem?_getD, hx.out]; rfl)
     have Hbad := hid (fun (h : partOk e u k = false) => range_no (f := partOk e u) hlt h)
     have Hnx := hid (fun (h : partOk e u k = true) => show ∀ i, i < k + 1 → partOk e u i = true from fun i hi => by
      rcases Nat.lt_or_ge i k with h' | h'
      · exact hsame.out i h'
      · obtain rfl : i = k := by omega
        exact h)
     have Hv8 := hid (fun (h : (decide (1 ≤ v.length) && decide (v.length ≤ 8) && risingB v e) = true) => show v.length ≤ 8 ∧ risingB v e = true by
      rw [Bool.and_eq_true, Bool.and_eq_true, decide_eq_true_iff, decide_eq_true_iff] at h
      exact ⟨h.1.2, h.2⟩)
     generalize (decide (1 ≤ v.length) && decide (v.length ≤ 8) && risingB v e) = rp at *
     unfold maxLen at hvl
     clear hrx hckx hcx HP hsame
     go_wp2_with fail
     refine (HP1.out _ ((HV.out.below HB.out (Nat.le_refl _)).more HB.out.size)).mono ?_
     rintro e1 w1 ⟨rfl, rfl⟩
     clear HP1
     cases rp with
     | false =>
      have hb := hid (Hbad.out (by rw [Hpk.out]; rfl))
      clear Hbad Hnx Hpk Hv8
      go_wp2_with fail
      go_ret
      exact Did.mk (by rw [Hr.out, hb.out]; rfl) HB.out
     | true =>
      rw [Bool.true_and] at Hpk
      obtain ⟨hv8, hris⟩ := Hv8.out rfl
      have Hris := hid hris
      have HF1 := hid (show ∀ z, f z = (decide (z ∈ (u.take k).flatten) || decide (z ∈ v.take 0)) from fun z => by rw [HF.out z]; simp)
      clear Hv8 hris hcx1
      go_wp2_with fail
      go_loopw [29] (fun i wr => ∃ (j n : Nat) (f : Int → Bool), i = .int .i64 j ∧ j ≤ v.length ∧ n ≤ 8 * k + j ∧ Hid (Below w.heap.size w wr) ∧ Hid (BMp wr M n f) ∧ Hid (∀ z, f z = (decide (z ∈ (u.take k).flatten) || decide (z ∈ v.take j))) ∧ Hid (∀ i, i < j → ∀ n, v[i]? = some n → (!decide (n ∈ (u.take k).flatten)) = true)) (fun i _ => v.length - (intOf i).toNat)
      case atStart => exact ⟨0, n, f, rfl, Nat.zero_le _, by omega, HB, HM, HF1, hid (fun i hi => absurd hi (Nat.not_lt_zero i))⟩
      case round =>
       clear HB HM HF HF1 hn
       obtain ⟨j, n, f, rfl, hj, hn, HB, HM, HF, hsame⟩ := hrel
       by_cases hlt2 : j < v.length
       · obtain ⟨ae, y, hbe, haeb, hy, hcy⟩ := Its.get HV.out hlt2
         have b3 : (0 : Int) ≤ (j : Int) := by omega
         have b4 : (j : Int) < v.length := by omega
         have hby : (ae.add j).block < w.heap.size := by rw [add_block]; exact haeb
         have hcy1 := (HB.out.cell (p := ae.add j) hby).trans hcy
         have Hy64 := hid (HLv.out y (List.mem_of_getElem? hy.out))
         have hlook := HM.out.look Tryz.MTB Hy64.out
         have Hfy := hid (show f y = decide (y ∈ (u.take k).flatten) by rw [HF.out y, decide_eq_false (rising_new Hris.out hy.out), Bool.or_false])
         have HMl := hid HM.out.lt
         rw [hbe]
         obtain ⟨fy, hfy⟩ : ∃ fy, f y = fy := ⟨_, rfl⟩
         rw [hfy] at hlook Hfy
         clear hcy hfy
         cases fy with
         | true =>
          have hb := hid (Hbad.out (by rw [Hpk.out]; exact all_no hy.out (by rw [← Hfy.out]; rfl)))
          clear Hbad Hnx Hpk hsame
          go_wp2_with fail
          go_ret
          exact Did.mk (by rw [Hr.out, hb.out]; rfl) HB.out
         | false =>
          have hn2 := hid (all_next (f := fun n => !decide (n ∈ (u.take k).flatten)) hy.out (by rw [← Hfy.out]; rfl) hsame.out)
          have hF2 := hid (show ∀ z, add1 f y z = (decide (z ∈ (u.take k).flatten) || decide (z ∈ v.take (j + 1))) from fun z => by
           rw [List.take_add_one, hy.out]
           by_cases hz : z = y
           · subst hz
             rw [add1_same]
             simp
           · rw [add1_other _ hz, HF.out z]
             congr 1
             rw [decide_eq_decide]
             simp [hz])
          clear Hbad Hnx Hpk hsame HF
          go_wp2_with (at_mapUpdate; refine wpList_bm_store rfl _ _ _ rfl Tryz.MTB HM.out (by unfold maxLen; omega) rfl rfl rfl Hy64.out ?_; intro w5 hm5 hgrow)
          have bb5 := hid (HB.out.grown hgrow HB.out.size (fun k hk => by injection hk with hk; rw [← hk]; exact HMw.out))
          refine ⟨⟨j + 1, _, _, by go_num, by omega, ?_, bb5, hid hm5, hF2, hn2⟩, by simp [intOf]; omega⟩
          split <;> omega
       · have hj2 : j = v.length := by omega
         have b4 : ¬ (j : Int) < v.length := by omega
         have hn2 := hid (Hnx.out (by rw [Hpk.out]; exact all_yes (fun i hi => hsame.out i (by omega))))
         have hF2 := hid (show ∀ z, f z = decide (z ∈ (u.take (k + 1)).flatten) from fun z => by
          rw [HF.out z, hj2, List.take_length, flat_next hx.out, Bool.eq_iff_iff, Bool.or_eq_true, decide_eq_true_iff, decide_eq_true_iff, decide_eq_true_iff, List.mem_append])
         clear Hbad Hnx Hpk hsame HF
         go_wp2_with fail
         exact ⟨⟨k + 1, n, f, by go_num, by omega, by omega, HB, HM, hF2, hn2⟩, by simp [intOf]; omega⟩
   · have b2 : ¬ (k : Int) < u.length := by omega
     have hn2 := hid (range_yes (f := partOk e u) (n := u.length) (fun i hi => hsame.out i (by omega)))
     clear hsame HF HP
     go_wp2_with fail
     go_ret
     exact Did.mk (by rw [Hr.out, hn2.out]; rfl) HB.out
set_option maxRecDepth 20000 in
set_option maxHeartbeats 4000000 in
theorem p_RightCs (e : Int) (he : I64 e) (x : Cs) (A : Option Addr) (c : Nat) (hl : Wsok x.ws) (w : World) (h : Rows3 w w.heap.size A x.ws) :
 Calls Tryz.prog 133 #[.int .i64 e, csv x A c] w (Did (.bool (csRight e x)) w) := by
 have hm := hl.1
 unfold maxLen at hm
 have HL := hid hl.2
 have HN := hid (fun X => p_Name (bs x.n) X)
 rw [bs_data] at HN
 have HI := hid (fun X => p_wic (x.ws.length : Int) 1 4 X)
 have HP := hid (fun B d u hl X h => p_rightWay e he B d u hl X h)
 have Hr := hid (show csRight e x = (nameOk x.n && inB (x.ws.length : Int) 1 4 && x.ws.all (wayR e)) by
  unfold csRight
  rw [Bool.and_assoc (nameOk x.n)]
  congr 2
  unfold inB
  congr 1 <;> (rw [decide_eq_decide]; omega))
 generalize csRight e x = q at *
 generalize nameOk x.n = nn at *
 generalize inB (x.ws.length : Int) 1 4 = bb at *
 obtain ⟨P, W, hP, hW, K, hb0⟩ := (Mem.nil w).one (csc x A c) 65
 obtain ⟨e0, e1⟩ := K.out.cs (B := P) (x := x) (A := A) (c := c) (t := 65) (by simp)
 have H := hid h
 clear h hl hb0
 go_enter Tryz.func133, Tryz.ntmps133
 go_wp2_with fail
 refine (HN.out _).mono ?_
 rintro e2 w1 ⟨rfl, rfl⟩
 clear hP hW
 cases nn with
 | false =>
  go_wp2_with fail
  go_ret
  exact Did.mk (by rw [Hr.out]; rfl) K.out.2
 | true =>
  go_wp2_with fail
  refine (HI.out _).mono ?_
  rintro e2 w1 ⟨rfl, rfl⟩
  cases bb with
  | false =>
   go_wp2_with fail
   go_ret
   exact Did.mk (by rw [Hr.out]; rfl) K.out.2
  | true =>
   simp only [Bool.true_and] at Hr
   have K0 := hid (K.out.sub (l' := []) (by simp))
   go_wp2_with fail
   clear e0 e1 K
   go_loopw [21] (fun i wr => ∃ (k : Nat), i = .int .i64 k ∧ k ≤ x.ws.length ∧ Hid (Mem w wr []) ∧ Hid (∀ i, i < k → ∀ ls, x.ws[i]? = some ls → wayR e ls = true)) (fun i _ => x.ws.length - (intOf i).toNat)
   case atStart => exact ⟨0, rfl, Nat.zero_le _, K0, hid (fun i hi => absurd hi (Nat.not_lt_zero i))⟩
   case round =>
    clear K0
    obtain ⟨k, rfl, hk, K, hsame⟩ := hrel
    by_cases hlt : k < x.ws.length
    · obtain ⟨ad, Ak, ck, u, hae, hadb, hx, hxl, hcx, hrx, hckx⟩ := H.out.at_ hlt
      subst hae
      have b1 : (0 : Int) ≤ (k : Int) := by omega
      have b2 : (k : Int) < x.ws.length := by omega
      have hbx : (ad.add k).block < w.heap.size := by rw [add_block]; exact hadb
      have hcx1 := (K.out.2.cell (p := ad.add k) hbx).trans hcx
      have Hbad := hid (fun (h : wayR e u = false) => all_no hx.out h)
      have Hnx := hid (fun (h : wayR e u = true) => all_next hx.out h hsame.out)
      have HR := hid hrx
      obtain ⟨D, U, hD, hU, K2, hb2⟩ := K.out.one [.slice Ak u.length ck] 67
      have d0 := K2.out.cell (b := D) (cs := [.slice Ak u.length ck]) (t := 67) (by simp) (k := 0) rfl
      have HP1 := hid (fun X h => HP.out Ak ck u (HL.out u hxl) X h)
      generalize wayR e u = wr at *
      clear hrx hsame hckx hcx hb2 K HP
      go_wp2_with fail
      refine (HP1.out _ ((HR.out.below K2.out.2 (Nat.le_refl _)).more K2.out.2.size)).mono ?_
      rintro e2 Y ⟨rfl, bz⟩
      have K3 := hid ((K2.out.next bz).sub (l' := []) (by simp))
      clear hD hU d0 hcx1 bz K2
      cases wr with
      | false =>
       have hb := hid (Hbad.out rfl)
       clear Hbad Hnx
       go_wp2_with fail
       go_ret
       exact Did.mk (by rw [Hr.out, hb.out]; rfl) K3.out.2
      | true =>
       have hn := hid (Hnx.out rfl)
       clear Hbad Hnx
       go_wp2_with fail
       exact ⟨⟨k + 1, by go_num, by omega, K3, hn⟩, by simp [intOf]; omega⟩
    · have b2 : ¬ (k : Int) < x.ws.length := by omega
      have hn := hid (all_yes (fun i hi => hsame.out i (by omega)))
      clear hsame HP
      go_wp2_with fail
      go_ret
      exact Did.mk (by rw [Hr.out, hn.out]; rfl) K.out.2
end Go.Proofs.YtgmgccepmalahaaGreat
namespace Go.Proofs.YtgmgccepmalahaaGreat
open Go.RowKit
open Whn (Gr Wh)
theorem p_w17 (n a b : Int) (w : World) : Calls Tryz.prog 58 #[.int .i64 n, .int .i64 a, .int .i64 b] w (fun e w' => e = .returned (.bool (inB n a b)) ∧ w = w') := by
 by_cases h1 : a ≤ n
 · have h2 := hid (show decide (n ≤ b) = inB n a b by unfold inB; rw [decide_eq_true h1, Bool.true_and])
   go_enter Tryz.func58, Tryz.ntmps58
   go_wp2_with fail
   go_ret
   exact ⟨congrArg (fun z => Ending.returned (Value.bool z)) h2.out, rfl⟩
 · have h2 := hid (show false = inB n a b from (inB_false (by omega)).symm)
   go_enter Tryz.func58, Tryz.ntmps58
   go_wp2_with fail
   go_ret
   exact ⟨congrArg (fun z => Ending.returned (Value.bool z)) h2.out, rfl⟩
set_option maxRecDepth 20000 in
set_option maxHeartbeats 4000000 in
theorem p_rcost17 (x : Rl) (A : Option Addr) (c : Nat) (w : World) : Calls Tryz.prog 61 #[rlv x A c] w (Did (.bool (costB17 x)) w) := by
 have HI := hid (fun n a b w => p_w17 n a b w)
 obtain ⟨R, W, hR, hW, K, hb0⟩ := (Mem.nil w).one (rlc x A c) 45
 obtain ⟨c0, c1, c2, c3, c4, c5⟩ := K.out.rl (B := R) (x := x) (A := A) (c := c) (t := 45) (by simp)
 clear hb0 c0 c1 c2 c3
 obtain ⟨k, l, a, b, h, z⟩ := x
 cases h with
 | true =>
  have Hr := hid (show costB17 ⟨k, l, a, b, true, z⟩ = (z == 0) from rfl)
  generalize costB17 ⟨k, l, a, b, true, z⟩ = q at *
  go_enter Tryz.func61, Tryz.ntmps61
  go_wp2_with fail
  go_ret
  exact Did.mk (by rw [Hr.out]; rfl) K.out.2
 | false =>
  have Hr := hid (show costB17 ⟨k, l, a, b, false, z⟩ = inB z 1 1000 from rfl)
  generalize costB17 ⟨k, l, a, b, false, z⟩ = q at *
  go_enter Tryz.func61, Tryz.ntmps61
  go_wp2_with fail
  refine (HI.out _ _ _ _).mono ?_
  rintro e w1 ⟨rfl, rfl⟩
  go_wp2_with fail
  go_ret
  exact Did.mk (by rw [Hr.out]; rfl) K.out.2
set_option maxRecDepth 20000 in
set_option maxHeartbeats 4000000 in
theorem p_once17 (n : Int) (A : Option Addr) (c : Nat) (l : List Int) (hm : l.length ≤ maxLen) (hc : l.length ≤ c) (w : World) (h : Its w w.heap.size A l) :
 Calls Tryz.prog 59 #[.int .i64 n, .slice A l.length c] w (Did (.bool ((List.range l.length).all (amongB n l))) w) := by
 have HC := hid (fun (k : Nat) (hk : k ≤ l.length) x X (h : Its X X.heap.size A l) => p_ContI A k c (l.take k) (by rw [List.length_take]; omega) (by rw [List.length_take]; omega) x X (its_take h k))
 unfold maxLen at hm
 have H := hid h
 have Hyes := hid (fun (h : ∀ i, i < l.length → amongB n l i = true) => all_range h)
 have Hno := hid (fun i (hi : i < l.length) (h : amongB n l i = false) => no_range hi h)
 have Ham := hid (fun i y (hy : l[i]? = some y) => show amongB n l i = (decide (0 ≤ y) && (decide (y < n) && !decide (y ∈ l.take i))) by unfold amongB; rw [List.getD_eq_getElem?_getD, hy]; rfl)
 generalize (List.range l.length).all (amongB n l) = aa at *
 generalize amongB n l = am at *
 clear h
 go_enter Tryz.func59, Tryz.ntmps59
 go_wp2_with fail
 go_loopw [9] (fun i wr => ∃ (k : Nat), i = .int .i64 k ∧ k ≤ l.length ∧ Hid (Below w.heap.size w wr) ∧ Hid (∀ i, i < k → am i = true)) (fun i _ => l.length - (intOf i).toNat)
 case atStart => exact ⟨0, rfl, Nat.zero_le _, hid (Below.refl _ _), hid (fun i hi => absurd hi (Nat.not_lt_zero i))⟩
 case round =>
  obtain ⟨k, rfl, hk, KB, hsame⟩ := hrel
  have H1 := hid ((H.out.below KB.out (Nat.le_refl _)).more KB.out.size)
  by_cases hlt : k < l.length
  · have HC1 := hid (fun x X h => HC.out k (by omega) x X h)
    have Hn1 := hid (Hno.out k hlt)
    obtain ⟨ad, y, rfl, had, hx, hcy⟩ := Its.get H1.out hlt
    have Hk := hid (Ham.out k y hx.out)
    have b1 : (0 : Int) ≤ (k : Int) := by omega
    have b2 : (k : Int) < l.length := by omega
    have b3 : (k : Int) ≤ (c : Int) := by omega
    clear HC
    by_cases y0 : 0 ≤ y
    · have y1 : ¬ y < 0 := by omega
      by_cases yn : y < n
      · have y2 : ¬ n ≤ y := by omega
        rw [decide_eq_true y0, decide_eq_true yn, Bool.true_and, Bool.true_and] at Hk
        clear y0 yn
        go_wp2_with fail
        refine (HC1.out y _ H1.out).mono ?_
        rintro e w1 ⟨b, rfl, hb, bb⟩
        have KB2 := hid (KB.out.trans (bb.mono KB.out.size))
        cases b with
        | true =>
         have hno := hid (Hn1.out (by rw [Hk.out, decide_eq_true (hb.1 rfl)]; rfl))
         clear hb
         go_wp2_with fail
         go_ret
         exact Did.mk (by rw [hno.out]; rfl) KB2.out
        | false =>
         have hn := hid (show ∀ i, i < k + 1 → am i = true from fun i hi => by
          rcases Nat.lt_succ_iff_lt_or_eq.1 hi with h | rfl
          · exact hsame.out i h
          · rw [Hk.out, decide_eq_false (fun h => by have := hb.2 h; cases this)]; rfl)
         clear hb hsame
         go_wp2_with fail
         exact ⟨⟨k + 1, by go_num, by omega, KB2, hn⟩, by simp [intOf]; omega⟩
      · have y2 : n ≤ y := by omega
        rw [decide_eq_false yn, Bool.false_and, Bool.and_false] at Hk
        have hno := hid (Hn1.out Hk.out)
        clear y0 yn
        go_wp2_with fail
        go_ret
        exact Did.mk (by rw [hno.out]; rfl) KB.out
    · have y1 : y < 0 := by omega
      rw [decide_eq_false y0, Bool.false_and] at Hk
      have hno := hid (Hn1.out Hk.out)
      clear y0
      go_wp2_with fail
      go_ret
      exact Did.mk (by rw [hno.out]; rfl) KB.out
  · have hall := hid (Hyes.out (fun i hi => hsame.out i (by omega)))
    have b2 : ¬ (k : Int) < l.length := by omega
    go_wp2_with fail
    go_ret
    exact Did.mk (by rw [hall.out]; rfl) KB.out
theorem rt_kind {k a b : Int} (h : rtV k a b = true) : (kn15 k || mkB k) = true := by
 unfold rtV at h
 unfold kn15 mkB frB
 by_cases h21 : k = 21
 · subst h21; rfl
 rw [if_neg h21] at h
 by_cases h22 : k = 22 ∨ k = 13
 · rcases h22 with rfl | rfl <;> rfl
 rw [if_neg h22] at h
 by_cases h23 : k = 23
 · subst h23; rfl
 rw [if_neg h23] at h
 by_cases h24 : k = 24
 · subst h24; rfl
 rw [if_neg h24] at h
 have := (Bool.and_eq_true _ _ ▸ h).1
 unfold kn15 frB at this
 rw [this]; rfl
theorem rule_eq (n : Int) (x : Rl) : ruleB n x = (inB (x.l.length : Int) 2 12 && ((List.range x.l.length).all (amongB n x.l) && (rtV x.k x.a x.b && costB17 x))) := by
 unfold ruleB frontB
 have e : inB (x.l.length : Int) 2 12 = decide (2 ≤ x.l.length ∧ x.l.length ≤ 12) := by
  unfold inB; rw [Bool.eq_iff_iff]; simp; omega
 rw [e]
 cases hr : rtV x.k x.a x.b with
 | true => rw [rt_kind hr]; simp
 | false => simp
set_option maxRecDepth 20000 in
set_option maxHeartbeats 8000000 in
theorem p_Rule17 (n : Int) (x : Rl) (A : Option Addr) (c : Nat) (hl : x.l.length ≤ c ∧ c ≤ maxLen) (w : World) (h : Its w w.heap.size A x.l) :
 Calls Tryz.prog 15 #[.int .i64 n, rlv x A c] w (Did (.bool (ruleB n x)) w) := by
 have HI := hid (fun w => p_w17 (x.l.length : Int) 2 12 w)
 have HO := hid (fun X h => p_once17 n A c x.l (by omega) hl.1 X h)
 have HR := hid (fun X => p_RightM x.k x.a x.b X)
 have HC := hid (fun X => p_rcost17 x A c X)
 have Hr := hid (rule_eq n x)
 have H := hid h
 generalize ruleB n x = rr at *
 generalize costB17 x = cc at *
 generalize (List.range x.l.length).all (amongB n x.l) = aa at *
 generalize rtV x.k x.a x.b = rt at *
 obtain ⟨R, W, hR, hW, K, hb0⟩ := (Mem.nil w).one (rlc x A c) 45
 obtain ⟨c0, c1, c2, c3, c4, c5⟩ := K.out.rl (B := R) (x := x) (A := A) (c := c) (t := 45) (by simp)
 generalize inB (x.l.length : Int) 2 12 = ii at *
 clear h hb0
 cases ii with
 | false =>
  go_enter Tryz.func15, Tryz.ntmps15
  go_wp2_with fail
  refine (HI.out _).mono ?_
  rintro e w1 ⟨rfl, rfl⟩
  go_wp2_with fail
  go_ret
  exact Did.mk (by rw [Hr.out]; rfl) K.out.2
 | true =>
  cases aa with
  | false =>
   go_enter Tryz.func15, Tryz.ntmps15
   go_wp2_with fail
   refine (HI.out _).mono ?_
   rintro e w1 ⟨rfl, rfl⟩
   go_wp2_with fail
   refine (HO.out _ (its_next H.out K.out.2)).mono ?_
   rintro e w1 ⟨rfl, b1⟩
   have K1 := hid (K.out.next b1)
   clear c0 c1 c2 c3 c4 c5 HO
   go_wp2_with fail
   go_ret
   exact Did.mk (by rw [Hr.out]; rfl) K1.out.2
  | true =>
   go_enter Tryz.func15, Tryz.ntmps15
   go_wp2_with fail
   refine (HI.out _).mono ?_
   rintro e w1 ⟨rfl, rfl⟩
   go_wp2_with fail
   refine (HO.out _ (its_next H.out K.out.2)).mono ?_
   rintro e w1 ⟨rfl, b1⟩
   have K1 := hid (K.out.next b1)
   clear c0 c1 c2 c3 c4 c5 HO
   obtain ⟨c0, c1, c2, c3, c4, c5⟩ := K1.out.rl (B := R) (x := x) (A := A) (c := c) (t := 45) (by simp)
   cases rt with
   | false =>
    go_wp2_with fail
    refine (HR.out _).mono ?_
    rintro e w2 ⟨rfl, rfl⟩
    go_wp2_with fail
    go_ret
    exact Did.mk (by rw [Hr.out]; rfl) K1.out.2
   | true =>
    go_wp2_with fail
    refine (HR.out _).mono ?_
    rintro e w2 ⟨rfl, rfl⟩
    go_wp2_with fail
    refine (HC.out _).mono ?_
    rintro e w2 ⟨rfl, b2⟩
    have K2 := hid (K1.out.next b2)
    clear c0 c1 c2 c3 c4 c5
    go_wp2_with fail
    go_ret
    exact Did.mk (by rw [Hr.out]; rfl) K2.out.2
end Go.Proofs.YtgmgccepmalahaaGreat
