/- What the proof of ProblemCopies stands on, part 6. -/
import Derived.Deep.DeepCutAuto
import Derived.Test.YtgmgccepmalahaaGreatCpAA
import Derived.Test.YtgmgccepmalahaaGreatCpAB
import Derived.Test.YtgmgccepmalahaaGreatCpAD
import Derived.Test.YtgmgccepmalahaaGreatCpAE
namespace Go.Proofs.YtgmgccepmalahaaGreat
open Go.RowKit
open Whn (Gr Wh)
set_option maxRecDepth 20000 in
set_option maxHeartbeats 2000000 in
theorem r_Rows14 (A A2 : Option Addr) (c c2 : Nat) (ls ms : List (List Int)) (hl : Lsok ls) (w : World) (h : Rows2 w w.heap.size A ls) (h2 : Rows2 w w.heap.size A2 ms) :
 Calls Tryz.prog 97 #[.slice A ls.length c, .slice A2 ms.length c2] w (Did (.bool (decide (ls = ms))) w) := by
 have hm := hl.1
 unfold maxLen at hm
 by_cases hlen : (ls.length : Int) = (ms.length : Int)
 · have Hn := hid (show ls.length = ms.length by omega)
   have H := hid h
   have H2 := hid h2
   have HL := hid hl.2
   have hne : ((ls.length : Int) != (ms.length : Int)) = false := by rw [bne_eq_false_iff_eq]; exact hlen
   clear h h2 hl hlen
   go_enter Tryz.func97, Tryz.ntmps97
   go_wp2
   go_loopw [5] (fun i wr => ∃ (k : Nat), i = .int .i64 k ∧ k ≤ ls.length ∧ Hid (Below w.heap.size w wr) ∧ Hid (ls.take k = ms.take k)) (fun i _ => ls.length - (intOf i).toNat)
   case atStart => exact ⟨0, rfl, Nat.zero_le _, hid (Below.refl _ _), hid rfl⟩
   case round =>
    obtain ⟨k, rfl, hk, K1, hsame⟩ := hrel
    by_cases hlt : k < ls.length
    · obtain ⟨ad, Ak, ck, x, rfl, hadb, hx, hxl, hcx, hrx, hckx⟩ := H.out.get hlt
      obtain ⟨ae, Bk, dk, y, rfl, haeb, hy, _, hcy, hry, hdky⟩ := H2.out.get (k := k) (by have := Hn.out; omega)
      have b1 : (0 : Int) ≤ (k : Int) := by omega
      have b2 : (k : Int) < ls.length := by omega
      have b3 : (k : Int) < ms.length := by have := Hn.out; omega
      have hbx : (ad.add k).block < w.heap.size := by rw [add_block]; exact hadb
      have hby : (ae.add k).block < w.heap.size := by rw [add_block]; exact haeb
      have HI := hid (fun X (hX : Below w.heap.size w X) => r_Ints Ak Bk x.length y.length ck dk x y rfl rfl X _ _ (hrx.below hX (Nat.le_refl _)) (hry.below hX (Nat.le_refl _)) (HL.out x hxl).1)
      clear hrx hry hckx hdky
      go_wp2_with fail
      refine wp_region_held_drew (S := fun X => Below w.heap.size w X) (by kernel_rfl) K1.out.drew (fun hHeld => ?_)
      refine tkD 0 17 (.slice (some ad) ls.length c) rfl rfl hHeld ?_
      simp only [pt, List.set]
      refine tkD 1 18 (.int .i64 (k : Int)) rfl rfl hHeld ?_
      simp only [pt, List.set]
      refine tkD 2 19 (.pointer (some (ad.add k))) rfl rfl hHeld ?_
      simp only [pt, List.set]
      refine tkH 3 20 (.slice Ak x.length ck) rfl rfl (fun X hX => by have q := (hX.cell (p := ad.add k) hbx).trans hcx; clear hX; go_simp) hHeld ?_
      simp only [pt, List.set]
      refine tkD 4 21 (.slice (some ae) ms.length c2) rfl rfl hHeld ?_
      simp only [pt, List.set]
      refine tkD 5 22 (.int .i64 (k : Int)) rfl rfl hHeld ?_
      simp only [pt, List.set]
      refine tkD 6 23 (.pointer (some (ae.add k))) rfl rfl hHeld ?_
      simp only [pt, List.set]
      refine tkH 7 24 (.slice Bk y.length dk) rfl rfl (fun X hX => by have q := (hX.cell (p := ae.add k) hby).trans hcy; clear hX; go_simp) hHeld ?_
      simp only [pt, List.set]
      refine wpAnyH_ready (rs := [8]) (by kernel_rfl) (by simp) ?_
      refine AllReadyH.cons rfl (fun KK hK => ?_) AllReadyH.nil
      simp only [List.getElem_toArray, List.getElem_cons_succ, List.getElem_cons_zero]
      go_simp
      refine (HI.out _ K1.out.drew).mono ?_
      rintro e Y ⟨rfl, bz⟩
      have K2 := hid (K1.out.drew.trans (bz.mono K1.out.drew.size))
      refine hK.out _ _ K2.out (fun hHeld => ?_)
      clear hK KK
      try simp only [pt, List.set]
      refine tkH 9 26 (.bool (!decide (x = y))) rfl rfl (fun X hX => by clear hX; go_simp) hHeld ?_
      simp only [pt, List.set]
      refine wpAnyH_done (by kernel_rfl) ?_ _
      clear hHeld HI bz
      cases hR : decide (x = y) with
      | true =>
       have hn := hid (show ls.take (k + 1) = ms.take (k + 1) by rw [List.take_add_one, List.take_add_one, hsame.out, hx.out, hy.out, of_decide_eq_true hR])
       go_wp2_with fail
       exact ⟨⟨k + 1, by go_num, by omega, K2, hn⟩, by simp [intOf]; omega⟩
      | false =>
       have hres := hid (decide_eq_false (takes_ne hx.out hy.out (of_decide_eq_false hR)))
       go_wp2_with fail
       go_ret
       exact Did.mk (by rw [hres.out]; rfl) K2.out
    · have hall := hid (decide_eq_true (takes_all hsame.out (by omega) Hn.out))
      have b2 : ¬ (k : Int) < ls.length := by omega
      go_wp2_with fail
      go_ret
      exact Did.mk (by rw [hall.out]; rfl) K1.out
 · have hne : ((ls.length : Int) != (ms.length : Int)) = true := by rw [bne_iff_ne]; exact hlen
   have hres := hid (show decide (ls = ms) = false by rw [decide_eq_false_iff_not]; intro e; exact hlen (by rw [e]))
   clear hlen h h2
   go_enter Tryz.func97, Tryz.ntmps97
   go_wp2
   go_ret
   exact Did.mk (by rw [hres.out]; rfl) (Below.refl _ _)
def csEq (x y : Cs) : Bool := decide (x.n = y.n) && decide (x.ws = y.ws)
theorem csEq_iff (x y : Cs) : csEq x y = true ↔ x = y := by
 unfold csEq
 rw [Bool.and_eq_true, decide_eq_true_iff, decide_eq_true_iff]
 constructor
 · rintro ⟨h1, h2⟩
   cases x; cases y
   simp only at h1 h2
   subst h1; subst h2
   rfl
 · rintro rfl; exact ⟨rfl, rfl⟩
set_option maxRecDepth 20000 in
set_option maxHeartbeats 4000000 in
theorem r_SameCs (x y : Cs) (A A2 : Option Addr) (c c2 : Nat) (hl : Wsok x.ws) (w : World) (h : Rows3 w w.heap.size A x.ws) (h2 : Rows3 w w.heap.size A2 y.ws) :
 Calls Tryz.prog 101 #[csv x A c, csv y A2 c2] w (Did (.bool (csEq x y)) w) := by
 have hm := hl.1
 unfold maxLen at hm
 have Hr := hid (show csEq x y = (decide (x.n = y.n) && decide (x.ws = y.ws)) from rfl)
 generalize csEq x y = q at *
 obtain ⟨P, W, hP, hW, K, hb0⟩ := (Mem.nil w).one (csc x A c) 65
 obtain ⟨R, V, hR, hV, K1, hb1⟩ := K.out.one (csc y A2 c2) 65
 clear K hb0 hb1
 obtain ⟨e0, e1⟩ := K1.out.cs (B := P) (x := x) (A := A) (c := c) (t := 65) (by simp)
 obtain ⟨f0, f1⟩ := K1.out.cs (B := R) (x := y) (A := A2) (c := c2) (t := 65) (by simp)
 by_cases c1 : x.n = y.n
 · have q1 : ((bs x.n).toList == (bs y.n).toList) = true := by rw [list_of, list_of, bs_data, bs_data, beq_iff_eq]; exact c1
   rw [decide_eq_true c1, Bool.true_and] at Hr
   clear c1
   by_cases hlen : (x.ws.length : Int) = (y.ws.length : Int)
   · have Hn := hid (show x.ws.length = y.ws.length by omega)
     have H := hid h
     have H2 := hid h2
     have HL := hid hl.2
     have hne : ((x.ws.length : Int) != (y.ws.length : Int)) = false := by rw [bne_eq_false_iff_eq]; exact hlen
     clear h h2 hl hlen
     go_enter Tryz.func101, Tryz.ntmps101
     go_wp2
     clear e0 e1 f0 f1
     go_loopw [5] (fun i wr => ∃ (k : Nat), i = .int .i64 k ∧ k ≤ x.ws.length ∧ Hid (Mem w wr [(R, csc y A2 c2, 65), (P, csc x A c, 65)]) ∧ Hid (x.ws.take k = y.ws.take k)) (fun i _ => x.ws.length - (intOf i).toNat)
     case atStart => exact ⟨0, rfl, Nat.zero_le _, K1, hid rfl⟩
     case round =>
      clear K1
      obtain ⟨k, rfl, hk, K1, hsame⟩ := hrel
      obtain ⟨e0, e1⟩ := K1.out.cs (B := P) (x := x) (A := A) (c := c) (t := 65) (by simp)
      by_cases hlt : k < x.ws.length
      · obtain ⟨ad, Ak, ck, u, rfl, hadb, hx, hxl, hcx, hrx, hckx⟩ := H.out.at_ hlt
        obtain ⟨ae, Bk, dk, v, rfl, haeb, hy, _, hcy, hry, hdky⟩ := H2.out.at_ (k := k) (by have := Hn.out; omega)
        have b1 : (0 : Int) ≤ (k : Int) := by omega
        have b2 : (k : Int) < x.ws.length := by omega
        have b3 : (k : Int) < y.ws.length := by have := Hn.out; omega
        have hbx : (ad.add k).block < w.heap.size := by rw [add_block]; exact hadb
        have hby : (ae.add k).block < w.heap.size := by rw [add_block]; exact haeb
        have HI := hid (fun X (hX : Below w.heap.size w X) => r_Rows14 Ak Bk ck dk u v (HL.out u hxl) X ((hrx.below hX (Nat.le_refl _)).more hX.size) ((hry.below hX (Nat.le_refl _)).more hX.size))
        clear hrx hry hckx hdky
        go_wp2_with fail
        clear e0 e1
        refine wp_region_held_drew (S := fun X => Mem w X [(R, csc y (some ae) c2, 65), (P, csc x (some ad) c, 65)]) (by kernel_rfl) K1.out.drew (fun hHeld => ?_)
        refine tkD 0 27 (.pointer (some ⟨P, 1, none⟩)) rfl rfl hHeld ?_
        simp only [pt, List.set]
        refine tkH 1 28 (.slice (some ad) x.ws.length c) rfl rfl (fun X hX => by obtain ⟨q0, q1⟩ := hX.cs (B := P) (x := x) (A := some ad) (c := c) (t := 65) (by simp); clear hX; go_simp) hHeld ?_
        simp only [pt, List.set]
        refine tkD 2 29 (.int .i64 (k : Int)) rfl rfl hHeld ?_
        simp only [pt, List.set]
        refine tkD 3 30 (.pointer (some (ad.add k))) rfl rfl hHeld ?_
        simp only [pt, List.set]
        refine tkD 4 31 (.pointer (some (ad.add k))) rfl rfl hHeld ?_
        simp only [pt, List.set]
        refine tkH 5 32 (.slice Ak u.length ck) rfl rfl (fun X hX => by have q := (hX.2.cell (p := ad.add k) hbx).trans hcx; clear hX; go_simp) hHeld ?_
        simp only [pt, List.set]
        refine tkD 6 33 (.pointer (some ⟨R, 1, none⟩)) rfl rfl hHeld ?_
        simp only [pt, List.set]
        refine tkH 7 34 (.slice (some ae) y.ws.length c2) rfl rfl (fun X hX => by obtain ⟨q0, q1⟩ := hX.cs (B := R) (x := y) (A := some ae) (c := c2) (t := 65) (by simp); clear hX; go_simp) hHeld ?_
        simp only [pt, List.set]
        refine tkD 8 35 (.int .i64 (k : Int)) rfl rfl hHeld ?_
        simp only [pt, List.set]
        refine tkD 9 36 (.pointer (some (ae.add k))) rfl rfl hHeld ?_
        simp only [pt, List.set]
        refine tkD 10 37 (.pointer (some (ae.add k))) rfl rfl hHeld ?_
        simp only [pt, List.set]
        refine tkH 11 38 (.slice Bk v.length dk) rfl rfl (fun X hX => by have q := (hX.2.cell (p := ae.add k) hby).trans hcy; clear hX; go_simp) hHeld ?_
        simp only [pt, List.set]
        refine wpAnyH_ready (rs := [12]) (by kernel_rfl) (by simp) ?_
        refine AllReadyH.cons rfl (fun KK hK => ?_) AllReadyH.nil
        simp only [List.getElem_toArray, List.getElem_cons_succ, List.getElem_cons_zero]
        go_simp
        refine (HI.out _ K1.out.drew.2).mono ?_
        rintro e Y ⟨rfl, bz⟩
        have K2 := hid (K1.out.drew.next bz)
        refine hK.out _ _ K2.out (fun hHeld => ?_)
        clear hK KK
        try simp only [pt, List.set]
        refine tkH 13 40 (.bool (!decide (u = v))) rfl rfl (fun X hX => by clear hX; go_simp) hHeld ?_
        simp only [pt, List.set]
        refine wpAnyH_done (by kernel_rfl) ?_ _
        clear hHeld HI bz K1
        cases hR : decide (u = v) with
        | true =>
         have hn := hid (show x.ws.take (k + 1) = y.ws.take (k + 1) by rw [List.take_add_one, List.take_add_one, hsame.out, hx.out, hy.out, of_decide_eq_true hR])
         go_wp2_with fail
         exact ⟨⟨k + 1, by go_num, by omega, K2, hn⟩, by simp [intOf]; omega⟩
        | false =>
         have hres := hid (decide_eq_false (takes_ne hx.out hy.out (of_decide_eq_false hR)))
         go_wp2_with fail
         go_ret
         exact Did.mk (by rw [Hr.out, hres.out]; rfl) K2.out.2
      · have hall := hid (decide_eq_true (takes_all hsame.out (by omega) Hn.out))
        have b2 : ¬ (k : Int) < x.ws.length := by omega
        go_wp2_with fail
        go_ret
        exact Did.mk (by rw [Hr.out, hall.out]; rfl) K1.out.2
   · have hne : ((x.ws.length : Int) != (y.ws.length : Int)) = true := by rw [bne_iff_ne]; exact hlen
     have hres := hid (show decide (x.ws = y.ws) = false by rw [decide_eq_false_iff_not]; intro e; exact hlen (by rw [e]))
     clear hlen h h2
     go_enter Tryz.func101, Tryz.ntmps101
     go_wp2
     go_ret
     exact Did.mk (by rw [Hr.out, hres.out]; rfl) K1.out.2
 · have q1 : ((bs x.n).toList == (bs y.n).toList) = false := by rw [list_of, list_of, bs_data, bs_data, beq_eq_false_iff_ne]; exact c1
   rw [decide_eq_false c1, Bool.false_and] at Hr
   clear c1 h h2
   go_enter Tryz.func101, Tryz.ntmps101
   go_wp2
   go_ret
   exact Did.mk (by rw [Hr.out]; rfl) K1.out.2
end Go.Proofs.YtgmgccepmalahaaGreat
namespace Go.Proofs.YtgmgccepmalahaaGreat
open Go.RowKit
open Whn (Gr Wh)
theorem all_no {α : Type} {f : α → Bool} {l : List α} {k : Nat} {a : α} (h : l[k]? = some a) (hf : f a = false) : l.all f = false := by
 rw [List.all_eq_false]
 exact ⟨a, List.mem_of_getElem? h, by rw [hf]; simp⟩
theorem all_yes {α : Type} {f : α → Bool} {l : List α} (h : ∀ i, i < l.length → ∀ y, l[i]? = some y → f y = true) : l.all f = true := by
 rw [List.all_eq_true]
 intro y hy
 obtain ⟨i, hi, e⟩ := List.mem_iff_getElem.1 hy
 exact h i hi y (by rw [List.getElem?_eq_getElem hi, e])
theorem all_next {α : Type} {f : α → Bool} {l : List α} {k : Nat} {a : α} (ha : l[k]? = some a) (hf : f a = true) (h : ∀ i, i < k → ∀ y, l[i]? = some y → f y = true) : ∀ i, i < k + 1 → ∀ y, l[i]? = some y → f y = true := fun i hi y hy => by
 rcases Nat.lt_or_ge i k with h' | h'
 · exact h i h' y hy
 · obtain rfl : i = k := by omega
   rw [ha] at hy
   rw [← Option.some.inj hy]; exact hf
end Go.Proofs.YtgmgccepmalahaaGreat
namespace Go.Proofs.YtgmgccepmalahaaGreat
open Go.RowKit
open Whn (Gr Wh)
theorem Tryz.info_int14 : (Tryz.prog.info? 3).map (fun i => (i.zero, i.size, i.bytes)) = some (some (.int .i64 0), 1, 8) := by kernel_rfl
theorem src_its {P : Program} (w : World) {e' tx : TypeId} (hk : P.underlying tx = some (.slice e')) {B : Nat} {A : Option Addr} {n c : Nat} {m : List Int} (hn : m.length = n) (h : Its w B A m) : Src P 1 tx (.slice A n c) n (m.map (Value.int .i64)) w := by
 by_cases hl : m = []
 · subst hl
   obtain rfl : n = 0 := hn.symm
   cases A with
   | none => exact Src.ofNil w hk c
   | some a => exact Src.ofSlice w hk a 0 c [] rfl (fun j u hu => by cases hu) (fun u hu => by cases hu)
 · obtain ⟨ad, rfl, _, hc⟩ := h (by rw [ne_eq, List.map_eq_nil_iff]; exact hl)
   exact Src.ofSlice w hk ad n c (m.map (Value.int .i64)) (by rw [List.length_map, hn, Nat.mul_one]) hc (ints_one .i64 m)
def partOk (e : Int) (ls : List (List Int)) (k : Nat) : Bool :=
 (decide (1 ≤ (ls.getD k []).length) && decide ((ls.getD k []).length ≤ 8) && risingB (ls.getD k []) e) && (ls.getD k []).all fun n => !decide (n ∈ (ls.take k).flatten)
def wayR (e : Int) (ls : List (List Int)) : Bool := (decide (1 ≤ ls.length) && decide (ls.length ≤ 4)) && (List.range ls.length).all (partOk e ls)
def csRight (e : Int) (x : Cs) : Bool := (nameOk x.n && decide (1 ≤ x.ws.length) && decide (x.ws.length ≤ 4)) && x.ws.all (wayR e)
theorem range_no {n i : Nat} {f : Nat → Bool} (hi : i < n) (h : f i = false) : (List.range n).all f = false := by
 rw [List.all_eq_false]
 exact ⟨i, List.mem_range.2 hi, by rw [h]; simp⟩
theorem range_yes {n : Nat} {f : Nat → Bool} (h : ∀ i, i < n → f i = true) : (List.range n).all f = true := by
 rw [List.all_eq_true]
 exact fun i hi => h i (List.mem_range.1 hi)
theorem flat_next {ls : List (List Int)} {k : Nat} {v : List Int} (h : ls[k]? = some v) : (ls.take (k + 1)).flatten = (ls.take k).flatten ++ v := by
 rw [List.take_add_one, h, List.flatten_append]
 simp
end Go.Proofs.YtgmgccepmalahaaGreat
namespace Go.Proofs.YtgmgccepmalahaaGreat.Whn
end Go.Proofs.YtgmgccepmalahaaGreat.Whn
namespace Go.Proofs.YtgmgccepmalahaaGreat.Whn
end Go.Proofs.YtgmgccepmalahaaGreat.Whn
namespace Go.Proofs.YtgmgccepmalahaaGreat.Whn
end Go.Proofs.YtgmgccepmalahaaGreat.Whn
namespace Go.Proofs.YtgmgccepmalahaaGreat
open Go.RowKit
open Whn (Gr Wh)
end Go.Proofs.YtgmgccepmalahaaGreat
namespace Go.Proofs.YtgmgccepmalahaaGreat
open Go.RowKit
open Whn (Gr Wh)
def frB (n lo hi : Int) : Bool := decide (lo ≤ n) && decide (n ≤ hi)
def mkB (k : Int) : Bool := frB k 21 24
def kn15 (k : Int) : Bool := frB k 1 14
def rtV (k a b : Int) : Bool :=
 if k = 21 then frB a 1 7 && decide (b = 0) else
 if k = 22 ∨ k = 13 then frB a 1 96 && decide (b = 0) else
 if k = 23 then frB a 0 48 && frB b 0 96 else
 if k = 24 then frB a 1 96 && frB b 0 96 else
 kn15 k && (decide (a = 0) && decide (b = 0))
theorem deq (b : Int) : decide (b = 0) = (b == 0) := by rw [Bool.eq_iff_iff, decide_eq_true_iff, beq_iff_eq]
end Go.Proofs.YtgmgccepmalahaaGreat
namespace Go.Proofs.YtgmgccepmalahaaGreat
open Go.RowKit
open Whn (Gr Wh)
def frontB (x : Rl) : Bool := (kn15 x.k || mkB x.k) && (decide (2 ≤ x.l.length ∧ x.l.length ≤ 12) && rtV x.k x.a x.b)
def amongB (n : Int) (l : List Int) (i : Nat) : Bool := decide (0 ≤ l.getD i 0) && (decide (l.getD i 0 < n) && !decide (l.getD i 0 ∈ l.take i))
def costB17 (x : Rl) : Bool := if x.h then decide (x.c = 0) else decide (1 ≤ x.c) && decide (x.c ≤ 1000)
def ruleB (n : Int) (x : Rl) : Bool := frontB x && ((List.range x.l.length).all (amongB n x.l) && costB17 x)
theorem all_range {f : Nat → Bool} {n : Nat} (h : ∀ i, i < n → f i = true) : (List.range n).all f = true := by
 rw [List.all_eq_true]; intro i hi; exact h i (List.mem_range.1 hi)
theorem no_range {f : Nat → Bool} {n i : Nat} (hi : i < n) (h : f i = false) : (List.range n).all f = false := by
 rw [List.all_eq_false]; exact ⟨i, List.mem_range.2 hi, by rw [h]; decide⟩
theorem Mem.rl {w X : World} {l : Obs} (h : Mem w X l) {B : Nat} {x : Rl} {A : Option Addr} {c : Nat} {t : TypeId} (hm : (B, rlc x A c, t) ∈ l) :
 X.cell? ⟨B, 0, none⟩ = some (.int .i64 x.k) ∧ X.cell? ⟨B, 1, none⟩ = some (.slice A x.l.length c) ∧ X.cell? ⟨B, 2, none⟩ = some (.int .i64 x.a) ∧ X.cell? ⟨B, 3, none⟩ = some (.int .i64 x.b) ∧ X.cell? ⟨B, 4, none⟩ = some (.bool x.h) ∧ X.cell? ⟨B, 5, none⟩ = some (.int .i64 x.c) :=
 ⟨h.cell hm rfl, h.cell hm rfl, h.cell hm rfl, h.cell hm rfl, h.cell hm rfl, h.cell hm rfl⟩
end Go.Proofs.YtgmgccepmalahaaGreat
namespace Go.Proofs.YtgmgccepmalahaaGreat
open Go.RowKit
open Whn (Gr Wh)
theorem Mem.st {w X : World} {l : Obs} (h : Mem w X l) {B : Nat} {x : StA} {t : TypeId} (hm : (B, enS x, t) ∈ l) : X.cell? ⟨B, 0, none⟩ = some (txt x.x.n) ∧ X.cell? ⟨B, 1, none⟩ = some (.slice x.a x.x.l.length x.c) := ⟨h.cell hm rfl, h.cell hm rfl⟩
def stB (n : Int) (x : St) : Bool := nameOk x.n && (decide (x.l.length ≤ 6) && risingB x.l n)
def wtB (l : List Int) : Bool := l.all fun n => decide (0 ≤ n) && decide (n ≤ 1000)
theorem ob_its {X : World} {g : Nat} {L : List Int} {t : TypeId} (h : Ob X g (L.map (Value.int .i64)) t) : Its X X.heap.size (some ⟨g, 0, none⟩) L := fun _ => ⟨_, rfl, h.lt, fun k v hk => by
 have := h.cell hk
 rcases Nat.eq_zero_or_pos k with rfl | hp
 · exact this
 · rw [show ((⟨g, 0, none⟩ : Addr).add k) = ⟨g, k, none⟩ by unfold Addr.add; simp; omega]
   exact this⟩
abbrev wgv (a b c d : Int) : Value := .agg #[.int .i64 a, .int .i64 b, .int .i64 c, .int .i64 d]
def badAt (ns : List (List UInt8)) (rs : List Bool) (most : Int) (i : Nat) : Bool := decide ((i : Int) = most) || (!(rs.getD i false) || (ns.take i).any (fun z => decide (z = ns.getD i [])))
def fst17 (ns : List (List UInt8)) (rs : List Bool) (most : Int) : Int := match (List.range ns.length).find? (badAt ns rs most) with | some i => (i : Int) | none => -1
theorem find_range {p : Nat → Bool} {n i : Nat} (hi : i < n) (h : p i = true) (hb : ∀ j, j < i → p j = false) : (List.range n).find? p = some i := by
 rw [List.find?_range_eq_some]
 exact ⟨h, List.mem_range.2 hi, fun j hj => by rw [hb j hj]; rfl⟩
end Go.Proofs.YtgmgccepmalahaaGreat
namespace Go.Proofs.YtgmgccepmalahaaGreat
open Go.RowKit
open Whn (Gr Wh)
end Go.Proofs.YtgmgccepmalahaaGreat
namespace Go.Proofs.YtgmgccepmalahaaGreat
open Go.RowKit
open Whn (Gr Wh)
def badR (n : Int) (l : List Rl) (i : Nat) : Bool := decide (i = 60) || !(ruleB n (l.getD i ⟨0, [], 0, 0, false, 0⟩))
def frl17 (n : Int) (l : List Rl) : Int := match (List.range l.length).find? (badR n l) with | some i => (i : Int) | none => -1
def rmI (p : Pb) : Int := fst17 (p.rm.map (·.n)) (p.rm.map (rmRight p.g)) 24
def psI (p : Pb) : Int := fst17 (p.ps.map (·.n)) (p.ps.map fun y => rmRight p.g (rmOf y)) 24
def clI (p : Pb) : Int := fst17 (p.cl.map (·.n)) (p.cl.map (clRight p.g (p.rm.length : Nat) (p.ps.length : Nat) (p.cl.length : Nat))) 40
def csI (p : Pb) : Int := fst17 (p.cs.map (·.n)) (p.cs.map (csRight (p.cl.length : Nat))) 16
def stI (p : Pb) : Int := fst17 (p.st.map (·.n)) (p.st.map (stB (p.cs.length : Nat))) 200
def rlI (p : Pb) : Int := frl17 (p.cl.length : Nat) p.rl
def chkG (nk rg : Bool) (i0 : Int) (wk : Bool) (n i1 i2 i3 i4 i5 : Int) (wt : Bool) : Int × Int :=
 if nk = false then (18, 0) else if rg = false then (10, 0) else if 0 ≤ i0 then (11, i0) else if wk = false then (11, n) else if 0 ≤ i1 then (12, i1) else if 0 ≤ i2 then (13, i2) else
 if 0 ≤ i3 then (14, i3) else if 0 ≤ i4 then (15, i4) else if 0 ≤ i5 then (16, i5) else if wt = false then (17, 0) else (0, 0)
def chk (p : Pb) : Int × Int := chkG (nameOk p.n) (Whn.rgrid p.g) (rmI p) (rwOk (p.rm.length : Nat) p.wk) (p.rm.length : Nat) (psI p) (clI p) (csI p) (stI p) (rlI p) (wtB [p.w0, p.w1, p.w2, p.w3])
def PbFew (x : PbA) : Prop := x.rm.length ≤ 1000 ∧ x.wk.length ≤ 1000 ∧ x.ps.length ≤ 1000 ∧ x.cl.length ≤ 1000 ∧ x.cs.length ≤ 1000 ∧ x.st.length ≤ 1000 ∧ x.rl.length ≤ 1000
def pbR (p : Pb) : Bool := decide ((chk p).1 = 0)
end Go.Proofs.YtgmgccepmalahaaGreat
namespace Go.Proofs.YtgmgccepmalahaaGreat
open Go.RowKit
open Whn (Gr Wh)
def plF (l : List Cl) (most : Int) : Nat → Int
 | 0 => 1
 | i + 1 => if most / (((seats (l.getD i ⟨[], 0, 0, [], [], [], 0⟩)).length : Nat) : Int) < plF l most i then most else plF l most i * (((seats (l.getD i ⟨[], 0, 0, [], [], [], 0⟩)).length : Nat) : Int)
def plV (p : Pb) (most : Int) : Int := if pbR p = false ∨ most < 1 then 0 else plF p.cl most p.cl.length
theorem find_none_range {p : Nat → Bool} {n : Nat} (h : (List.range n).find? p = none) : ∀ j, j < n → p j = false := fun j hj => by
 have := List.find?_eq_none.1 h j (List.mem_range.2 hj)
 simpa using this
theorem fst17_neg {ns : List (List UInt8)} {rs : List Bool} {most : Int} (h : fst17 ns rs most < 0) : ∀ j, j < ns.length → badAt ns rs most j = false := by
 unfold fst17 at h
 split at h
 · omega
 · rename_i h2; exact find_none_range h2
theorem chkG_ok {nk rg : Bool} {i0 : Int} {wk : Bool} {n i1 i2 i3 i4 i5 : Int} {wt : Bool} (h : (chkG nk rg i0 wk n i1 i2 i3 i4 i5 wt).1 = 0) : nk = true ∧ rg = true ∧ i0 < 0 ∧ wk = true ∧ i1 < 0 ∧ i2 < 0 ∧ i3 < 0 ∧ i4 < 0 ∧ i5 < 0 ∧ wt = true := by
 unfold chkG at h
 by_cases a : nk = false
 · rw [if_pos a] at h
   exact absurd h (by simp)
 rw [if_neg a] at h
 by_cases b : rg = false
 · rw [if_pos b] at h
   exact absurd h (by simp)
 rw [if_neg b] at h
 by_cases c : 0 ≤ i0
 · rw [if_pos c] at h
   exact absurd h (by simp)
 rw [if_neg c] at h
 by_cases d : wk = false
 · rw [if_pos d] at h
   exact absurd h (by simp)
 rw [if_neg d] at h
 by_cases e : 0 ≤ i1
 · rw [if_pos e] at h
   exact absurd h (by simp)
 rw [if_neg e] at h
 by_cases f : 0 ≤ i2
 · rw [if_pos f] at h
   exact absurd h (by simp)
 rw [if_neg f] at h
 by_cases g : 0 ≤ i3
 · rw [if_pos g] at h
   exact absurd h (by simp)
 rw [if_neg g] at h
 by_cases k : 0 ≤ i4
 · rw [if_pos k] at h
   exact absurd h (by simp)
 rw [if_neg k] at h
 by_cases l : 0 ≤ i5
 · rw [if_pos l] at h
   exact absurd h (by simp)
 rw [if_neg l] at h
 by_cases m : wt = false
 · rw [if_pos m] at h
   exact absurd h (by simp)
 rw [if_neg m] at h
 exact ⟨by simpa using a, by simpa using b, by omega, by simpa using d, by omega, by omega, by omega, by omega, by omega, by simpa using m⟩
theorem cl_right {p : Pb} (h : pbR p = true) {i : Nat} {y : Cl} (hy : p.cl[i]? = some y) : clRight p.g (p.rm.length : Nat) (p.ps.length : Nat) (p.cl.length : Nat) y = true := by
 unfold pbR at h
 rw [decide_eq_true_iff] at h
 unfold chk at h
 have h2 := (chkG_ok h).2.2.2.2.2.1
 unfold clI at h2
 obtain ⟨hi, e⟩ := List.getElem?_eq_some_iff.1 hy
 have := fst17_neg h2 i (by rw [List.length_map]; exact hi)
 unfold badAt at this
 rw [Bool.or_eq_false_iff, Bool.or_eq_false_iff] at this
 have h3 := this.2.1
 rw [List.getD_eq_getElem?_getD, List.getElem?_map, hy] at h3
 simpa using h3
theorem cl_small {g : Gr} {rn pn cn : Int} {x : Cl} (h : clRight g rn pn cn x = true) : 1 ≤ x.t.length ∧ x.t.length ≤ 16 ∧ x.l.length ≤ 12 := by
 unfold clRight at h
 simp only [Bool.and_eq_true] at h
 obtain ⟨⟨⟨⟨_, ht⟩, hp⟩, _⟩, _⟩ := h
 unfold timesB at ht
 unfold placesB at hp
 simp only [Bool.and_eq_true, decide_eq_true_iff] at ht hp
 omega
theorem seats_pos {g : Gr} {rn pn cn : Int} {x : Cl} (h : clRight g rn pn cn x = true) : 1 ≤ (seats x).length ∧ (seats x).length ≤ 192 := by
 obtain ⟨h1, h2, h3⟩ := cl_small h
 rw [seats_len]
 constructor
 · exact Nat.mul_pos h1 (by omega)
 · exact Nat.le_trans (Nat.mul_le_mul h2 (show max 1 x.l.length ≤ 12 by omega)) (by decide)
theorem plF_bnd {l : List Cl} {most : Int} (hm : 1 ≤ most) (hk : ∀ (i : Nat) (y : Cl), l[i]? = some y → 1 ≤ (seats y).length) : ∀ i, i ≤ l.length → 1 ≤ plF l most i ∧ plF l most i ≤ most := by
 intro i
 induction i with
 | zero => intro _; exact ⟨Int.le_refl _, hm⟩
 | succ i ih =>
  intro hi
  have h1 := ih (by omega)
  have hy : l[i]? = some l[i] := List.getElem?_eq_getElem (by omega)
  have hk1 := hk i _ hy
  have e : plF l most (i + 1) = (if most / (((seats l[i]).length : Nat) : Int) < plF l most i then most else plF l most i * (((seats l[i]).length : Nat) : Int)) := by
   rw [plF, List.getD_eq_getElem?_getD, hy]; rfl
  rw [e]
  clear e
  generalize hkk : (((seats l[i]).length : Nat) : Int) = k at *
  have hk0 : 1 ≤ k := by omega
  split
  · exact ⟨hm, Int.le_refl _⟩
  · rename_i hle
    have h2 : plF l most i * k ≤ most := Int.le_trans (Int.mul_le_mul_of_nonneg_right (by omega) (by omega)) (Int.ediv_mul_le most (by omega))
    have h3 : 1 * 1 ≤ plF l most i * k := Int.mul_le_mul h1.1 hk0 (by omega) (by omega)
    exact ⟨by omega, h2⟩
end Go.Proofs.YtgmgccepmalahaaGreat
namespace Go.Proofs.YtgmgccepmalahaaGreat
open Go.RowKit
open Whn (Gr Wh)
end Go.Proofs.YtgmgccepmalahaaGreat
namespace Go.Proofs.YtgmgccepmalahaaGreat
open Go.RowKit
open Whn (Gr Wh)
end Go.Proofs.YtgmgccepmalahaaGreat
namespace Go.Proofs.YtgmgccepmalahaaGreat
open Go.RowKit
open Whn (Gr Wh)
def FewRet (x : PbA) (w : World) (e : Ending) (w' : World) : Prop := ∃ b, e = .returned (.bool b) ∧ (b = true → PbFew x) ∧ Below w.heap.size w w'
set_option maxRecDepth 40000 in
set_option maxHeartbeats 16000000 in
theorem r17_Few (x : PbA) (w : World) (h : PbIn w x) : Calls Tryz.prog 10 #[pbv x] w (FewRet x w) := by
 have HI := hid h
 obtain ⟨G, W, hG, hW, K, hb0⟩ := (Mem.nil w).one (pbc x) 34
 have Hcell := hid (fun X (h : Mem w X [(G, pbc x, 34)]) => h.pb (B := G) (x := x) (t := 34) (by simp))
 obtain ⟨p0, p1, p2, p3, p4, p5, p6, p7, p8, p9, p10, p11, p12, p13, p14⟩ := Hcell.out _ K.out
 clear h hb0
 go_enter Tryz.func10, Tryz.ntmps10
 go_upto_region 1 with fail
 go_cut [52] (fun s wx => ∃ b, s = .bool b ∧ Hid (b = false → PbFew x) ∧ W = wx)
 case first =>
  by_cases h0 : 30 < (x.rm.length : Int)
  · go_wp2_with fail
    go_meet
    exact ⟨true, rfl, hid (fun h => by cases h), rfl⟩
  by_cases h1 : 40 < (x.wk.length : Int)
  · go_wp2_with fail
    go_meet
    exact ⟨true, rfl, hid (fun h => by cases h), rfl⟩
  by_cases h2 : 30 < (x.ps.length : Int)
  · go_wp2_with fail
    go_meet
    exact ⟨true, rfl, hid (fun h => by cases h), rfl⟩
  by_cases h3 : 50 < (x.cl.length : Int)
  · go_wp2_with fail
    go_meet
    exact ⟨true, rfl, hid (fun h => by cases h), rfl⟩
  by_cases h4 : 20 < (x.cs.length : Int)
  · go_wp2_with fail
    go_meet
    exact ⟨true, rfl, hid (fun h => by cases h), rfl⟩
  by_cases h5 : 210 < (x.st.length : Int)
  · go_wp2_with fail
    go_meet
    exact ⟨true, rfl, hid (fun h => by cases h), rfl⟩
  by_cases h6 : 70 < (x.rl.length : Int)
  · go_wp2_with fail
    go_meet
    exact ⟨true, rfl, hid (fun h => by cases h), rfl⟩
  have HF := hid (show PbFew x from by unfold PbFew; omega)
  go_wp2_with fail
  go_meet
  exact ⟨false, rfl, hid (fun _ => HF.out), rfl⟩
 case rest =>
  revert wc
  intro wc hcut
  obtain ⟨b, rfl, HF, rfl⟩ := hcut
  cases b with
  | true =>
   go_wp2_with fail
   go_ret
   exact ⟨false, rfl, (fun h => by cases h), K.out.2⟩
  | false =>
   have HF2 := hid (HF.out rfl)
   clear HF
   go_wp2_with fail
   go_loopw [3, 4] (fun nv iv wr => ∃ (i : Nat) (n : Int), iv = .int .i64 i ∧ i ≤ x.rm.length ∧ nv = .int .i64 n ∧ Hid (Mem w wr [(G, pbc x, 34)])) (fun _ iv _ => x.rm.length - (intOf iv).toNat)
   case atStart => exact ⟨0, _, rfl, Nat.zero_le _, rfl, K⟩
   case round =>
    clear K
    clear p0 p1 p2 p3 p4 p5 p6 p7 p8 p9 p10 p11 p12 p13 p14
    obtain ⟨i, n, rfl, hi, rfl, KM⟩ := hrel
    obtain ⟨p0, p1, p2, p3, p4, p5, p6, p7, p8, p9, p10, p11, p12, p13, p14⟩ := Hcell.out _ KM.out
    have hF := HF2.out
    unfold PbFew at hF
    by_cases hlt : i < x.rm.length
    · skip
      obtain ⟨ad, y, e0, had, hy, hyl, _⟩ := Es.get enR_len (by decide) (HI.out.rm.below KM.out.2 (Nat.le_refl _)) hlt
      have hq := HI.out.rm.below KM.out.2 (Nat.le_refl _)
      rw [e0] at hq p4
      have hc3 := es_fld enR_len hq hy.out 3 (by decide) _ rfl
      have i1 : (0 : Int) ≤ (i : Int) := by omega
      have i2 : (i : Int) < (x.rm.length : Int) := by omega
      clear hq
      go_wp2_with fail
      exact ⟨⟨i + 1, _, by go_num, by omega, rfl, KM⟩, by simp [intOf]; omega⟩
    · obtain rfl : i = x.rm.length := by omega
      have i2 : ¬ (x.rm.length : Int) < (x.rm.length : Int) := by omega
      clear hlt
      go_wp2_with fail
      go_loopw [3, 5] (fun nv iv wr => ∃ (i : Nat) (n : Int), iv = .int .i64 i ∧ i ≤ x.wk.length ∧ nv = .int .i64 n ∧ Hid (Mem w wr [(G, pbc x, 34)])) (fun _ iv _ => x.wk.length - (intOf iv).toNat)
      case atStart => exact ⟨0, _, rfl, Nat.zero_le _, rfl, KM⟩
      case round =>
       clear KM
       clear p0 p1 p2 p3 p4 p5 p6 p7 p8 p9 p10 p11 p12 p13 p14
       obtain ⟨i, n, rfl, hi, rfl, KM⟩ := hrel
       obtain ⟨p0, p1, p2, p3, p4, p5, p6, p7, p8, p9, p10, p11, p12, p13, p14⟩ := Hcell.out _ KM.out
       have hF := HF2.out
       unfold PbFew at hF
       by_cases hlt : i < x.wk.length
       · skip
         obtain ⟨ad, Ak, ck, l, e0, had, hy, hyl, hc, _, _⟩ := Rows2.get (HI.out.wk.below KM.out.2 (Nat.le_refl _)) hlt
         rw [e0] at p5
         have i1 : (0 : Int) ≤ (i : Int) := by omega
         have i2 : (i : Int) < (x.wk.length : Int) := by omega
         go_wp2_with fail
         exact ⟨⟨i + 1, _, by go_num, by omega, rfl, KM⟩, by simp [intOf]; omega⟩
       · obtain rfl : i = x.wk.length := by omega
         have i2 : ¬ (x.wk.length : Int) < (x.wk.length : Int) := by omega
         clear hlt
         go_wp2_with fail
         go_loopw [3, 6] (fun nv iv wr => ∃ (i : Nat) (n : Int), iv = .int .i64 i ∧ i ≤ x.ps.length ∧ nv = .int .i64 n ∧ Hid (Mem w wr [(G, pbc x, 34)])) (fun _ iv _ => x.ps.length - (intOf iv).toNat)
         case atStart => exact ⟨0, _, rfl, Nat.zero_le _, rfl, KM⟩
         case round =>
          clear KM
          clear p0 p1 p2 p3 p4 p5 p6 p7 p8 p9 p10 p11 p12 p13 p14
          obtain ⟨i, n, rfl, hi, rfl, KM⟩ := hrel
          obtain ⟨p0, p1, p2, p3, p4, p5, p6, p7, p8, p9, p10, p11, p12, p13, p14⟩ := Hcell.out _ KM.out
          have hF := HF2.out
          unfold PbFew at hF
          by_cases hlt : i < x.ps.length
          · skip
            obtain ⟨ad, y, e0, had, hy, hyl, _⟩ := Es.get enQ_len (by decide) (HI.out.ps.below KM.out.2 (Nat.le_refl _)) hlt
            have hq := HI.out.ps.below KM.out.2 (Nat.le_refl _)
            rw [e0] at hq p6
            have hc1 := es_fld enQ_len hq hy.out 1 (by decide) _ rfl
            have i1 : (0 : Int) ≤ (i : Int) := by omega
            have i2 : (i : Int) < (x.ps.length : Int) := by omega
            clear hq
            go_wp2_with fail
            exact ⟨⟨i + 1, _, by go_num, by omega, rfl, KM⟩, by simp [intOf]; omega⟩
          · obtain rfl : i = x.ps.length := by omega
            have i2 : ¬ (x.ps.length : Int) < (x.ps.length : Int) := by omega
            clear hlt
            go_wp2_with fail
            go_loopw [3, 7] (fun nv iv wr => ∃ (i : Nat) (n : Int), iv = .int .i64 i ∧ i ≤ x.cl.length ∧ nv = .int .i64 n ∧ Hid (Mem w wr [(G, pbc x, 34)])) (fun _ iv _ => x.cl.length - (intOf iv).toNat)
            case atStart => exact ⟨0, _, rfl, Nat.zero_le _, rfl, KM⟩
            case round =>
             clear KM
             clear p0 p1 p2 p3 p4 p5 p6 p7 p8 p9 p10 p11 p12 p13 p14
             obtain ⟨i, n, rfl, hi, rfl, KM⟩ := hrel
             obtain ⟨p0, p1, p2, p3, p4, p5, p6, p7, p8, p9, p10, p11, p12, p13, p14⟩ := Hcell.out _ KM.out
             have hF := HF2.out
             unfold PbFew at hF
             by_cases hlt : i < x.cl.length
             · skip
               obtain ⟨ad, y, e0, had, hy, hyl, _⟩ := Es.get enC_len (by decide) (HI.out.cl.below KM.out.2 (Nat.le_refl _)) hlt
               have hq := HI.out.cl.below KM.out.2 (Nat.le_refl _)
               rw [e0] at hq p7
               have hc3 := es_fld enC_len hq hy.out 3 (by decide) _ rfl
               have hc4 := es_fld enC_len hq hy.out 4 (by decide) _ rfl
               have hc5 := es_fld enC_len hq hy.out 5 (by decide) _ rfl
               have i1 : (0 : Int) ≤ (i : Int) := by omega
               have i2 : (i : Int) < (x.cl.length : Int) := by omega
               clear hq
               go_upto_region 19 with fail
               refine wp_region_held_drew (S := fun X => Mem w X [(G, pbc x, 34)]) (by kernel_rfl) KM.out.drew (fun hHeld => ?_)
               refine tkD 0 107 (.int .i64 n) rfl rfl hHeld ?_
               simp only [pt, List.set]
               refine tkD 1 108 (.pointer (some ⟨G, 7, none⟩)) rfl rfl hHeld ?_
               simp only [pt, List.set]
               refine tkH 2 109 (.slice (some ad) x.cl.length x.c3) rfl rfl (fun X hX => by obtain ⟨p0, p1, p2, p3, p4, p5, p6, p7, p8, p9, p10, p11, p12, p13, p14⟩ := Hcell.out _ hX; rw [e0] at p7; clear hX; go_simp) hHeld ?_
               simp only [pt, List.set]
               refine tkD 3 110 (.int .i64 i) rfl rfl hHeld ?_
               simp only [pt, List.set]
               refine tkD 4 111 (.pointer (some (ad.add (i * 7)))) rfl rfl hHeld ?_
               simp only [pt, List.set]
               refine tkD 5 112 (.pointer (some ⟨(ad.add (i * 7)).block, (ad.add (i * 7)).off + 3, none⟩)) rfl rfl hHeld ?_
               simp only [pt, List.set]
               refine tkH 6 113 (.slice y.r.a y.x.p.length y.r.ac) rfl rfl (fun X hX => by have hq := HI.out.cl.below hX.2 (Nat.le_refl _); rw [e0] at hq; have hcx := es_fld enC_len hq hy.out 3 (by decide) _ rfl; clear hX hq; go_simp) hHeld ?_
               simp only [pt, List.set]
               refine tkD 7 114 (.int .i64 (y.x.p.length : Nat)) rfl rfl hHeld ?_
               simp only [pt, List.set]
               refine tkD 8 115 (.int .i64 (IntKind.i64.wrap (n + (y.x.p.length : Nat)))) rfl rfl hHeld ?_
               simp only [pt, List.set]
               refine tkD 9 116 (.pointer (some ⟨G, 7, none⟩)) rfl rfl hHeld ?_
               simp only [pt, List.set]
               refine tkH 10 117 (.slice (some ad) x.cl.length x.c3) rfl rfl (fun X hX => by obtain ⟨p0, p1, p2, p3, p4, p5, p6, p7, p8, p9, p10, p11, p12, p13, p14⟩ := Hcell.out _ hX; rw [e0] at p7; clear hX; go_simp) hHeld ?_
               simp only [pt, List.set]
               refine tkD 11 118 (.int .i64 i) rfl rfl hHeld ?_
               simp only [pt, List.set]
               refine tkD 12 119 (.pointer (some (ad.add (i * 7)))) rfl rfl hHeld ?_
               simp only [pt, List.set]
               refine tkD 13 120 (.pointer (some ⟨(ad.add (i * 7)).block, (ad.add (i * 7)).off + 4, none⟩)) rfl rfl hHeld ?_
               simp only [pt, List.set]
               refine tkH 14 121 (.slice y.r.b y.x.t.length y.r.bc) rfl rfl (fun X hX => by have hq := HI.out.cl.below hX.2 (Nat.le_refl _); rw [e0] at hq; have hcx := es_fld enC_len hq hy.out 4 (by decide) _ rfl; clear hX hq; go_simp) hHeld ?_
               simp only [pt, List.set]
               refine tkD 15 122 (.int .i64 (y.x.t.length : Nat)) rfl rfl hHeld ?_
               simp only [pt, List.set]
               refine tkD 16 123 (.int .i64 (IntKind.i64.wrap (IntKind.i64.wrap (n + (y.x.p.length : Nat)) + (y.x.t.length : Nat)))) rfl rfl hHeld ?_
               simp only [pt, List.set]
               refine tkD 17 124 (.pointer (some ⟨G, 7, none⟩)) rfl rfl hHeld ?_
               simp only [pt, List.set]
               refine tkH 18 125 (.slice (some ad) x.cl.length x.c3) rfl rfl (fun X hX => by obtain ⟨p0, p1, p2, p3, p4, p5, p6, p7, p8, p9, p10, p11, p12, p13, p14⟩ := Hcell.out _ hX; rw [e0] at p7; clear hX; go_simp) hHeld ?_
               simp only [pt, List.set]
               refine tkD 19 126 (.int .i64 i) rfl rfl hHeld ?_
               simp only [pt, List.set]
               refine tkD 20 127 (.pointer (some (ad.add (i * 7)))) rfl rfl hHeld ?_
               simp only [pt, List.set]
               refine tkD 21 128 (.pointer (some ⟨(ad.add (i * 7)).block, (ad.add (i * 7)).off + 5, none⟩)) rfl rfl hHeld ?_
               simp only [pt, List.set]
               refine tkH 22 129 (.slice y.r.c y.x.l.length y.r.cc) rfl rfl (fun X hX => by have hq := HI.out.cl.below hX.2 (Nat.le_refl _); rw [e0] at hq; have hcx := es_fld enC_len hq hy.out 5 (by decide) _ rfl; clear hX hq; go_simp) hHeld ?_
               simp only [pt, List.set]
               refine tkD 23 130 (.int .i64 (y.x.l.length : Nat)) rfl rfl hHeld ?_
               simp only [pt, List.set]
               refine tkD 24 131 (.int .i64 (IntKind.i64.wrap (IntKind.i64.wrap (IntKind.i64.wrap (n + (y.x.p.length : Nat)) + (y.x.t.length : Nat)) + (y.x.l.length : Nat)))) rfl rfl hHeld ?_
               simp only [pt, List.set]
               refine tkD 25 3 (.int .i64 (IntKind.i64.wrap (IntKind.i64.wrap (IntKind.i64.wrap (n + (y.x.p.length : Nat)) + (y.x.t.length : Nat)) + (y.x.l.length : Nat)))) rfl rfl hHeld ?_
               simp only [pt, List.set]
               refine wpAnyH_done (by kernel_rfl) ?_ _
               clear hHeld
               go_wp2_with fail
               exact ⟨⟨i + 1, _, by go_num, by omega, rfl, hid KM.out.drew⟩, by simp [intOf]; omega⟩
             · obtain rfl : i = x.cl.length := by omega
               have i2 : ¬ (x.cl.length : Int) < (x.cl.length : Int) := by omega
               clear hlt
               go_wp2_with fail
               go_loopw [3, 8] (fun nv iv wr => ∃ (i : Nat) (n : Int), iv = .int .i64 i ∧ i ≤ x.st.length ∧ nv = .int .i64 n ∧ Hid (Mem w wr [(G, pbc x, 34)])) (fun _ iv _ => x.st.length - (intOf iv).toNat)
               case atStart => exact ⟨0, _, rfl, Nat.zero_le _, rfl, KM⟩
               case round =>
                clear KM
                clear p0 p1 p2 p3 p4 p5 p6 p7 p8 p9 p10 p11 p12 p13 p14
                obtain ⟨i, n, rfl, hi, rfl, KM⟩ := hrel
                obtain ⟨p0, p1, p2, p3, p4, p5, p6, p7, p8, p9, p10, p11, p12, p13, p14⟩ := Hcell.out _ KM.out
                have hF := HF2.out
                unfold PbFew at hF
                by_cases hlt : i < x.st.length
                · skip
                  obtain ⟨ad, y, e0, had, hy, hyl, _⟩ := Es.get enS_len (by decide) (HI.out.st.below KM.out.2 (Nat.le_refl _)) hlt
                  have hq := HI.out.st.below KM.out.2 (Nat.le_refl _)
                  rw [e0] at hq p9
                  have hc1 := es_fld enS_len hq hy.out 1 (by decide) _ rfl
                  have i1 : (0 : Int) ≤ (i : Int) := by omega
                  have i2 : (i : Int) < (x.st.length : Int) := by omega
                  clear hq
                  go_wp2_with fail
                  exact ⟨⟨i + 1, _, by go_num, by omega, rfl, KM⟩, by simp [intOf]; omega⟩
                · obtain rfl : i = x.st.length := by omega
                  have i2 : ¬ (x.st.length : Int) < (x.st.length : Int) := by omega
                  clear hlt
                  go_wp2_with fail
                  go_loopw [3, 9] (fun nv iv wr => ∃ (i : Nat) (n : Int), iv = .int .i64 i ∧ i ≤ x.rl.length ∧ nv = .int .i64 n ∧ Hid (Mem w wr [(G, pbc x, 34)])) (fun _ iv _ => x.rl.length - (intOf iv).toNat)
                  case atStart => exact ⟨0, _, rfl, Nat.zero_le _, rfl, KM⟩
                  case round =>
                   clear KM
                   clear p0 p1 p2 p3 p4 p5 p6 p7 p8 p9 p10 p11 p12 p13 p14
                   obtain ⟨i, n, rfl, hi, rfl, KM⟩ := hrel
                   obtain ⟨p0, p1, p2, p3, p4, p5, p6, p7, p8, p9, p10, p11, p12, p13, p14⟩ := Hcell.out _ KM.out
                   have hF := HF2.out
                   unfold PbFew at hF
                   by_cases hlt : i < x.rl.length
                   · skip
                     obtain ⟨ad, y, e0, had, hy, hyl, _⟩ := Es.get enU_len (by decide) (HI.out.rl.below KM.out.2 (Nat.le_refl _)) hlt
                     have hq := HI.out.rl.below KM.out.2 (Nat.le_refl _)
                     rw [e0] at hq p10
                     have hc1 := es_fld enU_len hq hy.out 1 (by decide) _ rfl
                     have i1 : (0 : Int) ≤ (i : Int) := by omega
                     have i2 : (i : Int) < (x.rl.length : Int) := by omega
                     clear hq
                     go_wp2_with fail
                     exact ⟨⟨i + 1, _, by go_num, by omega, rfl, KM⟩, by simp [intOf]; omega⟩
                   · obtain rfl : i = x.rl.length := by omega
                     have i2 : ¬ (x.rl.length : Int) < (x.rl.length : Int) := by omega
                     clear hlt
                     go_wp2_with fail
                     go_loopw [3, 10] (fun nv iv wr => ∃ (i : Nat) (n : Int), iv = .int .i64 i ∧ i ≤ x.cs.length ∧ nv = .int .i64 n ∧ Hid (Mem w wr [(G, pbc x, 34)])) (fun _ iv _ => x.cs.length - (intOf iv).toNat)
                     case atStart => exact ⟨0, _, rfl, Nat.zero_le _, rfl, KM⟩
                     case round =>
                      clear KM
                      clear p0 p1 p2 p3 p4 p5 p6 p7 p8 p9 p10 p11 p12 p13 p14
                      obtain ⟨i, n, rfl, hi, rfl, KM⟩ := hrel
                      obtain ⟨p0, p1, p2, p3, p4, p5, p6, p7, p8, p9, p10, p11, p12, p13, p14⟩ := Hcell.out _ KM.out
                      have hF := HF2.out
                      unfold PbFew at hF
                      by_cases hlt : i < x.cs.length
                      · skip
                        obtain ⟨ad, y, e0, had, hy, hyl, _⟩ := Es.get enK_len (by decide) (HI.out.cs.below KM.out.2 (Nat.le_refl _)) hlt
                        have Hc1 := hid (fun X (hb : Below w.heap.size w X) => (show X.cell? ⟨(ad.add (i * 2)).block, (ad.add (i * 2)).off + 1, none⟩ = some (.slice y.a y.x.ws.length y.c) from by
                         have hq := HI.out.cs.below hb (Nat.le_refl _)
                         rw [e0] at hq
                         exact es_fld enK_len hq hy.out 1 (by decide) _ rfl))
                        have hc1 := Hc1.out _ KM.out.2
                        have HW3 := hid (HI.out.csI y hyl).2.1
                        have hwl : y.x.ws.length ≤ 9223372036854775807 := by have := (HI.out.csI y hyl).2.2.1; unfold maxLen at this; omega
                        have Hlsl := hid (fun ls (hls : ls ∈ y.x.ws) => show ls.length ≤ 9223372036854775807 from by have := ((HI.out.csI y hyl).2.2.2.2 ls hls).1; unfold maxLen at this; omega)
                        rw [e0] at p8
                        have He0 := hid e0
                        have i1 : (0 : Int) ≤ (i : Int) := by omega
                        have i2 : (i : Int) < (x.cs.length : Int) := by omega
                        go_wp2_with fail
                        go_loopw [3, 11] (fun nv iv wr => ∃ (k : Nat) (n : Int), iv = .int .i64 k ∧ k ≤ y.x.ws.length ∧ nv = .int .i64 n ∧ Hid (Mem w wr [(G, pbc x, 34)])) (fun _ iv _ => y.x.ws.length - (intOf iv).toNat)
                        case atStart => exact ⟨0, _, rfl, Nat.zero_le _, rfl, KM⟩
                        case round =>
                         clear KM hc1
                         clear p0 p1 p2 p3 p4 p5 p6 p7 p8 p9 p10 p11 p12 p13 p14
                         obtain ⟨k, n, rfl, hk, rfl, KM⟩ := hrel
                         obtain ⟨p0, p1, p2, p3, p4, p5, p6, p7, p8, p9, p10, p11, p12, p13, p14⟩ := Hcell.out _ KM.out
                         have hc1 := Hc1.out _ KM.out.2
                         rw [He0.out] at p8
                         by_cases hkl : k < y.x.ws.length
                         · skip
                           obtain ⟨ad2, Ak, ck, ls, e1, had2, hls, hlsm, _, _, _⟩ := Rows3.at_ (HW3.out.below KM.out.2 (Nat.le_refl _)) hkl
                           have Hc2 := hid (fun X (hb : Below w.heap.size w X) => (show ∃ Ak ck, X.cell? (ad2.add k) = some (.slice Ak ls.length ck) ∧ Rows2 X w.heap.size Ak ls from by
                            obtain ⟨ad2', Ak', ck', ls', e1', _, hls', _, hc', hr', _⟩ := Rows3.at_ (HW3.out.below hb (Nat.le_refl _)) hkl
                            rw [e1] at e1'
                            cases e1'
                            obtain rfl := Option.some.inj (hls'.out.symm.trans hls.out)
                            exact ⟨Ak', ck', hc', hr'⟩))
                           have hll := Hlsl.out ls hlsm
                           have He1 := hid e1
                           obtain ⟨Ak2, ck2, hc0, hr0⟩ := Hc2.out _ (Below.refl _ w)
                           have HR2 := hid (fun X (hb : Below w.heap.size w X) => (show X.cell? (ad2.add k) = some (.slice Ak2 ls.length ck2) ∧ Rows2 X w.heap.size Ak2 ls from by
                            have had3 := had2
                            exact ⟨(hb.cell (by rw [add_block]; exact had2)).trans hc0, hr0.below hb (Nat.le_refl _)⟩))
                           rw [e1] at hc1
                           obtain ⟨hc2, hr2⟩ := HR2.out _ KM.out.2
                           clear hc0 hr0
                           have k1 : (0 : Int) ≤ (k : Int) := by omega
                           have k2 : (k : Int) < (y.x.ws.length : Int) := by omega
                           go_wp2_with fail
                           go_loopw [3, 12] (fun nv iv wr => ∃ (j : Nat) (n : Int), iv = .int .i64 j ∧ j ≤ ls.length ∧ nv = .int .i64 n ∧ Hid (Mem w wr [(G, pbc x, 34)])) (fun _ iv _ => ls.length - (intOf iv).toNat)
                           case atStart => exact ⟨0, _, rfl, Nat.zero_le _, rfl, KM⟩
                           case round =>
                            clear KM hc1 hc2 hr2
                            clear p0 p1 p2 p3 p4 p5 p6 p7 p8 p9 p10 p11 p12 p13 p14
                            obtain ⟨j, n, rfl, hj, rfl, KM⟩ := hrel
                            obtain ⟨p0, p1, p2, p3, p4, p5, p6, p7, p8, p9, p10, p11, p12, p13, p14⟩ := Hcell.out _ KM.out
                            have hc1 := Hc1.out _ KM.out.2
                            rw [He0.out] at p8
                            rw [He1.out] at hc1
                            obtain ⟨hc2, hr2⟩ := HR2.out _ KM.out.2
                            by_cases hjl : j < ls.length
                            · skip
                              obtain ⟨ad3, Aj, cj, l, e2, _, hl, _, hc3, _, _⟩ := Rows2.get hr2 hjl
                              rw [e2] at hc2
                              have j1 : (0 : Int) ≤ (j : Int) := by omega
                              have j2 : (j : Int) < (ls.length : Int) := by omega
                              go_wp2_with fail
                              exact ⟨⟨j + 1, _, by go_num, by omega, rfl, KM⟩, by simp [intOf]; omega⟩
                            · obtain rfl : j = ls.length := by omega
                              have j2 : ¬ (ls.length : Int) < (ls.length : Int) := by omega
                              go_wp2_with fail
                              exact ⟨⟨k + 1, _, by go_num, by omega, rfl, KM⟩, by simp [intOf]; omega⟩
                         · obtain rfl : k = y.x.ws.length := by omega
                           have k2 : ¬ (y.x.ws.length : Int) < (y.x.ws.length : Int) := by omega
                           go_wp2_with fail
                           exact ⟨⟨i + 1, _, by go_num, by omega, rfl, KM⟩, by simp [intOf]; omega⟩
                      · obtain rfl : i = x.cs.length := by omega
                        have i2 : ¬ (x.cs.length : Int) < (x.cs.length : Int) := by omega
                        go_wp2_with fail
                        go_ret
                        exact ⟨_, rfl, fun _ => HF2.out, KM.out.2⟩
end Go.Proofs.YtgmgccepmalahaaGreat
namespace Go.Proofs.YtgmgccepmalahaaGreat
open Go.RowKit
open Whn (Gr Wh)
set_option maxRecDepth 20000 in
set_option maxHeartbeats 8000000 in
theorem r17_sameRule (x y : Rl) (A B : Option Addr) (c d : Nat) (hx : x.l.length ≤ maxLen) (w : World) (h1 : Its w w.heap.size A x.l) (h2 : Its w w.heap.size B y.l) :
 Calls Tryz.prog 102 #[rlv x A c, rlv y B d] w (Did (.bool (rlEq x y)) w) := by
 have HI := hid (fun X (hb : Below w.heap.size w X) => r_Ints A B x.l.length y.l.length c d x.l y.l rfl rfl X w.heap.size w.heap.size (h1.below hb (Nat.le_refl _)) (h2.below hb (Nat.le_refl _)) hx)
 have Hr := hid (show rlEq x y = (decide (x.k = y.k) && (decide (x.l = y.l) && (decide (x.a = y.a) && (decide (x.b = y.b) && (decide (x.h = y.h) && decide (x.c = y.c)))))) from rfl)
 generalize rlEq x y = rr at *
 generalize decide (x.l = y.l) = li at *
 obtain ⟨R, W, hR, hW, K, hb0⟩ := (Mem.nil w).one (rlc x A c) 45
 obtain ⟨Q, V, hQ, hV, K2, hb2⟩ := K.out.one (rlc y B d) 45
 obtain ⟨c0, c1, c2, c3, c4, c5⟩ := K2.out.rl (B := R) (x := x) (A := A) (c := c) (t := 45) (by simp)
 obtain ⟨d0, d1, d2, d3, d4, d5⟩ := K2.out.rl (B := Q) (x := y) (A := B) (c := d) (t := 45) (by simp)
 have hRQ : R < Q := by
  have := (K.out.at_ (b := R) (cs := rlc x A c) (t := 45) (by simp)).lt
  omega
 clear K hb0 hb2 h1 h2
 by_cases hk : x.k = y.k
 · have q0 : (x.k == y.k) = true := by rw [beq_iff_eq]; exact hk
   rw [decide_eq_true hk, Bool.true_and] at Hr
   clear hk
   cases li with
   | false =>
    have Hd := hid (Hr.out.trans (show _ = false from rfl))
    clear Hr
    go_enter Tryz.func102, Tryz.ntmps102
    go_wp2_with fail
    refine (HI.out _ K2.out.2).mono ?_
    rintro e Y ⟨rfl, bz⟩
    have K3 := hid (K2.out.next bz)
    clear c0 c1 c2 c3 c4 c5 d0 d1 d2 d3 d4 d5
    go_wp2_with fail
    go_ret
    exact Did.mk (by rw [Hd.out]; rfl) K3.out.2
   | true =>
    rw [Bool.true_and] at Hr
    by_cases ha : x.a = y.a
    · skip
      have qa : (x.a == y.a) = true := by rw [beq_iff_eq]; exact ha
      rw [decide_eq_true ha, Bool.true_and] at Hr
      clear ha
      by_cases hb : x.b = y.b
      · skip
        have qb : (x.b == y.b) = true := by rw [beq_iff_eq]; exact hb
        rw [decide_eq_true hb, Bool.true_and] at Hr
        clear hb
        by_cases hh : x.h = y.h
        · skip
          have qh : (x.h == y.h) = true := by rw [beq_iff_eq]; exact hh
          rw [decide_eq_true hh, Bool.true_and] at Hr
          clear hh
          by_cases hc : x.c = y.c
          · skip
            have qc : (x.c == y.c) = true := by rw [beq_iff_eq]; exact hc
            rw [decide_eq_true hc] at Hr
            clear hc
            go_enter Tryz.func102, Tryz.ntmps102
            go_wp2_with fail
            refine (HI.out _ K2.out.2).mono ?_
            rintro e Y ⟨rfl, bz⟩
            have K3 := hid (K2.out.next bz)
            clear c0 c1 c2 c3 c4 c5 d0 d1 d2 d3 d4 d5
            obtain ⟨c0, c1, c2, c3, c4, c5⟩ := K3.out.rl (B := R) (x := x) (A := A) (c := c) (t := 45) (by simp)
            obtain ⟨d0, d1, d2, d3, d4, d5⟩ := K3.out.rl (B := Q) (x := y) (A := B) (c := d) (t := 45) (by simp)
            go_wp2_with fail
            go_ret
            exact Did.mk (by rw [Hr.out]; rfl) K3.out.2
          · have qc : (x.c == y.c) = false := by rw [beq_eq_false_iff_ne]; exact hc
            rw [decide_eq_false hc] at Hr
            clear hc
            go_enter Tryz.func102, Tryz.ntmps102
            go_wp2_with fail
            refine (HI.out _ K2.out.2).mono ?_
            rintro e Y ⟨rfl, bz⟩
            have K3 := hid (K2.out.next bz)
            clear c0 c1 c2 c3 c4 c5 d0 d1 d2 d3 d4 d5
            obtain ⟨c0, c1, c2, c3, c4, c5⟩ := K3.out.rl (B := R) (x := x) (A := A) (c := c) (t := 45) (by simp)
            obtain ⟨d0, d1, d2, d3, d4, d5⟩ := K3.out.rl (B := Q) (x := y) (A := B) (c := d) (t := 45) (by simp)
            go_wp2_with fail
            go_ret
            exact Did.mk (by rw [Hr.out]; rfl) K3.out.2
        · have qh : (x.h == y.h) = false := by rw [beq_eq_false_iff_ne]; exact hh
          rw [decide_eq_false hh, Bool.false_and] at Hr
          clear hh
          go_enter Tryz.func102, Tryz.ntmps102
          go_wp2_with fail
          refine (HI.out _ K2.out.2).mono ?_
          rintro e Y ⟨rfl, bz⟩
          have K3 := hid (K2.out.next bz)
          clear c0 c1 c2 c3 c4 c5 d0 d1 d2 d3 d4 d5
          obtain ⟨c0, c1, c2, c3, c4, c5⟩ := K3.out.rl (B := R) (x := x) (A := A) (c := c) (t := 45) (by simp)
          obtain ⟨d0, d1, d2, d3, d4, d5⟩ := K3.out.rl (B := Q) (x := y) (A := B) (c := d) (t := 45) (by simp)
          go_wp2_with fail
          go_ret
          exact Did.mk (by rw [Hr.out]; rfl) K3.out.2
      · have qb : (x.b == y.b) = false := by rw [beq_eq_false_iff_ne]; exact hb
        rw [decide_eq_false hb, Bool.false_and] at Hr
        clear hb
        go_enter Tryz.func102, Tryz.ntmps102
        go_wp2_with fail
        refine (HI.out _ K2.out.2).mono ?_
        rintro e Y ⟨rfl, bz⟩
        have K3 := hid (K2.out.next bz)
        clear c0 c1 c2 c3 c4 c5 d0 d1 d2 d3 d4 d5
        obtain ⟨c0, c1, c2, c3, c4, c5⟩ := K3.out.rl (B := R) (x := x) (A := A) (c := c) (t := 45) (by simp)
        obtain ⟨d0, d1, d2, d3, d4, d5⟩ := K3.out.rl (B := Q) (x := y) (A := B) (c := d) (t := 45) (by simp)
        go_wp2_with fail
        go_ret
        exact Did.mk (by rw [Hr.out]; rfl) K3.out.2
    · have qa : (x.a == y.a) = false := by rw [beq_eq_false_iff_ne]; exact ha
      rw [decide_eq_false ha, Bool.false_and] at Hr
      clear ha
      go_enter Tryz.func102, Tryz.ntmps102
      go_wp2_with fail
      refine (HI.out _ K2.out.2).mono ?_
      rintro e Y ⟨rfl, bz⟩
      have K3 := hid (K2.out.next bz)
      clear c0 c1 c2 c3 c4 c5 d0 d1 d2 d3 d4 d5
      obtain ⟨c0, c1, c2, c3, c4, c5⟩ := K3.out.rl (B := R) (x := x) (A := A) (c := c) (t := 45) (by simp)
      obtain ⟨d0, d1, d2, d3, d4, d5⟩ := K3.out.rl (B := Q) (x := y) (A := B) (c := d) (t := 45) (by simp)
      go_wp2_with fail
      go_ret
      exact Did.mk (by rw [Hr.out]; rfl) K3.out.2
 · have q0 : (x.k == y.k) = false := by rw [beq_eq_false_iff_ne]; exact hk
   rw [decide_eq_false hk, Bool.false_and] at Hr
   clear hk
   go_enter Tryz.func102, Tryz.ntmps102
   go_wp2_with fail
   go_ret
   exact Did.mk (by rw [Hr.out]; rfl) K2.out.2
end Go.Proofs.YtgmgccepmalahaaGreat
namespace Go.Proofs.YtgmgccepmalahaaGreat
open Go.RowKit
open Whn (Gr Wh)
def fnd (ns : List (List UInt8)) (s : List UInt8) : Int := match (List.range ns.length).find? (fun i => decide (ns.getD i [] = s)) with | some i => (i : Int) | none => -1
theorem fnd_some {ns : List (List UInt8)} {s : List UInt8} {i : Nat} (h : ns[i]? = some s) (hb : ∀ j z, j < i → ns[j]? = some z → z ≠ s) : fnd ns s = (i : Int) := by
 obtain ⟨hi, e⟩ := List.getElem?_eq_some_iff.1 h
 unfold fnd
 rw [find_range hi (by rw [decide_eq_true_iff, List.getD_eq_getElem?_getD, h]; rfl) (fun j hj => by
  rw [decide_eq_false_iff_not, List.getD_eq_getElem?_getD, List.getElem?_eq_getElem (by omega)]
  exact hb j _ hj (List.getElem?_eq_getElem (by omega)))]
theorem fnd_none {ns : List (List UInt8)} {s : List UInt8} (hb : ∀ j z, j < ns.length → ns[j]? = some z → z ≠ s) : fnd ns s = -1 := by
 unfold fnd
 rw [List.find?_eq_none.2 (fun j hj => by
  have hj := List.mem_range.1 hj
  simp only [decide_eq_true_eq]
  rw [List.getD_eq_getElem?_getD, List.getElem?_eq_getElem hj]
  exact hb j _ hj (List.getElem?_eq_getElem hj))]
end Go.Proofs.YtgmgccepmalahaaGreat
namespace Go.Proofs.YtgmgccepmalahaaGreat
open Go.RowKit
open Whn (Gr Wh)
end Go.Proofs.YtgmgccepmalahaaGreat
