/- What the proof of ProblemCopies stands on, part 4. -/
import Derived.Test.YtgmgccepmalahaaGreatCpAB
import Derived.Test.YtgmgccepmalahaaGreatCpAC
namespace Go.Proofs.YtgmgccepmalahaaGreat
open Go.RowKit
open Whn (Gr Wh)
theorem wh_neq (x y : Wh) (w : World) : (binOp .neq 55 (wv x) (wv y)).run Tryz.prog w = .ok (.bool (!(whEq x y))) w := by
 go_simp
 have h1 : ((x.w : Int) = (y.w : Int)) = (x.w = y.w) := propext ⟨fun h => by omega, fun h => by omega⟩
 have h2 : ((x.d : Int) = (y.d : Int)) = (x.d = y.d) := propext ⟨fun h => by omega, fun h => by omega⟩
 simp only [h1, h2]
 unfold whEq
 by_cases a1 : x.w = y.w
 · by_cases a2 : x.d = y.d
   · by_cases a3 : x.s = y.s
     · by_cases a4 : x.l = y.l
       · simp [a1, a2, a3, a4]
       · simp [a1, a2, a3, a4]
     · simp [a1, a2, a3]
   · simp [a1, a2]
 · simp [a1]
end Go.Proofs.YtgmgccepmalahaaGreat
namespace Go.Proofs.YtgmgccepmalahaaGreat
open Go.RowKit
open Whn (Gr Wh)
deriving instance DecidableEq for Wh
theorem whEq_dec (x y : Wh) : whEq x y = decide (x = y) := by
 unfold whEq
 rw [decide_eq_decide]
 cases x; cases y
 simp
theorem whEq_iff (x y : Wh) : whEq x y = true ↔ x = y := by rw [whEq_dec, decide_eq_true_iff]
theorem ifs_wh (x y : Wh) (X : World) : (if (x.w : Int) = (y.w : Int) then if (x.d : Int) = (y.d : Int) then if x.s = y.s then if x.l = y.l then Result.ok (Next.value (Value.bool false)) X else Result.ok (Next.value (Value.bool true)) X else Result.ok (Next.value (Value.bool true)) X else Result.ok (Next.value (Value.bool true)) X else Result.ok (Next.value (Value.bool true)) X) = Result.ok (Next.value (Value.bool (!whEq x y))) X := by
 have h1 : ((x.w : Int) = (y.w : Int)) = (x.w = y.w) := propext ⟨fun h => by omega, fun h => by omega⟩
 have h2 : ((x.d : Int) = (y.d : Int)) = (x.d = y.d) := propext ⟨fun h => by omega, fun h => by omega⟩
 simp only [h1, h2]
 unfold whEq
 by_cases a1 : x.w = y.w
 · by_cases a2 : x.d = y.d
   · by_cases a3 : x.s = y.s
     · by_cases a4 : x.l = y.l
       · simp [a1, a2, a3, a4]
       · simp [a1, a2, a3, a4]
     · simp [a1, a2, a3]
   · simp [a1, a2]
 · simp [a1]
set_option maxRecDepth 4000 in
set_option maxHeartbeats 1000000 in
theorem r_Rows (A A2 : Option Addr) (n n2 c c2 : Nat) (l ms : List Wh) (hn : l.length = n) (hn2 : ms.length = n2) (hm : n ≤ maxLen) (w : World) (h : Whs w w.heap.size A l) (h2 : Whs w w.heap.size A2 ms) :
 Calls Tryz.prog 161 #[.slice A n c, .slice A2 n2 c2] w (Did (.bool (decide (l = ms))) w) := by
 unfold maxLen at hm
 subst hn
 have H := hid h
 have H2 := hid h2
 clear h h2
 by_cases hlen : l.length = n2
 · subst hlen
   have Hn := hid hn2
   clear hn2
   go_enter Tryz.func161, Tryz.ntmps161
   go_wp2
   go_loopw [5] (fun i wr => ∃ (k : Nat), i = .int .i64 k ∧ k ≤ l.length ∧ Hid (Below w.heap.size w wr) ∧ Hid (l.take k = ms.take k)) (fun i _ => l.length - (intOf i).toNat)
   case atStart => exact ⟨0, rfl, Nat.zero_le _, Below.refl _ _, rfl⟩
   case round =>
    obtain ⟨k, rfl, hk, K1, hsame⟩ := hrel
    by_cases hlt : k < l.length
    · have hlt2 : k < ms.length := by rw [Hn.out]; exact hlt
      obtain ⟨ad, x, rfl, had, hx, _⟩ := whs_ad H.out hlt
      obtain ⟨ad2, y, rfl, had2, hy, _⟩ := whs_ad H2.out hlt2
      have b1 : (0 : Int) ≤ (k : Int) := by omega
      have b2 : (k : Int) < l.length := by omega
      go_wp2_with fail
      refine wp_region_held_drew (S := fun X => Below w.heap.size w X) (by kernel_rfl) K1.out.drew (fun hHeld => ?_)
      refine tkD 0 17 (.slice (some ad) l.length c) rfl rfl hHeld ?_
      simp only [pt, List.set]
      refine tkD 1 18 (.int .i64 k) rfl rfl hHeld ?_
      simp only [pt, List.set]
      refine tkH 2 19 (.pointer (some (ad.add (k * 4)))) rfl rfl (fun X hX => by clear hX; go_simp) hHeld ?_
      simp only [pt, List.set]
      refine tkH 3 20 (wv x) rfl rfl (fun X hX => by obtain ⟨c0, c1, c2, c3⟩ := whs_at (H.out.below hX (Nat.le_refl _)) hx.out; clear hX; go_simp) hHeld ?_
      simp only [pt, List.set]
      refine tkD 4 21 (.slice (some ad2) l.length c2) rfl rfl hHeld ?_
      simp only [pt, List.set]
      refine tkD 5 22 (.int .i64 k) rfl rfl hHeld ?_
      simp only [pt, List.set]
      refine tkH 6 23 (.pointer (some (ad2.add (k * 4)))) rfl rfl (fun X hX => by clear hX; go_simp) hHeld ?_
      simp only [pt, List.set]
      refine tkH 7 24 (wv y) rfl rfl (fun X hX => by obtain ⟨c0, c1, c2, c3⟩ := whs_at (H2.out.below hX (Nat.le_refl _)) hy.out; clear hX; go_simp) hHeld ?_
      simp only [pt, List.set]
      refine tkH 8 25 (.bool (!(whEq x y))) rfl rfl (fun X hX => by clear hX; go_simp; exact ifs_wh x y X) hHeld ?_
      simp only [pt, List.set]
      refine wpAnyH_done (by kernel_rfl) ?_ _
      have K3 := K1.out.drew.drew
      cases hR : whEq x y with
      | true =>
       have hxy := (whEq_iff x y).1 hR
       go_wp2_with fail
       refine ⟨⟨k + 1, by go_num, by omega, K1.out.drew, ?_⟩, by simp [intOf]; omega⟩
       show l.take (k + 1) = ms.take (k + 1)
       rw [List.take_add_one, List.take_add_one, hsame.out, hx.out, hy.out, hxy]
      | false =>
       go_wp2_with fail
       go_ret
       refine Did.mk ?_ K1.out.drew
       have : decide (l = ms) = false := by
        rw [decide_eq_false_iff_not]
        intro e
        have e1 : l[k]? = ms[k]? := by rw [e]
        rw [hx.out, hy.out] at e1
        injection e1 with e1
        rw [(whEq_iff x y).2 e1] at hR
        cases hR
       rw [this]; rfl
    · have hall : decide (l = ms) = true := by
       rw [decide_eq_true_iff]
       have e := hsame.out
       rwa [List.take_of_length_le (by omega), List.take_of_length_le (by rw [Hn.out]; omega)] at e
      have Ha := hid hall
      clear hall
      go_wp2_with fail
      go_ret
      refine Did.mk ?_ K1.out
      rw [Ha.out]; rfl
 · subst hn2
   have hne : ((l.length : Int) != (ms.length : Int)) = true := by rw [bne_iff_ne]; omega
   have hres := hid (show decide (l = ms) = false by rw [decide_eq_false_iff_not]; intro e; exact hlen (by rw [e]))
   go_enter Tryz.func161, Tryz.ntmps161
   go_wp2
   go_ret
   refine Did.mk ?_ (Below.refl _ _)
   rw [hres.out]; rfl
end Go.Proofs.YtgmgccepmalahaaGreat
namespace Go.Proofs.YtgmgccepmalahaaGreat
open Go.RowKit
open Whn (Gr Wh)
abbrev rc (r : Rm) (A : Option Addr) (c : Nat) : List Value := [txt r.n, .int .i64 r.s, .int .u16 (r.g : Int), .slice A r.l.length c]
theorem Mem.rm {w X : World} {l : Obs} (h : Mem w X l) {B : Nat} {r : Rm} {A : Option Addr} {c : Nat} (hm : (B, rc r A c, 52) ∈ l) : X.cell? ⟨B, 0, none⟩ = some (txt r.n) ∧ X.cell? ⟨B, 1, none⟩ = some (.int .i64 r.s) ∧ X.cell? ⟨B, 2, none⟩ = some (.int .u16 (r.g : Int)) ∧ X.cell? ⟨B, 3, none⟩ = some (.slice A r.l.length c) :=
 ⟨h.cell hm rfl, h.cell hm rfl, h.cell hm rfl, h.cell hm rfl⟩
def rmRight (g : Gr) (r : Rm) : Bool := Whn.rgrid g && nameOk r.n && decide (0 ≤ r.s) && decide (r.s ≤ 10000) && (r.l.all (Whn.right g) && decide ((r.l.length : Int) ≤ 16))
def rmEq (x y : Rm) : Bool := decide (x.n = y.n) && decide (x.s = y.s) && decide (x.g = y.g) && decide (x.l = y.l)
theorem rmEq_iff (x y : Rm) : rmEq x y = true ↔ x = y := by
 unfold rmEq
 cases x; cases y
 simp [and_assoc]
set_option maxRecDepth 4000 in
set_option maxHeartbeats 4000000 in
theorem r_Same (x y : Rm) (A A2 : Option Addr) (c c2 : Nat) (hm : x.l.length ≤ maxLen) (w : World) (h : Whs w w.heap.size A x.l) (h2 : Whs w w.heap.size A2 y.l) :
 Calls Tryz.prog 98 #[rv x A c, rv y A2 c2] w (Did (.bool (rmEq x y)) w) := by
 have HR := hid (fun w h h2 => r_Rows A A2 x.l.length y.l.length c c2 x.l y.l rfl rfl hm w h h2)
 have H := hid h
 have H2 := hid h2
 have Hr := hid (show rmEq x y = (decide (x.n = y.n) && decide (x.s = y.s) && decide (x.g = y.g) && decide (x.l = y.l)) from rfl)
 clear h h2 hm
 obtain ⟨P, W, hP, hW, K, hb0⟩ := (Mem.nil w).one (rc x A c) 52
 obtain ⟨R, V, hR, hV, K1, hb1⟩ := K.out.one (rc y A2 c2) 52
 clear K hb0 hb1
 obtain ⟨r0, r1, r2, r3⟩ := K1.out.rm (B := P) (r := x) (A := A) (c := c) (by simp)
 obtain ⟨s0, s1, s2, s3⟩ := K1.out.rm (B := R) (r := y) (A := A2) (c := c2) (by simp)
 generalize decide (x.l = y.l) = ww at *
 generalize rmEq x y = q at *
 by_cases e1 : x.n = y.n
 · have q1 : ((bs x.n).toList == (bs y.n).toList) = true := by rw [e1]; simp
   by_cases e2 : x.s = y.s
   · by_cases e3 : x.g = y.g
     · have q3 : ((x.g : Int) == (y.g : Int)) = true := by rw [e3]; exact beq_self_eq_true _
       have q2 : (x.s == y.s) = true := by rw [e2]; exact beq_self_eq_true _
       rw [decide_eq_true e1, decide_eq_true e2, decide_eq_true e3] at Hr
       clear e1 e2 e3
       go_enter Tryz.func98, Tryz.ntmps98
       go_wp2_with fail
       refine (HR.out _ (H.out.below K1.out.2 (Nat.le_refl _) |>.more K1.out.2.size) (H2.out.below K1.out.2 (Nat.le_refl _) |>.more K1.out.2.size)).mono ?_
       rintro e w1 ⟨rfl, b1⟩
       have K2 := K1.out.next b1
       go_wp2_with fail
       go_ret
       exact Did.mk (by rw [Hr.out]; rfl) K2.2
     · have q3 : ((x.g : Int) == (y.g : Int)) = false := by rw [beq_eq_false_iff_ne]; omega
       have q2 : (x.s == y.s) = true := by rw [e2]; exact beq_self_eq_true _
       rw [decide_eq_true e1, decide_eq_true e2, decide_eq_false e3] at Hr
       clear e1 e2 e3
       go_enter Tryz.func98, Tryz.ntmps98
       go_wp2_with fail
       go_ret
       exact Did.mk (by rw [Hr.out]; rfl) K1.out.2
   · have q2 : (x.s == y.s) = false := by rw [beq_eq_false_iff_ne]; exact e2
     rw [decide_eq_true e1, decide_eq_false e2] at Hr
     clear e1 e2
     go_enter Tryz.func98, Tryz.ntmps98
     go_wp2_with fail
     go_ret
     exact Did.mk (by rw [Hr.out]; rfl) K1.out.2
 · have q1 : ((bs x.n).toList == (bs y.n).toList) = false := by rw [list_of, list_of, bs_data, bs_data, beq_eq_false_iff_ne]; exact e1
   rw [decide_eq_false e1] at Hr
   clear e1
   go_enter Tryz.func98, Tryz.ntmps98
   go_wp2_with fail
   go_ret
   exact Did.mk (by rw [Hr.out]; rfl) K1.out.2
end Go.Proofs.YtgmgccepmalahaaGreat
namespace Go.Proofs.YtgmgccepmalahaaGreat
open Go.RowKit
open Whn (Gr Wh)
structure Ps where
 n : List UInt8
 l : List Wh
abbrev pv (p : Ps) (A : Option Addr) (c : Nat) : Value := .agg #[txt p.n, .slice A p.l.length c]
abbrev pc (p : Ps) (A : Option Addr) (c : Nat) : List Value := [txt p.n, .slice A p.l.length c]
def Pok (p : Ps) : Prop := p.n.length ≤ maxLen ∧ ∀ y ∈ p.l, Wok y
def rmOf (p : Ps) : Rm := ⟨p.n, 0, 0, p.l⟩
structure PsA where
 r : Ps
 a : Option Addr
 c : Nat
abbrev pvA (x : PsA) : Value := pv x.r x.a x.c
def PsIn (w : World) (x : PsA) : Prop := Pok x.r ∧ Whs w w.heap.size x.a x.r.l ∧ x.r.l.length ≤ x.c ∧ x.c ≤ maxLen
theorem Mem.ps {w X : World} {l : Obs} (h : Mem w X l) {B : Nat} {p : Ps} {A : Option Addr} {c : Nat} (hm : (B, pc p A c, 57) ∈ l) : X.cell? ⟨B, 0, none⟩ = some (txt p.n) ∧ X.cell? ⟨B, 1, none⟩ = some (.slice A p.l.length c) :=
 ⟨h.cell hm rfl, h.cell hm rfl⟩
def psEq (x y : Ps) : Bool := rmEq (rmOf x) (rmOf y)
theorem psEq_iff (x y : Ps) : psEq x y = true ↔ x = y := by
 unfold psEq
 rw [rmEq_iff]
 unfold rmOf
 cases x; cases y
 simp
theorem psEq_eq (x y : Ps) : psEq x y = (decide (x.n = y.n) && decide (x.l = y.l)) := by
 show (decide (x.n = y.n) && decide ((0 : Int) = 0) && decide ((0 : Nat) = 0) && decide (x.l = y.l)) = _
 rw [decide_eq_true rfl, decide_eq_true rfl, Bool.and_true, Bool.and_true]
set_option maxRecDepth 4000 in
set_option maxHeartbeats 4000000 in
theorem r_SameP (x y : Ps) (A A2 : Option Addr) (c c2 : Nat) (hm : x.l.length ≤ maxLen) (w : World) (h : Whs w w.heap.size A x.l) (h2 : Whs w w.heap.size A2 y.l) :
 Calls Tryz.prog 99 #[pv x A c, pv y A2 c2] w (Did (.bool (psEq x y)) w) := by
 have HR := hid (fun w h h2 => r_Rows A A2 x.l.length y.l.length c c2 x.l y.l rfl rfl hm w h h2)
 have H := hid h
 have H2 := hid h2
 have Hr := hid (psEq_eq x y)
 clear h h2 hm
 obtain ⟨P, W, hP, hW, K, hb0⟩ := (Mem.nil w).one (pc x A c) 57
 obtain ⟨R, V, hR, hV, K1, hb1⟩ := K.out.one (pc y A2 c2) 57
 clear K hb0 hb1
 obtain ⟨r0, r1⟩ := K1.out.ps (B := P) (p := x) (A := A) (c := c) (by simp)
 obtain ⟨s0, s1⟩ := K1.out.ps (B := R) (p := y) (A := A2) (c := c2) (by simp)
 generalize decide (x.l = y.l) = ww at *
 generalize psEq x y = q at *
 by_cases e1 : x.n = y.n
 · have q1 : ((bs x.n).toList == (bs y.n).toList) = true := by rw [e1]; simp
   rw [decide_eq_true e1] at Hr
   clear e1
   go_enter Tryz.func99, Tryz.ntmps99
   go_wp2_with fail
   refine (HR.out _ (H.out.below K1.out.2 (Nat.le_refl _) |>.more K1.out.2.size) (H2.out.below K1.out.2 (Nat.le_refl _) |>.more K1.out.2.size)).mono ?_
   rintro e w1 ⟨rfl, b1⟩
   have K2 := K1.out.next b1
   go_wp2_with fail
   go_ret
   exact Did.mk (by rw [Hr.out]; rfl) K2.2
 · have q1 : ((bs x.n).toList == (bs y.n).toList) = false := by rw [list_of, list_of, bs_data, bs_data, beq_eq_false_iff_ne]; exact e1
   rw [decide_eq_false e1] at Hr
   clear e1
   go_enter Tryz.func99, Tryz.ntmps99
   go_wp2_with fail
   go_ret
   exact Did.mk (by rw [Hr.out]; rfl) K1.out.2
end Go.Proofs.YtgmgccepmalahaaGreat
namespace Go.Proofs.YtgmgccepmalahaaGreat
open Go.RowKit Go.ChangeShapes Go.WideShapes
open Whn (Gr Wh)
structure St where
 n : List UInt8
 l : List Int
structure StA where
 x : St
 a : Option Addr
 c : Nat
structure Rl where
 k : Int
 l : List Int
 a : Int
 b : Int
 h : Bool
 c : Int
structure RlA where
 x : Rl
 r : Option Addr
 c : Nat
abbrev stv (x : St) (A : Option Addr) (c : Nat) : Value := .agg #[txt x.n, .slice A x.l.length c]
abbrev enS (o : StA) : List Value := [txt o.x.n, .slice o.a o.x.l.length o.c]
abbrev rlv (x : Rl) (A : Option Addr) (c : Nat) : Value := .agg #[.int .i64 x.k, .slice A x.l.length c, .int .i64 x.a, .int .i64 x.b, .bool x.h, .int .i64 x.c]
abbrev rlc (x : Rl) (A : Option Addr) (c : Nat) : List Value := [.int .i64 x.k, .slice A x.l.length c, .int .i64 x.a, .int .i64 x.b, .bool x.h, .int .i64 x.c]
abbrev enU (o : RlA) : List Value := rlc o.x o.r o.c
abbrev enR (o : RmA) : List Value := [txt o.r.n, .int .i64 o.r.s, .int .u16 (o.r.g : Int), .slice o.a o.r.l.length o.c]
abbrev enQ (o : PsA) : List Value := [txt o.r.n, .slice o.a o.r.l.length o.c]
abbrev enK (o : CsA) : List Value := csc o.x o.a o.c
theorem enS_len (o : StA) : (enS o).length = 2 := rfl
theorem enU_len (o : RlA) : (enU o).length = 6 := rfl
theorem enR_len (o : RmA) : (enR o).length = 4 := rfl
theorem enQ_len (o : PsA) : (enQ o).length = 2 := rfl
theorem enK_len (o : CsA) : (enK o).length = 2 := rfl
def StIn (w : World) (x : StA) : Prop := x.x.n.length ≤ maxLen ∧ Its w w.heap.size x.a x.x.l ∧ (x.x.l.length ≤ x.c ∧ x.c ≤ maxLen) ∧ ∀ i ∈ x.x.l, I64 i
def Rlok (x : Rl) : Prop := I64 x.k ∧ I64 x.a ∧ I64 x.b ∧ I64 x.c ∧ ∀ i ∈ x.l, I64 i
def RlIn (w : World) (x : RlA) : Prop := Rlok x.x ∧ Its w w.heap.size x.r x.x.l ∧ x.x.l.length ≤ x.c ∧ x.c ≤ maxLen
section
variable {w w' : World}
theorem RmIn.next {x : RmA} (h : RmIn w x) (hb : Below w.heap.size w w') : RmIn w' x := ⟨h.1, (h.2.1.below hb (Nat.le_refl _)).more hb.size, h.2.2⟩
theorem PsIn.next {x : PsA} (h : PsIn w x) (hb : Below w.heap.size w w') : PsIn w' x := ⟨h.1, (h.2.1.below hb (Nat.le_refl _)).more hb.size, h.2.2⟩
theorem ClIn.next {x : ClA} (h : ClIn w x) (hb : Below w.heap.size w w') : ClIn w' x := ⟨h.1, h.2.1.next hb, h.2.2⟩
theorem CsIn.next {x : CsA} (h : CsIn w x) (hb : Below w.heap.size w w') : CsIn w' x := ⟨h.1, h.2.1.next hb, h.2.2⟩
theorem StIn.next {x : StA} (h : StIn w x) (hb : Below w.heap.size w w') : StIn w' x := ⟨h.1, its_next h.2.1 hb, h.2.2⟩
theorem RlIn.next {x : RlA} (h : RlIn w x) (hb : Below w.heap.size w w') : RlIn w' x := ⟨h.1, its_next h.2.1 hb, h.2.2⟩
theorem Es.next {α : Type} {en : α → List Value} {A : Option Addr} {l : List α} (h : Es en w w.heap.size A l) (hb : Below w.heap.size w w') : Es en w' w'.heap.size A l := (Rd.below h hb (Nat.le_refl _)).more hb.size
end
section
variable {H : Type} {enc : TypeId × Value → H} {W : World} {base : Nat} {sp : Nat → Bool} {held : Bool}
set_option maxRecDepth 20000 in
theorem el_room (n : Nat) (cs : List Value) (y : DataW H × List MemPlace) (hcl : cs.length = 4) (htr : DataW.trod enc Tryz.prog W base sp held n 52 cs = some y) : ∃ o : RmA, cs = enR o ∧ RmIn W o := by
 obtain ⟨n', hf⟩ := el_aggN Tryz.underlying52 (by kernel_rfl) hcl htr
 obtain ⟨v0, y0, g0, h0⟩ := hf 0 _ rfl
 obtain ⟨v1, y1, g1, h1⟩ := hf 1 _ rfl
 obtain ⟨v2, y2, g2, h2⟩ := hf 2 _ rfl
 obtain ⟨v3, y3, g3, h3⟩ := hf 3 _ rfl
 obtain ⟨s0, e0, _, k0⟩ := DataW.trod_string Tryz.underlying9 h0
 obtain ⟨z1, e1, _, k1⟩ := DataW.trod_int Tryz.underlying3 h1
 obtain ⟨z2, e2, _, k2⟩ := DataW.trod_int Tryz.underlying49 h2
 obtain ⟨A3, c3, l3, e3, w3, q3, m3, ok3⟩ := open_whs Tryz.underlying50 Tryz.underlying55 (by kernel_rfl) (by kernel_rfl) Tryz.underlying53 Tryz.underlying5 Tryz.underlying3 Tryz.underlying3 h3
 simp only [List.cons.injEq, and_true] at e0 e1 e2 e3
 subst e0; subst e1; subst e2; subst e3
 have b1 := bounds_i64 k1
 have b2 := bounds_u16 k2
 obtain ⟨n2, rfl⟩ := Int.eq_ofNat_of_zero_le b2.1
 refine ⟨⟨⟨s0.data.toList, z1, n2, l3⟩, A3, c3⟩, ?_, ⟨by rw [data_len]; exact k0, by show I64 z1; unfold I64; omega, by show n2 < 65536; omega, ok3⟩, w3, q3, m3⟩
 have ht : txt s0.data.toList = .string s0 := by unfold txt; rw [of_bs]
 show cs = [txt s0.data.toList, _, _, _]
 rw [ht]
 match cs, hcl, g0, g1, g2, g3 with
 | [u0, u1, u2, u3], _, g0, g1, g2, g3 =>
  have g0 := Option.some.inj (show some u0 = _ from g0)
  have g1 := Option.some.inj (show some u1 = _ from g1)
  have g2 := Option.some.inj (show some u2 = _ from g2)
  have g3 := Option.some.inj (show some u3 = _ from g3)
  rw [g0, g1, g2, g3]
set_option maxRecDepth 20000 in
theorem el_person (n : Nat) (cs : List Value) (y : DataW H × List MemPlace) (hcl : cs.length = 2) (htr : DataW.trod enc Tryz.prog W base sp held n 57 cs = some y) : ∃ o : PsA, cs = enQ o ∧ PsIn W o := by
 obtain ⟨n', hf⟩ := el_aggN Tryz.underlying57 (by kernel_rfl) hcl htr
 obtain ⟨v0, y0, g0, h0⟩ := hf 0 _ rfl
 obtain ⟨v1, y1, g1, h1⟩ := hf 1 _ rfl
 obtain ⟨s0, e0, _, k0⟩ := DataW.trod_string Tryz.underlying9 h0
 obtain ⟨A1, c1, l1, e1, w1, q1, m1, ok1⟩ := open_whs Tryz.underlying50 Tryz.underlying55 (by kernel_rfl) (by kernel_rfl) Tryz.underlying53 Tryz.underlying5 Tryz.underlying3 Tryz.underlying3 h1
 simp only [List.cons.injEq, and_true] at e0 e1
 subst e0; subst e1
 refine ⟨⟨⟨s0.data.toList, l1⟩, A1, c1⟩, ?_, ⟨by rw [data_len]; exact k0, ok1⟩, w1, q1, m1⟩
 have ht : txt s0.data.toList = .string s0 := by unfold txt; rw [of_bs]
 show cs = [txt s0.data.toList, _]
 rw [ht]
 match cs, hcl, g0, g1 with
 | [u0, u1], _, g0, g1 =>
  have g0 := Option.some.inj (show some u0 = _ from g0)
  have g1 := Option.some.inj (show some u1 = _ from g1)
  rw [g0, g1]
set_option maxRecDepth 20000 in
theorem el_course (n : Nat) (cs : List Value) (y : DataW H × List MemPlace) (hcl : cs.length = 2) (htr : DataW.trod enc Tryz.prog W base sp held n 65 cs = some y) : ∃ o : CsA, cs = enK o ∧ CsIn W o := by
 obtain ⟨n', hf⟩ := el_aggN Tryz.underlying65 (by kernel_rfl) hcl htr
 obtain ⟨v0, y0, g0, h0⟩ := hf 0 _ rfl
 obtain ⟨v1, y1, g1, h1⟩ := hf 1 _ rfl
 obtain ⟨s0, e0, _, k0⟩ := DataW.trod_string Tryz.underlying9 h0
 obtain ⟨A1, c1, l1, e1, w1, q1, m1, ok1⟩ := open_rows3 Tryz.underlying63 (by kernel_rfl) Tryz.underlying67 rfl (by kernel_rfl) Tryz.underlying25 (by kernel_rfl) Tryz.underlying43 Tryz.underlying3 (by kernel_rfl) h1
 simp only [List.cons.injEq, and_true] at e0 e1
 subst e0; subst e1
 refine ⟨⟨⟨s0.data.toList, l1⟩, A1, c1⟩, ?_, by rw [data_len]; exact k0, w1, ⟨q1, m1⟩, Nat.le_trans q1 m1, ok1⟩
 have ht : txt s0.data.toList = .string s0 := by unfold txt; rw [of_bs]
 show cs = [txt s0.data.toList, _]
 rw [ht]
 match cs, hcl, g0, g1 with
 | [u0, u1], _, g0, g1 =>
  have g0 := Option.some.inj (show some u0 = _ from g0)
  have g1 := Option.some.inj (show some u1 = _ from g1)
  rw [g0, g1]
set_option maxRecDepth 20000 in
theorem el_student (n : Nat) (cs : List Value) (y : DataW H × List MemPlace) (hcl : cs.length = 2) (htr : DataW.trod enc Tryz.prog W base sp held n 70 cs = some y) : ∃ o : StA, cs = enS o ∧ StIn W o := by
 obtain ⟨n', hf⟩ := el_aggN Tryz.underlying70 (by kernel_rfl) hcl htr
 obtain ⟨v0, y0, g0, h0⟩ := hf 0 _ rfl
 obtain ⟨v1, y1, g1, h1⟩ := hf 1 _ rfl
 obtain ⟨s0, e0, _, k0⟩ := DataW.trod_string Tryz.underlying9 h0
 obtain ⟨A1, c1, l1, e1, w1, q1, m1, ok1⟩ := open_its1 Tryz.underlying43 Tryz.underlying3 (by kernel_rfl) h1
 simp only [List.cons.injEq, and_true] at e0 e1
 subst e0; subst e1
 refine ⟨⟨⟨s0.data.toList, l1⟩, A1, c1⟩, ?_, by rw [data_len]; exact k0, w1, ⟨q1, m1⟩, ok1⟩
 have ht : txt s0.data.toList = .string s0 := by unfold txt; rw [of_bs]
 show cs = [txt s0.data.toList, _]
 rw [ht]
 match cs, hcl, g0, g1 with
 | [u0, u1], _, g0, g1 =>
  have g0 := Option.some.inj (show some u0 = _ from g0)
  have g1 := Option.some.inj (show some u1 = _ from g1)
  rw [g0, g1]
set_option maxRecDepth 20000 in
theorem el_rule (n : Nat) (cs : List Value) (y : DataW H × List MemPlace) (hcl : cs.length = 6) (htr : DataW.trod enc Tryz.prog W base sp held n 45 cs = some y) : ∃ o : RlA, cs = enU o ∧ RlIn W o := by
 obtain ⟨n', hf⟩ := el_aggN Tryz.underlying45 (by kernel_rfl) hcl htr
 obtain ⟨v0, y0, g0, h0⟩ := hf 0 _ rfl
 obtain ⟨v1, y1, g1, h1⟩ := hf 1 _ rfl
 obtain ⟨v2, y2, g2, h2⟩ := hf 2 _ rfl
 obtain ⟨v3, y3, g3, h3⟩ := hf 3 _ rfl
 obtain ⟨v4, y4, g4, h4⟩ := hf 4 _ rfl
 obtain ⟨v5, y5, g5, h5⟩ := hf 5 _ rfl
 obtain ⟨z0, e0, _, k0⟩ := DataW.trod_int Tryz.underlying42 h0
 obtain ⟨A1, c1, l1, e1, w1, q1, m1, ok1⟩ := open_its1 Tryz.underlying43 Tryz.underlying3 (by kernel_rfl) h1
 obtain ⟨z2, e2, _, k2⟩ := DataW.trod_int Tryz.underlying3 h2
 obtain ⟨z3, e3, _, k3⟩ := DataW.trod_int Tryz.underlying3 h3
 obtain ⟨z4, e4, _⟩ := DataW.trod_bool Tryz.underlying4 h4
 obtain ⟨z5, e5, _, k5⟩ := DataW.trod_int Tryz.underlying3 h5
 simp only [List.cons.injEq, and_true] at e0 e1 e2 e3 e4 e5
 subst e0; subst e1; subst e2; subst e3; subst e4; subst e5
 have b0 := bounds_i64 k0
 have b2 := bounds_i64 k2
 have b3 := bounds_i64 k3
 have b5 := bounds_i64 k5
 refine ⟨⟨⟨z0, l1, z2, z3, z4, z5⟩, A1, c1⟩, ?_, ⟨by show I64 z0; unfold I64; omega, by show I64 z2; unfold I64; omega, by show I64 z3; unfold I64; omega, by show I64 z5; unfold I64; omega, ok1⟩, w1, q1, m1⟩
 match cs, hcl, g0, g1, g2, g3, g4, g5 with
 | [u0, u1, u2, u3, u4, u5], _, g0, g1, g2, g3, g4, g5 =>
  have g0 := Option.some.inj (show some u0 = _ from g0)
  have g1 := Option.some.inj (show some u1 = _ from g1)
  have g2 := Option.some.inj (show some u2 = _ from g2)
  have g3 := Option.some.inj (show some u3 = _ from g3)
  have g4 := Option.some.inj (show some u4 = _ from g4)
  have g5 := Option.some.inj (show some u5 = _ from g5)
  rw [g0, g1, g2, g3, g4, g5]
theorem el_grid (n : Nat) (cs : List Value) (y : DataW H × List MemPlace) (hcl : cs.length = 3) (htr : DataW.trod enc Tryz.prog W base sp held n 23 cs = some y) : ∃ g : Gr, cs = gc g ∧ Gok g := by
 obtain ⟨n', hf⟩ := el_aggN Tryz.underlying23 (by kernel_rfl) hcl htr
 obtain ⟨v0, y0, g0, h0⟩ := hf 0 _ rfl
 obtain ⟨z0, e0, _, k0⟩ := DataW.trod_int Tryz.underlying3 h0
 obtain ⟨v1, y1, g1, h1⟩ := hf 1 _ rfl
 obtain ⟨z1, e1, _, k1⟩ := DataW.trod_int Tryz.underlying3 h1
 obtain ⟨v2, y2, g2, h2⟩ := hf 2 _ rfl
 obtain ⟨z2, e2, _, k2⟩ := DataW.trod_int Tryz.underlying3 h2
 simp only [List.cons.injEq, and_true] at e0 e1 e2
 subst e0; subst e1; subst e2
 have b0 := bounds_i64 k0
 have b1 := bounds_i64 k1
 have b2 := bounds_i64 k2
 refine ⟨⟨z0, z1, z2⟩, ?_, by unfold Gok I64; simp only; omega⟩
 match cs, hcl, g0, g1, g2 with
 | [u0, u1, u2], _, g0, g1, g2 =>
  have g0 := Option.some.inj (show some u0 = _ from g0)
  have g1 := Option.some.inj (show some u1 = _ from g1)
  have g2 := Option.some.inj (show some u2 = _ from g2)
  rw [g0, g1, g2]
theorem el_weigh (n : Nat) (cs : List Value) (y : DataW H × List MemPlace) (hcl : cs.length = 4) (htr : DataW.trod enc Tryz.prog W base sp held n 32 cs = some y) : ∃ a b c d : Int, cs = [.int .i64 a, .int .i64 b, .int .i64 c, .int .i64 d] ∧ I64 a ∧ I64 b ∧ I64 c ∧ I64 d := by
 obtain ⟨n', hf⟩ := el_aggN Tryz.underlying32 (by kernel_rfl) hcl htr
 obtain ⟨v0, y0, g0, h0⟩ := hf 0 _ rfl
 obtain ⟨z0, e0, _, k0⟩ := DataW.trod_int Tryz.underlying3 h0
 obtain ⟨v1, y1, g1, h1⟩ := hf 1 _ rfl
 obtain ⟨z1, e1, _, k1⟩ := DataW.trod_int Tryz.underlying3 h1
 obtain ⟨v2, y2, g2, h2⟩ := hf 2 _ rfl
 obtain ⟨z2, e2, _, k2⟩ := DataW.trod_int Tryz.underlying3 h2
 obtain ⟨v3, y3, g3, h3⟩ := hf 3 _ rfl
 obtain ⟨z3, e3, _, k3⟩ := DataW.trod_int Tryz.underlying3 h3
 simp only [List.cons.injEq, and_true] at e0 e1 e2 e3
 subst e0; subst e1; subst e2; subst e3
 have b0 := bounds_i64 k0
 have b1 := bounds_i64 k1
 have b2 := bounds_i64 k2
 have b3 := bounds_i64 k3
 refine ⟨z0, z1, z2, z3, ?_, by unfold I64; omega, by unfold I64; omega, by unfold I64; omega, by unfold I64; omega⟩
 match cs, hcl, g0, g1, g2, g3 with
 | [u0, u1, u2, u3], _, g0, g1, g2, g3 =>
  have g0 := Option.some.inj (show some u0 = _ from g0)
  have g1 := Option.some.inj (show some u1 = _ from g1)
  have g2 := Option.some.inj (show some u2 = _ from g2)
  have g3 := Option.some.inj (show some u3 = _ from g3)
  rw [g0, g1, g2, g3]
end
structure Pb where
 n : List UInt8
 g : Gr
 rm : List Rm
 wk : List (List Int)
 ps : List Ps
 cl : List Cl
 cs : List Cs
 st : List St
 rl : List Rl
 w0 : Int
 w1 : Int
 w2 : Int
 w3 : Int
structure PbA where
 n : List UInt8
 g : Gr
 rm : List RmA
 wk : List (List Int)
 ps : List PsA
 cl : List ClA
 cs : List CsA
 st : List StA
 rl : List RlA
 w0 : Int
 w1 : Int
 w2 : Int
 w3 : Int
 r0 : Option Addr
 c0 : Nat
 r1 : Option Addr
 c1 : Nat
 r2 : Option Addr
 c2 : Nat
 r3 : Option Addr
 c3 : Nat
 r4 : Option Addr
 c4 : Nat
 r5 : Option Addr
 c5 : Nat
 r6 : Option Addr
 c6 : Nat
def PbA.p (x : PbA) : Pb := ⟨x.n, x.g, x.rm.map (·.r), x.wk, x.ps.map (·.r), x.cl.map (·.x), x.cs.map (·.x), x.st.map (·.x), x.rl.map (·.x), x.w0, x.w1, x.w2, x.w3⟩
abbrev pbc (x : PbA) : List Value := [txt x.n, .int .i64 x.g.w, .int .i64 x.g.d, .int .i64 x.g.s, .slice x.r0 x.rm.length x.c0, .slice x.r1 x.wk.length x.c1, .slice x.r2 x.ps.length x.c2, .slice x.r3 x.cl.length x.c3, .slice x.r4 x.cs.length x.c4, .slice x.r5 x.st.length x.c5, .slice x.r6 x.rl.length x.c6, .int .i64 x.w0, .int .i64 x.w1, .int .i64 x.w2, .int .i64 x.w3]
abbrev pbv (x : PbA) : Value := .agg #[txt x.n, .int .i64 x.g.w, .int .i64 x.g.d, .int .i64 x.g.s, .slice x.r0 x.rm.length x.c0, .slice x.r1 x.wk.length x.c1, .slice x.r2 x.ps.length x.c2, .slice x.r3 x.cl.length x.c3, .slice x.r4 x.cs.length x.c4, .slice x.r5 x.st.length x.c5, .slice x.r6 x.rl.length x.c6, .int .i64 x.w0, .int .i64 x.w1, .int .i64 x.w2, .int .i64 x.w3]
structure PbIn (w : World) (x : PbA) : Prop where
 hn : x.n.length ≤ maxLen
 hg : Gok x.g
 rm : Es enR w w.heap.size x.r0 x.rm
 rmI : ∀ y ∈ x.rm, RmIn w y
 rmC : x.rm.length ≤ x.c0 ∧ x.c0 ≤ maxLen
 wk : Rows2 w w.heap.size x.r1 x.wk
 wkI : ∀ l ∈ x.wk, l.length ≤ maxLen ∧ ∀ i ∈ l, I64 i
 wkC : x.wk.length ≤ x.c1 ∧ x.c1 ≤ maxLen
 ps : Es enQ w w.heap.size x.r2 x.ps
 psI : ∀ y ∈ x.ps, PsIn w y
 psC : x.ps.length ≤ x.c2 ∧ x.c2 ≤ maxLen
 cl : Es enC w w.heap.size x.r3 x.cl
 clI : ∀ y ∈ x.cl, ClIn w y
 clC : x.cl.length ≤ x.c3 ∧ x.c3 ≤ maxLen
 cs : Es enK w w.heap.size x.r4 x.cs
 csI : ∀ y ∈ x.cs, CsIn w y
 csC : x.cs.length ≤ x.c4 ∧ x.c4 ≤ maxLen
 st : Es enS w w.heap.size x.r5 x.st
 stI : ∀ y ∈ x.st, StIn w y
 stC : x.st.length ≤ x.c5 ∧ x.c5 ≤ maxLen
 rl : Es enU w w.heap.size x.r6 x.rl
 rlI : ∀ y ∈ x.rl, RlIn w y
 rlC : x.rl.length ≤ x.c6 ∧ x.c6 ≤ maxLen
 hw : I64 x.w0 ∧ I64 x.w1 ∧ I64 x.w2 ∧ I64 x.w3
theorem PbIn.next {w w' : World} {x : PbA} (h : PbIn w x) (hb : Below w.heap.size w w') : PbIn w' x where
 hn := h.hn
 hg := h.hg
 rm := Es.next h.rm hb
 rmI := fun y hy => (h.rmI y hy).next hb
 rmC := h.rmC
 wk := (h.wk.below hb (Nat.le_refl _)).more hb.size
 wkI := h.wkI
 wkC := h.wkC
 ps := Es.next h.ps hb
 psI := fun y hy => (h.psI y hy).next hb
 psC := h.psC
 cl := Es.next h.cl hb
 clI := fun y hy => (h.clI y hy).next hb
 clC := h.clC
 cs := Es.next h.cs hb
 csI := fun y hy => (h.csI y hy).next hb
 csC := h.csC
 st := Es.next h.st hb
 stI := fun y hy => (h.stI y hy).next hb
 stC := h.stC
 rl := Es.next h.rl hb
 rlI := fun y hy => (h.rlI y hy).next hb
 rlC := h.rlC
 hw := h.hw
theorem Mem.pb {w X : World} {l : Obs} (h : Mem w X l) {B : Nat} {x : PbA} {t : TypeId} (hm : (B, pbc x, t) ∈ l) : X.cell? ⟨B, 0, none⟩ = some (txt x.n) ∧ X.cell? ⟨B, 1, none⟩ = some (.int .i64 x.g.w) ∧ X.cell? ⟨B, 2, none⟩ = some (.int .i64 x.g.d) ∧ X.cell? ⟨B, 3, none⟩ = some (.int .i64 x.g.s) ∧ X.cell? ⟨B, 4, none⟩ = some (.slice x.r0 x.rm.length x.c0) ∧ X.cell? ⟨B, 5, none⟩ = some (.slice x.r1 x.wk.length x.c1) ∧ X.cell? ⟨B, 6, none⟩ = some (.slice x.r2 x.ps.length x.c2) ∧ X.cell? ⟨B, 7, none⟩ = some (.slice x.r3 x.cl.length x.c3) ∧ X.cell? ⟨B, 8, none⟩ = some (.slice x.r4 x.cs.length x.c4) ∧ X.cell? ⟨B, 9, none⟩ = some (.slice x.r5 x.st.length x.c5) ∧ X.cell? ⟨B, 10, none⟩ = some (.slice x.r6 x.rl.length x.c6) ∧ X.cell? ⟨B, 11, none⟩ = some (.int .i64 x.w0) ∧ X.cell? ⟨B, 12, none⟩ = some (.int .i64 x.w1) ∧ X.cell? ⟨B, 13, none⟩ = some (.int .i64 x.w2) ∧ X.cell? ⟨B, 14, none⟩ = some (.int .i64 x.w3) :=
 ⟨h.cell hm rfl, h.cell hm rfl, h.cell hm rfl, h.cell hm rfl, h.cell hm rfl, h.cell hm rfl, h.cell hm rfl, h.cell hm rfl, h.cell hm rfl, h.cell hm rfl, h.cell hm rfl, h.cell hm rfl, h.cell hm rfl, h.cell hm rfl, h.cell hm rfl⟩
section
variable {H : Type} {enc : TypeId × Value → H} {W : World} {base : Nat} {spare : Nat → Bool} {held : Bool} {r : Reach} {b0 : Nat} {v : Value} {d : DataW H} {p : List MemPlace}
set_option maxRecDepth 20000 in
theorem open_problem (hv : Value.okWide Tryz.prog W r b0 34 v) (h : DataW.Trod enc Tryz.prog W base spare held 34 v d p) : ∃ x : PbA, v = pbv x ∧ PbIn W x := by
 have hs := Tryz.underlying34
 obtain ⟨cs, rfl, hsz⟩ := okWide_struct hs hv
 have hC : Tryz.prog.cellsOf 34 = 15 := by kernel_rfl
 rw [hC] at hsz
 obtain ⟨fuel, hf⟩ := h
 have hf' : DataW.trod enc Tryz.prog W base spare held fuel 34 cs.toList = some (d, p) := by simpa [Value.cells] using hf
 obtain ⟨ys, n', _, hag, _, hyl, hg⟩ := DataW.trod_struct hs hf'
 have hcl : cs.toList.length = 15 := by rw [Array.length_toList]; exact hsz
 have t0 := (hg 0 _ rfl).trans (List.getElem?_eq_getElem (by rw [hyl]; decide))
 have t1 := (hg 1 _ rfl).trans (List.getElem?_eq_getElem (by rw [hyl]; decide))
 have t2 := (hg 2 _ rfl).trans (List.getElem?_eq_getElem (by rw [hyl]; decide))
 have t3 := (hg 3 _ rfl).trans (List.getElem?_eq_getElem (by rw [hyl]; decide))
 have t4 := (hg 4 _ rfl).trans (List.getElem?_eq_getElem (by rw [hyl]; decide))
 have t5 := (hg 5 _ rfl).trans (List.getElem?_eq_getElem (by rw [hyl]; decide))
 have t6 := (hg 6 _ rfl).trans (List.getElem?_eq_getElem (by rw [hyl]; decide))
 have t7 := (hg 7 _ rfl).trans (List.getElem?_eq_getElem (by rw [hyl]; decide))
 have t8 := (hg 8 _ rfl).trans (List.getElem?_eq_getElem (by rw [hyl]; decide))
 have t9 := (hg 9 _ rfl).trans (List.getElem?_eq_getElem (by rw [hyl]; decide))
 match hcs : cs.toList, hcl with
 | [u0, u1, u2, u3, u4, u5, u6, u7, u8, u9, u10, u11, u12, u13, u14], _ =>
  rw [hcs] at t0 t1 t2 t3 t4 t5 t6 t7 t8 t9
  have t0 : DataW.trod enc Tryz.prog W base spare held n' _ [u0] = _ := t0
  have t1 : DataW.trod enc Tryz.prog W base spare held n' _ [u1, u2, u3] = _ := t1
  have t2 : DataW.trod enc Tryz.prog W base spare held n' _ [u4] = _ := t2
  have t3 : DataW.trod enc Tryz.prog W base spare held n' _ [u5] = _ := t3
  have t4 : DataW.trod enc Tryz.prog W base spare held n' _ [u6] = _ := t4
  have t5 : DataW.trod enc Tryz.prog W base spare held n' _ [u7] = _ := t5
  have t6 : DataW.trod enc Tryz.prog W base spare held n' _ [u8] = _ := t6
  have t7 : DataW.trod enc Tryz.prog W base spare held n' _ [u9] = _ := t7
  have t8 : DataW.trod enc Tryz.prog W base spare held n' _ [u10] = _ := t8
  have t9 : DataW.trod enc Tryz.prog W base spare held n' _ [u11, u12, u13, u14] = _ := t9
  obtain ⟨s0, e0, _, k0⟩ := DataW.trod_string Tryz.underlying9 t0
  obtain ⟨g, e1, hg1⟩ := el_grid _ _ _ rfl t1
  obtain ⟨A0, c0, l0, f0, w0, q0, m0, ok0⟩ := open_es enR_len (by decide) (ok := RmIn W) ⟨⟨[], 0, 0, []⟩, none, 0⟩ Tryz.underlying24 (by kernel_rfl) el_room t2
  obtain ⟨A1, c1, l1, f1, w1, q1, m1, ok1⟩ := open_rows2 Tryz.underlying25 (by kernel_rfl) Tryz.underlying43 Tryz.underlying3 (by kernel_rfl) t3
  obtain ⟨A2, c2, l2, f2, w2, q2, m2, ok2⟩ := open_es enQ_len (by decide) (ok := PsIn W) ⟨⟨[], []⟩, none, 0⟩ Tryz.underlying26 (by kernel_rfl) el_person t4
  obtain ⟨A3, c3, l3, f3, w3, q3, m3, ok3⟩ := open_es enC_len (by decide) (ok := ClIn W) ⟨⟨[], 0, 0, [], [], [], 0⟩, ⟨none, 0, none, 0, none, 0⟩⟩ Tryz.underlying27 (by kernel_rfl) el_class t5
  obtain ⟨A4, c4, l4, f4, w4, q4, m4, ok4⟩ := open_es enK_len (by decide) (ok := CsIn W) ⟨⟨[], []⟩, none, 0⟩ Tryz.underlying28 (by kernel_rfl) el_course t6
  obtain ⟨A5, c5, l5, f5, w5, q5, m5, ok5⟩ := open_es enS_len (by decide) (ok := StIn W) ⟨⟨[], []⟩, none, 0⟩ Tryz.underlying29 (by kernel_rfl) el_student t7
  obtain ⟨A6, c6, l6, f6, w6, q6, m6, ok6⟩ := open_es enU_len (by decide) (ok := RlIn W) ⟨⟨0, [], 0, 0, false, 0⟩, none, 0⟩ Tryz.underlying30 (by kernel_rfl) el_rule t8
  obtain ⟨a0, a1, a2, a3, e9, hw⟩ := el_weigh _ _ _ rfl t9
  simp only [List.cons.injEq, and_true] at e0 e1 f0 f1 f2 f3 f4 f5 f6 e9
  obtain ⟨x1, x2, x3⟩ := e1
  obtain ⟨x11, x12, x13, x14⟩ := e9
  refine ⟨⟨s0.data.toList, g, l0, l1, l2, l3, l4, l5, l6, a0, a1, a2, a3, A0, c0, A1, c1, A2, c2, A3, c3, A4, c4, A5, c5, A6, c6⟩, ?_, ⟨by rw [data_len]; exact k0, hg1, w0, ok0, ⟨q0, m0⟩, w1, ok1, ⟨q1, m1⟩, w2, ok2, ⟨q2, m2⟩, w3, ok3, ⟨q3, m3⟩, w4, ok4, ⟨q4, m4⟩, w5, ok5, ⟨q5, m5⟩, w6, ok6, ⟨q6, m6⟩, hw⟩⟩
  have ht : txt s0.data.toList = .string s0 := by unfold txt; rw [of_bs]
  show Value.agg cs = .agg #[txt s0.data.toList, _, _, _, _, _, _, _, _, _, _, _, _, _, _]
  rw [ht]
  congr 1
  have : cs = cs.toList.toArray := (Array.toArray_toList ..).symm
  rw [this, hcs, e0, x1, x2, x3, f0, f1, f2, f3, f4, f5, f6, x11, x12, x13, x14]
end
end Go.Proofs.YtgmgccepmalahaaGreat
namespace Go.Proofs.YtgmgccepmalahaaGreat
open Go.RowKit
theorem rows2_ad {w : World} {B : Nat} {A : Option Addr} {ls : List (List Int)} (h : Rows2 w B A ls) {k : Nat} (hk : k < ls.length) : ∃ ad r Ak ck, A = some ad ∧ ad.block < B ∧ Hid (ls[k]? = some r) ∧ w.cell? (ad.add k) = some (.slice Ak r.length ck) ∧ Its w B Ak r ∧ r.length ≤ ck := by
 obtain ⟨ad, e, hb, hc⟩ := h (by intro e; subst e; simp at hk)
 obtain ⟨Ak, ck, h1, h2, h3⟩ := hc k ls[k] (List.getElem?_eq_getElem hk)
 exact ⟨ad, ls[k], Ak, ck, e, hb, List.getElem?_eq_getElem hk, h1, h2, h3⟩
end Go.Proofs.YtgmgccepmalahaaGreat
namespace Go.Proofs.YtgmgccepmalahaaGreat
open Go.RowKit
def cl (ls : List (List Int)) (i k : Nat) : Int := (ls.getD i []).getD k 0
def cok (ls : List (List Int)) (i k : Nat) : Prop := 0 ≤ cl ls i k ∧ cl ls i k ≤ 96 ∧ cl ls i k = cl ls k i ∧ (i = k → cl ls i k = 0)
instance (ls : List (List Int)) (i k : Nat) : Decidable (cok ls i k) := by unfold cok; infer_instance
def rwOk (n : Int) (ls : List (List Int)) : Bool := decide (0 ≤ n ∧ n ≤ 24 ∧ (ls.length : Int) = n ∧ (∀ r ∈ ls, r.length = ls.length) ∧ ∀ i, i < ls.length → ∀ k, k < ls.length → cok ls i k)
theorem cl_of {ls : List (List Int)} {i k : Nat} {r : List Int} {x : Int} (h : ls[i]? = some r) (h2 : r[k]? = some x) : cl ls i k = x := by
 unfold cl
 rw [List.getD_eq_getElem?_getD (l := ls), h]
 show r.getD k 0 = x
 rw [List.getD_eq_getElem?_getD, h2]; rfl
end Go.Proofs.YtgmgccepmalahaaGreat
namespace Go.Proofs.YtgmgccepmalahaaGreat
open Go.RowKit
open Whn (Gr Wh)
theorem es_fld {α : Type} {en : α → List Value} {K : Nat} (hK : ∀ x, (en x).length = K) {w : World} {B : Nat} {ad : Addr} {l : List α} (h : Es en w B (some ad) l) {k : Nat} {x : α} (hx : l[k]? = some x) (j : Nat) (hj : 0 < j) (v : Value) (hv : (en x)[j]? = some v) :
 w.cell? ⟨(ad.add (k * K)).block, (ad.add (k * K)).off + j, none⟩ = some v := by
 have h1 := es_at hK h hx j v hv
 have e : ad.add (k * K + j) = ⟨(ad.add (k * K)).block, (ad.add (k * K)).off + j, none⟩ := by
  unfold Addr.add
  rw [if_neg (by omega)]
  by_cases h2 : k * K = 0
  · rw [if_pos h2, h2, Nat.zero_add]
  · rw [if_neg h2]
    show (⟨ad.block, ad.off + (k * K + j), none⟩ : Addr) = ⟨ad.block, ad.off + k * K + j, none⟩
    rw [Nat.add_assoc]
 rw [← e]; exact h1
theorem Clw.next2 {w w' : World} {x : Cl} {r : Cw} (h : Clw w w.heap.size x r) (hb : Below w.heap.size w w') : Clw w' w'.heap.size x r := h.next hb
theorem StIn.upto {w w' : World} {x : StA} (h : StIn w x) (hb : Below w.heap.size w w') : StIn w' x := h.next hb
theorem own_typed {w : World} {b1 b2 e1 e2 s1 s2 n1 n2 : Nat} {v1 v2 : Value} {xs ys : List Value} (h1 : w.ownsRow b1 e1 s1 v1 n1 xs) (h2 : w.ownsRow b2 e2 s2 v2 n2 ys) (he : e1 ≠ e2) : v2.ownBlock = none ∨ v2.ownBlock ≠ v1.ownBlock := by
 rcases h2.2 with ⟨rfl, _⟩ | ⟨g2, c2, cur2, rfl, _, hg2, _⟩
 · exact .inl rfl
 · rcases h1.2 with ⟨rfl, _⟩ | ⟨g1, c1, cur1, rfl, _, hg1, _⟩
   · exact .inr (by intro h; cases h)
   · refine .inr (fun h => he ?_)
     have hg : g2 = g1 := Option.some.inj h
     subst hg
     rw [hg1] at hg2
     injection hg2 with hg2
     injection hg2
end Go.Proofs.YtgmgccepmalahaaGreat
namespace Go.Proofs.YtgmgccepmalahaaGreat
open Go.RowKit
open Whn (Gr Wh)
def rlEq (x y : Rl) : Bool := decide (x.k = y.k) && (decide (x.l = y.l) && (decide (x.a = y.a) && (decide (x.b = y.b) && (decide (x.h = y.h) && decide (x.c = y.c)))))
theorem rlEq_iff (x y : Rl) : rlEq x y = true ↔ x = y := by
 unfold rlEq
 simp only [Bool.and_eq_true, decide_eq_true_iff]
 cases x; cases y
 simp
end Go.Proofs.YtgmgccepmalahaaGreat
namespace Go.Proofs.YtgmgccepmalahaaGreat
open Go.RowKit
end Go.Proofs.YtgmgccepmalahaaGreat
