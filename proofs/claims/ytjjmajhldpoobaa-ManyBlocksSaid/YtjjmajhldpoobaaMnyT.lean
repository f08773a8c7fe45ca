/- Contracts of the program's own functions of layer 16 (many): the blocks of a day, of times that are sorted. Mathematics first: the order of those of one start does not matter. -/
import Derived.Test.YtjjmajhldpoobaaOwnS
import Derived.Test.YtjjmajhldpoobaaMnyP
import Derived.Test.YtjjmajhldpoobaaMnyD
import Derived.Test.YtjjmajhldpoobaaPerC
namespace Go.Proofs.Ytjjmajhldpoobaa.Whn

/-- by their first slots -/
def RisA (l : List (Int × Int)) : Prop := l.Pairwise fun x y => x.1 ≤ y.1
theorem RisP.risA {l : List (Int × Int)} (h : RisP l) : RisA l := List.Pairwise.imp (fun h => by rw [leP_iff] at h; omega) h
theorem bgo_swap {gap : Int} (hg : 0 ≤ gap) (a b : Int × Int) (hab : a.1 = b.1) (ha : 0 ≤ a.2) (hb : 0 ≤ b.2) (ws : List (Int × Int)) (f e c : Int) : bgo gap f e c (a :: b :: ws) = bgo gap f e c (b :: a :: ws) := by
  rw [show bgo gap f e c (a :: b :: ws) = if gap < a.1 - e then (e - f, c) :: bgo gap a.1 (a.1 + a.2) 1 (b :: ws) else bgo gap f (max e (a.1 + a.2)) (c + 1) (b :: ws) from rfl,
    show bgo gap f e c (b :: a :: ws) = if gap < b.1 - e then (e - f, c) :: bgo gap b.1 (b.1 + b.2) 1 (a :: ws) else bgo gap f (max e (b.1 + b.2)) (c + 1) (a :: ws) from rfl]
  by_cases h : gap < a.1 - e
  · rw [if_pos h, if_pos (by omega), bgo, bgo, if_neg (by omega), if_neg (by omega), ← hab, show max (a.1 + a.2) (a.1 + b.2) = max (a.1 + b.2) (a.1 + a.2) by omega]
  · rw [if_neg h, if_neg (by omega), bgo, bgo, if_neg (by omega), if_neg (by omega), show max (max e (a.1 + a.2)) (b.1 + b.2) = max (max e (b.1 + b.2)) (a.1 + a.2) by omega]
/-- one that is no later than those ahead of it -/
theorem bgo_front {gap : Int} (hg : 0 ≤ gap) (x : Int × Int) (hx : 0 ≤ x.2) (r : List (Int × Int)) : ∀ (q : List (Int × Int)) (f e c : Int), (∀ w ∈ q, w.1 = x.1 ∧ 0 ≤ w.2) → bgo gap f e c (q ++ x :: r) = bgo gap f e c (x :: (q ++ r)) := by
  intro q
  induction q with
  | nil => intro f e c _; rfl
  | cons w q ih =>
    intro f e c h
    have hw := h w (List.mem_cons_self ..)
    rw [List.cons_append, List.cons_append, ← bgo_swap hg w x hw.1 hw.2 hx, bgo, bgo]
    split
    · rw [ih _ _ _ (fun z hz => h z (List.mem_cons_of_mem _ hz))]
    · rw [ih _ _ _ (fun z hz => h z (List.mem_cons_of_mem _ hz))]
theorem bgo_tie {gap : Int} (hg : 0 ≤ gap) : ∀ (p q : List (Int × Int)) (f e c : Int), p.Perm q → RisA p → RisA q → (∀ w ∈ p, 0 ≤ w.2) → bgo gap f e c p = bgo gap f e c q := by
  intro p
  induction p with
  | nil => intro q f e c h _ _ _; rw [List.nil_perm.1 h]
  | cons x p ih =>
    intro q f e c h hp hq hw
    obtain ⟨p1, p2⟩ := List.pairwise_cons.1 hp
    obtain ⟨q1, q2, rfl⟩ := List.append_of_mem (h.mem_iff.1 (List.mem_cons_self ..))
    have h2 : p.Perm (q1 ++ q2) := List.Perm.cons_inv (h.trans List.perm_middle)
    obtain ⟨a1, a2, a3⟩ := List.pairwise_append.1 hq
    have hf : ∀ w ∈ q1, w.1 = x.1 ∧ 0 ≤ w.2 := fun w hm => by
      have m1 : w ∈ p := h2.mem_iff.2 (List.mem_append_left _ hm)
      have := p1 w m1
      have := a3 w hm x (List.mem_cons_self ..)
      exact ⟨by omega, hw w (List.mem_cons_of_mem _ m1)⟩
    have hs : RisA (q1 ++ q2) := List.pairwise_append.2 ⟨a1, (List.pairwise_cons.1 a2).2, fun z hz y hy => a3 z hz y (List.mem_cons_of_mem _ hy)⟩
    rw [bgo_front hg x (hw x (List.mem_cons_self ..)) q2 q1 f e c hf, bgo, bgo]
    have hw2 : ∀ w ∈ p, 0 ≤ w.2 := fun w hm => hw w (List.mem_cons_of_mem _ hm)
    split
    · rw [ih (q1 ++ q2) _ _ _ h2 p2 hs hw2]
    · rw [ih (q1 ++ q2) _ _ _ h2 p2 hs hw2]
/-- blocks are told by the times, whatever the order of those of one start -/
theorem blks_tie {gap : Int} (hg : 0 ≤ gap) {p q : List (Int × Int)} (h : p.Perm q) (hp : RisA p) (hq : RisA q) (hw : ∀ w ∈ p, 0 ≤ w.2) : blks gap p = blks gap q := by
  have key : ∀ (e : Int) (l : List (Int × Int)), (∀ w ∈ l, gap < w.1 - e) → bgo gap 0 e 0 l = (e - 0, 0) :: blks gap l := by
    intro e l hl
    cases l with
    | nil => rfl
    | cons w l => rw [bgo, if_pos (hl w (List.mem_cons_self ..))]; rfl
  obtain ⟨e, he⟩ : ∃ e : Int, ∀ w ∈ p, gap < w.1 - e := by
    cases p with
    | nil => exact ⟨0, fun w hm => by cases hm⟩
    | cons x p =>
      refine ⟨x.1 - gap - 1, fun w hm => ?_⟩
      rcases List.mem_cons.1 hm with rfl | hm
      · omega
      · have := (List.pairwise_cons.1 hp).1 w hm; omega
  have h1 := key e p he
  have h2 := key e q (fun w hm => he w (h.mem_iff.2 hm))
  rw [bgo_tie hg p q 0 e 0 h hp hq hw, h2] at h1
  exact (List.cons.inj h1).2.symm
/-- the times of a day, of some that are sorted -/
def onP (g : Gr) (rs : List Wh) (D : Nat) : List (Int × Int) := (rs.filter (dayOn g · D)).map prOf
theorem onP_blk (gap : Int) {g : Gr} {l rs : List Wh} (D : Nat) (hp : rs.Perm (l.filter (right g))) (hs : RisS rs) : blks (max gap 0) (onP g rs D) = blkN gap g l D := by
  unfold blkN
  have h1 : (onP g rs D).Perm (dayP g l D) := by
    unfold onP dayP dayW
    refine List.Perm.map _ ?_
    have := hp.filter (dayOn g · D)
    rw [List.filter_filter] at this
    refine this.trans (List.Perm.of_eq (List.filter_congr (fun x _ => ?_)))
    rw [Bool.and_comm]
  refine blks_tie (by omega) (h1.trans (srtP_perm _).symm) ?_ (srtP_ris _).risA ?_
  · unfold onP RisA
    rw [List.pairwise_map]
    exact List.Pairwise.filter _ hs
  · intro w hw
    have := dayP_bnd ((srtP_perm (dayP g l D)).mem_iff.2 (h1.mem_iff.1 hw))
    omega
end Go.Proofs.Ytjjmajhldpoobaa.Whn
namespace Go.Proofs.Ytjjmajhldpoobaa
open Go.RowKit
open Whn (Gr Wh)

theorem and_pow (n i : Nat) : (n &&& 2 ^ i ≠ 0) ↔ n.testBit i = true := by
  constructor
  · intro h
    obtain ⟨j, hj⟩ := Nat.exists_testBit_of_ne_zero h
    rw [Nat.testBit_and, Nat.testBit_two_pow, Bool.and_eq_true, decide_eq_true_iff] at hj
    rw [hj.2]; exact hj.1
  · intro h h0
    have h1 : (n &&& 2 ^ i).testBit i = true := by rw [Nat.testBit_and, h, Nat.testBit_two_pow_self]; rfl
    rw [h0, Nat.zero_testBit] at h1
    cases h1
/-- a day as a time of one slot -/
def toDay (i j : Nat) : Wh := ⟨2 ^ i, 2 ^ j, 0, 1⟩
theorem toDay_ok {i j : Nat} (hi : i < 20) (hj : j < 7) : Wok (toDay i j) := by
  have h1 : (2 : Nat) ^ i ≤ 2 ^ 19 := Nat.pow_le_pow_right (by decide) (by omega)
  have h2 : (2 : Nat) ^ j ≤ 2 ^ 6 := Nat.pow_le_pow_right (by decide) (by omega)
  refine ⟨?_, ?_, ?_, ?_⟩
  · show 2 ^ i < _; omega
  · show 2 ^ j < _; omega
  · show I64 0; unfold I64; omega
  · show I64 1; unfold I64; omega
theorem toDay_same {g : Gr} {y : Wh} (hr : Whn.right g y = true) (D : Nat) : Whn.sameDay y (toDay (D / g.d.toNat) (D % g.d.toNat)) = Whn.dayOn g y D := by
  have h1 := Whn.right_tame hr
  have h2 : Whn.tame (toDay (D / g.d.toNat) (D % g.d.toNat)) = true := by
    rw [Whn.tame_iff]
    show (0 : Int) ≤ 0 ∧ (0 : Int) ≤ 96 ∧ (1 : Int) ≤ 1 ∧ (1 : Int) ≤ 96
    omega
  unfold Whn.sameDay Whn.dayOn
  rw [h1, h2, Bool.true_and, Bool.true_and, Bool.eq_iff_iff, decide_eq_true_iff, Bool.and_eq_true]
  show (y.w &&& 2 ^ (D / g.d.toNat) ≠ 0 ∧ y.d &&& 2 ^ (D % g.d.toNat) ≠ 0) ↔ _
  rw [and_pow, and_pow]
theorem right_bndM {g : Gr} {x : Wh} (h : Whn.right g x = true) : 0 ≤ x.s ∧ 1 ≤ x.l ∧ x.s + x.l ≤ 96 := by
  obtain ⟨hg, _, _, r4, r5, r6, _⟩ := (Whn.right_iff g x).1 h
  have := (Whn.rgrid_iff g).1 hg
  omega
/-- how many of the first k times are on a day -/
def ixN (g : Gr) (rs : List Wh) (D k : Nat) : Nat := ((rs.take k).filter (Whn.dayOn g · D)).length
theorem ixN_yes {g : Gr} {rs : List Wh} {D k : Nat} {y : Wh} (h : rs[k]? = some y) (hd : Whn.dayOn g y D = true) : (Whn.onP g rs D)[ixN g rs D k]? = some (y.s, y.l) ∧ ixN g rs D (k + 1) = ixN g rs D k + 1 := by
  obtain ⟨hk, e⟩ := List.getElem?_eq_some_iff.1 h
  constructor
  · have e1 : rs = rs.take k ++ y :: rs.drop (k + 1) := by rw [← e, ← List.drop_eq_getElem_cons hk, List.take_append_drop]
    have e2 : Whn.onP g rs D = ((rs.take k).filter (Whn.dayOn g · D)).map Whn.prOf ++ (y.s, y.l) :: ((rs.drop (k + 1)).filter (Whn.dayOn g · D)).map Whn.prOf := by
      unfold Whn.onP
      conv => lhs; rw [e1]
      rw [List.filter_append, List.map_append, List.filter_cons, if_pos hd, List.map_cons]; rfl
    rw [e2, List.getElem?_append_right (by rw [List.length_map]; exact Nat.le_refl _), List.length_map]
    show ((y.s, y.l) :: _)[ixN g rs D k - ixN g rs D k]? = _
    rw [Nat.sub_self]; rfl
  · unfold ixN
    rw [List.take_add_one, h, List.filter_append, List.length_append]
    show _ + (List.filter _ [y]).length = _
    rw [List.filter_cons, if_pos hd]; rfl
theorem ixN_no {g : Gr} {rs : List Wh} {D k : Nat} {y : Wh} (h : rs[k]? = some y) (hd : Whn.dayOn g y D = false) : ixN g rs D (k + 1) = ixN g rs D k := by
  unfold ixN
  rw [List.take_add_one, h, List.filter_append, List.length_append]
  show _ + (List.filter _ [y]).length = _
  rw [List.filter_cons, if_neg (by rw [hd]; decide)]; rfl
theorem ixN_le (g : Gr) (rs : List Wh) (D k : Nat) : ixN g rs D k ≤ k := by
  unfold ixN
  refine Nat.le_trans (List.length_filter_le _ _) ?_
  rw [List.length_take]; omega
theorem ixN_all (g : Gr) (rs : List Wh) (D : Nat) : ixN g rs D rs.length = (Whn.onP g rs D).length := by
  unfold ixN Whn.onP; rw [List.take_length, List.length_map]
theorem BInv.zero {gap : Int} {ps : List (Int × Int)} {i : Nat} {o : List (Int × Int)} {f e : Int} (h : BInv gap ps i o f e) : o.length = 0 → i = 0 := by
  rcases h with ⟨h0, _⟩ | ⟨d, c, rfl, _⟩
  · exact fun _ => h0
  · rw [List.length_append]; intro h; exact absurd h (by show ¬ d.length + 1 = 0; omega)
theorem BInv.newE {gap : Int} (hg : 0 ≤ gap) {ps : List (Int × Int)} {i : Nat} {o : List (Int × Int)} {f e s n : Int} (h : BInv gap ps i o f e) (hq : ps[i]? = some (s, n)) (hs : 0 ≤ s ∧ 1 ≤ n ∧ s + n ≤ 96) (hc : o.length = 0 ∨ gap < s - e) :
    BMid gap ps i s n o 0 0 s e := by
  have hb := h.bnd
  have h0 : i = 0 → e = 0 := by
    rcases h with ⟨_, _, _, h0⟩ | ⟨d, c, _, _, _, _, _, _, _, h7⟩
    · exact fun _ => h0
    · intro h0; omega
  have hc2 : i = 0 ∨ gap < s - e := hc.imp h.zero id
  have := h.new hq hs hc2
  have e1 : max e (s + n) = max s (s + n) := by
    rcases hc2 with h1 | h1
    · have := h0 h1; omega
    · omega
  unfold BMid at this ⊢
  rw [e1]
  refine ⟨this.1, by omega, by omega, by omega, by omega, by omega, by omega, this.2.2.2.2.2.2.2.1, by omega, by omega⟩
theorem Ob.grown {w w' : World} {B : Nat} {cs : List Value} {t : TypeId} {r : Option Nat} (h : Ob w B cs t) (hg : w.grownBy w' r) (hne : ∀ k, r = some k → k ≠ B) : Ob w' B cs t := by
  have hlt := h.lt
  unfold Ob at *
  rw [hg.block B hlt (fun e => hne B e.symm rfl)]
  exact h
set_option maxRecDepth 20000 in
set_option maxHeartbeats 8000000 in
theorem p_blocks (g : Gr) (rs : List Wh) (A : Option Addr) (c : Nat) (hok : ∀ y ∈ rs, Wok y ∧ Whn.right g y = true) (hm : rs.length ≤ 10000) (D : Nat) (hD : D < Whn.daysN g) (gap : Int) (w : World) (h : Whs w w.heap.size A rs) :
    Calls Try.prog 37 #[gv g, .slice A rs.length c, .int .i64 D, .int .i64 gap] w (BkRet (Whn.blks (max gap 0) (Whn.onP g rs D)) w) := by
  have HS := hid (fun y i j (hy : Wok y) hi hj X => p_SameDay y (toDay i j) hy (toDay_ok hi hj) X)
  have Hsd := hid (fun y (hy : y ∈ rs) => toDay_same (hok y hy).2 D)
  have HO := hid hok
  have H := hid h
  have hg : Whn.rgrid g = true := by
    unfold Whn.daysN at hD
    split at hD
    · assumption
    · omega
  obtain ⟨q1, q2, q3, q4, q5, q6⟩ := (Whn.rgrid_iff g).1 hg
  obtain ⟨dd, hdd⟩ := Int.eq_ofNat_of_zero_le (show 0 ≤ g.d by omega)
  obtain ⟨ww, hww⟩ := Int.eq_ofNat_of_zero_le (show 0 ≤ g.w by omega)
  have hDN : D < ww * dd := by
    unfold Whn.daysN at hD
    rw [if_pos hg, hww, hdd, ← Int.natCast_mul, Int.toNat_natCast] at hD
    exact hD
  have hdn : g.d.toNat = dd := by omega
  have hd1 : 0 < dd := by omega
  obtain ⟨i, hi⟩ : ∃ i, D / dd = i := ⟨_, rfl⟩
  obtain ⟨j, hj⟩ : ∃ j, D % dd = j := ⟨_, rfl⟩
  have hi20 : i < 20 := by
    rw [← hi]
    have : D / dd < ww := Nat.div_lt_of_lt_mul (by rwa [Nat.mul_comm])
    omega
  have hj7 : j < 7 := by
    rw [← hj]
    have := Nat.mod_lt D hd1
    omega
  have hiz : (D : Int) / g.d = (i : Int) := by rw [hdd, ← hi]; rfl
  have hjz : (D : Int) % g.d = (j : Int) := by rw [hdd, ← hj]; rfl
  rw [hdn, hi, hj] at Hsd
  obtain ⟨T, hT⟩ : ∃ T, toDay i j = T := ⟨_, rfl⟩
  have HS1 := hid (fun y hy X => HS.out y i j hy hi20 hj7 X)
  rw [hT] at Hsd HS1
  have k1 : IntKind.i64.wrap (i : Int) = (i : Int) := by rw [IntKind.wrap_i64]; omega
  have k2 : IntKind.i64.wrap (j : Int) = (j : Int) := by rw [IntKind.wrap_i64]; omega
  have k3 : min i 32 = i := by omega
  have k4 : min j 8 = j := by omega
  have k5 : IntKind.u32.wrap (2 ^ i) = ((2 ^ i : Nat) : Int) := by
    have h1 : (2 : Nat) ^ i ≤ 2 ^ 19 := Nat.pow_le_pow_right (by decide) (by omega)
    have h2 : (2 : Int) ^ i = ((2 ^ i : Nat) : Int) := by rw [Int.natCast_pow]; rfl
    rw [h2, IntKind.wrap_u32]
    generalize (2 : Nat) ^ i = z at *
    omega
  have k6 : IntKind.u8.wrap (2 ^ j) = ((2 ^ j : Nat) : Int) := by
    have h1 : (2 : Nat) ^ j ≤ 2 ^ 6 := Nat.pow_le_pow_right (by decide) (by omega)
    have h2 : (2 : Int) ^ j = ((2 ^ j : Nat) : Int) := by rw [Int.natCast_pow]; rfl
    rw [h2, IntKind.wrap_u8]
    generalize (2 : Nat) ^ j = z at *
    omega
  have k7 : (D : Int).tmod g.d = (j : Int) := by rw [Int.tmod_eq_emod_of_nonneg (by omega)]; exact hjz
  have hgd0 : ¬ g.d = 0 := by omega
  have HT : Hid (wc T = [.int .u32 ((2 ^ i : Nat) : Int), .int .u8 ((2 ^ j : Nat) : Int), .int .i64 0, .int .i64 1]) := hid (by rw [← hT]; rfl)
  generalize hPW : ((2 ^ i : Nat) : Int) = pw at *
  generalize hPD : ((2 ^ j : Nat) : Int) = pd at *
  obtain ⟨gp, hgp0⟩ : ∃ gp, max gap 0 = gp := ⟨_, rfl⟩
  rw [hgp0]
  have m1 : (if gap < 0 then 0 else gap) = gp := by rw [← hgp0]; split <;> omega
  have m2 : (if 0 < gap then gap else 0) = gp := by rw [← hgp0]; split <;> omega
  have Hgp := hid (show 0 ≤ gp by omega)
  have Hyes := hid (fun k y (h : rs[k]? = some y) (hd : Whn.dayOn g y D = true) => ixN_yes h hd)
  have Hno := hid (fun k y (h : rs[k]? = some y) (hd : Whn.dayOn g y D = false) => ixN_no h hd)
  have Hixb := hid (fun k => ixN_le g rs D k)
  have Hixa := hid (ixN_all g rs D)
  have Hix0 := hid (show ixN g rs D 0 = 0 from rfl)
  generalize ixN g rs D = ix at *
  generalize Whn.onP g rs D = ps at *
  obtain ⟨G, W, hG, hW, K, hb0⟩ := (Mem.nil w).one (gc g) 23
  obtain ⟨g0, g1, g2⟩ := K.out.gr (B := G) (g := g) (by simp)
  clear hgp0 h hok hb0 HS hT hi hj hdn hDN hdd hww hg hD q1 q2 q3 q4 q5 q6
  go_enter Try.func37, Try.ntmps37
  go_wp2_with fail
  refine wp_region_held_drew (S := fun X => Mem w X [(G, gc g, 23)]) (by kernel_rfl) K.out.drew (fun hHeld => ?_)
  refine takeH 0 16 (.int .i64 D) rfl rfl (by kernel_rfl) (by kernel_rfl) (by kernel_rfl) (fun _ _ _ h => h) (by kernel_rfl) (fun X hX => by clear hX; first | rfl | go_simp) hHeld ?_
  simp only [Act.put, List.setIfInBounds_toArray, List.set_cons_zero, List.set_cons_succ]
  refine takeH 1 17 (.pointer (some ⟨G, 1, none⟩)) rfl rfl (by kernel_rfl) (by kernel_rfl) (by kernel_rfl) (fun _ _ _ h => h) (by kernel_rfl) (fun X hX => by clear hX; first | rfl | go_simp) hHeld ?_
  simp only [Act.put, List.setIfInBounds_toArray, List.set_cons_zero, List.set_cons_succ]
  refine takeH 2 18 (.int .i64 g.d) rfl rfl (by kernel_rfl) (by kernel_rfl) (by kernel_rfl) (fun _ _ _ h => h) (by kernel_rfl) (fun X hX => by obtain ⟨y0, y1, y2⟩ := hX.gr (B := G) (g := g) (by simp); clear hX; go_simp) hHeld ?_
  simp only [Act.put, List.setIfInBounds_toArray, List.set_cons_zero, List.set_cons_succ]
  refine takeH 3 19 (.int .i64 i) rfl rfl (by kernel_rfl) (by kernel_rfl) (by kernel_rfl) (fun _ _ _ h => h) (by kernel_rfl) (fun X hX => by clear hX; go_simp) hHeld ?_
  simp only [Act.put, List.setIfInBounds_toArray, List.set_cons_zero, List.set_cons_succ]
  refine takeH 4 20 (.int .u32 pw) rfl rfl (by kernel_rfl) (by kernel_rfl) (by kernel_rfl) (fun _ _ _ h => h) (by kernel_rfl) (fun X hX => by clear hX; go_simp) hHeld ?_
  simp only [Act.put, List.setIfInBounds_toArray, List.set_cons_zero, List.set_cons_succ]
  refine takeH 5 21 (.int .i64 D) rfl rfl (by kernel_rfl) (by kernel_rfl) (by kernel_rfl) (fun _ _ _ h => h) (by kernel_rfl) (fun X hX => by clear hX; first | rfl | go_simp) hHeld ?_
  simp only [Act.put, List.setIfInBounds_toArray, List.set_cons_zero, List.set_cons_succ]
  refine takeH 6 22 (.pointer (some ⟨G, 1, none⟩)) rfl rfl (by kernel_rfl) (by kernel_rfl) (by kernel_rfl) (fun _ _ _ h => h) (by kernel_rfl) (fun X hX => by clear hX; first | rfl | go_simp) hHeld ?_
  simp only [Act.put, List.setIfInBounds_toArray, List.set_cons_zero, List.set_cons_succ]
  refine takeH 7 23 (.int .i64 g.d) rfl rfl (by kernel_rfl) (by kernel_rfl) (by kernel_rfl) (fun _ _ _ h => h) (by kernel_rfl) (fun X hX => by obtain ⟨y0, y1, y2⟩ := hX.gr (B := G) (g := g) (by simp); clear hX; go_simp) hHeld ?_
  simp only [Act.put, List.setIfInBounds_toArray, List.set_cons_zero, List.set_cons_succ]
  refine takeH 8 24 (.int .i64 j) rfl rfl (by kernel_rfl) (by kernel_rfl) (by kernel_rfl) (fun _ _ _ h => h) (by kernel_rfl) (fun X hX => by clear hX; go_simp) hHeld ?_
  simp only [Act.put, List.setIfInBounds_toArray, List.set_cons_zero, List.set_cons_succ]
  refine takeH 9 25 (.int .u8 pd) rfl rfl (by kernel_rfl) (by kernel_rfl) (by kernel_rfl) (fun _ _ _ h => h) (by kernel_rfl) (fun X hX => by clear hX; go_simp) hHeld ?_
  simp only [Act.put, List.setIfInBounds_toArray, List.set_cons_zero, List.set_cons_succ]
  refine takeH 10 26 (.agg #[.int .u32 pw, .int .u8 pd, .int .i64 0, .int .i64 1]) rfl rfl (by kernel_rfl) (by kernel_rfl) (by kernel_rfl) (fun _ _ _ h => h) (by kernel_rfl) (fun X hX => by clear hX; first | rfl | go_simp) hHeld ?_
  simp only [Act.put, List.setIfInBounds_toArray, List.set_cons_zero, List.set_cons_succ]
  obtain ⟨C, U0, hC, hU, K1, zz⟩ := K.out.one [.int .u32 0, .int .u8 0, .int .i64 0, .int .i64 0] 48
  have hGC : G < C := by have := (K.out.at_ (b := G) (cs := gc g) (t := 23) (by simp)).lt; omega
  refine wpAnyH_ready (rs := [11]) (by kernel_rfl) (by simp) ?_
  refine AllReadyH.cons rfl (fun KK hK => ?_) AllReadyH.nil
  simp only [List.getElem_toArray, List.getElem_cons_succ, List.getElem_cons_zero]
  go_simp
  refine hK.out _ _ (K1.out.drew.sub (by simp)) (fun hHeld => ?_)
  clear hK KK
  try simp only [Act.put, List.setIfInBounds_toArray, List.set_cons_zero, List.set_cons_succ]
  have K2 := hid K1.out.drew
  obtain ⟨U, hU2⟩ : ∃ U, U0.drew = U := ⟨_, rfl⟩
  rw [hU2] at hHeld K2 ⊢
  clear hU2 hU K1
  have KS := hid (K2.out.four (by omega) (by intro p hp; simp only [List.mem_cons, List.not_mem_nil, or_false] at hp; rcases hp with rfl; show G ≠ C; omega) (.int .u32 pw) (.int .u8 pd) (.int .i64 0) (.int .i64 1))
  rw [← HT.out] at KS
  have hOC := K2.out.at_ (b := C) (cs := [.int .u32 0, .int .u8 0, .int .i64 0, .int .i64 0]) (t := 48) (by simp)
  have s0 := hOC.free 0
  have s1 := hOC.free 1
  have s2 := hOC.free 2
  have s3 := hOC.free 3
  have c0 := hOC.cell (k := 0) rfl
  have c1 := hOC.cell (k := 1) rfl
  have c2 := hOC.cell (k := 2) rfl
  have c3 := hOC.cell (k := 3) rfl
  refine wpAnyH_ready (rs := [12]) (by kernel_rfl) (by simp) ?_
  refine AllReadyH.cons rfl (fun KK hK => ?_) AllReadyH.nil
  simp only [List.getElem_toArray, List.getElem_cons_succ, List.getElem_cons_zero]
  go_simp
  refine hK.out _ _ (KS.out.sub (by simp)) (fun hHeld => ?_)
  clear hK KK
  try simp only [Act.put, List.setIfInBounds_toArray, List.set_cons_zero, List.set_cons_succ]
  refine wpAnyH_done (by kernel_rfl) ?_ _
  have KT := hid (show Mem w _ [(C, wc T, 48), (G, gc g, 23)] from KS.out)
  clear hHeld KS hOC s0 s1 s2 s3 c0 c1 c2 c3 K2 K g0 g1 g2 zz hC hW
  obtain ⟨Z, hZ⟩ : ∃ Z, (((U.setCell ⟨C, 0, none⟩ (.int .u32 pw)).setCell ⟨C, 1, none⟩ (.int .u8 pd)).setCell ⟨C, 2, none⟩ (.int .i64 0)).setCell ⟨C, 3, none⟩ (.int .i64 1) = Z := ⟨_, rfl⟩
  rw [hZ] at KT ⊢
  clear hZ
  go_wp2_with fail
  obtain ⟨i0, hi0, hz0, hz1, hz2⟩ := info_parts Try.info_two
  go_loopw [9, 10, 11, 29] (fun ov sv ev iv wr => ∃ (k : Nat) (o : List (Int × Int)) (f e : Int), iv = .int .i64 k ∧ sv = .int .i64 f ∧ ev = .int .i64 e ∧ k ≤ rs.length ∧ Hid (BInv gp ps (ix k) o f e) ∧ Hid (wr.ownsRow Z.heap.size 25 2 ov o.length (bcells o)) ∧ Hid (Below Z.heap.size Z wr)) (fun _ _ _ iv _ => rs.length - (intOf iv).toNat)
  case atStart => exact ⟨0, [], 0, 0, rfl, rfl, rfl, Nat.zero_le _, by rw [Hix0.out]; exact hid (BInv.start _ _), hid (World.ownsRow_nil Z _ _ _), hid (Below.refl _ _)⟩
  case round =>
    obtain ⟨k, o, f, e, rfl, rfl, rfl, hk, HI, HO2, HBy⟩ := hrel
    have KM := hid (KT.out.next HBy.out)
    obtain ⟨A9, c9, rfl, _, _⟩ := own_es HO2.out
    by_cases hlt : k < rs.length
    · obtain ⟨ad, y, rfl, had, hx, hxl⟩ := whs_ad H.out hlt
      have b1 : (0 : Int) ≤ (k : Int) := by omega
      have b2 : (k : Int) < rs.length := by omega
      obtain ⟨d0, d1, d2, d3⟩ := whs_at (H.out.below KM.out.2 (Nat.le_refl _)) hx.out
      obtain ⟨E, U, hE, hU, K2, hb2⟩ := KM.out.one (wc y) 48
      obtain ⟨c0, c1, c2, c3⟩ := K2.out.wh (B := E) (x := y) (by simp)
      obtain ⟨e0, e1, e2, e3⟩ := K2.out.wh (B := C) (x := T) (by simp)
      have O2 := hid (own_below HO2.out hb2)
      have HoE := hid (show ∀ q, (Value.slice A9 o.length c9).ownBlock = some q → q < E from fun q hq => by have := (HO2.out.lt q hq).2; omega)
      have HB2 := hid (HBy.out.trans (hb2.mono HBy.out.size))
      have HS2 := hid (HS1.out y (HO.out y hxl).1)
      rw [Hsd.out y hxl] at HS2
      clear HO2 KM hb2
      cases hR : Whn.dayOn g y D with
      | false =>
        rw [hR] at HS2
        have Hst := hid (Hno.out k y hx.out hR)
        clear hR
        go_wp2_with fail
        refine (HS2.out _).mono ?_
        rintro e' w1 ⟨rfl, b3⟩
        have O3 := hid (own_below O2.out b3)
        have HB3 := hid (HB2.out.trans (b3.mono HB2.out.size))
        clear O2 HB2 c0 c1 c2 c3 e0 e1 e2 e3 d0 d1 d2 d3 K2
        go_wp2_with fail
        exact ⟨⟨k + 1, o, f, e, by go_num, rfl, rfl, by omega, by rw [Hst.out]; exact HI, O3, HB3⟩, by simp [intOf]; omega⟩
      | true =>
        rw [hR] at HS2
        obtain ⟨hpi, hst⟩ := Hyes.out k y hx.out hR
        have Hpi := hid hpi
        have Hst := hid hst
        clear hR hpi hst
        go_wp2_with fail
        refine (HS2.out _).mono ?_
        rintro e' w1 ⟨rfl, b3⟩
        have O3 := hid (own_below O2.out b3)
        have HB3 := hid (HB2.out.trans (b3.mono HB2.out.size))
        have HE3 := hid ((K2.out.next b3).at_ (b := E) (cs := wc y) (t := 48) (by simp))
        clear O2 HB2 c0 c1 c2 c3 e0 e1 e2 e3 d0 d1 d2 d3 K2
        have hbs := right_bndM (HO.out y hxl).2
        have hib := HI.out.bnd
        have s1 : IntKind.i64.wrap (y.s - e) = y.s - e := by rw [IntKind.wrap_i64]; omega
        obtain ⟨L, hL⟩ : ∃ L, o.length = L := ⟨_, rfl⟩
        have hLk : L ≤ 10000 := by have := Hixb.out k; omega
        have O4 := hid (show w1.ownsRow Z.heap.size 25 2 (.slice A9 L c9) L (bcells o) by rw [← hL]; exact O3.out)
        rw [hL] at HoE ⊢
        have HL := hid hL
        have HI4 := HI.out
        have hgp := Hgp.out
        clear O3 hL HI4
        go_upto_region 8 with fail
        go_cut [48] (fun s wx => ∃ b : Bool, s = .bool b ∧ Hid (b = true ↔ (o.length = 0 ∨ gp < y.s - e)) ∧ w1 = wx)
        case first =>
          have h14 := HE3.out.cell (k := 2) rfl
          by_cases h0 : L = 0
          · subst h0
            go_wp2_with fail
            go_meet
            exact ⟨true, rfl, hid (by simp [HL.out]), rfl⟩
          · have e0 : ((L : Int) == 0) = false := by rw [beq_eq_false_iff_ne]; omega
            by_cases h1 : gp < y.s - e
            · go_wp2_with fail
              all_goals (go_meet; exact ⟨true, rfl, hid ⟨fun _ => .inr h1, fun _ => rfl⟩, rfl⟩)
            · go_wp2_with fail
              all_goals (go_meet; exact ⟨false, rfl, hid ⟨fun h => (by cases h), fun h => (h.elim (fun h => absurd (HL.out.symm.trans h) h0) (fun h => (by omega)))⟩, rfl⟩)
        case rest =>
          revert wc
          intro wc hcut
          obtain ⟨b, rfl, Hb, rfl⟩ := hcut
          go_upto_if 48 with fail
          go_cut [9, 10] (fun ov sv wx => ∃ (d : List (Int × Int)) (p q f' : Int), sv = .int .i64 f' ∧ Hid (BMid gp ps (ix k) y.s y.l d p q f' e) ∧ Hid (wx.ownsRow Z.heap.size 25 2 ov (d.length + 1) (bcells (d ++ [(p, q)]))) ∧ Hid (Ob wx E (wc y) 48) ∧ Hid (Below Z.heap.size Z wx))
          case first =>
            cases b with
            | false =>
              obtain ⟨d, q, rfl, hmid⟩ := HI.out.more Hpi.out hbs (fun h => by
                have h1 := Hb.out.2 (h.imp (fun h0 => by have := HI.out; rw [h0] at this; rcases this with ⟨_, r, _⟩ | ⟨_, _, _, _, _, _, _, _, _, h7⟩; (rw [r]; rfl); omega) id)
                cases h1)
              have HO5 := O4
              have hLd : L = d.length + 1 := by rw [← HL.out, List.length_append]; rfl
              rw [hLd] at HO5 ⊢
              clear HI O4
              go_wp2_with fail
              go_meet
              exact ⟨d, e - f, q, f, rfl, hid hmid, HO5, HE3, HB3⟩
            | true =>
              have hmid := hid (HI.out.newE hgp Hpi.out hbs (Hb.out.1 rfl))
              have hn3 : L + 1 ≤ maxLen := by unfold maxLen; omega
              have hn4 : (L + 1) * 16 ≤ 140737488355328 := by omega
              have hBs := HB3.out.size
              go_wp2_with (at_builtin; refine wpList_append_own _ rfl _ _ 34 rfl Z.heap.size 25 i0 (.agg #[.int .i64 0, .int .i64 0]) 2 16 Try.underlying34 hi0 hz0 hz1 hz2 rfl (by decide) _ _ _ rfl (O4.out.alloc _) ⟨_, 0, none⟩ 1 1 (en2 (0, 0)) rfl rfl (blit_get _ _ _ _) (en2_one _) hn3 hn4 (le_alloc hBs _) ?_; intro v5 w5 hown5 hgrow _; have bb := hid ((HB3.out.alloc hBs _).grown hgrow (le_alloc hBs _) (fun k hk => (O4.out.lt k hk).1)); have HE5 := hid ((HE3.out.next (below_alloc w1 _)).grown hgrow (fun k hk => by have := HoE.out k hk; omega)); have h14 := HE5.out.cell (k := 2) rfl)
              have HO5 : Hid (w5.ownsRow Z.heap.size 25 2 v5 (o.length + 1) (bcells (o ++ [(0, 0)]))) := hid (by unfold bcells; rw [ecells_snoc, HL.out]; exact hown5)
              go_meet
              exact ⟨o, 0, 0, y.s, rfl, hmid, HO5, HE5, bb⟩
          case rest =>
            revert wc
            intro wd hcut
            obtain ⟨d, p, q, f', rfl, Hm, HO5, HE5, HB5⟩ := hcut
            clear HI O4 HE3 HB3 Hb hib
            have hmb := Hm.out.2
            have hkb := Hixb.out k
            obtain ⟨em, hem⟩ : ∃ em, max e (y.s + y.l) = em := ⟨_, rfl⟩
            have HEm := hid hem
            have z1 : (if e < y.s + y.l then y.s + y.l else e) = em := by rw [← hem]; split <;> omega
            have z2 : (if y.s + y.l < e then e else y.s + y.l) = em := by rw [← hem]; split <;> omega
            have z3 : IntKind.i64.wrap (y.s + y.l) = y.s + y.l := by rw [IntKind.wrap_i64]; omega
            have z4 : IntKind.i64.wrap (em - f') = em - f' := by rw [IntKind.wrap_i64]; omega
            have z5 : IntKind.i64.wrap (q + 1) = q + 1 := by rw [IntKind.wrap_i64]; omega
            obtain ⟨dn, hdn⟩ : ∃ dn, d.length = dn := ⟨_, rfl⟩
            have HO6 := HO5
            rcases HO6.out.2 with ⟨e10, h0⟩ | ⟨gb, cap, cur, e10, hgb, _⟩
            · omega
            subst e10
            have t0 := HO6.out.cellAt (dn * 2) (by rw [hdn]; omega)
            have r0 : (bcells (d ++ [(p, q)]))[dn * 2]? = some (.int .i64 p) := by
              have := ecells_get (K := 2) en2_len (d ++ [(p, q)]) dn (p, q) (by rw [← hdn]; simp) 0 (by omega)
              simpa using this
            have r1 : (bcells (d ++ [(p, q)]))[dn * 2 + 1]? = some (.int .i64 q) := by
              have := ecells_get (K := 2) en2_len (d ++ [(p, q)]) dn (p, q) (by rw [← hdn]; simp) 1 (by omega)
              simpa using this
            rw [r0] at t0
            have f0 := HO6.out.frozenAt (dn * 2)
            have ST1 := hid (HO6.out.stored (dn * 2) (.int .i64 (em - f'))).1
            have t1 := ST1.out.cellAt (dn * 2 + 1) (by rw [hdn]; omega)
            rw [List.getElem?_set, if_neg (by omega), r1] at t1
            have f1 := ST1.out.frozenAt (dn * 2 + 1)
            have ST2 := hid (ST1.out.stored (dn * 2 + 1) (.int .i64 (q + 1))).1
            have hset : Hid (((bcells (d ++ [(p, q)])).set (dn * 2) (.int .i64 (em - f'))).set (dn * 2 + 1) (.int .i64 (q + 1)) = bcells (d ++ [(em - f', q + 1)])) := hid (by
              unfold bcells
              rw [ecells_snoc, ecells_snoc]
              have hl : (ecells en2 d).length = dn * 2 := by rw [ecells_len en2_len, hdn]
              rw [List.set_append_right _ _ (by omega), hl, Nat.sub_self, List.set_append_right _ _ (by omega), hl, show dn * 2 + 1 - dn * 2 = 1 by omega]
              rfl)
            rw [hset.out] at ST2
            have BB6 := hid ((HB5.out.setCell (p := ⟨gb, dn * 2, none⟩) hgb (.int .i64 (em - f'))).setCell (p := ⟨gb, dn * 2 + 1, none⟩) hgb (.int .i64 (q + 1)))
            have c2 := HE5.out.cell (k := 2) rfl
            have c3 := HE5.out.cell (k := 3) rfl
            obtain ⟨N, hN⟩ : ∃ N, d.length + 1 = N := ⟨_, rfl⟩
            have hN2 : N = dn + 1 := by omega
            rw [hN] at ST2 ST1 ⊢
            have n0 : (0 : Int) ≤ (dn : Int) := by omega
            have n1 : (dn : Int) < (N : Int) := by omega
            have n2 : IntKind.i64.wrap ((N : Int) - 1) = (dn : Int) := by rw [IntKind.wrap_i64]; omega
            have hNh := hid hN
            clear hset r0 r1 ST1 HO5 HO6 hdn hN hN2 hem
            go_wp2_with fail
            obtain ⟨wE, hwE⟩ : ∃ wE, wd.setCell ⟨gb, dn * 2, none⟩ (.int .i64 (em - f')) = wE := ⟨_, rfl⟩
            rw [hwE] at ST2 BB6 t1 f1 ⊢
            clear hwE t0 f0 c2 c3 HE5 HB5
            go_region
            go_wp2_with fail
            exact ⟨⟨k + 1, d ++ [(em - f', q + 1)], f', em, by go_num, rfl, rfl, by omega, by rw [Hst.out]; exact hid (by have := Hm.out.1; rwa [HEm.out] at this), hid (by have := ST2.out.drew; rw [List.length_append]; show World.ownsRow _ _ _ _ _ (d.length + 1) _; rw [hNh.out]; exact this), hid BB6.out.drew⟩, by simp [intOf]; omega⟩
    · obtain rfl : k = rs.length := by omega
      have b2 : ¬ ((rs.length : Nat) : Int) < rs.length := by omega
      have ho : o = Whn.blks gp ps := by
        have := HI.out
        rw [Hixa.out] at this
        exact this.done
      subst ho
      clear HI
      go_wp2_with fail
      go_ret
      exact ⟨_, rfl, own_mono HO2.out KT.out.2.size, KT.out.2.trans (HBy.out.mono KT.out.2.size)⟩
end Go.Proofs.Ytjjmajhldpoobaa
