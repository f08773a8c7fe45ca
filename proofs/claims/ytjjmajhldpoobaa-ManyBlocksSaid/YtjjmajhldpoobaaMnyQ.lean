/- Contracts of the program's own functions of layer 16 (many): on how many days of the week some times are. -/
import Derived.Test.YtjjmajhldpoobaaOwnS
import Derived.Test.YtjjmajhldpoobaaMnyP
namespace Go.Proofs.Ytjjmajhldpoobaa
open Go.RowKit
open Whn (Gr Wh)

/-- the days of the week of some times, as bits -/
def dOr (rs : List Wh) : Nat := rs.foldl (fun d x => d ||| x.d) 0
theorem dOr_next {rs : List Wh} {k : Nat} {x : Wh} (h : rs[k]? = some x) : dOr (rs.take (k + 1)) = dOr (rs.take k) ||| x.d := by
  unfold dOr
  rw [List.take_add_one, h, List.foldl_append]; rfl
theorem dOr_bit (rs : List Wh) (i : Nat) : (dOr rs).testBit i = rs.any fun x => x.d.testBit i := by
  have key : ∀ (rs : List Wh) (d : Nat), (rs.foldl (fun d x => d ||| x.d) d).testBit i = (d.testBit i || rs.any fun x => x.d.testBit i) := by
    intro rs
    induction rs with
    | nil => intro d; simp
    | cons x rs ih => intro d; rw [List.foldl_cons, ih, Nat.testBit_or, List.any_cons, Bool.or_assoc]
  rw [dOr, key]; simp
theorem dOr_lt {rs : List Wh} (h : ∀ y ∈ rs, y.d < 256) : dOr rs < 256 := by
  refine Nat.lt_pow_two_of_testBit (n := 8) _ (fun i hi => ?_)
  rw [dOr_bit, List.any_eq_false]
  intro x hx
  rw [Nat.testBit_lt_two_pow (Nat.lt_of_lt_of_le (h x hx) (Nat.pow_le_pow_right (n := 2) (by decide) hi))]
  decide
theorem ones_cnt (n k : Nat) : Whn.ones n k = Whn.cnt n.testBit k := by
  induction k with
  | zero => rfl
  | succ k ih => rw [Whn.ones, Whn.cnt, ih]
theorem dOr_days {g : Gr} {l rs : List Wh} (hp : rs.Perm (l.filter (Whn.right g))) : ((Whn.ones (dOr rs) 8 : Nat) : Int) = Whn.dayC g l := by
  have h7 : (dOr rs).testBit 7 = false := by
    rw [dOr_bit, List.any_eq_false]
    intro x hx
    have hr := (List.mem_filter.1 (hp.mem_iff.1 hx)).2
    obtain ⟨hg, _, _, _, _, _, _, hd⟩ := (Whn.right_iff g x).1 hr
    have hg2 := (Whn.rgrid_iff g).1 hg
    rw [Nat.testBit_lt_two_pow (Nat.lt_of_lt_of_le hd (Nat.pow_le_pow_right (n := 2) (by decide) (by omega)))]
    decide
  unfold Whn.dayC
  rw [ones_cnt, Whn.cnt, h7]
  refine congrArg (fun z : Nat => (z : Int)) ?_
  show Whn.cnt (dOr rs).testBit 7 + 0 = _
  refine Whn.cnt_congr (fun d _ => ?_)
  rw [dOr_bit, hp.any_eq, List.any_filter]
theorem or_u8 (x y : Nat) (hx : x < 256) (hy : y < 256) : bits .or .u8 (x : Int) (y : Int) = ((x ||| y : Nat) : Int) := by
  have hl : x ||| y < 2 ^ 8 := Nat.or_lt_two_pow (by omega) (by omega)
  have h1 : (BitVec.ofInt 8 (x : Int)).toNat = x := by
    rw [BitVec.ofInt_natCast, BitVec.toNat_ofNat]; exact Nat.mod_eq_of_lt (by omega)
  have h2 : (BitVec.ofInt 8 (y : Int)).toNat = y := by
    rw [BitVec.ofInt_natCast, BitVec.toNat_ofNat]; exact Nat.mod_eq_of_lt (by omega)
  show IntKind.u8.wrap ((BitVec.ofInt 8 (x : Int) ||| BitVec.ofInt 8 (y : Int)).toNat : Int) = _
  rw [BitVec.toNat_or, h1, h2, IntKind.wrap_u8]
  omega
set_option maxRecDepth 20000 in
set_option maxHeartbeats 4000000 in
theorem p_DaysM (hB : BySt) (g : Gr) (l : List Wh) (A : Option Addr) (c : Nat) (hok : ∀ y ∈ l, Wok y) (hm : l.length ≤ 10000) (w : World) (h : Whs w w.heap.size A l) :
    Calls Try.prog 15 #[gv g, .slice A l.length c] w (Did (.int .i64 (Whn.dayC g l)) w) := by
  have HB := hid (fun w h => hB g l A c w hok hm h)
  have HO := hid (fun n hn X => p_Ones8 n hn X)
  have H := hid h
  have Hok := hid (fun (rs : List Wh) (hp : rs.Perm (l.filter (Whn.right g))) (y : Wh) (hy : y ∈ rs) => show Wok y from hok y (List.mem_filter.1 (hp.mem_iff.1 hy)).1)
  have HC := hid (fun rs hp => dOr_days (g := g) (l := l) (rs := rs) hp)
  have Hln := hid (fun (rs : List Wh) (hp : rs.Perm (l.filter (Whn.right g))) => show rs.length ≤ 10000 from by rw [hp.length_eq]; exact Nat.le_trans (List.length_filter_le _ _) hm)
  obtain ⟨G, W, hG, hW, K, hb0⟩ := (Mem.nil w).one (gc g) 23
  obtain ⟨g0, g1, g2⟩ := K.out.gr (B := G) (g := g) (by simp)
  clear h hok hb0 hB
  generalize Whn.dayC g l = rr at *
  go_enter Try.func15, Try.ntmps15
  go_wp2_with fail
  refine (HB.out _ ((H.out.below K.out.2 (Nat.le_refl _)).more K.out.2.size)).mono ?_
  rintro e w1 ⟨v, rs, rfl, hperm, hris, hown, b1⟩
  have K1 := hid (K.out.2.trans (b1.mono K.out.2.size))
  obtain ⟨Ar, cr, rfl, hw, hcr⟩ := own_whs hown
  have HW := hid hw
  have Hok1 := hid (Hok.out rs hperm)
  have HC1 := hid (HC.out rs hperm)
  have hrl := Hln.out rs hperm
  have Hlt := hid (fun k => dOr_lt (rs := rs.take k) (fun y hy => (Hok1.out y (List.mem_of_mem_take hy)).2.1))
  have Hnx := hid (fun k x (h : rs[k]? = some x) => dOr_next h)
  have Hz := hid (show dOr (rs.take 0) = 0 from rfl)
  have Ha := hid (show dOr (rs.take rs.length) = dOr rs by rw [List.take_length])
  clear hperm hris hown b1 hw K Hok HC Hln H HB g0 g1 g2 hW
  obtain ⟨ff, hff⟩ : ∃ ff : Nat → Nat, ∀ k, dOr (rs.take k) = ff k := ⟨_, fun _ => rfl⟩
  simp only [hff] at Hlt Hnx Hz Ha
  go_wp2_with fail
  go_loopw [5, 12] (fun dv iv wr => ∃ k : Nat, iv = .int .i64 k ∧ k ≤ rs.length ∧ dv = .int .u8 ((ff k : Nat) : Int) ∧ Hid (Below w1.heap.size w1 wr)) (fun _ iv _ => rs.length - (intOf iv).toNat)
  case atStart => exact ⟨0, rfl, Nat.zero_le _, by rw [Hz.out]; rfl, hid (Below.refl _ _)⟩
  case round =>
    obtain ⟨k, rfl, hk, rfl, HBy⟩ := hrel
    by_cases hlt : k < rs.length
    · obtain ⟨ad, y, rfl, had, hx, hxl⟩ := whs_ad HW.out hlt
      have b1 : (0 : Int) ≤ (k : Int) := by omega
      have b2 : (k : Int) < rs.length := by omega
      obtain ⟨d0, d1, d2, d3⟩ := whs_at (HW.out.below HBy.out (Nat.le_refl _)) hx.out
      obtain ⟨D, U, hD, hU, K2, hb2⟩ := (Mem.nil wr).one (wc y) 48
      obtain ⟨c0, c1, c2, c3⟩ := K2.out.wh (B := D) (x := y) (by simp)
      have Hn := hid (Hnx.out k y hx.out)
      have l1 := Hlt.out k
      have l2 := (Hok1.out y hxl).2.1
      generalize ff k = dk at *
      go_wp2_with fail
      refine ⟨⟨k + 1, by go_num, by omega, ?_, hid (HBy.out.trans (hb2.mono HBy.out.size))⟩, by simp [intOf]; omega⟩
      rw [Hn.out, or_u8 _ _ l1 l2]
    · obtain rfl : k = rs.length := by omega
      have b2 : ¬ ((rs.length : Nat) : Int) < rs.length := by omega
      have l1 := Hlt.out rs.length
      rw [Ha.out] at l1 ⊢
      have HO1 := hid (fun X => HO.out (dOr rs) l1 X)
      rw [HC1.out] at HO1
      generalize dOr rs = dd at *
      go_wp2_with fail
      refine (HO1.out _).mono ?_
      rintro e w2 ⟨rfl, rfl⟩
      go_wp2_with fail
      go_ret
      exact Did.mk rfl (K1.out.trans (HBy.out.mono K1.out.size))
end Go.Proofs.Ytjjmajhldpoobaa
