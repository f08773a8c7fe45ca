/- Contracts of the document's own answer for layer 3: TakeInt, TakeText, TakeList. -/
import Derived.Test.YtfnllijimmgaoaaOctS
namespace Go.Proofs.Ytfnllijimmgaoaa
open Go.RowKit

theorem Oct.tN_nil (b : List UInt8) (k : Nat) (at_ : Int) (h : (Oct.tN b k at_).2.2 ≠ 0) : (Oct.tN b k at_).1 = [] := by
  cases k with
  | zero => exact absurd rfl h
  | succ k =>
    rw [Oct.tN] at h ⊢
    split
    · rfl
    · rename_i h1
      rw [if_neg h1] at h
      split
      · rfl
      · rename_i h2
        rw [if_neg h2] at h
        exact absurd rfl h
def UnRet (i : Int) (w : World) (e : Ending) (w' : World) : Prop := e = .returned (.int .i64 i) ∧ w = w'
theorem UnRet.mk {i x : Int} (w : World) (h : x = i) : UnRet i w (.returned (.int .i64 x)) w := by unfold UnRet; rw [h]; exact ⟨rfl, rfl⟩
theorem r_unfold (v : Nat) (hv : v < 18446744073709551616) (w : World) : Calls Try.prog 34 #[.int .u64 (v : Int)] w (UnRet (Oct.un v) w) := by
  have hun := hid (show Oct.un v = if v % 2 = 0 then ((v / 2 : Nat) : Int) else -1 - ((v / 2 : Nat) : Int) from rfl)
  by_cases h2 : v % 2 = 0
  · rw [if_pos h2] at hun
    have h2' : (((v : Int) % 2) == 0) = true := by rw [beq_iff_eq]; omega
    go_enter Try.func34, Try.ntmps34
    go_wp2_with fail
    go_ret
    exact UnRet.mk _ (by rw [hun.out]; first | omega | (simp only [IntKind.wrap_i64]; omega))
  · rw [if_neg h2] at hun
    have h2' : (((v : Int) % 2) == 0) = false := by rw [beq_eq_false_iff_ne]; omega
    go_enter Try.func34, Try.ntmps34
    go_wp2_with fail
    go_ret
    exact UnRet.mk _ (by rw [hun.out]; first | omega | (simp only [IntKind.wrap_i64]; omega))

theorem r_TakeInt (A : Option Addr) (n c : Nat) (b : List UInt8) (hn : b.length = n) (hm : n ≤ 1000000000) (B : Nat) (at_ : Int) (hat : Oct.I64 at_) (w : World) (h : Byt w B A b) :
    Calls Try.prog 27 #[.slice A n c, .int .i64 at_] w (TiRet b at_ w) := by
  have hp := hid (r_Take A n c b hn hm B at_ hat w h)
  have hu := hid (fun w => r_unfold (Oct.tA b at_).1 (Oct.tA_lt b at_) w)
  have Hti := hid (show Oct.tI b at_ = (Oct.un (Oct.tA b at_).1, (Oct.tA b at_).2.1, (Oct.tA b at_).2.2) from rfl)
  unfold TkRet at hp
  unfold UnRet at hu
  generalize (Oct.tA b at_).1 = v at *
  generalize (Oct.tA b at_).2.1 = m at *
  generalize (Oct.tA b at_).2.2 = q at *
  go_enter Try.func27, Try.ntmps27
  go_wp2_with fail
  refine (hp.out).mono ?_
  rintro e w' ⟨rfl, rfl⟩
  go_wp2_with fail
  refine (hu.out _).mono ?_
  rintro e w' ⟨rfl, rfl⟩
  go_wp2_with fail
  go_ret3
  exact TiRet.mk _ Hti.out rfl rfl rfl

set_option maxHeartbeats 1000000 in
theorem r_TakeText (A : Option Addr) (n c : Nat) (b : List UInt8) (hn : b.length = n) (hc : n ≤ c) (hm : n ≤ 1000000000) (B : Nat) (at_ most : Int) (hat : Oct.I64 at_) (hmo : Oct.I64 most) (w : World) (h : Byt w B A b) :
    Calls Try.prog 28 #[.slice A n c, .int .i64 at_, .int .i64 most] w (TtRet b at_ most w) := by
  have hp := r_Take A n c b hn hm B at_ hat w h
  unfold TkRet at hp
  unfold Oct.I64 at hmo
  have hlt := Oct.tA_lt b at_
  have hnx := Oct.tA_next b at_
  have htl : Oct.tL b at_ most = if (Oct.tA b at_).2.2 ≠ 0 then (0, 0, (Oct.tA b at_).2.2) else if most < 0 ∨ most < ((Oct.tA b at_).1 : Int) then (0, 0, 5) else Oct.tA b at_ := rfl
  have htt : Oct.tT b at_ most = if (Oct.tL b at_ most).2.2 ≠ 0 then ([], 0, (Oct.tL b at_ most).2.2)
    else if (b.length : Int) - (Oct.tL b at_ most).2.1 < ((Oct.tL b at_ most).1 : Int) then ([], 0, 4)
    else ((b.drop (Oct.tL b at_ most).2.1.toNat).take (Oct.tL b at_ most).1, (Oct.tL b at_ most).2.1 + ((Oct.tL b at_ most).1 : Int), 0) := rfl
  subst hn
  by_cases he : (Oct.tA b at_).2.2 = 0
  · have hta : Oct.tA b at_ = ((Oct.tA b at_).1, (Oct.tA b at_).2.1, 0) := by rw [← he]
    rw [if_neg (by omega)] at htl
    rw [he] at hp
    generalize (Oct.tA b at_).1 = v at *
    generalize (Oct.tA b at_).2.1 = y at *
    obtain ⟨f, rfl⟩ : ∃ f : Nat, y = f := ⟨y.toNat, by omega⟩
    rw [hta] at htl
    clear hta he
    have Hp := hid hp
    clear hp
    by_cases h1 : most < 0
    · rw [if_pos (.inl h1)] at htl
      have Hres := hid (show Oct.tT b at_ most = ([], 0, 5) by rw [htt, htl]; rfl)
      clear htt htl
      go_enter Try.func28, Try.ntmps28
      go_wp2_with fail
      refine (Hp.out).mono ?_
      rintro e w' ⟨rfl, rfl⟩
      go_wp2_with fail
      go_ret3
      exact TtRet.mk _ Hres.out rfl rfl rfl
    by_cases h2 : most < (v : Int)
    · rw [if_pos (.inr h2)] at htl
      have Hres := hid (show Oct.tT b at_ most = ([], 0, 5) by rw [htt, htl]; rfl)
      clear htt htl
      go_enter Try.func28, Try.ntmps28
      go_wp2_with fail
      refine (Hp.out).mono ?_
      rintro e w' ⟨rfl, rfl⟩
      go_wp2_with fail
      go_ret3
      exact TtRet.mk _ Hres.out rfl rfl rfl
    rw [if_neg (by omega)] at htl
    by_cases h3 : (b.length : Int) - f < v
    · have Hres := hid (show Oct.tT b at_ most = ([], 0, 4) by rw [htt, htl, if_neg (by simp), if_pos h3])
      clear htt htl
      go_enter Try.func28, Try.ntmps28
      go_wp2_with fail
      refine (Hp.out).mono ?_
      rintro e w' ⟨rfl, rfl⟩
      go_wp2_with fail
      go_ret3
      exact TtRet.mk _ Hres.out rfl rfl rfl
    have Hres := hid (show Oct.tT b at_ most = ((b.drop f).take v, (f : Int) + v, 0) by rw [htt, htl, if_neg (by simp), if_neg h3, Int.toNat_natCast])
    clear htt htl
    have hpart := Byt.part h f (f + v) c (by omega)
    rw [show f + v - f = v by omega] at hpart
    have hl : ((b.drop f).take v).length = v := by rw [List.length_take, List.length_drop]; omega
    have hfc : (f : Int) + v ≤ c := by omega
    have hf0 : (0 : Int) ≤ f := by omega
    have hfv : (f : Int) ≤ (f : Int) + v := by omega
    by_cases hcf : c = f
    · rw [if_pos hcf] at hpart
      have hv0 : v = 0 := by omega
      subst hv0
      subst hcf
      have hconv := run_text_rd (P := Try.prog) w Try.underlying24 Try.underlying5 Try.underlying9 (c := 0) _ hl hpart
      clear hpart hl h
      go_enter Try.func28, Try.ntmps28
      go_wp2_with fail
      refine (Hp.out).mono ?_
      rintro e w' ⟨rfl, rfl⟩
      go_wp2_with fail
      go_ret3
      exact TtRet.mk _ Hres.out (by first | rfl | simp) (by first | rfl | simp) rfl
    · rw [if_neg hcf, Nat.mul_one] at hpart
      have hconv := run_text_rd (P := Try.prog) w Try.underlying24 Try.underlying5 Try.underlying9 (c := c - f) _ hl hpart
      clear hpart hl h
      go_enter Try.func28, Try.ntmps28
      go_wp2_with fail
      refine (Hp.out).mono ?_
      rintro e w' ⟨rfl, rfl⟩
      go_wp2_with fail
      go_ret3
      exact TtRet.mk _ Hres.out rfl rfl rfl
  · rw [if_pos he] at htl
    have Hres := hid (show Oct.tT b at_ most = ([], 0, (Oct.tA b at_).2.2) by rw [htt, htl, if_pos he])
    have hne : ((Oct.tA b at_).2.2 != 0) = true := by rw [bne_iff_ne]; exact he
    have Hp := hid hp
    clear hp he htt htl
    generalize (Oct.tA b at_).2.2 = q at *
    go_enter Try.func28, Try.ntmps28
    go_wp2_with fail
    refine (Hp.out).mono ?_
    rintro e w' ⟨rfl, rfl⟩
    go_wp2_with fail
    go_ret3
    exact TtRet.mk _ Hres.out rfl rfl rfl

set_option maxHeartbeats 1000000 in
theorem r_TakeList (A : Option Addr) (n c : Nat) (b : List UInt8) (hn : b.length = n) (hm : n ≤ 1000000) (B : Nat) (at_ most : Int) (hat : Oct.I64 at_) (hmo : Oct.I64 most) (w : World) (hB : B ≤ w.heap.size) (h : Byt w B A b) :
    Calls Try.prog 29 #[.slice A n c, .int .i64 at_, .int .i64 most] w (TsRet b at_ most w) := by
  have hp := r_Take A n c b hn (by omega) B at_ hat w h
  unfold TkRet at hp
  unfold Oct.I64 at hmo
  have hltv := Oct.tA_lt b at_
  have hnx := Oct.tA_next b at_
  have htl : Oct.tL b at_ most = if (Oct.tA b at_).2.2 ≠ 0 then (0, 0, (Oct.tA b at_).2.2) else if most < 0 ∨ most < ((Oct.tA b at_).1 : Int) then (0, 0, 5) else Oct.tA b at_ := rfl
  have hts : Oct.tS b at_ most = if (Oct.tL b at_ most).2.2 ≠ 0 then ([], 0, (Oct.tL b at_ most).2.2) else Oct.tN b (Oct.tL b at_ most).1 (Oct.tL b at_ most).2.1 := rfl
  obtain ⟨i0, hi, hz0, hz1, hz2⟩ := info_parts Try.info_i64
  subst hn
  by_cases he : (Oct.tA b at_).2.2 = 0
  · have hta : Oct.tA b at_ = ((Oct.tA b at_).1, (Oct.tA b at_).2.1, 0) := by rw [← he]
    rw [if_neg (by omega)] at htl
    rw [he] at hp
    generalize (Oct.tA b at_).1 = L at *
    generalize (Oct.tA b at_).2.1 = y0 at *
    rw [hta] at htl
    clear hta he
    have Hp := hid hp
    clear hp
    by_cases h1 : most < 0
    · rw [if_pos (.inl h1)] at htl
      have Hres := hid (show Oct.tS b at_ most = ([], 0, 5) by rw [hts, htl]; rfl)
      clear hts htl
      go_enter Try.func29, Try.ntmps29
      go_wp2_with fail
      refine (Hp.out).mono ?_
      rintro e w' ⟨rfl, rfl⟩
      go_wp2_with fail
      go_ret3
      exact TsRet.no Hres.out rfl rfl (Below.refl _ _)
    by_cases h2 : most < (L : Int)
    · rw [if_pos (.inr h2)] at htl
      have Hres := hid (show Oct.tS b at_ most = ([], 0, 5) by rw [hts, htl]; rfl)
      clear hts htl
      go_enter Try.func29, Try.ntmps29
      go_wp2_with fail
      refine (Hp.out).mono ?_
      rintro e w' ⟨rfl, rfl⟩
      go_wp2_with fail
      go_ret3
      exact TsRet.no Hres.out rfl rfl (Below.refl _ _)
    rw [if_neg (by omega)] at htl
    have Hts := hid (show Oct.tS b at_ most = Oct.fin [] (Oct.tN b L y0) by rw [Oct.fin_nil, hts, htl, if_neg (by simp)])
    clear hts htl
    obtain ⟨hl1, hl2⟩ := hnx
    have Hti := hid (fun (y : Int) (hy : Oct.I64 y) (wr : World) (hb : Below w.heap.size w wr) => r_TakeInt A b.length c b rfl (by omega) B y hy wr (h.below hb hB))
    unfold TiRet at Hti
    go_enter Try.func29, Try.ntmps29
    go_wp2_with fail
    refine (Hp.out).mono ?_
    rintro e w' ⟨rfl, rfl⟩
    go_wp2_with fail
    go_loopw [12, 10] (fun v nx wr => ∃ (acc : List Int) (y : Int) (A : Option Addr) (c : Nat), v = .slice A acc.length c ∧ nx = .int .i64 y ∧ acc.length ≤ L ∧ (acc.length : Int) ≤ y ∧ y ≤ b.length ∧ Hid (Oct.tS b at_ most = Oct.fin acc (Oct.tN b (L - acc.length) y)) ∧ wr.ownsRow w.heap.size 3 1 (.slice A acc.length c) acc.length (acc.map (Value.int .i64)) ∧ Below w.heap.size w wr) (fun _ nx _ => b.length - (intOf nx).toNat)
    case atStart => exact ⟨[], y0, none, 0, rfl, rfl, Nat.zero_le _, hl1, hl2, Hts.out, World.ownsRow_nil _ _ _ _, Below.refl _ _⟩
    case round =>
      obtain ⟨acc, y, Av, cv, rfl, rfl, hacc, hy1, hy2, hfin, hown, hb⟩ := hrel
      by_cases hlt : acc.length < L
      · obtain ⟨k, hk⟩ : ∃ k, L - acc.length = k + 1 := ⟨L - acc.length - 1, by omega⟩
        rw [hk] at hfin
        have hlt' : (acc.length : Int) < L := by omega
        have Ht := hid (Hti.out y (by unfold Oct.I64; omega) wr hb)
        by_cases hte : (Oct.tI b y).2.2 = 0
        · have Hfin := hid (hfin.out.trans (Oct.fin_step b acc k y hte))
          obtain ⟨a1, a2, a3, _, _⟩ := Oct.tI_inv b y hte
          rw [hte] at Ht
          clear hfin hte
          generalize (Oct.tI b y).1 = x at *
          generalize (Oct.tI b y).2.1 = y' at *
          go_wp2_with fail
          refine (Ht.out).mono ?_
          rintro e w' ⟨rfl, rfl⟩
          have hbs := hb.size
          have hn3 : acc.length + 1 ≤ maxLen := by unfold maxLen; omega
          have hn4 : (acc.length + 1) * 8 ≤ 140737488355328 := by omega
          go_wp2_with (at_builtin; refine wpList_append_own _ rfl (.tmp 49) (.tmp 51) 23 rfl w.heap.size 3 i0 (.int .i64 0) 1 8 Try.underlying23 hi hz0 hz1 hz2 rfl (by decide) _ _ _ rfl (hown.alloc _) ⟨wr.heap.size, 0, none⟩ 1 1 [.int .i64 x] rfl rfl (lit_one _ _ _) (int_one _ _) hn3 hn4 (le_alloc (w := wr) hbs _) ?_; intro v1 w1 hown1 hgrow _)
          obtain ⟨A1, c1, rfl, _, _⟩ := own_rd hown1
          refine ⟨⟨acc ++ [x], y', A1, c1, by rw [List.length_append]; rfl, rfl, by rw [List.length_append]; exact hlt, by rw [List.length_append]; simp only [List.length_cons, List.length_nil]; omega, a3, ?_, ?_, ?_⟩, by simp [intOf]; omega⟩
          · show _ = _
            rw [Hfin.out, List.length_append, show L - (acc.length + [x].length) = k by simp; omega]
          · rw [List.length_append, List.map_append]
            exact hown1
          · exact (hb.alloc hbs _).grown hgrow (le_alloc (w := wr) hbs _) (fun g hg => (hown.lt g hg).1)
        · have Hfin := hid (hfin.out.trans (Oct.fin_err b acc k y hte))
          have hne : ((Oct.tI b y).2.2 != 0) = true := by rw [bne_iff_ne]; exact hte
          clear hfin hte
          generalize (Oct.tI b y).2.2 = q at *
          go_wp2_with fail
          refine (Ht.out).mono ?_
          rintro e w' ⟨rfl, rfl⟩
          go_wp2_with fail
          go_ret3
          exact TsRet.no Hfin.out rfl rfl hb
      · have Hfin := hid (show Oct.tS b at_ most = (acc, y, 0) from hfin.out.trans (by rw [show L - acc.length = 0 by omega]; exact Oct.fin_end b acc y))
        have hlt' : ¬ (acc.length : Int) < L := by omega
        clear hfin
        go_wp2_with fail
        go_ret3
        exact TsRet.yes Hfin.out hown rfl rfl hb
  · rw [if_pos he] at htl
    have Hres := hid (show Oct.tS b at_ most = ([], 0, (Oct.tA b at_).2.2) by rw [hts, htl, if_pos he])
    have hne : ((Oct.tA b at_).2.2 != 0) = true := by rw [bne_iff_ne]; exact he
    have Hp := hid hp
    clear hp he hts htl
    generalize (Oct.tA b at_).2.2 = q at *
    go_enter Try.func29, Try.ntmps29
    go_wp2_with fail
    refine (Hp.out).mono ?_
    rintro e w' ⟨rfl, rfl⟩
    go_wp2_with fail
    go_ret3
    exact TsRet.no Hres.out rfl rfl (Below.refl _ _)
end Go.Proofs.Ytfnllijimmgaoaa
