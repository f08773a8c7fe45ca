/- Contracts of layer 3 (octet): TakeText, TakeList. -/
import Derived.Test.YtfnllijimmgaoaaOctB
namespace Go.Proofs.Ytfnllijimmgaoaa
open Go.RowKit

theorem Try.info_u8 : (Try.prog.info? 5).map (fun i => (i.zero, i.size, i.bytes)) = some (some (.int .u8 0), 1, 1) := by kernel_rfl
theorem Try.info_i64 : (Try.prog.info? 3).map (fun i => (i.zero, i.size, i.bytes)) = some (some (.int .i64 0), 1, 8) := by kernel_rfl

/-- 'string(b)' of a row of bytes that is read -/
theorem run_text_rd {P : Program} (w : World) {src dst e : TypeId} (hs : P.underlying src = some (.slice e)) (he : P.underlying e = some (.int .u8)) (hd : P.underlying dst = some .string)
    {B : Nat} {A : Option Addr} {n c : Nat} (l : List UInt8) (hn : l.length = n) (h : Byt w B A l) : (convert src dst (.slice A n c)).run P w = .ok (txt l) w := by
  by_cases hl : l = []
  · subst hl
    obtain rfl : n = 0 := hn.symm
    cases A with
    | none =>
      rw [run_convert_bytes_string w src dst e none 0 c hs he hd]
      simp [Conv.bytesToString, txt, bs]
      rfl
    | some a => exact run_text (src := src) (dst := dst) (e := e) w hs he hd a 0 c [] rfl (fun j u hu => by cases hu)
  · obtain ⟨ad, rfl, _, hc⟩ := h (by intro e; exact hl (List.map_eq_nil_iff.1 e))
    exact run_text w hs he hd ad n c l hn hc

def TtRet (b : List UInt8) (at_ most : Int) (w : World) (e : Ending) (w' : World) : Prop := e = .returned (.tuple #[txt (Oct.tT b at_ most).1, .int .i64 (Oct.tT b at_ most).2.1, .int .i64 (Oct.tT b at_ most).2.2]) ∧ w = w'
theorem TtRet.mk {b : List UInt8} {at_ most : Int} {v : List UInt8} {n r y z : Int} {s : ByteArray} (w : World) (h : Oct.tT b at_ most = (v, n, r)) (hx : s = bs v) (hy : y = n) (hz : z = r) : TtRet b at_ most w (.returned (.tuple #[.string s, .int .i64 y, .int .i64 z])) w := by unfold TtRet; rw [h, hx, hy, hz]; exact ⟨rfl, rfl⟩

set_option maxHeartbeats 1000000 in
theorem p_TakeText (A : Option Addr) (n c : Nat) (b : List UInt8) (hn : b.length = n) (hc : n ≤ c) (hm : n ≤ 1000000000) (B : Nat) (at_ most : Int) (hat : Oct.I64 at_) (hmo : Oct.I64 most) (w : World) (h : Byt w B A b) :
    Calls Try.prog 18 #[.slice A n c, .int .i64 at_, .int .i64 most] w (TtRet b at_ most w) := by
  have hp := p_len A n c b hn hc hm B at_ most hat hmo w h
  unfold TlRet at hp
  unfold Oct.I64 at hmo
  have Htt := hid (show Oct.tT b at_ most = if (Oct.tL b at_ most).2.2 ≠ 0 then ([], 0, (Oct.tL b at_ most).2.2)
  else if (b.length : Int) - (Oct.tL b at_ most).2.1 < ((Oct.tL b at_ most).1 : Int) then ([], 0, 4)
  else ((b.drop (Oct.tL b at_ most).2.1.toNat).take (Oct.tL b at_ most).1, (Oct.tL b at_ most).2.1 + ((Oct.tL b at_ most).1 : Int), 0) from rfl)
  by_cases he : (Oct.tL b at_ most).2.2 = 0
  · have hl : 0 ≤ (Oct.tL b at_ most).2.1 ∧ (Oct.tL b at_ most).2.1 ≤ b.length ∧ ((Oct.tL b at_ most).1 : Int) ≤ most := by
      rcases Oct.tL_cases b at_ most with ⟨_, _, h3⟩ | ⟨_, h2, h3, h4⟩
      · exact absurd he h3
      · rw [h3]
        have := Oct.tA_next b at_
        exact ⟨this.1, this.2, h4⟩
    rw [if_neg (by omega)] at Htt
    rw [he] at hp
    have Hp := hid hp
    clear hp he
    generalize (Oct.tL b at_ most).1 = v at *
    generalize (Oct.tL b at_ most).2.1 = y at *
    obtain ⟨f, rfl⟩ : ∃ f : Nat, y = f := ⟨y.toNat, by omega⟩
    rw [Int.toNat_natCast] at Htt
    obtain ⟨hl1, hl2, hl3⟩ := hl
    subst hn
    by_cases h1 : (b.length : Int) - f < v
    · rw [if_pos h1] at Htt
      go_enter Try.func18, Try.ntmps18
      go_wp2_with fail
      refine (Hp.out).mono ?_
      rintro e w' ⟨rfl, rfl⟩
      go_wp2_with fail
      go_ret3
      exact TtRet.mk _ Htt.out rfl rfl rfl
    · rw [if_neg h1] at Htt
      have Hc : Hid (∀ (y : Int), y = ((f + v : Nat) : Int) → Calls Try.prog 30 #[.slice A b.length c, .int .i64 f, .int .i64 y] w (CutRet A b B f (f + v) w)) := fun y hy => q_cut (by omega) (by omega) h rfl hy
      unfold CutRet at Hc
      rw [show f + v - f = v by omega] at Hc
      have Hl := hid (show ((b.drop f).take v).length = v by rw [List.length_take, List.length_drop]; omega)
      go_enter Try.func18, Try.ntmps18
      go_wp2_with fail
      refine (Hp.out).mono ?_
      rintro e w' ⟨rfl, rfl⟩
      go_wp2_with fail
      refine (Hc.out _ (by omega)).mono ?_
      rintro e w' ⟨A', rfl, rfl, hrow, _⟩
      have hconv := run_text_rd (P := Try.prog) w Try.underlying24 Try.underlying5 Try.underlying9 (c := v) _ Hl.out hrow
      clear hrow
      go_wp2_with fail
      go_ret3
      exact TtRet.mk _ Htt.out rfl rfl rfl
  · rw [if_pos he] at Htt
    have hne : ((Oct.tL b at_ most).2.2 != 0) = true := by rw [bne_iff_ne]; exact he
    have Hp := hid hp
    clear hp he
    generalize (Oct.tL b at_ most).2.2 = q at *
    go_enter Try.func18, Try.ntmps18
    go_wp2_with fail
    refine (Hp.out).mono ?_
    rintro e w' ⟨rfl, rfl⟩
    go_wp2_with fail
    go_ret3
    exact TtRet.mk _ Htt.out rfl rfl rfl

/-! ### TakeList -/
def TsRet (b : List UInt8) (at_ most : Int) (w : World) (e : Ending) (w' : World) : Prop := ∃ A c, e = .returned (.tuple #[.slice A (Oct.tS b at_ most).1.length c, .int .i64 (Oct.tS b at_ most).2.1, .int .i64 (Oct.tS b at_ most).2.2]) ∧ Its w' w'.heap.size A (Oct.tS b at_ most).1 ∧ (Oct.tS b at_ most).1.length ≤ c ∧ Below w.heap.size w w'
theorem TsRet.no {b : List UInt8} {at_ most : Int} {r y z : Int} {w w' : World} (h : Oct.tS b at_ most = ([], 0, r)) (hy : y = 0) (hz : z = r) (hb : Below w.heap.size w w') : TsRet b at_ most w (.returned (.tuple #[.slice none 0 0, .int .i64 y, .int .i64 z])) w' := by
  unfold TsRet; rw [h, hy, hz]; exact ⟨none, 0, rfl, Rd.none_ _ _ _, Nat.le_refl _, hb⟩
theorem TsRet.yes {b : List UInt8} {at_ most : Int} {base : Nat} {e : TypeId} {v : Value} {acc : List Int} {n y z : Int} {w w' : World} (h : Oct.tS b at_ most = (acc, n, 0)) (hown : w'.ownsRow base e 1 v acc.length (acc.map (Value.int .i64))) (hy : y = n) (hz : z = 0) (hb : Below w.heap.size w w') : TsRet b at_ most w (.returned (.tuple #[v, .int .i64 y, .int .i64 z])) w' := by
  unfold TsRet; rw [h, hy, hz]
  obtain ⟨A, c, rfl, hr, hc⟩ := own_rd hown
  exact ⟨A, c, rfl, hr, hc, hb⟩

set_option maxHeartbeats 1000000 in
theorem p_TakeList (A : Option Addr) (n c : Nat) (b : List UInt8) (hn : b.length = n) (hc : n ≤ c) (hm : n ≤ 1000000) (B : Nat) (at_ most : Int) (hat : Oct.I64 at_) (hmo : Oct.I64 most) (w : World) (hB : B ≤ w.heap.size) (h : Byt w B A b) :
    Calls Try.prog 19 #[.slice A n c, .int .i64 at_, .int .i64 most] w (TsRet b at_ most w) := by
  have hp := p_len A n c b hn hc (by omega) B at_ most hat hmo w h
  unfold TlRet at hp
  unfold Oct.I64 at hmo
  have Hts := hid (show Oct.tS b at_ most = if (Oct.tL b at_ most).2.2 ≠ 0 then ([], 0, (Oct.tL b at_ most).2.2) else Oct.tN b (Oct.tL b at_ most).1 (Oct.tL b at_ most).2.1 from rfl)
  obtain ⟨i0, hi, hz0, hz1, hz2⟩ := info_parts Try.info_i64
  by_cases he : (Oct.tL b at_ most).2.2 = 0
  · have hl : 0 ≤ (Oct.tL b at_ most).2.1 ∧ (Oct.tL b at_ most).2.1 ≤ b.length ∧ ((Oct.tL b at_ most).1 : Int) ≤ most := by
      rcases Oct.tL_cases b at_ most with ⟨_, _, h3⟩ | ⟨_, h2, h3, h4⟩
      · exact absurd he h3
      · rw [h3]
        have := Oct.tA_next b at_
        exact ⟨this.1, this.2, h4⟩
    rw [if_neg (by omega), ← Oct.fin_nil] at Hts
    rw [he] at hp
    have Hp := hid hp
    clear hp he
    generalize (Oct.tL b at_ most).1 = L at *
    generalize (Oct.tL b at_ most).2.1 = y0 at *
    obtain ⟨hl1, hl2, hl3⟩ := hl
    subst hn
    have Hti := hid (fun (y : Int) (hy : Oct.I64 y) (wr : World) (hb : Below w.heap.size w wr) => p_TakeInt A b.length c b rfl hc (by omega) B y hy wr (h.below hb hB))
    unfold TiRet at Hti
    go_enter Try.func19, Try.ntmps19
    go_wp2_with fail
    refine (Hp.out).mono ?_
    rintro e w' ⟨rfl, rfl⟩
    go_wp2_with fail
    go_loopw [12, 10, 26] (fun v nx i wr => ∃ (acc : List Int) (y : Int), nx = .int .i64 y ∧ i = .int .i64 acc.length ∧ acc.length ≤ L ∧ (acc.length : Int) ≤ y ∧ y ≤ b.length ∧ Hid (Oct.tS b at_ most = Oct.fin acc (Oct.tN b (L - acc.length) y)) ∧ wr.ownsRow w.heap.size 3 1 v acc.length (acc.map (Value.int .i64)) ∧ Below w.heap.size w wr) (fun _ _ i _ => L - (intOf i).toNat)
    case atStart => exact ⟨[], y0, rfl, rfl, Nat.zero_le _, hl1, hl2, Hts.out, World.ownsRow_nil _ _ _ _, Below.refl _ _⟩
    case round =>
      obtain ⟨acc, y, rfl, rfl, hacc, hy1, hy2, hfin, hown, hb⟩ := hrel
      by_cases hlt : acc.length < L
      · obtain ⟨k, hk⟩ : ∃ k, L - acc.length = k + 1 := ⟨L - acc.length - 1, by omega⟩
        rw [hk] at hfin
        have Ht := hid (Hti.out y (by unfold Oct.I64; omega) wr hb)
        by_cases hte : (Oct.tI b y).2.2 = 0
        · have Hfin := hid (hfin.out.trans (Oct.fin_step b acc k y hte))
          obtain ⟨a1, a2, a3, _, _⟩ := Oct.tI_inv b y hte
          rw [hte] at Ht
          clear hfin hte
          generalize (Oct.tI b y).1 = x at *
          generalize (Oct.tI b y).2.1 = y' at *
          go_wp2_with fail
          refine (Ht.out).mono ?_
          rintro e w' ⟨rfl, rfl⟩
          have hbs := hb.size
          have hn3 : acc.length + 1 ≤ maxLen := by unfold maxLen; omega
          have hn4 : (acc.length + 1) * 8 ≤ 140737488355328 := by omega
          go_wp2_with (at_builtin; refine wpList_append_own _ rfl (.tmp 38) (.tmp 40) 23 rfl w.heap.size 3 i0 (.int .i64 0) 1 8 Try.underlying23 hi hz0 hz1 hz2 rfl (by decide) _ _ _ rfl (hown.alloc _) ⟨wr.heap.size, 0, none⟩ 1 1 [.int .i64 x] rfl rfl (lit_one _ _ _) (int_one _ _) hn3 hn4 (le_alloc (w := wr) hbs _) ?_; intro v1 w1 hown1 hgrow _)
          refine ⟨⟨acc ++ [x], y', rfl, by simp, by rw [List.length_append]; exact hlt, by rw [List.length_append]; simp only [List.length_cons, List.length_nil]; omega, a3, ?_, ?_, ?_⟩, by simp [intOf] <;> omega⟩
          · show _ = _
            rw [Hfin.out, List.length_append, show L - (acc.length + [x].length) = k by simp; omega]
          · rw [List.length_append, List.map_append]
            exact hown1
          · exact (hb.alloc hbs _).grown hgrow (le_alloc (w := wr) hbs _) (fun g hg => (hown.lt g hg).1)
        · have Hfin := hid (hfin.out.trans (Oct.fin_err b acc k y hte))
          have hne : ((Oct.tI b y).2.2 != 0) = true := by rw [bne_iff_ne]; exact hte
          clear hfin hte
          generalize (Oct.tI b y).2.2 = q at *
          go_wp2_with fail
          refine (Ht.out).mono ?_
          rintro e w' ⟨rfl, rfl⟩
          go_wp2_with fail
          go_ret3
          exact TsRet.no Hfin.out rfl rfl hb
      · have Hfin := hid (show Oct.tS b at_ most = (acc, y, 0) from hfin.out.trans (by rw [show L - acc.length = 0 by omega]; exact Oct.fin_end b acc y))
        clear hfin
        go_wp2_with fail
        go_ret3
        exact TsRet.yes Hfin.out hown rfl rfl hb
  · rw [if_pos he] at Hts
    have hne : ((Oct.tL b at_ most).2.2 != 0) = true := by rw [bne_iff_ne]; exact he
    have Hp := hid hp
    clear hp he
    generalize (Oct.tL b at_ most).2.2 = q at *
    go_enter Try.func19, Try.ntmps19
    go_wp2_with fail
    refine (Hp.out).mono ?_
    rintro e w' ⟨rfl, rfl⟩
    go_wp2_with fail
    go_ret3
    exact TsRet.no Hts.out rfl rfl (Below.refl _ _)
end Go.Proofs.Ytfnllijimmgaoaa
