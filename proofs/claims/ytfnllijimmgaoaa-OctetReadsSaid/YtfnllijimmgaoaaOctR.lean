/- Contracts of the document's own answer for layer 3: Put, Fold, PutInt, PutText, PutList. -/
import Derived.Test.YtfnllijimmgaoaaOctG
import Derived.Lib.AppendStr
namespace Go.Proofs.Ytfnllijimmgaoaa
open Go.RowKit

def OwnRet (l : List UInt8) (w : World) (e : Ending) (w' : World) : Prop := ∃ v, e = .returned v ∧ w'.ownsRow w.heap.size 5 1 v l.length (l.map bcell) ∧ Below w.heap.size w w'
theorem OwnRet.mk {l l' : List UInt8} {w w' : World} {v : Value} {n : Nat} {xs : List Value} (h : w'.ownsRow w.heap.size 5 1 v n xs) (hn : n = l.length) (hx : xs = l.map bcell) (hl : l' = l) (hb : Below w.heap.size w w') : OwnRet l' w (.returned v) w' := by
  subst hn; subst hx; subst hl
  exact ⟨v, rfl, h, hb⟩
theorem OwnRet.b {l : List UInt8} {w w' : World} {e : Ending} (h : OwnRet l w e w') : BRet l w e w' := by
  obtain ⟨v, he, ho, hb⟩ := h
  obtain ⟨A, c, rfl, hr, hc⟩ := own_rd ho
  exact ⟨A, c, he, hr, hc, hb⟩

set_option maxHeartbeats 1000000 in
theorem r_Put (n : Nat) (hn : n < 18446744073709551616) (w : World) :
    Calls Try.prog 22 #[.int .u64 (n : Int)] w (OwnRet (Oct.pn n) w) := by
  have Hlen := hid (Oct.pn_len10 hn)
  obtain ⟨i0, hi, hz0, hz1, hz2⟩ := info_parts Try.info_u8
  go_enter Try.func22, Try.ntmps22
  go_wp2_with fail
  go_loopw [0, 3] (fun nv v wr => ∃ (m : Nat) (ks : List UInt8), nv = .int .u64 m ∧ m < 18446744073709551616 ∧ Hid (Oct.PutSo n m ks) ∧ wr.ownsRow w.heap.size 5 1 v ks.length (ks.map bcell) ∧ Below w.heap.size w wr) (fun nv _ _ => (intOf nv).toNat)
  case atStart => exact ⟨n, [], rfl, hn, Oct.PutSo.start n, World.ownsRow_nil _ _ _ _, Below.refl _ _⟩
  case round =>
    obtain ⟨m, ks, rfl, hm, hso, hown, hb⟩ := hrel
    have hbs := hb.size
    have hk : ks.length < 10 := by
      have := hso.out.len
      have := Hlen.out
      omega
    have hn3 : ks.length + 1 ≤ maxLen := by unfold maxLen; omega
    have hn4 : (ks.length + 1) * 1 ≤ 140737488355328 := by omega
    by_cases h128 : 128 ≤ m
    · have h128' : 128 ≤ (m : Int) := by omega
      have Hso := hid (hso.out.step h128)
      have Hx := hid (show ((m : Int) % 128 + 128) = ((UInt8.ofNat (m % 128 + 128)).toNat : Int) by rw [Oct.toNat_of _ (by omega)]; omega)
      clear hso
      go_wp2_with (at_builtin; refine wpList_append_own _ rfl (.tmp 6) (.tmp 11) 24 rfl w.heap.size 5 i0 (.int .u8 0) 1 1 Try.underlying24 hi hz0 hz1 hz2 rfl (by decide) _ _ _ rfl (hown.alloc _) ⟨wr.heap.size, 0, none⟩ 1 1 [.int .u8 _] rfl rfl (lit_one _ _ _) (int_one _ _) hn3 hn4 (le_alloc (w := wr) hbs _) ?_; intro v1 w2 hown1 hgrow _)
      refine ⟨⟨m / 128, ks ++ [UInt8.ofNat (m % 128 + 128)], by go_num, by omega, Hso.out, ?_, ?_⟩, by simp [intOf]; omega⟩
      · rw [List.length_append, List.map_append]
        rw [Hx.out] at hown1
        exact hown1
      · exact (hb.alloc hbs _).grown hgrow (le_alloc (w := wr) hbs _) (fun g hg => (hown.lt g hg).1)
    · have h128' : ¬ 128 ≤ (m : Int) := by omega
      have Hpn := hid (hso.out.last (by omega))
      have Hx := hid (show (m : Int) = ((UInt8.ofNat m).toNat : Int) by rw [Oct.toNat_of _ (by omega)])
      clear hso
      go_wp2_with (at_builtin; refine wpList_append_own _ rfl (.tmp 15) (.tmp 18) 24 rfl w.heap.size 5 i0 (.int .u8 0) 1 1 Try.underlying24 hi hz0 hz1 hz2 rfl (by decide) _ _ _ rfl (hown.alloc _) ⟨wr.heap.size, 0, none⟩ 1 1 [.int .u8 _] rfl rfl (lit_one _ _ _) (int_one _ _) hn3 hn4 (le_alloc (w := wr) hbs _) ?_; intro v1 w2 hown1 hgrow _)
      go_ret
      refine OwnRet.mk (l := ks ++ [UInt8.ofNat m]) hown1 (by rw [List.length_append]; rfl) ?_ Hpn.out ((hb.alloc hbs _).grown hgrow (le_alloc (w := wr) hbs _) (fun g hg => (hown.lt g hg).1))
      rw [List.map_append]
      show _ ++ [Value.int .u8 _] = _ ++ [Value.int .u8 ((UInt8.ofNat m).toNat : Int)]
      rw [← Hx.out]
theorem rq_Put {n : Nat} (hn : n < 18446744073709551616) {x : Int} (hx : x = n) (w : World) : Calls Try.prog 22 #[.int .u64 x] w (OwnRet (Oct.pn n) w) := by
  subst hx; exact r_Put n hn w

def FoldRet (z : Nat) (w : World) (e : Ending) (w' : World) : Prop := e = .returned (.int .u64 (z : Int)) ∧ w = w'
theorem FoldRet.mk {z : Nat} {x : Int} (w : World) (h : x = z) : FoldRet z w (.returned (.int .u64 x)) w := by unfold FoldRet; rw [h]; exact ⟨rfl, rfl⟩
theorem r_Fold (i : Int) (hi : Oct.I64 i) (w : World) : Calls Try.prog 33 #[.int .i64 i] w (FoldRet (Oct.zz i) w) := by
  have Hz := hid (show Oct.zz i = if 0 ≤ i then (2 * i).toNat else (-2 * i - 1).toNat from rfl)
  unfold Oct.I64 at hi
  generalize Oct.zz i = z at *
  by_cases h0 : 0 ≤ i
  · rw [if_pos h0] at Hz
    go_enter Try.func33, Try.ntmps33
    go_wp2_with fail
    go_ret
    exact FoldRet.mk _ (by rw [Hz.out]; first | omega | (simp only [IntKind.wrap_u64, IntKind.wrap_i64]; omega))
  · rw [if_neg h0] at Hz
    have h0' : i < 0 := by omega
    go_enter Try.func33, Try.ntmps33
    go_wp2_with fail
    go_ret
    exact FoldRet.mk _ (by rw [Hz.out]; first | omega | (simp only [IntKind.wrap_u64, IntKind.wrap_i64]; omega))

theorem r_PutInt (i : Int) (hi : Oct.I64 i) (w : World) : Calls Try.prog 23 #[.int .i64 i] w (OwnRet (Oct.pI i) w) := by
  have Hf := hid (fun w => r_Fold i hi w)
  have Hp := hid (fun w => r_Put (Oct.zz i) (Oct.zz_lt i hi) w)
  unfold FoldRet at Hf
  unfold OwnRet at Hp ⊢
  unfold Oct.pI
  generalize Oct.zz i = z at *
  go_enter Try.func23, Try.ntmps23
  go_wp2_with fail
  refine (Hf.out _).mono ?_
  rintro e w1 ⟨rfl, rfl⟩
  go_wp2_with fail
  refine (Hp.out _).mono ?_
  rintro e w1 ⟨v, rfl, h1, h2⟩
  go_wp2_with fail
  go_ret
  exact ⟨v, rfl, h1, h2⟩

set_option maxHeartbeats 1000000 in
theorem r_PutText (s : ByteArray) (hm : s.size ≤ 1000000) (w : World) : Calls Try.prog 24 #[.string s] w (BRet (Oct.pT s.data.toList) w) := by
  have Hp := hid (fun (x : Int) (hx : x = s.size) (w : World) => rq_Put (n := s.size) (by omega) hx w)
  have hpt : Oct.pT s.data.toList = Oct.pn s.size ++ s.data.toList := by unfold Oct.pT; rw [data_len]
  have hl10 := Oct.pn_len10 (n := s.size) (by omega)
  have Hdl := hid (data_len s)
  unfold OwnRet at Hp
  rw [hpt]
  clear hpt
  generalize Oct.pn s.size = q at *
  obtain ⟨i0, hi, hz0, hz1, hz2⟩ := info_parts Try.info_u8
  go_enter Try.func24, Try.ntmps24
  go_wp2_with fail
  refine (Hp.out _ (by first | rfl | omega | (simp only [IntKind.wrap_u64]; omega)) _).mono ?_
  rintro e w1 ⟨v, rfl, hown, h3⟩
  have hn3 : q.length + s.size ≤ maxLen := by unfold maxLen; omega
  have hn4 : q.length + s.size ≤ 140737488355328 := by omega
  go_wp2_with (at_builtin; refine Lib.wpList_append_own_string _ rfl (.tmp 6) (.tmp 7) 24 9 rfl w.heap.size 5 i0 Try.underlying24 Try.underlying9 hi hz0 hz1 hz2 _ _ _ rfl hown s rfl hn3 hn4 h3.size ?_; intro v1 w2 hown1 hgrow _)
  go_ret
  exact (OwnRet.mk (l := q ++ s.data.toList) hown1 (by rw [List.length_append, Hdl.out]) (by rw [List.map_append]; rfl) rfl (h3.grown hgrow h3.size (fun g hg => (hown.lt g hg).1))).b

set_option maxHeartbeats 1000000 in
theorem r_PutList (A : Option Addr) (n c : Nat) (l : List Int) (hn : l.length = n) (hm : n ≤ 1000000) (hl : ∀ i ∈ l, Oct.I64 i) (w : World) (B : Nat) (hB : B ≤ w.heap.size) (h : Its w B A l) :
    Calls Try.prog 25 #[.slice A n c] w (BRet (Oct.pL l) w) := by
  subst hn
  have H := hid h
  have Hp := hid (fun (x : Int) (hx : x = l.length) (w : World) => rq_Put (n := l.length) (by omega) hx w)
  have hpl : Oct.pL l = Oct.pn l.length ++ Oct.fl l := rfl
  have hl10 := Oct.pn_len10 (n := l.length) (by omega)
  have Hfl := hid (fun k => Oct.fl_len (l.take k) (fun i hi => hl i (List.mem_of_mem_take hi)))
  unfold OwnRet at Hp
  rw [hpl]
  clear hpl h
  generalize Oct.pn l.length = q at *
  obtain ⟨i0, hi, hz0, hz1, hz2⟩ := info_parts Try.info_u8
  go_enter Try.func25, Try.ntmps25
  go_wp2_with fail
  refine (Hp.out _ (by first | rfl | omega | (simp only [IntKind.wrap_u64]; omega)) _).mono ?_
  rintro e w1 ⟨v, rfl, hown0, h3⟩
  go_wp2_with fail
  go_loopw [3, 4] (fun v i wr => ∃ k : Nat, i = .int .i64 k ∧ k ≤ l.length ∧ wr.ownsRow w.heap.size 5 1 v (q ++ Oct.fl (l.take k)).length ((q ++ Oct.fl (l.take k)).map bcell) ∧ Below w.heap.size w wr) (fun _ i _ => l.length - (intOf i).toNat)
  case atStart => exact ⟨0, rfl, Nat.zero_le _, by rw [List.take_zero]; show World.ownsRow _ _ _ _ _ (q ++ []).length ((q ++ []).map bcell); rw [List.append_nil]; exact hown0, h3⟩
  case round =>
    clear hown0 h3
    obtain ⟨k, rfl, hk, hown, hb⟩ := hrel
    have hbs := hb.size
    by_cases hlt : k < l.length
    · obtain ⟨ad, x, rfl, _, Hx, hc⟩ := Its.get (H.out.below hb hB) hlt
      have hx64 : Oct.I64 x := hl x (List.mem_iff_getElem?.2 ⟨k, Hx.out⟩)
      have Hpi := hid (fun w => r_PutInt x hx64 w)
      have Hnext := hid (fl_take l k x Hx.out)
      have hpl := Oct.pI_len x hx64
      have hfk := (Hfl.out k).2
      rw [List.length_take, Nat.min_eq_left hk] at hfk
      unfold OwnRet at Hpi
      generalize Oct.pI x = ys at *
      generalize Oct.fl (l.take k) = zs at *
      go_wp2_with fail
      refine (Hpi.out _).mono ?_
      rintro e w2 ⟨v2, rfl, h5, h6⟩
      have hown2 := own_below hown h6
      have hbs3 := h6.size
      obtain ⟨A2, c2, rfl, hr2, _⟩ := own_rd h5
      obtain ⟨ad2, rfl, _, hyc⟩ := hr2 (by intro e; have := congrArg List.length e; simp at this; subst this; exact Nat.lt_irrefl _ hpl.1)
      have hyl : (ys.map bcell).length = ys.length * 1 := by rw [List.length_map, Nat.mul_one]
      have hy1 : ∀ u ∈ ys.map bcell, u.oneCell' = true := by
        intro u hu
        obtain ⟨_, _, rfl⟩ := List.mem_map.1 hu
        rfl
      have hqz : (q ++ zs).length ≤ 10 + 10 * k := by rw [List.length_append]; omega
      have hn3 : (q ++ zs).length + ys.length ≤ maxLen := by unfold maxLen; omega
      have hn4 : ((q ++ zs).length + ys.length) * 1 ≤ 140737488355328 := by omega
      have hlt2 := hown.lt
      clear h5 hown
      go_wp2_with (at_builtin; refine wpList_append_own _ rfl (.tmp 15) (.tmp 20) 24 rfl w.heap.size 5 i0 (.int .u8 0) 1 1 Try.underlying24 hi hz0 hz1 hz2 rfl (by decide) _ _ _ rfl hown2 ad2 ys.length c2 (ys.map bcell) rfl hyl hyc hy1 hn3 hn4 (Nat.le_trans hbs hbs3) ?_; intro v1 w3 hown1 hgrow _)
      refine ⟨⟨k + 1, by go_num, by omega, ?_, ?_⟩, by simp [intOf]; omega⟩
      · rw [Hnext.out, ← List.append_assoc, List.map_append, List.length_append]
        exact hown1
      · exact (below2 hb h6).grown hgrow (Nat.le_trans hbs hbs3) (fun g hg => (hlt2 g hg).1)
    · obtain rfl : k = l.length := by omega
      rw [List.take_length] at hown
      go_wp2_with fail
      go_ret
      exact (OwnRet.mk hown rfl rfl rfl hb).b
end Go.Proofs.Ytfnllijimmgaoaa
