/- Contracts of layer 2 (word): what Quote returns, for every text that is not too long for a machine. -/
import Derived.Test.YtikgaknmmbmnoaaDoorWrdB
import Derived.Deep.RegionLaw
namespace Go.Proofs.YtikgaknmmbmnoaaDoor
open Go.RowKit

theorem step_append_own {P : Program} {w : World} {ops : Array Oper} {o : Oper} {a : Act} {K : Act → World → Prop} {Q : Exit → Act → World → Prop} {E : Prop} (hgd : o.guard = none) (s x : Operand) (t : TypeId)
    (ho : o.op = .call { callee := .builtin .append, args := #[s, x], argTypes := #[t, t] })
    (base : Nat) (e : TypeId) (i : TypeInfo) (z : Value) (size bytes : Nat) (ht : P.underlying t = some (.slice e)) (hi : P.info? e = some i) (hz : i.zero = some z)
    (hsize : i.size = size) (hby : i.bytes = bytes) (hzs : z.cells.size = size) (hsz : 0 < size)
    (v : Value) (n : Nat) (xs : List Value) (hs : a.eval s = v) (hown : w.ownsRow base e size v n xs)
    (ad : Addr) (m c : Nat) (news : List Value) (hx : a.eval x = .slice (some ad) m c) (hl : news.length = m * size) (hnews : ∀ j u, news[j]? = some u → w.cell? (ad.add j) = some u) (h1 : ∀ u ∈ news, u.oneCell' = true)
    (h63 : n + m ≤ maxLen) (hbytes : (n + m) * bytes ≤ 140737488355328) (hbase : base ≤ w.heap.size)
    (h : ∀ v' w', w'.ownsRow base e size v' (n + m) (xs ++ news) → w.grownBy w' v.ownBlock → K (a.put o.dst v') w') :
    if Region.wanted o (yielded ops a.tmps) = true then Oper.wp P o a w K Q else E := by
  have hw : Region.wanted o (yielded ops a.tmps) = true := by simp [Region.wanted, hgd]
  rw [if_pos hw]
  exact wp_append_own w s x t ho base e i z size bytes ht hi hz hsize hby hzs hsz v n xs hs hown ad m c news hx hl hnews h1 h63 hbytes hbase fun v' w' h2 h3 _ => h v' w' h2 h3

theorem lit_three_drew (w : World) (x y z : Value) (t : TypeId) : ∀ j u, [x, y, z][j]? = some u → (w.alloc (.cells #[x, y, z] t)).drew.cell? ((⟨w.heap.size, 0, none⟩ : Addr).add j) = some u := lit_three w x y z t
theorem hex_get (p : Nat) (h : p < 16) (h2 : p < (⟨#[48, 49, 50, 51, 52, 53, 54, 55, 56, 57, 97, 98, 99, 100, 101, 102]⟩ : ByteArray).size) : (⟨#[48, 49, 50, 51, 52, 53, 54, 55, 56, 57, 97, 98, 99, 100, 101, 102]⟩ : ByteArray)[p] = Wrd.hx p := by
  have : ∀ n : Fin 16, (⟨#[48, 49, 50, 51, 52, 53, 54, 55, 56, 57, 97, 98, 99, 100, 101, 102]⟩ : ByteArray).data.toList.getD n.val 0 = Wrd.hx n.val := by decide +kernel
  have h3 := this ⟨p, h⟩
  simp only [] at h3
  rw [← h3, List.getD_eq_getElem?_getD, data_get? _ p h2]
  rfl
theorem and_15 : ∀ n : Fin 256, bits BinOp.and IntKind.u8 (n.val : Int) 15 = ((n.val % 16 : Nat) : Int) := by decide +kernel

def QtRet (l : List UInt8) (w : World) (e : Ending) (w' : World) : Prop := e = .returned (txt (Wrd.qt l)) ∧ Below w.heap.size w w'
theorem QtRet.mk {l : List UInt8} {w w' : World} {s : ByteArray} (h : s = bs (Wrd.qt l)) (hb : Below w.heap.size w w') : QtRet l w (.returned (.string s)) w' := by
  unfold QtRet; rw [h]; exact ⟨rfl, hb⟩

theorem qs_take (s : ByteArray) (k : Nat) (h : k < s.size) : Wrd.qs (s.data.toList.take (k + 1)) = Wrd.qs (s.data.toList.take k) ++ Wrd.q1 s[k] := by
  rw [Wrd.take_snoc _ _ (by rw [data_len]; exact h), Wrd.qs_snoc, data_get s k h]

theorem p_Quote (s : ByteArray) (hm : s.size ≤ 1000000) (w : World) :
    Calls Tryd.prog 22 #[.string s] w (QtRet s.data.toList w) := by
  by_cases h0 : s = ⟨#[]⟩
  · subst h0
    go_enter Tryd.func22, Tryd.ntmps22
    go_wp2
    go_ret
    exact QtRet.mk rfl (Below.refl _ _)
  · have hne : s.data.toList ≠ [] := fun e => h0 (by rw [← of_bs s, e]; rfl)
    have e0 : ¬ s.toList = [] := by rw [list_of]; exact hne
    have e0' : s.toList.isEmpty = false := by rw [List.isEmpty_eq_false_iff]; exact e0
    have Hqt : Hid (Wrd.qt s.data.toList = Wrd.qs s.data.toList) := by
      show Wrd.qt _ = _
      unfold Wrd.qt
      rw [if_neg hne]
    have Hlen := hid (data_len s)
    obtain ⟨i0, hi, hz0, hz1, hz2⟩ := info_parts Tryd.info_u8
    clear h0 hne
    go_enter Tryd.func22, Tryd.ntmps22
    have hb2 : i0.bytes * s.size ≤ 281474976710656 := by rw [hz2]; omega
    have hb3 : s.size ≤ maxLen := by unfold maxLen; omega
    go_wp2_with (at_make; refine wpList_make_own _ rfl _ _ 43 rfl w.heap.size 5 i0 (.int .u8 0) 1 Tryd.underlying43 hi hz0 hz1 .i64 .i64 _ s.size rfl rfl rfl hb2 hb3 (Nat.le_refl _) ?_; intro w1 hown hgrow)
    have hb : Below w.heap.size w w1 := (Below.refl _ _).grown hgrow (Nat.le_refl _) (fun k hk => by cases hk)
    clear hgrow hb2 hb3
    go_loopw [3, 13] (fun v i wr => ∃ k : Nat, i = .int .i64 k ∧ k ≤ s.size ∧ wr.ownsRow w.heap.size 5 1 v (Wrd.qs (s.data.toList.take k)).length ((Wrd.qs (s.data.toList.take k)).map bcell) ∧ Below w.heap.size w wr) (fun _ i _ => s.size - (intOf i).toNat)
    case atStart => exact ⟨0, rfl, Nat.zero_le _, hown, hb⟩
    case round =>
      obtain ⟨k, rfl, hk, hown, hb⟩ := hrel
      have hq3 := (Wrd.qs_len (s.data.toList.take k)).2
      have hq4 : (s.data.toList.take k).length ≤ s.size := by rw [List.length_take]; omega
      have hbs := hb.size
      by_cases hlt : k < s.size
      · have hn3 : (Wrd.qs (s.data.toList.take k)).length + 3 ≤ maxLen := by unfold maxLen; omega
        have Hst := hid (qs_take s k hlt)
        have Hps := hid (fun w => p_st s[k] w)
        have hn1 : (Wrd.qs (s.data.toList.take k)).length + 1 ≤ maxLen := by unfold maxLen; omega
        have hn4 : ((Wrd.qs (s.data.toList.take k)).length + 1) * 1 ≤ 140737488355328 := by omega
        have hn5 : ((Wrd.qs (s.data.toList.take k)).length + 3) * 1 ≤ 140737488355328 := by omega
        generalize Wrd.qs (s.data.toList.take k) = acc at *
        generalize hacc2 : Wrd.qs (s.data.toList.take (k + 1)) = acc2 at *
        have Hacc2 := hid hacc2
        clear hq3 hq4 hacc2
        cases hst : Wrd.st s[k] with
        | true =>
          have Hq := hid (show Wrd.q1 s[k] = [s[k]] by unfold Wrd.q1; rw [if_pos hst])
          rw [hst] at Hps
          clear hst
          go_wp2_with fail
          refine (Hps.out _).mono ?_
          rintro e w' ⟨rfl, rfl⟩
          go_wp2_with (at_builtin; refine wpList_append_own _ rfl (.tmp 21) (.tmp 23) 43 rfl w.heap.size 5 i0 (.int .u8 0) 1 1 Tryd.underlying43 hi hz0 hz1 hz2 rfl (by decide) _ _ _ rfl (hown.alloc _) ⟨wr.heap.size, 0, none⟩ 1 1 [.int .u8 (s[k].toNat : Int)] rfl rfl (lit_one _ _ _) (int_one _ _) hn1 hn4 (le_alloc (w := wr) hbs _) ?_; intro v1 w2 hown1 hgrow _)
          have e2 := Hst.out
          rw [Hq.out] at e2
          refine ⟨⟨k + 1, by go_num, by omega, ?_, ?_⟩, by simp [intOf]; omega⟩
          · rw [Hacc2.out, e2, List.length_append, List.map_append]
            exact hown1
          · exact (hb.alloc hbs _).grown hgrow (le_alloc (w := wr) hbs _) (fun g hg => (hown.lt g hg).1)
        | false =>
          have Hq := hid (show Wrd.q1 s[k] = [37, Wrd.hx (s[k].toNat / 16), Wrd.hx (s[k].toNat % 16)] by unfold Wrd.q1; rw [if_neg (by rw [hst]; simp)])
          rw [hst] at Hps
          clear hst
          go_wp2_with fail
          refine (Hps.out _).mono ?_
          rintro e w' ⟨rfl, rfl⟩
          go_wp2_with fail
          obtain ⟨p, hp⟩ : ∃ p : Nat, s[k].toNat / 16 = p := ⟨_, rfl⟩
          obtain ⟨q, hq⟩ : ∃ q : Nat, s[k].toNat % 16 = q := ⟨_, rfl⟩
          have hc := s[k].toNat_lt
          have p1 : p < 16 := by omega
          have q1 : q < 16 := by omega
          have p2 : (p : Int) < 16 := by omega
          have q2 : (q : Int) < 16 := by omega
          have p3 : (s[k].toNat : Int) / 16 = (p : Int) := by omega
          have q3 : bits BinOp.and IntKind.u8 (s[k].toNat : Int) 15 = (q : Int) := by
            have := and_15 ⟨s[k].toNat, hc⟩
            simp only [] at this
            rw [this, hq]
          rw [hp, hq] at Hq
          clear hp hq hc
          go_region_law (refine step_append_own rfl (.tmp 25) (.tmp 32) 43 rfl w.heap.size 5 i0 (.int .u8 0) 1 1 Tryd.underlying43 hi hz0 hz1 hz2 rfl (by decide) _ _ _ (by simp [Act.eval]) (hown.alloc _).drew ⟨wr.heap.size, 0, none⟩ 3 3 [_, _, _] (by simp [Act.eval]) rfl (lit_three_drew _ _ _ _ _) (int_three _ _ _ _) hn3 hn5 (le_alloc (w := wr) hbs _) ?_; intro v1 w2 hown1 hgrow)
          all_goals
            go_wp2_with fail
            refine ⟨⟨k + 1, by go_num, by omega, ?_, ?_⟩, by simp [intOf]; omega⟩
            · rw [Hacc2.out, Hst.out, Hq.out, List.length_append, List.map_append]
              rw [hex_get p p1, hex_get q q1] at hown1
              exact hown1
            · exact ((hb.alloc hbs _).drew).grown hgrow (le_alloc (w := wr) hbs _) (fun g hg => (hown.lt g hg).1)
      · obtain rfl : k = s.size := by omega
        have hqe : Wrd.qs (s.data.toList.take s.size) = Wrd.qs s.data.toList := by rw [List.take_of_length_le (by rw [Hlen.out]; omega)]
        rw [hqe] at hown
        have hconv := run_text_own (P := Tryd.prog) wr Tryd.underlying43 Tryd.underlying5 Tryd.underlying9 _ hown
        clear hown hqe
        go_wp2_with fail
        go_ret
        exact QtRet.mk (by rw [Hqt.out]) hb
end Go.Proofs.YtikgaknmmbmnoaaDoor
