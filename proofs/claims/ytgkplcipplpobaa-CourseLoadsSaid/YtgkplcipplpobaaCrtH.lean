/- The closure of loadsOf, which calls itself, from any place on (layer 14). -/
import Derived.Test.YtgkplcipplpobaaCrtG
namespace Go.Proofs.Ytgkplcipplpobaa
open Go.RowKit
open Whn (Gr Wh)

theorem ChRet.next {i : Ids} {A : Option Addr} {c : Nat} {l : List ClA} {B : Option Addr} {d : Nat} {ls : List (List Int)} {w : World} {k : Nat} {cur : List Int} {acc : List (List Int)} {e : Ending} {X : World} (h : ChRet i A c l B d ls w k cur acc e X) :
    ∃ cur', e = .returned (.tuple #[]) ∧ cur'.length = ls.length ∧ cur'.take k = cur.take k ∧ Chs i A c l B d ls w X cur' acc := by
  obtain ⟨he, cur', h1, h2, h3⟩ := h
  exact ⟨cur', he, h1, h2, h3⟩
set_option maxRecDepth 20000 in
set_option maxHeartbeats 8000000 in
theorem p_choose (i : Ids) (hi : i.ok) (A : Option Addr) (c : Nat) (l : List ClA) (B : Option Addr) (d : Nat) (ls : List (List Int)) (hl : Lsok ls) (h4 : ls.length ≤ 4) (h8 : ∀ p ∈ ls, p.length ≤ 8 ∧ ∀ n ∈ p, 0 ≤ n ∧ n < (l.length : Nat)) (w : World) (hw : i.b = w.heap.size) (h : Es enC w w.heap.size A l) (hB : Rows2 w w.heap.size B ls) :
    ∀ (m k : Nat), k + m = ls.length → ∀ (cur : List Int) (acc : List (List Int)) (X : World), cur.length = ls.length → (∀ n ∈ cur.take k, 0 ≤ n ∧ n < (l.length : Nat)) → acc.length + 8 ^ m ≤ 4096 → Chs i A c l B d ls w X cur acc →
      Calls Try.prog 54 #[.int .i64 (k : Int), .pointer (some ⟨i.W, 0, none⟩), .pointer (some ⟨i.L, 0, none⟩), .pointer (some ⟨i.S, 0, none⟩), .pointer (some ⟨i.R, 0, none⟩), .pointer (some ⟨i.F, 0, none⟩)] X (ChRet i A c l B d ls w k cur (acc ++ (extN ls m (cur.take k)).filter (holdC l ls)))
  | 0, k, hkm, cur, acc, X, hcl, hcr, hac, hX => by
    obtain rfl : k = ls.length := by omega
    have ht : cur.take ls.length = cur := List.take_of_length_le (by omega)
    have := p_choose0 i hi A c l B d ls hl h4 w hw h hB cur acc X hcl (by rw [ht] at hcr; exact hcr) (by simpa using hac) hX
    rw [ht]
    exact this
  | m + 1, k, hkm, cur, acc, X, hcl, hcr, hac, hX => by
    have hk : k < ls.length := by omega
    have IH := hid (fun cur acc X h1 h2 h3 h4' => by
      have := p_choose i hi A c l B d ls hl h4 h8 w hw h hB m (k + 1) (by omega) cur acc X h1 h2 h3 h4'
      rwa [show ((k + 1 : Nat) : Int) = (k : Int) + 1 from rfl] at this)
    have hi2 := hid (show i.b ≤ i.L ∧ i.L < i.W ∧ i.W < i.R ∧ i.R < i.G ∧ i.G < i.S ∧ i.S < i.F ∧ i.F < i.base from hi)
    obtain ⟨ad, Ak, ck, v, hBe, hadb, hv, hvl, hcv, hrv, hckv⟩ := hB.get hk
    subst hBe
    have hv8 := (h8 v hvl).1
    have Hvr := hid (h8 v hvl).2
    have hbv : (ad.add k).block < w.heap.size := by rw [add_block]; exact hadb
    have Hcv := hid hcv
    have HV := hid hrv
    have Hl8 := hid (fun p hp => (h8 p hp).1)
    have Hcr := hid hcr
    have hpl : (cur.take k).length = k := by rw [List.length_take]; omega
    obtain ⟨pre, hpre⟩ : ∃ pre, cur.take k = pre := ⟨_, rfl⟩
    rw [hpre] at Hcr hpl ⊢
    have Hz := hid (show ext1 ls m pre v 0 = [] from ext1_zero ls m pre v)
    have Hnx := hid (fun j y (hy : v[j]? = some y) => ext1_next (ls := ls) (m := m) (pre := pre) hy)
    have Hend := hid (ext1_end (m := m) hpl hv.out)
    have Hlen := hid (fun j => ext1_len Hl8.out m pre v j)
    have H8 := hid (show acc.length + 8 * 8 ^ m ≤ 4096 by rw [Nat.pow_succ, Nat.mul_comm] at hac; exact hac)
    generalize ext1 ls m pre v = ex at *
    generalize extN ls (m + 1) pre = res at *
    have w0 := hX.hW.cell (k := 0) rfl
    have hcv1 := (hX.hB.cell (p := ad.add k) hbv).trans hcv
    have K := hid hX
    have b1 : (0 : Int) ≤ (k : Int) := by omega
    have b2 : (k : Int) < ls.length := by omega
    have b3 : ((k : Int) == (ls.length : Int)) = false := by rw [beq_eq_false_iff_ne]; omega
    have b4 : ¬ (k : Int) = (ls.length : Int) := by omega
    have Hpre0 := hid hpre
    have Hpl := hid hpl
    clear hX hcr hac hcv hrv hckv h hB h8 hl hpre hpl
    go_enter Try.func54, Try.ntmps54
    go_wp2_with fail
    clear w0 hcv1
    go_loopw [29] (fun iv wr => ∃ (j : Nat) (cur1 : List Int), iv = .int .i64 j ∧ j ≤ v.length ∧ cur1.length = ls.length ∧ Hid (cur1.take k = pre) ∧ Hid (Chs i A c l (some ad) d ls w wr cur1 (acc ++ (ex j).filter (holdC l ls)))) (fun iv _ => v.length - (intOf iv).toNat)
    case atStart => exact ⟨0, cur, rfl, Nat.zero_le _, hcl, Hpre0, by rw [Hz.out, List.filter_nil, List.append_nil]; exact K⟩
    case round =>
      clear K hcl
      obtain ⟨j, cur1, rfl, hj, hcl, Hpre, K⟩ := hrel
      by_cases hlt : j < v.length
      · obtain ⟨av, y, rfl, havb, hy, hcy⟩ := Its.get HV.out hlt
        have c1 : (0 : Int) ≤ (j : Int) := by omega
        have c2 : (j : Int) < v.length := by omega
        have hby : (av.add j).block < w.heap.size := by rw [add_block]; exact havb
        have hcy1 := (K.out.hB.cell (p := av.add j) hby).trans hcy
        have s0 := K.out.hS.cell (k := 0) rfl
        have hkc : k < cur1.length := by omega
        have g0 := K.out.hG.cell (k := k) (v := .int .i64 cur1[k]) (by rw [List.getElem?_map, List.getElem?_eq_getElem hkc]; rfl)
        have g1 := K.out.hG.free k
        have K1 := hid (K.out.load hi hw k y)
        have f1 := K1.out.hF.cell (k := 0) rfl
        have hts := take_set y hkc
        rw [Hpre.out] at hts
        have hle : (acc ++ (ex j).filter (holdC l ls)).length + 8 ^ m ≤ 4096 := by
          have h1 := Hlen.out j
          have h2 := List.length_filter_le (holdC l ls) (ex j)
          have h3 : (j + 1) * 8 ^ m ≤ 8 * 8 ^ m := Nat.mul_le_mul_right _ (by omega)
          rw [Nat.succ_mul] at h3
          have h4 := H8.out
          rw [List.length_append]
          omega
        have IH1 := hid (IH.out (cur1.set k y) _ _ (by rw [List.length_set]; exact hcl) (by
          rw [hts]
          intro n hn
          rcases List.mem_append.1 hn with hn | hn
          · exact Hcr.out n hn
          · rw [List.mem_singleton] at hn
            subst hn
            exact Hvr.out n (List.mem_of_getElem? hy.out)) hle K1.out)
        have Hts := hid hts
        have Hnx1 := hid (show acc ++ (ex (j + 1)).filter (holdC l ls) = acc ++ (ex j).filter (holdC l ls) ++ (extN ls m (pre ++ [y])).filter (holdC l ls) by rw [Hnx.out j y hy.out, List.filter_append, List.append_assoc])
        clear hcy IH hts hle
        go_wp2_with fail
        refine IH1.out.mono ?_
        intro e1 X1 hch
        obtain ⟨cur2, rfl, hl2, ht2, K2⟩ := hch.next
        have KK2 := hid K2
        have Ht2 := hid (show cur2.take k = pre by
          have : cur2.take k = (cur2.take (k + 1)).take k := by rw [List.take_take, Nat.min_eq_left (by omega)]
          rw [this, ht2, Hts.out]
          rw [List.take_append_of_le_length (by rw [Hpl.out]; exact Nat.le_refl k), List.take_of_length_le (by rw [Hpl.out]; exact Nat.le_refl k)])
        clear K2 ht2 hch hcy1 s0 g0 g1 f1
        go_wp2_with fail
        exact ⟨⟨j + 1, cur2, by go_num, by omega, hl2, Ht2, by rw [Hnx1.out, ← Hts.out]; exact KK2⟩, by simp [intOf]; omega⟩
      · have c2 : ¬ (j : Int) < v.length := by omega
        have hjv : j = v.length := by omega
        go_wp2_with fail
        refine bodyPost_ret (results_none rfl _ _ _) rfl ?_
        exact ⟨rfl, cur1, hcl, Hpre.out.trans Hpre0.out.symm, by rw [← Hend.out, ← hjv]; exact K.out⟩
end Go.Proofs.Ytgkplcipplpobaa
