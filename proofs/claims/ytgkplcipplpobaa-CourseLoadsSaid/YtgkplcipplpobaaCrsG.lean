/- The document's own Classes for layer 14 (course). -/
import Derived.Test.YtgkplcipplpobaaCrsE
namespace Go.Proofs.Ytgkplcipplpobaa
open Go.RowKit
open Whn (Gr Wh)

/-- a rising row of what S says -/
def InsSt (w : World) (A : Option Addr) (c : Nat) (m : List Int) (S : Int → Prop) (b : Nat) : Prop := Its w w.heap.size A m ∧ m.length ≤ c ∧ m.Pairwise (· < ·) ∧ (∀ z, z ∈ m ↔ S z) ∧ m.length ≤ b
theorem InsSt.same {w : World} {A : Option Addr} {c : Nat} {m : List Int} {S S' : Int → Prop} {b b' : Nat} (h : InsSt w A c m S b) (hS : ∀ z, S z ↔ S' z) (hb : b ≤ b') : InsSt w A c m S' b' :=
  ⟨h.1, h.2.1, h.2.2.1, fun z => (h.2.2.2.1 z).trans (hS z), Nat.le_trans h.2.2.2.2 hb⟩
/-- the slice value is such a row -/
def SetAt (w : World) (v : Value) (S : Int → Prop) (b : Nat) : Prop := ∃ A c, ∃ m : List Int, v = .slice A m.length c ∧ InsSt w A c m S b
/-- which classes a course has -/
def inCs (x : Cs) (z : Int) : Prop := z ∈ x.ws.flatten.flatten
/-- hands out a rising row of what S says -/
def SetRet (S : Int → Prop) (b : Nat) (w : World) (e : Ending) (w' : World) : Prop := ∃ A c, ∃ m : List Int, e = .returned (.slice A m.length c) ∧ InsSt w' A c m S b ∧ Below w.heap.size w w'
theorem few_ws {x : Cs} (h : fewC x = true) : x.ws.length ≤ 6 ∧ ∀ ls ∈ x.ws, ls.length ≤ 6 ∧ ∀ l ∈ ls, l.length ≤ 10 := by
  unfold fewC at h
  rw [Bool.and_eq_true] at h
  refine ⟨of_decide_eq_true h.1, fun ls hls => ?_⟩
  have h2 := List.all_eq_true.1 h.2 ls hls
  unfold okW at h2
  rw [Bool.and_eq_true] at h2
  exact ⟨of_decide_eq_true h2.1, fun l hl => of_decide_eq_true (List.all_eq_true.1 h2.2 l hl)⟩
theorem mem_next {v : List Int} {n : Nat} {y : Int} (h : v[n]? = some y) (z : Int) : z ∈ v.take (n + 1) ↔ z = y ∨ z ∈ v.take n := by
  rw [List.take_add_one, h, List.mem_append]
  simp only [Option.toList_some, List.mem_singleton]
  exact or_comm
theorem mem_flat {u : List (List Int)} {j : Nat} {v : List Int} (h : u[j]? = some v) (z : Int) : z ∈ (u.take (j + 1)).flatten ↔ z ∈ (u.take j).flatten ∨ z ∈ v := by
  rw [List.take_add_one, h, List.flatten_append, List.mem_append]
  simp
theorem mem_flat2 {ws : List (List (List Int))} {k : Nat} {u : List (List Int)} (h : ws[k]? = some u) (z : Int) : z ∈ (ws.take (k + 1)).flatten.flatten ↔ z ∈ (ws.take k).flatten.flatten ∨ z ∈ u.flatten := by
  rw [List.take_add_one, h, List.flatten_append, List.flatten_append, List.mem_append]
  simp
set_option maxRecDepth 20000 in
set_option maxHeartbeats 4000000 in
theorem r_ClassesCs (x : Cs) (A : Option Addr) (c : Nat) (hf : fewC x = true) (w : World) (h : Rows3 w w.heap.size A x.ws) :
    Calls Try.prog 15 #[csv x A c] w (SetRet (inCs x) 360 w) := by
  obtain ⟨hm, hl⟩ := few_ws hf
  have HIn := hid (fun A c l hm hc hp n X h => r_Insert A c l hm hc hp n X h)
  have HL := hid hl
  have H := hid h
  obtain ⟨ff, hff⟩ : ∃ ff : Nat → Int → Prop, (fun k z => z ∈ (x.ws.take k).flatten.flatten) = ff := ⟨_, rfl⟩
  have Hf0 := hid (show ∀ z, z ∈ ([] : List Int) ↔ ff 0 z from fun z => by rw [← hff]; simp only [List.take_zero, List.flatten_nil])
  have Hfn := hid (show ∀ k u, x.ws[k]? = some u → ∀ z, ff k z ∨ z ∈ u.flatten ↔ ff (k + 1) z from fun k u hu z => by rw [← hff]; exact (mem_flat2 hu z).symm)
  have Hfl := hid (show ∀ z, ff x.ws.length z ↔ inCs x z from fun z => by rw [← hff]; simp only [List.take_length]; exact Iff.rfl)
  clear h hl hff hf
  obtain ⟨P, W, hP, hW, K, hb0⟩ := (Mem.nil w).one (csc x A c) 24
  obtain ⟨e0, e1⟩ := K.out.cs (B := P) (x := x) (A := A) (c := c) (t := 24) (by simp)
  clear hb0
  go_enter Try.func15, Try.ntmps15
  go_wp2_with fail
  clear hP hW e0 e1
  go_loopw [3, 4] (fun ov i wr => ∃ (k : Nat), i = .int .i64 k ∧ k ≤ x.ws.length ∧ Hid (Mem w wr [(P, csc x A c, 24)]) ∧ Hid (SetAt wr ov (ff k) (60 * k))) (fun _ i _ => x.ws.length - (intOf i).toNat)
  case atStart => exact ⟨0, rfl, Nat.zero_le _, K, hid ⟨none, 0, [], rfl, Rd.none_ _ _ _, Nat.le_refl _, List.Pairwise.nil, Hf0.out, Nat.zero_le _⟩⟩
  case round =>
    clear K Hf0
    obtain ⟨k, rfl, hk, K1, HO⟩ := hrel
    obtain ⟨B, d, m, rfl, hs⟩ := HO.out
    have HS := hid hs
    clear hs HO
    obtain ⟨e0, e1⟩ := K1.out.cs (B := P) (x := x) (A := A) (c := c) (t := 24) (by simp)
    by_cases hlt : k < x.ws.length
    · obtain ⟨ad, Ak, ck, u, hae, hadb, hx, hxl, hcx, hrx, hckx⟩ := H.out.at_ hlt
      obtain ⟨hul, hll⟩ := HL.out u hxl
      have HLu := hid hll
      have b1 : (0 : Int) ≤ (k : Int) := by omega
      have b2 : (k : Int) < x.ws.length := by omega
      rw [hae] at e1
      have Hae := hid hae
      have hbx : (ad.add k).block < w.heap.size := by rw [add_block]; exact hadb
      have Hcx := hid hcx
      have HR := hid hrx
      have Hfk := hid (Hfn.out k u hx.out)
      obtain ⟨gg, hgg⟩ : ∃ gg : Nat → Int → Prop, (fun j z => z ∈ (u.take j).flatten) = gg := ⟨_, rfl⟩
      have Hg0 := hid (show ∀ z, ff k z ↔ ff k z ∨ gg 0 z from fun z => by rw [← hgg]; simp only [List.take_zero, List.flatten_nil, List.not_mem_nil, or_false])
      have Hgn := hid (show ∀ j v, u[j]? = some v → ∀ z, ff k z ∨ gg j z ∨ z ∈ v ↔ ff k z ∨ gg (j + 1) z from fun j v hv z => by rw [← hgg]; simp only; rw [mem_flat hv z])
      have Hgl := hid (show ∀ z, ff k z ∨ gg u.length z ↔ ff (k + 1) z from fun z => by rw [← hgg]; simp only [List.take_length]; exact Hfk.out z)
      have hcx1 := (K1.out.2.cell (p := ad.add k) hbx).trans hcx
      obtain ⟨f1, hf1⟩ : ∃ f1, ff k = f1 := ⟨_, rfl⟩
      rw [hf1] at HS Hg0 Hgn Hgl
      clear hf1
      clear hrx hckx hcx hgg hll Hfn Hfl Hfk hae
      go_wp2_with fail
      clear e0 e1 hcx1
      go_loopw [3, 5] (fun ov i wr => ∃ (j : Nat), i = .int .i64 j ∧ j ≤ u.length ∧ Hid (Mem w wr [(P, csc x A c, 24)]) ∧ Hid (SetAt wr ov (fun z => f1 z ∨ gg j z) (60 * k + 10 * j))) (fun _ i _ => u.length - (intOf i).toNat)
      case atStart => exact ⟨0, rfl, Nat.zero_le _, K1, hid ⟨B, d, m, rfl, HS.out.same Hg0.out (by omega)⟩⟩
      case round =>
        clear K1 HS Hg0
        obtain ⟨j, rfl, hj, K2, HO⟩ := hrel
        obtain ⟨B2, d2, m2, rfl, hs⟩ := HO.out
        have HS2 := hid hs
        clear hs HO
        obtain ⟨e0, e1⟩ := K2.out.cs (B := P) (x := x) (A := A) (c := c) (t := 24) (by simp)
        rw [Hae.out] at e1
        have hcx1 := (K2.out.2.cell (p := ad.add k) hbx).trans Hcx.out
        by_cases hlt2 : j < u.length
        · obtain ⟨ae, Bk, dk, v, hbe, haeb, hy, hyl, hcy, hry, hdky⟩ := HR.out.get hlt2
          have hvl := HLu.out v hyl
          have b3 : (0 : Int) ≤ (j : Int) := by omega
          have b4 : (j : Int) < u.length := by omega
          rw [hbe] at hcx1
          have hby : (ae.add j).block < w.heap.size := by rw [add_block]; exact haeb
          have hcy1 := (K2.out.2.cell (p := ae.add j) hby).trans hcy
          have HV := hid hry
          have Hgj := hid (Hgn.out j v hy.out)
          have Hh0 := hid (show ∀ z, f1 z ∨ gg j z ↔ f1 z ∨ gg j z ∨ z ∈ v.take 0 from fun z => by simp only [List.take_zero, List.not_mem_nil, or_false])
          have Hhl := hid (show ∀ z, f1 z ∨ gg j z ∨ z ∈ v.take v.length ↔ f1 z ∨ gg (j + 1) z from fun z => by rw [List.take_length]; exact Hgj.out z)
          obtain ⟨g1, hg1⟩ : ∃ g1, gg j = g1 := ⟨_, rfl⟩
          rw [hg1] at HS2 Hh0 Hhl
          clear hg1
          clear hry hdky hcy Hgn Hgl Hgj hbe
          go_wp2_with fail
          clear e0 e1 hcx1 hcy1
          go_loopw [3, 7] (fun ov i wr => ∃ (n : Nat), i = .int .i64 n ∧ n ≤ v.length ∧ Hid (Mem w wr [(P, csc x A c, 24)]) ∧ Hid (SetAt wr ov (fun z => f1 z ∨ g1 z ∨ z ∈ v.take n) (60 * k + 10 * j + n))) (fun _ i _ => v.length - (intOf i).toNat)
          case atStart => exact ⟨0, rfl, Nat.zero_le _, K2, hid ⟨B2, d2, m2, rfl, HS2.out.same Hh0.out (by omega)⟩⟩
          case round =>
            clear K2 HS2 Hh0
            obtain ⟨n, rfl, hn, K3, HO⟩ := hrel
            obtain ⟨B3, d3, m3, rfl, hs⟩ := HO.out
            have HS3 := hid hs
            clear hs HO
            by_cases hlt3 : n < v.length
            · obtain ⟨ag, y, hcg, _, hyn, hcell⟩ := Its.get (HV.out.below K3.out.2 (Nat.le_refl _)) hlt3
              have b5 : (0 : Int) ≤ (n : Int) := by omega
              have b6 : (n : Int) < v.length := by omega
              have hml := HS3.out.2.2.2.2
              have HI1 := hid (HIn.out B3 d3 m3 (by omega) HS3.out.2.1 HS3.out.2.2.1 y _ HS3.out.1)
              have Hst := hid (fun z => (mem_next hyn.out z))
              subst hcg
              clear hyn
              go_wp2_with fail
              refine (HI1.out).mono ?_
              rintro e2 Y ⟨B4, d4, m4, rfl, hr4, hc4, hp4, hz4, hl4, hb4⟩
              have K4 := hid (K3.out.next hb4)
              have HS4 := hid (show InsSt Y B4 d4 m4 (fun z => f1 z ∨ g1 z ∨ z ∈ v.take (n + 1)) (60 * k + 10 * j + (n + 1)) from ⟨hr4, hc4, hp4, fun z => by
                rw [hz4 z, HS3.out.2.2.2.1 z]
                simp only
                rw [Hst.out z]
                constructor
                · rintro (h | h | h | h)
                  · exact .inr (.inr (.inl h))
                  · exact .inl h
                  · exact .inr (.inl h)
                  · exact .inr (.inr (.inr h))
                · rintro (h | h | h | h)
                  · exact .inr (.inl h)
                  · exact .inr (.inr (.inl h))
                  · exact .inl h
                  · exact .inr (.inr (.inr h)), by omega⟩)
              clear hr4 hc4 hp4 hz4 hl4 hb4 K3 HS3 HI1 Hst hcell
              go_wp2_with fail
              exact ⟨⟨n + 1, by go_num, by omega, K4, hid ⟨B4, d4, m4, rfl, HS4.out⟩⟩, by simp [intOf]; omega⟩
            · obtain rfl : n = v.length := by omega
              have b6 : ¬ (v.length : Int) < v.length := by omega
              have HS4 := hid (HS3.out.same Hhl.out (show _ ≤ 60 * k + 10 * (j + 1) by omega))
              clear HS3
              go_wp2_with fail
              exact ⟨⟨j + 1, by go_num, by omega, K3, hid ⟨B3, d3, m3, rfl, HS4.out⟩⟩, by simp [intOf]; omega⟩
        · obtain rfl : j = u.length := by omega
          have b4 : ¬ (u.length : Int) < u.length := by omega
          have HS4 := hid (HS2.out.same Hgl.out (show _ ≤ 60 * (k + 1) by omega))
          clear HS2
          go_wp2_with fail
          exact ⟨⟨k + 1, by go_num, by omega, K2, hid ⟨B2, d2, m2, rfl, HS4.out⟩⟩, by simp [intOf]; omega⟩
    · obtain rfl : k = x.ws.length := by omega
      have b2 : ¬ (x.ws.length : Int) < x.ws.length := by omega
      have HS4 := hid (HS.out.same Hfl.out (show _ ≤ 360 by omega))
      clear HS Hfn Hfl
      go_wp2_with fail
      go_ret
      exact ⟨B, d, m, rfl, HS4.out, K1.out.2⟩
end Go.Proofs.Ytgkplcipplpobaa
