/- Contracts of layer 3 (octet): Put, PutInt, PutText, PutList. -/
import Derived.Test.YtfnllijimmgaoaaOctC
namespace Go.Proofs.Ytfnllijimmgaoaa
open Go.RowKit

/-- the bytes laid so far in the array of ten -/
def ten (ks : List UInt8) : List Value := ks.map bcell ++ List.replicate (10 - ks.length) (.int .u8 0)
theorem ten_len (ks : List UInt8) (h : ks.length ≤ 10) : (ten ks).length = 10 := by unfold ten; simp; omega
theorem ten_set (ks : List UInt8) (h : ks.length < 10) (x : UInt8) : (ten ks).set ks.length (bcell x) = ten (ks ++ [x]) := by
  unfold ten
  have hl : (ks.map bcell).length = ks.length := List.length_map ..
  rw [List.set_append, if_neg (by omega), hl, Nat.sub_self, show 10 - ks.length = (10 - (ks.length + 1)) + 1 by omega, List.replicate_succ, List.set_cons_zero, List.map_append, List.length_append]
  simp
theorem ten_get (ks : List UInt8) (k : Nat) (v : Value) (h : (ks.map bcell)[k]? = some v) : (ten ks)[k]? = some v := by
  unfold ten
  rw [List.getElem?_append_left (List.getElem?_eq_some_iff.1 h).1]
  exact h

def PutRet (l : List UInt8) (w : World) (e : Ending) (w' : World) : Prop := ∃ g, e = .returned (.slice (some ⟨g, 0, none⟩) l.length l.length) ∧ w.heap.size ≤ g ∧ Byt w' w'.heap.size (some ⟨g, 0, none⟩) l ∧ Below w.heap.size w w'

set_option maxHeartbeats 1000000 in
theorem p_Put (n : Nat) (hn : n < 18446744073709551616) (w : World) :
    Calls Try.prog 12 #[.int .u64 (n : Int)] w (PutRet (Oct.pn n) w) := by
  have Hlen := hid (Oct.pn_len10 hn)
  have hown0 : (w.alloc (.cells (ten []).toArray 57)).ownsRow w.heap.size 57 1 (.slice (some ⟨w.heap.size, 0, none⟩) 10 10) 10 (ten []) := by
    have := World.ownsRow_lit (base := w.heap.size) (e := 57) (size := 1) w (ten []).toArray 10 (Nat.le_refl _) (by unfold maxLen; omega) (by rfl)
    simpa using this
  go_enter Try.func12, Try.ntmps12
  go_wp2_with fail
  go_loopw [0, 4] (fun nv la wr => ∃ (m : Nat) (ks : List UInt8), nv = .int .u64 m ∧ la = .int .i64 ks.length ∧ m < 18446744073709551616 ∧ Hid (Oct.PutSo n m ks) ∧ wr.ownsRow w.heap.size 57 1 (.slice (some ⟨w.heap.size, 0, none⟩) 10 10) 10 (ten ks) ∧ Below w.heap.size w wr) (fun nv _ _ => (intOf nv).toNat)
  case atStart => exact ⟨n, [], rfl, rfl, hn, Oct.PutSo.start n, hown0, (Below.refl _ _).alloc (Nat.le_refl _) _⟩
  case round =>
    obtain ⟨m, ks, rfl, rfl, hm, hso, hown, hb⟩ := hrel
    have hk : ks.length < 10 := by
      have := hso.out.len
      have := Hlen.out
      omega
    have hget := hown.cellAt ks.length (by omega)
    have hfz := hown.frozenAt ks.length
    obtain ⟨u, hu⟩ : ∃ u, (ten ks)[ks.length]? = some u := ⟨_, List.getElem?_eq_getElem (by rw [ten_len _ (by omega)]; exact hk)⟩
    rw [hu] at hget
    have Hown := hid hown
    clear hu hown hown0
    by_cases h128 : 128 ≤ m
    · have h128' : 128 ≤ (m : Int) := by omega
      have Hso := hid (hso.out.step h128)
      have hx : ((m : Int) % 128 + 128) = ((UInt8.ofNat (m % 128 + 128)).toNat : Int) := by rw [Oct.toNat_of _ (by omega)]; omega
      have hst := World.ownsRow.stored Hown.out ks.length (bcell (UInt8.ofNat (m % 128 + 128)))
      rw [ten_set _ hk] at hst
      have Hst := hid hst
      have Hx := hid hx
      clear hso hst hx
      go_wp2_with fail
      refine ⟨⟨m / 128, ks ++ [UInt8.ofNat (m % 128 + 128)], by go_num, by rw [List.length_append]; rfl, by omega, Hso.out, ?_, ?_⟩, by simp [intOf]; omega⟩
      · rw [Hx.out]; exact Hst.out.1
      · exact hb.setCell (Nat.le_refl _) _
    · have h128' : ¬ 128 ≤ (m : Int) := by omega
      have Hpn := hid (hso.out.last (by omega))
      have hst := World.ownsRow.stored Hown.out ks.length (bcell (UInt8.ofNat m))
      rw [ten_set _ hk] at hst
      have hx : bcell (UInt8.ofNat m) = .int .u8 m := by unfold bcell; rw [Oct.toNat_of _ (by omega)]
      rw [hx] at hst
      have Hst := hid hst
      have hcells := hid (fun j u hj => hst.1.cells (g := w.heap.size) rfl j u (ten_get _ _ _ hj))
      have hgl := hid ((hst.1.lt w.heap.size rfl).2)
      clear hst hx
      have Hc : Hid (∀ (y : Int), y = ((ks.length + 1 : Nat) : Int) → Calls Try.prog 30 #[.slice (some ⟨w.heap.size, 0, none⟩) 10 10, .int .i64 0, .int .i64 y] (wr.setCell ⟨w.heap.size, ks.length, none⟩ (.int .u8 m)) (CutRet (some ⟨w.heap.size, 0, none⟩) (ks ++ [UInt8.ofNat m]) (wr.setCell ⟨w.heap.size, ks.length, none⟩ (.int .u8 m)).heap.size 0 (ks.length + 1) (wr.setCell ⟨w.heap.size, ks.length, none⟩ (.int .u8 m)))) :=
        fun y hy => q_cut (by omega) (by omega) (fun _ => ⟨_, rfl, hgl.out, hcells.out⟩) rfl hy
      unfold CutRet at Hc
      rw [Nat.sub_zero, List.drop_zero, List.take_of_length_le (by rw [List.length_append]; exact Nat.le_refl _)] at Hc
      have Hb := hid (hb.setCell (p := ⟨w.heap.size, ks.length, none⟩) (Nat.le_refl _) (.int .u8 m))
      clear hcells hgl Hst Hown
      go_wp2_with fail
      refine (Hc.out _ (by omega)).mono ?_
      rintro e w' ⟨A', rfl, rfl, hrow, hA⟩
      obtain rfl := hA (by trivial)
      go_wp2_with fail
      go_ret
      refine ⟨w.heap.size, ?_, Nat.le_refl _, ?_, Hb.out⟩
      · rw [Hpn.out, List.length_append]; rfl
      · rw [Hpn.out]; exact hrow

theorem q_Put {n : Nat} (hn : n < 18446744073709551616) {x : Int} (hx : x = n) (w : World) : Calls Try.prog 12 #[.int .u64 x] w (PutRet (Oct.pn n) w) := by
  subst hx; exact p_Put n hn w

set_option maxHeartbeats 1000000 in
theorem p_PutInt (i : Int) (hi : Oct.I64 i) (w : World) : Calls Try.prog 13 #[.int .i64 i] w (PutRet (Oct.pI i) w) := by
  have Hp := hid (fun (x : Int) (hx : x = Oct.zz i) (w : World) => q_Put (Oct.zz_lt i hi) hx w)
  have Hz := hid (show Oct.zz i = if 0 ≤ i then (2 * i).toNat else (-2 * i - 1).toNat from rfl)
  unfold PutRet at Hp ⊢
  unfold Oct.pI
  unfold Oct.I64 at hi
  generalize Oct.zz i = z at *
  by_cases h0 : i < 0
  · rw [if_neg (by omega)] at Hz
    go_enter Try.func13, Try.ntmps13
    go_wp2_with fail
    refine (Hp.out _ (by rw [Hz.out]; first | omega | (simp only [IntKind.wrap_u64]; omega)) _).mono ?_
    rintro e w' ⟨g, rfl, h1, h2, h3⟩
    go_wp2_with fail
    go_ret
    exact ⟨g, rfl, h1, h2, h3⟩
  · rw [if_pos (by omega)] at Hz
    go_enter Try.func13, Try.ntmps13
    go_wp2_with fail
    refine (Hp.out _ (by rw [Hz.out]; first | omega | (simp only [IntKind.wrap_u64]; omega)) _).mono ?_
    rintro e w' ⟨g, rfl, h1, h2, h3⟩
    go_wp2_with fail
    go_ret
    exact ⟨g, rfl, h1, h2, h3⟩
end Go.Proofs.Ytfnllijimmgaoaa
