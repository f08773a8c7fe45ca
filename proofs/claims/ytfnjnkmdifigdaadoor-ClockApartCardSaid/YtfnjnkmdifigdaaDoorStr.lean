/- Rows of texts, and the document's own Cut (layer 2), for later layers (over Row, without layer 2's own texts). -/
import Derived.Test.YtfnjnkmdifigdaaDoorRow
import Derived.Test.YtfnjnkmdifigdaaDoorWrdM
import Derived.Lib.IndexBytes
namespace Go.Proofs.YtfnjnkmdifigdaaDoor
open Go.RowKit

theorem data_get? (s : ByteArray) (k : Nat) (h : k < s.size) : s.data.toList[k]? = some s[k] := by
  rw [List.getElem?_eq_getElem (by rw [data_len]; exact h), data_get s k h]
/-- the slice value with this address reads as these texts, and lies below block B -/
def Strs (w : World) (B : Nat) (A : Option Addr) (ls : List (List UInt8)) : Prop :=
  ls ≠ [] → ∃ ad, A = some ad ∧ ad.block < B ∧ ∀ k l, ls[k]? = some l → w.cell? (ad.add k) = some (txt l)

theorem Strs.none_ (w : World) (B : Nat) (A : Option Addr) : Strs w B A [] := fun h => absurd rfl h
theorem Strs.at_ {w : World} {B : Nat} {A : Option Addr} {ls : List (List UInt8)} (h : Strs w B A ls) {k : Nat} (hk : k < ls.length) : ∃ ad, A = some ad ∧ ad.block < B ∧ w.cell? (ad.add k) = some (txt ls[k]) := by
  obtain ⟨ad, e, hb, hc⟩ := h (by intro e; subst e; simp at hk)
  exact ⟨ad, e, hb, hc k _ (List.getElem?_eq_getElem hk)⟩
theorem Strs.keep {w w' : World} {B : Nat} {A : Option Addr} {ls : List (List UInt8)} (h : Strs w B A ls) (hk : ∀ p : Addr, p.block < B → w'.cell? p = w.cell? p) : Strs w' B A ls := fun hn => by
  obtain ⟨ad, e, hb, hc⟩ := h hn
  exact ⟨ad, e, hb, fun k l hl => (hk _ (by rw [add_block]; exact hb)).trans (hc k l hl)⟩
theorem Strs.more {w : World} {B B' : Nat} {A : Option Addr} {ls : List (List UInt8)} (h : Strs w B A ls) (hB : B ≤ B') : Strs w B' A ls := fun hn => by
  obtain ⟨ad, e, hb, hc⟩ := h hn
  exact ⟨ad, e, by omega, hc⟩
theorem Strs.below {w w' : World} {B C : Nat} {A : Option Addr} {ls : List (List UInt8)} (h : Strs w B A ls) (hb : Below C w w') (hC : B ≤ C) : Strs w' B A ls := h.keep fun _ hp => hb.cell (Nat.lt_of_lt_of_le hp hC)
theorem Strs.of_own {w : World} {base : Nat} {e : TypeId} {A : Option Addr} {n c : Nat} {ls : List (List UInt8)} (h : w.ownsRow base e 1 (.slice A n c) n (ls.map txt)) : Strs w w.heap.size A ls := fun hn => by
  have hl : ls.length = n := by have := h.1; simpa using this
  have hp : 0 < n := by rw [← hl]; exact List.length_pos_iff.2 hn
  rcases h.2 with ⟨_, h0⟩ | ⟨g, cap, cur, hv, _, hg, _⟩
  · omega
  have hA : A = some ⟨g, 0, none⟩ := by injection hv
  subst hA
  refine ⟨_, rfl, (h.lt g rfl).2, fun k l hk => h.cells (g := g) rfl k _ ?_⟩
  rw [List.getElem?_map, hk]; rfl

theorem Tryd.info_str : (Tryd.prog.info? 9).map (fun i => (i.zero, i.size, i.bytes)) = some (some (.string ⟨#[]⟩), 1, 16) := by kernel_rfl

/-- a slice value of the call's own is an address, and reads as its texts -/
theorem own_strs {w : World} {base : Nat} {e : TypeId} {v : Value} {ls : List (List UInt8)} (h : w.ownsRow base e 1 v ls.length (ls.map txt)) : ∃ A c, v = .slice A ls.length c ∧ Strs w w.heap.size A ls := by
  rcases h.2 with ⟨rfl, h0⟩ | ⟨g, cap, cur, rfl, _⟩
  · exact ⟨none, 0, by rw [h0], by rw [List.eq_nil_of_length_eq_zero h0]; exact Strs.none_ _ _ _⟩
  · exact ⟨some ⟨g, 0, none⟩, cap, rfl, Strs.of_own h⟩

def RowRet (ls : List (List UInt8)) (w : World) (e : Ending) (w' : World) : Prop := ∃ A c, e = .returned (.slice A ls.length c) ∧ Strs w' w'.heap.size A ls ∧ Below w.heap.size w w'
theorem RowRet.mk {w w' : World} {base : Nat} {e : TypeId} {v : Value} {ls ms : List (List UInt8)} (hown : w'.ownsRow base e 1 v ls.length (ls.map txt)) (h : ms = ls) (hb : Below w.heap.size w w') : RowRet ms w (.returned v) w' := by
  subst h
  obtain ⟨A, c, rfl, hs⟩ := own_strs hown
  exact ⟨A, c, rfl, hs, hb⟩

theorem ext_txt (s : ByteArray) (f k : Nat) : Value.string (s.extract f k) = txt ((s.data.toList.take k).drop f) := by
  rw [List.drop_take, ← Lib.extract_data, txt, of_bs]

theorem r_Cut (s : ByteArray) (c : UInt8) (hm : s.size ≤ 300000) (w : World) :
    Calls Tryd.prog 30 #[.string s, .int .u8 (c.toNat : Int)] w (RowRet (Wrd.cut c s.data.toList) w) := by
  have Hlen := hid (data_len s)
  have hcl := Wrd.cut_len c s.data.toList
  rw [Hlen.out] at hcl
  obtain ⟨i0, hi, hz0, hz1, hz2⟩ := info_parts Tryd.info_str
  go_enter Tryd.func30, Tryd.ntmps30
  go_wp2_with fail
  go_loopw [5, 6, 7] (fun v fr i wr => ∃ (k f : Nat) (dn : List (List UInt8)), i = .int .i64 k ∧ fr = .int .i64 f ∧ f ≤ k ∧ k ≤ s.size + 1 ∧ (s.size < k → f = k) ∧ Hid (Wrd.cut c s.data.toList = dn ++ Wrd.rc c s.data.toList f) ∧ Hid (∀ j, f ≤ j → j < k → s.data.toList[j]? ≠ some c) ∧ wr.ownsRow w.heap.size 9 1 v dn.length (dn.map txt) ∧ Below w.heap.size w wr) (fun _ _ i _ => s.size + 1 - (intOf i).toNat)
  case atStart => exact ⟨0, 0, [], rfl, rfl, Nat.le_refl _, by omega, by omega, by show _ = _; rw [Wrd.rc_zero]; rfl, fun j h1 h2 => by omega, World.ownsRow_nil _ _ _ _, Below.refl _ _⟩
  case round =>
    obtain ⟨k, f, dn, rfl, rfl, hfk, hk, hlast, hcut, hno, hown, hb⟩ := hrel
    have hbs := hb.size
    have hdn : dn.length ≤ s.size + 1 := by
      have e := congrArg List.length hcut.out
      rw [List.length_append] at e
      omega
    have hn3 : dn.length + 1 ≤ maxLen := by unfold maxLen; omega
    have hn4 : (dn.length + 1) * 16 ≤ 140737488355328 := by omega
    have hend : (k = s.size ∨ (∃ h : k < s.size, s[k] = c)) → Hid (Wrd.cut c s.data.toList = (dn ++ [(s.data.toList.take k).drop f]) ++ Wrd.rc c s.data.toList (k + 1)) := by
      intro h
      have := Wrd.rc_step c s.data.toList f k hfk (by rw [Hlen.out]; rcases h with rfl | ⟨h, _⟩ <;> omega) hno.out (by
        rcases h with rfl | ⟨h, e⟩
        · left; exact Hlen.out.symm
        · right; rw [data_get? s k h, e])
      show _ = _
      rw [hcut.out, this, List.append_assoc]
      rfl
    by_cases hle : k ≤ s.size
    · by_cases heq : k = s.size
      · have hnew := hend (.inl heq)
        subst heq
        clear hend
        go_wp2_with (at_builtin; refine wpList_append_own _ rfl (.tmp 25) (.tmp 30) 55 rfl w.heap.size 9 i0 (.string ⟨#[]⟩) 1 16 Tryd.underlying55 hi hz0 hz1 hz2 rfl (by decide) _ _ _ rfl (hown.alloc _) ⟨wr.heap.size, 0, none⟩ 1 1 [.string (s.extract f s.size)] rfl rfl (lit_one _ _ _) (string_one _) hn3 hn4 (le_alloc (w := wr) hbs _) ?_; intro v1 w2 hown1 hgrow _)
        refine ⟨⟨s.size + 1, s.size + 1, dn ++ [(s.data.toList.take s.size).drop f], by go_num, by go_num, Nat.le_refl _, by omega, fun _ => rfl, hnew, fun j h1 h2 => by omega, ?_, ?_⟩, by simp [intOf] <;> omega⟩
        · rw [List.length_append, List.map_append]
          rw [ext_txt] at hown1
          exact hown1
        · exact (hb.alloc hbs _).grown hgrow (le_alloc (w := wr) hbs _) (fun g hg => (hown.lt g hg).1)
      · have hlt : k < s.size := by omega
        have hkn : ((k : Int) == (s.size : Int)) = false := by rw [beq_eq_false_iff_ne]; omega
        by_cases hc : s[k] = c
        · have hnew := hend (.inr ⟨hlt, hc⟩)
          have hc' : ((s[k].toNat : Int) == (c.toNat : Int)) = true := by rw [hc]; simp
          clear hend hc
          go_wp2_with (at_builtin; refine wpList_append_own _ rfl (.tmp 25) (.tmp 30) 55 rfl w.heap.size 9 i0 (.string ⟨#[]⟩) 1 16 Tryd.underlying55 hi hz0 hz1 hz2 rfl (by decide) _ _ _ rfl (hown.alloc _) ⟨wr.heap.size, 0, none⟩ 1 1 [.string (s.extract f k)] rfl rfl (lit_one _ _ _) (string_one _) hn3 hn4 (le_alloc (w := wr) hbs _) ?_; intro v1 w2 hown1 hgrow _)
          refine ⟨⟨k + 1, k + 1, dn ++ [(s.data.toList.take k).drop f], by go_num, by go_num, Nat.le_refl _, by omega, fun _ => rfl, hnew, fun j h1 h2 => by omega, ?_, ?_⟩, by simp [intOf] <;> omega⟩
          · rw [List.length_append, List.map_append]
            rw [ext_txt] at hown1
            exact hown1
          · exact (hb.alloc hbs _).grown hgrow (le_alloc (w := wr) hbs _) (fun g hg => (hown.lt g hg).1)
        · have hc' : ((s[k].toNat : Int) == (c.toNat : Int)) = false := by
            rw [beq_eq_false_iff_ne]; intro e; apply hc; apply UInt8.toNat_inj.1; omega
          have hno2 : Hid (∀ j, f ≤ j → j < k + 1 → s.data.toList[j]? ≠ some c) := by
            intro j h1 h2
            by_cases hj : j = k
            · subst hj
              rw [data_get? s j hlt]
              intro e
              injection e with e
              exact hc e
            · exact hno.out j h1 (by omega)
          clear hend hc
          go_wp2_with fail
          exact ⟨⟨k + 1, f, dn, by go_num, rfl, by omega, by omega, fun h => by omega, hcut, hno2, hown, hb⟩, by simp [intOf] <;> omega⟩
    · have hfe := hlast (by omega)
      have hres := hid (show Wrd.cut c s.data.toList = dn by rw [hcut.out, Wrd.rc_end _ _ _ (by rw [Hlen.out]; omega), List.append_nil])
      clear hend
      go_wp2_with fail
      go_ret
      exact RowRet.mk hown hres.out hb

end Go.Proofs.YtfnjnkmdifigdaaDoor
