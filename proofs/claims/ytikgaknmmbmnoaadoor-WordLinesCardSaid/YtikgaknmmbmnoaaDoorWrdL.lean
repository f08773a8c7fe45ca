/- Contracts of layer 2 (word): what Lines and Text return, and the document's own. -/
import Derived.Test.YtikgaknmmbmnoaaDoorWrdW
import Derived.Test.YtikgaknmmbmnoaaDoorWrdG
import Derived.Test.YtikgaknmmbmnoaaDoorWrdH
namespace Go.Proofs.YtikgaknmmbmnoaaDoor
open Go.RowKit

def TxRet (ls : List (List UInt8)) (w : World) (e : Ending) (w' : World) : Prop := e = .returned (txt (Wrd.tl ls)) ∧ Below w.heap.size w w'
theorem TxRet.mk {ls : List (List UInt8)} {w w' : World} {s : ByteArray} (h : s = bs (Wrd.tl ls)) (hb : Below w.heap.size w w') : TxRet ls w (.returned (.string s)) w' := by
  unfold TxRet; rw [h]; exact ⟨rfl, hb⟩
theorem tl_part (ls : List (List UInt8)) (k : Nat) (h : k < ls.length) : ls[k].length ≤ (Wrd.tl ls).length := by
  have := Wrd.tl_take ls (k + 1)
  rw [Wrd.take_snoc _ _ h, Wrd.tl_snoc] at this
  simp at this
  omega

theorem p_Text (A : Option Addr) (c : Nat) (ls : List (List UInt8)) (w : World) (h : Strs w w.heap.size A ls) (hn : ls.length ≤ 100000) (ht : (Wrd.tl ls).length ≤ 1000000) :
    Calls Tryd.prog 9 #[.slice A ls.length c] w (TxRet ls w) := by
  have H := hid h
  have Htk := hid (Wrd.tl_take ls)
  have Hpt := hid (tl_part ls)
  clear h
  go_enter Tryd.func9, Tryd.ntmps9
  go_wp2_with fail
  have hfr := Lib.fresh_isBuilder 45 5 w
  have hb0 : Below w.heap.size w (w.alloc (.cells #[.pointer none, .slice none 0 0] 45)) := (Below.refl _ _).alloc (Nat.le_refl _) _
  go_loopw [8] (fun i wr => ∃ k : Nat, i = .int .i64 k ∧ k ≤ ls.length ∧ Lib.IsBuilder 45 5 w.heap.size w.heap.size (Lib.byteCells (Wrd.tl (ls.take k))) wr ∧ Below w.heap.size w wr) (fun i _ => ls.length - (intOf i).toNat)
  case atStart => exact ⟨0, rfl, Nat.zero_le _, hfr, hb0⟩
  case round =>
    clear hfr hb0
    obtain ⟨k, rfl, hk, hB, hb⟩ := hrel
    have hbs := hb.size
    have htk := Htk.out k
    by_cases hlt : k < ls.length
    · obtain ⟨ad, rfl, _, hc⟩ := (H.out.below hb (Nat.le_refl _)).at_ hlt
      have hpt := Hpt.out k hlt
      have Hw := hid (b_WriteString w.heap.size w.heap.size (Wrd.tl (ls.take k)) (bs ls[k]) wr hB (by rw [bs_size]; omega) hbs)
      have Hst := hid (show Wrd.tl (ls.take (k + 1)) = Wrd.tl (ls.take k) ++ ls[k] ++ [10] by rw [Wrd.take_snoc _ _ hlt, Wrd.tl_snoc, List.append_assoc])
      clear hB
      go_wp2_with fail
      refine (Hw.out).mono ?_
      rintro e w2 ⟨rfl, hB2, hb2⟩
      have hb02 : Below w.heap.size w w2 := hb.trans hb2
      have Hw2 := hid (b_WriteByte w.heap.size w.heap.size (Wrd.tl (ls.take k) ++ (bs ls[k]).data.toList) 10 w2 hB2 (by rw [List.length_append, bs_data]; omega) hb02.size)
      clear hB2
      go_wp2_with fail
      refine (Hw2.out).mono ?_
      rintro e w3 ⟨rfl, hB3, hb3⟩
      have HB3 := hid hB3
      clear hB3
      go_wp2_with fail
      go_roundw
      case rel => exact ⟨k + 1, by go_num, by omega, by rw [Hst.out]; exact HB3.out, hb02.trans hb3⟩
      case measure => simp [intOf]; omega
    · obtain rfl : k = ls.length := by omega
      rw [List.take_length] at hB
      have Hs := hid (Tryd.Builder_String_any w.heap.size w.heap.size (Wrd.tl ls) wr hB hbs)
      clear hB
      go_wp2_with fail
      refine (Hs.out).mono ?_
      rintro e w2 ⟨rfl, hb2⟩
      go_wp2_with fail
      go_ret
      exact TxRet.mk rfl (hb.trans hb2)

def TxSame (ls : List (List UInt8)) (w : World) (e : Ending) (w' : World) : Prop := e = .returned (txt (Wrd.tl ls)) ∧ w = w'
theorem TxSame.mk {ls : List (List UInt8)} {w : World} {s : ByteArray} (h : s = bs (Wrd.tl ls)) : TxSame ls w (.returned (.string s)) w := by
  unfold TxSame; rw [h]; exact ⟨rfl, rfl⟩
theorem r_Text (A : Option Addr) (c : Nat) (ls : List (List UInt8)) (w : World) (B : Nat) (h : Strs w B A ls) (hn : ls.length ≤ 100000) (ht : (Wrd.tl ls).length ≤ 1000000) :
    Calls Tryd.prog 10 #[.slice A ls.length c] w (TxSame ls w) := by
  have H := hid h
  have Htk := hid (Wrd.tl_take ls)
  have Hpt := hid (tl_part ls)
  clear h
  go_enter Tryd.func10, Tryd.ntmps10
  go_wp2
  go_loop [3, 4] (fun v i => ∃ k : Nat, i = .int .i64 k ∧ k ≤ ls.length ∧ v = txt (Wrd.tl (ls.take k))) (fun _ i => ls.length - (intOf i).toNat)
  case atStart => exact ⟨0, rfl, Nat.zero_le _, rfl⟩
  case round =>
    obtain ⟨k, rfl, hk, rfl⟩ := hrel
    have htk := Htk.out k
    by_cases hlt : k < ls.length
    · obtain ⟨ad, rfl, _, hc⟩ := H.out.at_ hlt
      have hpt := Hpt.out k hlt
      have hs1 : (bs (Wrd.tl (ls.take k))).size ≤ 1000000 := by rw [bs_size]; omega
      have hs2 : (bs ls[k]).size ≤ 1000000 := by rw [bs_size]; omega
      have hs3 : (bs (Wrd.tl (ls.take k)) ++ bs ls[k]).size ≤ 2000000 := by rw [bs_append, bs_size, List.length_append]; omega
      have Hst := hid (show Wrd.tl (ls.take (k + 1)) = Wrd.tl (ls.take k) ++ ls[k] ++ [10] by rw [Wrd.take_snoc _ _ hlt, Wrd.tl_snoc, List.append_assoc])
      go_wp2_with fail
      refine ⟨⟨k + 1, by go_num, by omega, ?_⟩, by simp [intOf]; omega⟩
      rw [Hst.out]
      show Value.string (bs (Wrd.tl (ls.take k)) ++ bs ls[k] ++ bs [10]) = _
      rw [bs_append, bs_append]
    · obtain rfl : k = ls.length := by omega
      go_wp2_with fail
      go_ret
      exact TxSame.mk (by rfl)

def LnRet (l : List UInt8) (w : World) (e : Ending) (w' : World) : Prop := ∃ A c, e = .returned (.tuple #[.slice A (Wrd.lns l).1.length c, .int .i64 ((Wrd.lns l).2 : Int)]) ∧ Strs w' w'.heap.size A (Wrd.lns l).1 ∧ Below w.heap.size w w'
theorem LnRet.no {l : List UInt8} {w w' : World} {x : Int} {k : Nat} (h : Wrd.lns l = ([], k)) (hx : x = (k : Int)) (hb : Below w.heap.size w w') : LnRet l w (.returned (.tuple #[.slice none 0 0, .int .i64 x])) w' := by
  subst hx
  unfold LnRet
  rw [h]
  exact ⟨none, 0, rfl, Strs.none_ _ _ _, hb⟩
theorem LnRet.yes {l : List UInt8} {ls : List (List UInt8)} {w w' : World} {x : Int} {A : Option Addr} {n c : Nat} (h : Wrd.lns l = (ls, 0)) (hn : n = ls.length) (hx : x = 0) (hs : Strs w' w'.heap.size A ls) (hb : Below w.heap.size w w') : LnRet l w (.returned (.tuple #[.slice A n c, .int .i64 x])) w' := by
  subst hx; subst hn
  unfold LnRet
  rw [h]
  exact ⟨A, c, rfl, hs, hb⟩
theorem last_of (s : ByteArray) (m : Nat) (h : s.size = m + 1) : ∃ hm : m < s.size, s.data.toList = s.data.toList.take m ++ [s[m]'hm] := by
  have hm : m < s.size := by omega
  refine ⟨hm, ?_⟩
  have h1 := Wrd.take_snoc s.data.toList m (by rw [data_len]; exact hm)
  rw [List.take_of_length_le (by rw [data_len]; omega), data_get s m hm] at h1
  exact h1

theorem r_Lines (s : ByteArray) (hm : s.size ≤ 300000) (w : World) :
    Calls Tryd.prog 7 #[.string s] w (LnRet s.data.toList w) := by
  by_cases h0 : s = ⟨#[]⟩
  · subst h0
    have hq := hid (show Wrd.lns [] = ([], 0) from rfl)
    go_enter Tryd.func7, Tryd.ntmps7
    go_wp2
    go_ret2
    exact LnRet.no hq.out rfl (Below.refl _ _)
  · have hne : s.data.toList ≠ [] := fun e => h0 (by rw [← of_bs s, e]; rfl)
    have e0 : ¬ s.toList = [] := by rw [list_of]; exact hne
    have e0' : s.toList.isEmpty = false := by rw [List.isEmpty_eq_false_iff]; exact e0
    obtain ⟨m, hsz⟩ : ∃ m, s.size = m + 1 := ⟨s.size - 1, by
      have : s.data.toList.length ≠ 0 := fun e => hne (List.eq_nil_of_length_eq_zero e)
      rw [data_len] at this
      omega⟩
    obtain ⟨hms, hlast⟩ := last_of s m hsz
    have hl := Wrd.lns_snoc (s.data.toList.take m) s[m]
    rw [← hlast] at hl
    have hszI : (s.size : Int) = (m : Int) + 1 := by omega
    clear h0 hne hlast
    by_cases hx : s[m] = 10
    · rw [if_pos hx] at hl
      have Hl := hid hl
      have hx' : ((s[m].toNat : Int) != 10) = false := by rw [hx]; rfl
      have Hc := hid (fun w => r_Cut (s.extract 0 m) 10 (by simp; omega) w)
      rw [Lib.extract_from_zero] at Hc
      unfold RowRet at Hc
      clear hl hx hsz
      go_enter Tryd.func7, Tryd.ntmps7
      go_wp2_with fail
      refine (Hc.out _).mono ?_
      rintro e w2 ⟨A, c, rfl, hs, hb⟩
      have HS := hid hs
      clear hs
      go_wp2_with fail
      go_ret2
      exact LnRet.yes Hl.out rfl rfl HS.out hb
    · rw [if_neg hx] at hl
      have Hl := hid hl
      have hx' : ((s[m].toNat : Int) != 10) = true := by
        rw [bne_iff_ne]; intro e; apply hx; apply UInt8.toNat_inj.1; show s[m].toNat = 10; omega
      clear hl hx hsz
      go_enter Tryd.func7, Tryd.ntmps7
      go_wp2_with fail
      go_ret2
      exact LnRet.no Hl.out rfl (Below.refl _ _)

theorem c_Clone (s : ByteArray) (hm : s.size ≤ 300000) (w : World) :
    Calls Tryd.prog 16 #[.string s] w fun e w' => e = .returned (.string s) ∧ Below w.heap.size w w' := by
  go_enter Tryd.func16, Tryd.ntmps16
  go_wp2_with fail
  refine (Tryd.stringslite_Clone s _ (by omega)).mono ?_
  rintro e w' ⟨rfl, hb⟩
  go_wp2_with fail
  go_ret
  exact ⟨rfl, hb⟩

theorem strs_lit (w : World) (ls : List (List UInt8)) (t : TypeId) (hm : ls.length ≤ maxLen) : Strs (w.alloc (.cells (ls.map txt).toArray t)) (w.alloc (.cells (ls.map txt).toArray t)).heap.size (some ⟨w.heap.size, 0, none⟩) ls := by
  have hown := World.ownsRow_lit (base := w.heap.size) (e := t) (size := 1) w (ls.map txt).toArray ls.length (Nat.le_refl _) hm (by simp)
  exact Strs.of_own (n := ls.length) (c := ls.length) (ls := ls) (by simpa using hown)

theorem c_Split (s : ByteArray) (hm : s.size ≤ 300000) (mx : Int) (w : World) (hmx : w.cell? ⟨0, 0, none⟩ = some (.int .i64 mx)) :
    Calls Tryd.prog 15 #[.string s, .string ⟨#[10]⟩] w (RowRet (Wrd.cut 10 s.data.toList) w) := by
  refine (Tryd.strings_Split s ⟨#[10]⟩ mx w (by omega) hmx (by decide)).mono ?_
  rintro e w' ⟨rfl, rfl⟩
  have hd : (Lib.splitB ⟨#[10]⟩ 0 (Lib.countB s ⟨#[10]⟩) s).map (·.data.toList) = Wrd.cut 10 s.data.toList := by
    rw [Lib.splitB_data]
    exact Wrd.split_eq 10 s.data.toList
  have hc : Lib.countB s ⟨#[10]⟩ + 1 = (Wrd.cut 10 s.data.toList).length := Wrd.count_eq 10 s.data.toList
  have hcells : (Lib.splitB ⟨#[10]⟩ 0 (Lib.countB s ⟨#[10]⟩) s).map Value.string = (Wrd.cut 10 s.data.toList).map txt := by
    rw [← hd, List.map_map]
    refine List.map_congr_left fun x _ => ?_
    show Value.string x = Value.string (bs x.data.toList)
    rw [of_bs]
  have hl := Wrd.cut_len 10 s.data.toList
  rw [data_len] at hl
  rw [hc, hcells]
  exact ⟨_, _, rfl, strs_lit w _ _ (by unfold maxLen; omega), (Below.refl _ _).alloc (Nat.le_refl _) _⟩

theorem p_Lines (s : ByteArray) (hm : s.size ≤ 300000) (mx : Int) (w : World) (hmx : w.cell? ⟨0, 0, none⟩ = some (.int .i64 mx)) :
    Calls Tryd.prog 6 #[.string s] w (LnRet s.data.toList w) := by
  by_cases h0 : s = ⟨#[]⟩
  · subst h0
    have hq := hid (show Wrd.lns [] = ([], 0) from rfl)
    clear hmx
    go_enter Tryd.func6, Tryd.ntmps6
    go_wp2
    go_ret2
    exact LnRet.no hq.out rfl (Below.refl _ _)
  · have hne : s.data.toList ≠ [] := fun e => h0 (by rw [← of_bs s, e]; rfl)
    have e0 : ¬ s.toList = [] := by rw [list_of]; exact hne
    have e0' : s.toList.isEmpty = false := by rw [List.isEmpty_eq_false_iff]; exact e0
    obtain ⟨i, x, hix, _, _⟩ := Wrd.snoc_of s.data.toList hne
    have hl := Wrd.lns_snoc i x
    rw [← hix] at hl
    obtain ⟨hs1, hs2⟩ := Wrd.suffix_one i x 10
    rw [← hix] at hs1 hs2
    have hlen : i.length + 1 = s.size := by rw [← data_len, hix, List.length_append]; rfl
    have hcs := Tryd.strings_CutSuffix s ⟨#[10]⟩ w (by omega)
    rw [show (⟨#[10]⟩ : ByteArray).data.toList = [10] from rfl, hs1] at hcs
    have Hmx := hid hmx
    clear h0 hne hix hs1 hmx
    by_cases hx : x = 10
    · rw [hs2 hx, decide_eq_true hx] at hcs
      rw [if_pos hx] at hl
      have Hl := hid hl
      have Hcs := hid hcs
      have Hcl := hid (fun w => c_Clone (bs i) (by rw [bs_size]; omega) w)
      have Hsp := hid (fun (w' : World) (h : w'.cell? ⟨0, 0, none⟩ = some (.int .i64 mx)) => c_Split (bs i) (by rw [bs_size]; omega) mx w' h)
      rw [bs_data] at Hsp
      unfold RowRet at Hsp
      have hcut := Wrd.cut_ne 10 i
      clear hl hcs hx hs2
      go_enter Tryd.func6, Tryd.ntmps6
      go_wp2_with fail
      refine (Hcs.out).mono ?_
      rintro e w1 ⟨rfl, hw1⟩
      subst hw1
      go_wp2_with fail
      refine (Hcl.out _).mono ?_
      rintro e w2 ⟨rfl, hb2⟩
      have hmx2 := (hb2.cell (p := ⟨0, 0, none⟩) (World.block_lt_of_cell? _ _ Hmx.out)).trans Hmx.out
      have Hmx2 := hid hmx2
      clear hmx2
      go_wp2_with fail
      refine (Hsp.out _ Hmx2.out).mono ?_
      rintro e w3 ⟨A, c, rfl, hs, hb3⟩
      have HS := hid hs
      clear hs
      go_wp2_with fail
      go_ret2
      exact LnRet.yes Hl.out rfl rfl HS.out (below2 hb2 hb3)
    · rw [decide_eq_false hx] at hcs
      rw [if_neg hx] at hl
      have Hl := hid hl
      have Hcs := hid hcs
      clear hl hcs hx hs2
      go_enter Tryd.func6, Tryd.ntmps6
      go_wp2_with fail
      refine (Hcs.out).mono ?_
      rintro e w1 ⟨rfl, hw1⟩
      subst hw1
      go_wp2_with fail
      go_ret2
      exact LnRet.no Hl.out rfl (Below.refl _ _)
end Go.Proofs.YtikgaknmmbmnoaaDoor
