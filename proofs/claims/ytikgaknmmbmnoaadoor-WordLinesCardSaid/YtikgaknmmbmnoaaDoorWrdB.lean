/- Contracts of layer 2 (word): what Unquote returns, for every text that is not too long for a machine. -/
import Derived.Test.YtikgaknmmbmnoaaDoorWrdA
import Derived.Lib.IndexBytes
namespace Go.Proofs.YtikgaknmmbmnoaaDoor
open Go.RowKit

theorem Tryd.info_u8 : (Tryd.prog.info? 5).map (fun i => (i.zero, i.size, i.bytes)) = some (some (.int .u8 0), 1, 1) := by kernel_rfl

def cod (o : Option (List UInt8)) : Int := if o.isSome = true then 0 else 3
def UqRet (l : List UInt8) (w : World) (e : Ending) (w' : World) : Prop := e = .returned (.tuple #[txt ((Wrd.uq l).getD []), .int .i64 (cod (Wrd.uq l))]) ∧ Below w.heap.size w w'
theorem UqRet.no {l : List UInt8} {w w' : World} {s : ByteArray} {x : Int} (h : Wrd.uq l = none) (hs : s = ⟨#[]⟩) (hx : x = 3) (hb : Below w.heap.size w w') : UqRet l w (.returned (.tuple #[.string s, .int .i64 x])) w' := by
  unfold UqRet; rw [h, hs, hx]; exact ⟨rfl, hb⟩
theorem UqRet.yes {l t : List UInt8} {w w' : World} {s : ByteArray} {x : Int} (h : Wrd.uq l = some t) (hs : s = bs t) (hx : x = 0) (hb : Below w.heap.size w w') : UqRet l w (.returned (.tuple #[.string s, .int .i64 x])) w' := by
  unfold UqRet; rw [h, hs, hx]; exact ⟨rfl, hb⟩

theorem size_ext (s : ByteArray) (k : Nat) : (s.extract k s.size).size = s.size - k := by simp

theorem p_Unquote (s : ByteArray) (hm : s.size ≤ 1000000) (w : World) :
    Calls Tryd.prog 12 #[.string s] w (UqRet s.data.toList w) := by
  have hm' : s.size ≤ maxLen := by unfold maxLen; omega
  by_cases h37 : s = ⟨#[37]⟩
  · subst h37
    have hq := hid (show Wrd.uq [37] = some [] from rfl)
    go_enter Tryd.func12, Tryd.ntmps12
    go_wp2
    go_ret2
    exact UqRet.yes hq.out rfl rfl (Below.refl _ _)
  · by_cases h0 : s = ⟨#[]⟩
    · subst h0
      have hq := hid (show Wrd.uq [] = none from rfl)
      clear h37
      go_enter Tryd.func12, Tryd.ntmps12
      go_wp2
      go_ret2
      exact UqRet.no hq.out rfl rfl (Below.refl _ _)
    · have hne : s.data.toList ≠ [] := fun e => h0 (by rw [← of_bs s, e]; rfl)
      have e37 : (s.toList == [37]) = false := by rw [beq_eq_false_iff_ne, list_of]; exact fun e => h37 (by rw [← of_bs s, e]; rfl)
      have e0 : ¬ s.toList = [] := by rw [list_of]; exact hne
      have e0' : s.toList.isEmpty = false := by rw [List.isEmpty_eq_false_iff]; exact e0
      have Huq : Hid (Wrd.uq s.data.toList = Wrd.dec Wrd.ld s.data.toList) := by
        show Wrd.uq _ = _
        unfold Wrd.uq
        rw [if_neg (fun e => h37 (by rw [← of_bs s, e]; rfl)), if_neg hne]
      have Hlen := hid (data_len s)
      obtain ⟨i0, hi, hz0, hz1, hz2⟩ := info_parts Tryd.info_u8
      clear h37 h0 hne
      go_enter Tryd.func12, Tryd.ntmps12
      go_wp2_with fail
      go_loopw [4, 5] (fun v i wr => ∃ (k : Nat) (acc : List UInt8), i = .int .i64 k ∧ Wrd.Got Wrd.ld s.data.toList k acc ∧ acc.length ≤ k ∧ wr.ownsRow w.heap.size 5 1 v acc.length (acc.map bcell) ∧ Below w.heap.size w wr) (fun _ i _ => s.size - (intOf i).toNat)
      case atStart => exact ⟨0, [], rfl, Wrd.Got.start _ _, Nat.le_refl _, World.ownsRow_nil _ _ _ _, Below.refl _ _⟩
      case round =>
        obtain ⟨k, acc, rfl, hgot, hacc, hown, hb⟩ := hrel
        have hk := hgot.1
        rw [Hlen.out] at hk
        have Hgot := hid hgot
        clear hgot
        by_cases hlt : k < s.size
        · have Hld := hid (fun w => p_ld (s.extract k s.size) (by rw [size_ext]; omega) (by rw [size_ext]; unfold maxLen; omega) w)
          rw [Lib.extract_to_end] at Hld
          have hlk : k < s.data.toList.length := by rw [Hlen.out]; exact hlt
          by_cases hz : (Wrd.ld (s.data.toList.drop k)).2 = 0
          · have Hno := hid (Huq.out.trans (Hgot.out.stop hlk hz))
            unfold Led at Hld
            rw [hz] at Hld
            clear hz hlk
            go_wp2_with fail
            refine (Hld.out _).mono ?_
            rintro e w' ⟨rfl, n, rfl⟩
            go_wp2_with fail
            go_ret2
            exact UqRet.no Hno.out rfl rfl (below_drewN hb _)
          · have hle : k + (Wrd.ld (s.data.toList.drop k)).2 ≤ s.data.toList.length := by
              have := (Wrd.ld_inv _ hz).2.2.1
              rw [List.length_drop] at this
              omega
            have Hstep := hid (Hgot.out.step hlk hz hle)
            have hle' : k + (Wrd.ld (s.data.toList.drop k)).2 ≤ s.size := by rw [Hlen.out] at hle; exact hle
            unfold Led at Hld
            generalize Wrd.ld (s.data.toList.drop k) = p at *
            obtain ⟨c, n⟩ := p
            simp only [] at hz hle' Hstep Hld
            have hz' : ((n : Int) == 0) = false := by rw [beq_eq_false_iff_ne]; omega
            clear hz hlk hle Hgot
            go_wp2_with fail
            refine (Hld.out _).mono ?_
            rintro e w' ⟨rfl, m, rfl⟩
            have hbs := hb.size
            have hn3 : acc.length + 1 ≤ maxLen := by unfold maxLen; omega
            have hn4 : (acc.length + 1) * 1 ≤ 140737488355328 := by omega
            go_wp2_with (at_builtin; refine wpList_append_own _ rfl (.tmp 25) (.tmp 27) 43 rfl w.heap.size 5 i0 (.int .u8 0) 1 1 Tryd.underlying43 hi hz0 hz1 hz2 rfl (by decide) _ _ _ rfl ((own_drewN hown m).alloc _) ⟨wr.heap.size, 0, none⟩ 1 1 [.int .u8 (c.toNat : Int)] rfl rfl (lit_one _ _ _) (int_one _ _) hn3 hn4 (le_alloc (w := wr.drewN m) hbs _) ?_; intro v1 w1 hown1 hgrow _)
            have hn0 : n ≠ 0 := by rw [beq_eq_false_iff_ne] at hz'; omega
            refine ⟨⟨k + n, acc ++ [c], by go_num, Hstep.out, by simp; omega, ?_, ?_⟩, by simp [intOf]; omega⟩
            · rw [List.length_append, List.map_append]
              exact hown1
            · exact ((below_drewN hb m).alloc hbs _).grown hgrow (le_alloc (w := wr.drewN m) hbs _) (fun g hg => (hown.lt g hg).1)
        · have Hyes := hid (Huq.out.trans (Hgot.out.last (by rw [Hlen.out]; omega)))
          have hconv := run_text_own (P := Tryd.prog) wr Tryd.underlying43 Tryd.underlying5 Tryd.underlying9 acc hown
          clear hown Hgot
          go_wp2_with fail
          go_ret2
          exact UqRet.yes Hyes.out rfl rfl hb
end Go.Proofs.YtikgaknmmbmnoaaDoor
