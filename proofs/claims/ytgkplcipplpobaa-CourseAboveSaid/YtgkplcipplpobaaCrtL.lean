/- The heads of layer 14 (the chapter's example), of the program's own contracts. -/
import Derived.Test.YtgkplcipplpobaaCrtK
import Derived.Test.YtgkplcipplpobaaCrtB
import Derived.Test.YtgkplcipplpobaaCrsR
namespace Go.Proofs.Ytgkplcipplpobaa
open Go.RowKit
open Whn (Gr Wh)

theorem ex_wsok : Wsok exK.ws := by
  refine ⟨by show 1 ≤ maxLen; unfold maxLen; omega, fun ls hls => ?_⟩
  have e : ls = [[0, 1], [2, 3]] := List.mem_singleton.1 hls
  subst e
  refine ⟨by show 2 ≤ maxLen; unfold maxLen; omega, fun l hl => ?_⟩
  have e : l = [0, 1] ∨ l = [2, 3] := by simpa using hl
  rcases e with rfl | rfl
  · exact ⟨by show 2 ≤ maxLen; unfold maxLen; omega, fun i hi => by
      have : i = 0 ∨ i = 1 := by simpa using hi
      unfold I64; omega⟩
  · exact ⟨by show 2 ≤ maxLen; unfold maxLen; omega, fun i hi => by
      have : i = 2 ∨ i = 3 := by simpa using hi
      unfold I64; omega⟩
theorem ex_in (z : Int) : z ∈ [(0 : Int), 1, 2, 3] ↔ inCs exK z := by
  unfold inCs exK
  simp
theorem heads14 (w : World) : Calls Try.prog 10 #[] w (Did (.bool true) w) := by
  refine hd_crs (fun k3 X h => ?_) (fun k3 X h => ?_) (fun k3 A c X h1 h2 => ?_) (fun k3 A c A2 c2 X h1 h2 h3 => ?_) (fun k3 A c A2 c2 X h1 h2 h3 => ?_) (fun A c X h1 => ?_) (fun k3 X h => ?_) w
  · have := p_RightCs 4 (by unfold I64; omega) exK (some ⟨k3, 0, none⟩) 1 ex_wsok X h
    rw [show csRight 4 exK = true by kernel_rfl] at this
    exact this
  · have := p_CountC exK (some ⟨k3, 0, none⟩) 1 ex_wsok X h
    rw [show cntC exK = 4 by kernel_rfl] at this
    exact this
  · have := p_LoadsC A c exC (by show 4 ≤ maxLen; unfold maxLen; omega) exK (some ⟨k3, 0, none⟩) 1 ex_wsok X h1 h2
    rw [show loadsC exC exK = [[0, 2], [1, 3]] by kernel_rfl] at this
    refine Calls.mono this ?_
    rintro e w' ⟨v, rfl, ho, hb⟩
    obtain ⟨A', c', rfl, hr, _, _⟩ := ho.rrow
    exact ⟨A', c', rfl, hr.rows2, hb⟩
  · have := p_TakesC A c exC (by show 4 ≤ maxLen; unfold maxLen; omega) exK (some ⟨k3, 0, none⟩) 1 ex_wsok A2 c2 [1, 3] (by show 2 ≤ maxLen; unfold maxLen; omega) X h1 h2 h3
    rw [show takesC exC exK [1, 3] = true by kernel_rfl] at this
    exact this
  · have := p_TakesC A c exC (by show 4 ≤ maxLen; unfold maxLen; omega) exK (some ⟨k3, 0, none⟩) 1 ex_wsok A2 c2 [0, 3] (by show 2 ≤ maxLen; unfold maxLen; omega) X h1 h2 h3
    rw [show takesC exC exK [0, 3] = false by kernel_rfl] at this
    exact this
  · have := p_AboveC A c exC (by show 4 ≤ 1000000; omega) 3 X h1
    rw [show aboveC exC 3 = [1] by kernel_rfl] at this
    refine Calls.mono this ?_
    rintro e w' ⟨v, rfl, ho, hb⟩
    obtain ⟨A', c', rfl, hr, _⟩ := own_rd ho
    exact ⟨A', c', rfl, hr, hb⟩
  · have := p_ClassesC exK (some ⟨k3, 0, none⟩) 1 (by kernel_rfl) X h
    refine Calls.mono this ?_
    rintro e w' ⟨A', c', m, rfl, hr, hp, hz, hb⟩
    have hm : m = [0, 1, 2, 3] := rising_ext hp (by decide) (fun z => (hz z).trans (ex_in z).symm)
    subst hm
    exact ⟨A', c', rfl, hr, hb⟩
end Go.Proofs.Ytgkplcipplpobaa
