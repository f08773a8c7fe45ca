/- Contracts of the document's own answer for layer 11 (room): Walk. -/
import Derived.Test.YtodhpdaoghbmcaaRomE
namespace Go.Proofs.Ytodhpdaoghbmcaa
open Go.RowKit

def wkAt (ls : List (List Int)) (a b : Int) : Int := if 0 ≤ a ∧ a < ls.length ∧ 0 ≤ b ∧ b < (ls.getD a.toNat []).length then (ls.getD a.toNat []).getD b.toNat 0 else 0
theorem rows2_ad {w : World} {B : Nat} {A : Option Addr} {ls : List (List Int)} (h : Rows2 w B A ls) {k : Nat} (hk : k < ls.length) : ∃ ad r Ak ck, A = some ad ∧ ad.block < B ∧ Hid (ls[k]? = some r) ∧ w.cell? (ad.add k) = some (.slice Ak r.length ck) ∧ Its w B Ak r ∧ r.length ≤ ck := by
  obtain ⟨ad, e, hb, hc⟩ := h (by intro e; subst e; simp at hk)
  obtain ⟨Ak, ck, h1, h2, h3⟩ := hc k ls[k] (List.getElem?_eq_getElem hk)
  exact ⟨ad, ls[k], Ak, ck, e, hb, List.getElem?_eq_getElem hk, h1, h2, h3⟩
end Go.Proofs.Ytodhpdaoghbmcaa
