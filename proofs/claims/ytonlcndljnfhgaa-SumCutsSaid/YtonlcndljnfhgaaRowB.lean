/- The document's answer for 'the same bytes?' (ref03.Same); bytes' cells. -/
import Derived.Test.YtonlcndljnfhgaaRow
namespace Go.Proofs.Ytonlcndljnfhgaa
open Go.RowKit
theorem Try.info_u8 : (Try.prog.info? 5).map (fun i => (i.zero, i.size, i.bytes)) = some (some (.int .u8 0), 1, 1) := by kernel_rfl
theorem p_Same (A A' : Option Addr) (n n' c c' : Nat) (a b : List UInt8) (hn : a.length = n) (hn' : b.length = n') (B B' : Nat) (w : World) (h : Byt w B A a) (h' : Byt w B' A' b) :
    Calls Try.prog 12 #[.slice A n c, .slice A' n' c'] w (BoolRet (decide (a = b)) w) := by
  have hc1 := run_text_rd (P := Try.prog) w Try.underlying22 Try.underlying5 Try.underlying9 (c := c) _ hn h
  have hc2 := run_text_rd (P := Try.prog) w Try.underlying22 Try.underlying5 Try.underlying9 (c := c') _ hn' h'
  clear h h' hn hn'
  go_enter Try.func12, Try.ntmps12
  go_wp2_with fail
  go_ret
  refine BoolRet.mk ?_ _
  rw [Bool.eq_iff_iff]
  simp only [list_of, bs_data, beq_iff_eq, decide_eq_true_iff]

end Go.Proofs.Ytonlcndljnfhgaa
