/-
  Walks: the value of an element with one operand.
-/
import Derived.Test.YtjpcojabdjldbaaOv
namespace Go.Proofs.Ytjpcojabdjldbaa
open Go.RowKit
open M (OpD NodeD Gr)
set_option linter.unusedVariables false
set_option linter.unusedSimpArgs false

set_option maxRecDepth 100000 in
set_option maxHeartbeats 4000000 in
theorem ov_star (gp mp : Value) (sa : Option Addr) (nr sc ob oo oc : Nat) (mk : NS) (o : OpD) (x : Opn) (w : World) (hk : o.kind = 6) (hx : OpnC w ob oo x) :
    Calls Try.prog 104 #[.agg #[.int .i64 o.kind, .slice sa o.sl sc, .int .i64 o.arg], .slice (some ⟨ob, oo, none⟩) 1 oc, gp, mp] w (IsOpn (valO nr mk o x default) w) := by
  have hN : ¬ M.Names o := by rintro (q | q) <;> omega
  have HK : Hid (valO nr mk o x default = ⟨true, x.beg, x.nul || x.loop⟩) := by show _ = _; simp [valO, hk, hN]
  have f0 : (o.kind == 0) = false := by simp [hk]
  have f2 : (o.kind == 2) = false := by simp [hk]
  have f3 : (o.kind == 3) = false := by simp [hk]
  have f4 : (o.kind == 4) = false := by simp [hk]
  have f5 : (o.kind == 5) = false := by simp [hk]
  have f6 : (o.kind == 6) = true := by simp [hk]
  obtain ⟨x0, x1, x2, x3, x4, x5⟩ := hx
  have hbl : ob < w.heap.size := lt_of_cell x0
  clear hk hN
  obtain ⟨xn, xb, xl⟩ := x
  cases xn
  all_goals (
    simp only at x0 x1 x2 x3 x4 x5
    go_enter Try.func104, Try.ntmps104
    go_wp2
    go_region
    go_wp2
    refine bodyPost_ret (by simp [results, Try.f104, go_sem]; rfl) rfl ?_
    exact ⟨by rw [HK.out]; exact ret_opn rfl rfl rfl rfl rfl rfl, (bel2 w _ _).drew⟩)

set_option maxRecDepth 100000 in
set_option maxHeartbeats 4000000 in
theorem ov_not (gp mp : Value) (sa : Option Addr) (nr sc ob oo oc : Nat) (mk : NS) (o : OpD) (x : Opn) (w : World) (hk : o.kind = 7) (hx : OpnC w ob oo x) :
    Calls Try.prog 104 #[.agg #[.int .i64 o.kind, .slice sa o.sl sc, .int .i64 o.arg], .slice (some ⟨ob, oo, none⟩) 1 oc, gp, mp] w (IsOpn (valO nr mk o x default) w) := by
  have hN : ¬ M.Names o := by rintro (q | q) <;> omega
  have HK : Hid (valO nr mk o x default = ⟨true, x.beg, x.loop⟩) := by show _ = _; simp [valO, hk, hN]
  have f0 : (o.kind == 0) = false := by simp [hk]
  have f2 : (o.kind == 2) = false := by simp [hk]
  have f3 : (o.kind == 3) = false := by simp [hk]
  have f4 : (o.kind == 4) = false := by simp [hk]
  have f5 : (o.kind == 5) = false := by simp [hk]
  have f6 : (o.kind == 6) = false := by simp [hk]
  have f7 : (o.kind == 7) = true := by simp [hk]
  obtain ⟨x0, x1, x2, x3, x4, x5⟩ := hx
  have hbl : ob < w.heap.size := lt_of_cell x0
  clear hk hN
  go_enter Try.func104, Try.ntmps104
  go_wp2
  go_region
  go_wp2
  refine bodyPost_ret (by simp [results, Try.f104, go_sem]; rfl) rfl ?_
  exact ⟨by rw [HK.out]; exact ret_opn rfl rfl rfl rfl rfl rfl, (bel2 w _ _).drew⟩

end Go.Proofs.Ytjpcojabdjldbaa
