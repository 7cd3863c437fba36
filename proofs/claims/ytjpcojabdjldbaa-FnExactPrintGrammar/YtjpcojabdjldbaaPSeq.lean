/-
  Walks: the text of an expression: one after the other.
-/
import Derived.Test.YtjpcojabdjldbaaPExpr
namespace Go.Proofs.Ytjpcojabdjldbaa
open Go.RowKit
open M (OpD NodeD Gr TX byteT setT b1 grp)
set_option linter.unusedVariables false
set_option linter.unusedSimpArgs false

set_option maxRecDepth 100000 in
set_option maxHeartbeats 8000000 in
theorem core_seq (x y : TX) (hx : Full x) (hy : Full y) : Core (.seq x y) := by
  intro Q Qs v ve r w least hl h0 hO hv hq hF hL
  have HO : Hid (OutQ Q w v r) := hO
  have HFX : Hid (Full x) := hx
  have HFY : Hid (Full y) := hy
  obtain ⟨va, vc, rfl⟩ := hO.shape
  obtain ⟨vx, vy, rfl, hvx, hvy⟩ := hv
  obtain ⟨ux, px, rfl⟩ := hvx.iface
  obtain ⟨uy, py, rfl⟩ := hvy.iface
  have HVX : Hid (IsV Qs w x (.iface ux px)) := hvx
  have HVY : Hid (IsV Qs w y (.iface uy py)) := hvy
  have HQ : Hid (Apart Qs Q w) := hq
  have HF : Hid (x.Fine ∧ y.Fine) := hF
  have hl' : least ≤ 1 := hl
  have HT : Hid ((TX.seq x y).text = grp (x.bind < 1) x.text ++ b1 32 ++ grp (y.bind < 2) y.text) := by show _ = _; rfl
  have HL : Hid (r.size + ((grp (x.bind < 1) x.text).size + 1 + (grp (y.bind < 2) y.text).size) ≤ 12000000) := by
    have e : (TX.seq x y).text.size = (grp (x.bind < 1) x.text).size + 1 + (grp (y.bind < 2) y.text).size := by rw [HT.out, ByteArray.size_append, ByteArray.size_append]; rfl
    show _ ≤ _
    rw [e] at hL
    exact hL
  clear hO hq hF hL hl hvx hvy hx hy
  have hm := meth166 #[(.iface ux px), (.iface uy py)]
  have a1 := as166_159 #[(.iface ux px), (.iface uy py)]
  have a2 := as166_162 #[(.iface ux px), (.iface uy py)]
  have a3 := as166_164 #[(.iface ux px), (.iface uy py)]
  have a4 := as166_166 #[(.iface ux px), (.iface uy py)]
  go_enter Try.func91, Try.ntmps91
  go_wp2_with fail
  refine (bind167 _ _ _).mono ?_
  rintro e W1 ⟨rfl, hb1⟩
  have B1 : Hid (Below w.heap.size w (W1.alloc (.cells #[(.iface ux px), (.iface uy py)] 166))) := bel_tr hb1 (bel1 W1 _)
  have x0 : (W1.alloc (.cells #[(.iface ux px), (.iface uy py)] 166)).cell? ⟨W1.heap.size, 0, none⟩ = some (.iface ux px) := cN W1.heap.size rfl rfl
  have x1 : (W1.alloc (.cells #[(.iface ux px), (.iface uy py)] 166)).cell? ⟨W1.heap.size, 1, none⟩ = some (.iface uy py) := cN W1.heap.size rfl rfl
  have HX : Hid (Gone Q (W1.alloc (.cells #[(.iface ux px), (.iface uy py)] 166)) (W1.alloc (.cells #[(.iface ux px), (.iface uy py)] 166)) (.slice va r.size vc) r) := Gone.start (HO.out.later B1.out)
  have HNQ : Hid (¬ Q W1.heap.size) := not_q HO.out hb1.size
  have lb : W1.heap.size < (W1.alloc (.cells #[(.iface ux px), (.iface uy py)] 166)).heap.size := lt_of_cell x0
  have HQX : Hid (Apart Qs Q (W1.alloc (.cells #[(.iface ux px), (.iface uy py)] 166))) := HQ.out.below B1.out.size
  have HVX1 : Hid (IsV Qs (W1.alloc (.cells #[(.iface ux px), (.iface uy py)] 166)) x (.iface ux px)) := IsV.later B1.out x (.iface ux px) HVX.out
  have HVY1 : Hid (IsV Qs (W1.alloc (.cells #[(.iface ux px), (.iface uy py)] 166)) y (.iface uy py)) := IsV.later B1.out y (.iface uy py) HVY.out
  have X0 : Hid ((W1.alloc (.cells #[(.iface ux px), (.iface uy py)] 166)).cell? ⟨W1.heap.size, 1, none⟩ = some (.iface uy py)) := x1
  clear hb1
  go_wp2_with fail
  refine (HX.out.call (fun Q' ho hq' => HFX.out Q' Qs _ (.iface ux px) r _ 1 (by omega) (by omega) ho HVX1.out (HQX.out.next (Nat.le_refl _) hq') HF.out.1 (by have := HL.out; omega))).mono ?_
  rintro e W2 ⟨a2, c2, r2, rfl, F1, F2, F3⟩
  have z1 : W2.cell? ⟨W1.heap.size, 1, none⟩ = some (.iface uy py) := (F3.out.keep.cell (p := ⟨W1.heap.size, 1, none⟩) lb HNQ.out).trans X0.out
  have l2 : W1.heap.size < W2.heap.size := lt_of_cell z1
  go_wp2_with (at_builtin; refine outA (t := b1 32) rfl _ _ 22 rfl rfl rfl (F3.out.later (bel1 W2 _)) (src_new W2 (b1 32) 1 1 rfl _ rfl) 12000000 4 (by have := F2.out; have := HL.out; omega) (by decide) (by omega) (by decide) ?_; intro W3 r3 a3 c3 G1 G2 G3; have z3 : W3.cell? ⟨W1.heap.size, 1, none⟩ = some (.iface uy py) := (G3.out.keep.cell (p := ⟨W1.heap.size, 1, none⟩) lb HNQ.out).trans X0.out; have l3 : W1.heap.size < W3.heap.size := lt_of_cell z3)
  refine (G3.out.call (fun Q' ho hq' => HFY.out Q' Qs _ (.iface uy py) r3 _ 2 (by omega) (by omega) ho (IsV.on (HQX.out.gone G3.out) y (.iface uy py) HVY1.out) (HQX.out.next G3.out.size hq') HF.out.2 (by have h1 := F2.out; have h2 := HL.out; have h3 := size_eq G1.out; have h4 : (b1 32).size = 1 := rfl; omega))).mono ?_
  rintro e W4 ⟨a4, c4, r4, rfl, J1, J2, J3⟩
  go_wp2
  go_ret
  exact ⟨_, rfl, by rw [HT.out, ← ByteArray.append_assoc, ← ByteArray.append_assoc, ← F1.out, ← G1.out, ← J1.out]; exact J3.out.rebase B1.out⟩


end Go.Proofs.Ytjpcojabdjldbaa
