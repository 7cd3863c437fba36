/-
  Walks: the text of an expression: leaves.
-/
import Derived.Test.YtjpcojabdjldbaaPVal
namespace Go.Proofs.Ytjpcojabdjldbaa
open Go.RowKit
open M (OpD NodeD Gr TX byteT setT b1 grp)
set_option linter.unusedVariables false
set_option linter.unusedSimpArgs false

set_option maxRecDepth 100000 in
set_option maxHeartbeats 8000000 in
theorem core_ref (s : ByteArray) : Core (.ref s) := by
  intro Q Qs v ve r w least hl h0 hO hv hq hF hL
  have H : Hid (Gone Q w w v r) := Gone.start hO
  obtain ⟨va, vc, rfl⟩ := hO.shape
  obtain rfl : ve = .iface 162 (.agg #[.string s]) := hv
  have hs := hF.1
  have hs2 := hF.2
  have hl' : least ≤ 4 := hl
  have hr : r.size ≤ 12000000 := by omega
  clear hO hq hF hL hl
  have hm := meth162 #[.string s]
  have a1 := as162_159 #[.string s]
  have a2 := as162_162 #[.string s]
  go_enter Try.func91, Try.ntmps91
  go_wp2_with (first | (go_at_call 165; refine (bind165 _ _).mono ?_; rintro e W1 ⟨rfl, hb1⟩; have B1 : Hid (Below w.heap.size w W1) := hb1; clear hb1) | (at_builtin; refine outA (t := s) rfl _ _ 9 rfl rfl rfl (H.out.later (bel_tr B1.out (bel1 W1 _))) (src_str _ s) 12000000 32 hr hs2 (by omega) hs ?_; intro W r' a' c' E1 E2 E3))
  go_ret
  exact ⟨_, rfl, E1.out ▸ E3.out⟩

theorem size_eq {a b c : ByteArray} (h : a = b ++ c) : a.size = b.size + c.size := by rw [h, ByteArray.size_append]
theorem not_q {Q : Nat → Prop} {w W : World} {v : Value} {r : ByteArray} (h : OutQ Q w v r) (k : w.heap.size ≤ W.heap.size) : ¬ Q W.heap.size := fun q => by have := h.lt _ q; omega
theorem Apart.below {Qs Q : Nat → Prop} {w w' : World} (h : Apart Qs Q w) (k : w.heap.size ≤ w'.heap.size) : Apart Qs Q w' := fun b hb => ⟨(h b hb).1, Nat.lt_of_lt_of_le (h b hb).2 k⟩

set_option maxRecDepth 100000 in
set_option maxHeartbeats 8000000 in
theorem core_empty : Core .empty := by
  intro Q Qs v ve r w least hl h0 hO hv hq hF hL
  have H : Hid (Gone Q w w v r) := Gone.start hO
  obtain ⟨va, vc, rfl⟩ := hO.shape
  obtain rfl : ve = .iface 172 (.agg #[]) := hv
  have hl' : least ≤ 4 := hl
  have hr : r.size ≤ 12000000 := by omega
  clear hO hq hF hL hl
  have hm := meth172 #[]
  have a1 := as172_159 #[]
  have a2 := as172_162 #[]
  have a3 := as172_164 #[]
  have a4 := as172_166 #[]
  have a5 := as172_167 #[]
  have a6 := as172_169 #[]
  have a7 := as172_170 #[]
  go_enter Try.func91, Try.ntmps91
  go_wp2_with (first | (go_at_call 171; refine (bind171 _).mono ?_; rintro e W1 ⟨rfl, hb1⟩; have B1 : Hid (Below w.heap.size w W1) := hb1; clear hb1) | (at_builtin; refine outA (t := ⟨#[34, 34]⟩) rfl _ _ 9 rfl rfl rfl (H.out.later B1.out) (src_str _ ⟨#[34, 34]⟩) 12000000 32 hr (by decide) (by omega) (by decide) ?_; intro W r' a' c' E1 E2 E3))
  go_ret
  exact ⟨_, rfl, E1.out ▸ E3.out⟩

set_option maxRecDepth 100000 in
set_option maxHeartbeats 8000000 in
theorem core_set (n : Nat) (S : Nat → Int) : Core (.set n S) := by
  intro Q Qs v ve r w least hl h0 hO hv hq hF hL
  have H : Hid (Gone Q w w v r) := Gone.start hO
  obtain ⟨va, vc, rfl⟩ := hO.shape
  obtain ⟨sa, sc, rfl, hI⟩ := hv
  have HI : Hid (Ints Qs .i64 w sa n S) := hI
  have HQ : Hid (Apart Qs Q w) := hq
  have HC : Hid (M.Canon n S) := hF
  have hl' : least ≤ 4 := hl
  have hr : r.size ≤ 12000000 := by omega
  clear hO hq hF hL hl hI
  have hm := meth159 #[.slice sa n sc]
  have a1 := as159_159 #[.slice sa n sc]
  go_enter Try.func91, Try.ntmps91
  go_wp2_with (first | (go_at_call 164; refine (bind164 _ _).mono ?_; rintro e W1 ⟨rfl, hb1⟩; have B1 : Hid (Below w.heap.size w W1) := hb1; clear hb1) | (go_at_call 128; refine ((H.out.later (bel_tr B1.out (bel1 W1 _))).call (fun Q' ho hq' => appendSet_any Q' Qs sa n sc S _ r _ ho (HI.out.later (bel_tr B1.out (bel1 W1 _))) (HQ.out.next (bel_tr B1.out (bel1 W1 _)).size hq') HC.out (by omega))).mono ?_; rintro e W2 ⟨a2, c2, r2, rfl, F1, F2, F3⟩))
  go_ret
  exact ⟨_, rfl, F1.out ▸ F3.out⟩

set_option maxRecDepth 100000 in
set_option maxHeartbeats 8000000 in
theorem core_thr (s : ByteArray) : Core (.thr s) := by
  intro Q Qs v ve r w least hl h0 hO hv hq hF hL
  have HO : Hid (OutQ Q w v r) := hO
  obtain ⟨va, vc, rfl⟩ := hO.shape
  obtain rfl : ve = .iface 164 (.agg #[.string s]) := hv
  have hs := hF.1
  have hs2 := hF.2
  have hl' : least ≤ 4 := hl
  have hr : r.size ≤ 12000000 := by omega
  clear hO hq hF hL hl
  have hm := meth164 #[.string s]
  have a1 := as164_159 #[.string s]
  have a2 := as164_162 #[.string s]
  have a3 := as164_164 #[.string s]
  go_enter Try.func91, Try.ntmps91
  go_wp2_with fail
  refine (bind166 _ _).mono ?_
  rintro e W1 ⟨rfl, hb1⟩
  have B1 : Hid (Below w.heap.size w (W1.alloc (.cells #[.string s] 164))) := bel_tr hb1 (bel1 W1 _)
  have x0 : (W1.alloc (.cells #[.string s] 164)).cell? ⟨W1.heap.size, 0, none⟩ = some (.string s) := cN W1.heap.size rfl rfl
  have HX : Hid (Gone Q (W1.alloc (.cells #[.string s] 164)) (W1.alloc (.cells #[.string s] 164)) (.slice va r.size vc) r) := Gone.start (HO.out.later B1.out)
  have HNQ : Hid (¬ Q W1.heap.size) := not_q HO.out hb1.size
  have lb : W1.heap.size < (W1.alloc (.cells #[.string s] 164)).heap.size := lt_of_cell x0
  clear hb1
  go_wp2
  generalize W1.alloc (.cells #[.string s] 164) = X at *
  generalize W1.heap.size = bx at *
  have y0 : (X.alloc (.cells #[.int .u8 94] 5)).cell? ⟨bx, 0, none⟩ = some (.string s) := cellOn _ x0
  go_region_law (first
    | (refine outS (t := b1 94) rfl (.tmp 44) (.tmp 45) 22 rfl (v := .slice va r.size vc) (y := .slice (some ⟨X.heap.size, 0, none⟩) 1 1) (by simp [Act.eval, Act.put]) (by simp [Act.eval, Act.put]) (HX.out.later (bel1 X _).drew) (src_new X.drew (b1 94) 1 1 rfl _ rfl) 12000000 4 hr (by decide) (by omega) (by decide) ?_
       intro W r' a' c' E1 E2 E3
       have z0 : W.cell? ⟨bx, 0, none⟩ = some (.string s) := (E3.out.keep.cell (p := ⟨bx, 0, none⟩) lb HNQ.out).trans x0)
    | (refine outS (t := s) rfl (.tmp 46) (.tmp 48) 9 rfl (v := .slice a' r'.size c') (y := .string s) (by simp [Act.eval, Act.put]) (by simp [Act.eval, Act.put]) E3.out (src_str _ s) 12000004 32 (by have := E2.out; omega) hs2 (by omega) hs ?_
       intro W3 r3 a3 c3 G1 G2 G3))
  all_goals go_goals
  all_goals go_wp2
  all_goals go_ret
  all_goals exact ⟨_, rfl, by show Gone Q w _ _ (r ++ (b1 94 ++ s)); rw [← ByteArray.append_assoc, ← E1.out, ← G1.out]; exact G3.out.rebase B1.out⟩


end Go.Proofs.Ytjpcojabdjldbaa
