/-
  Walks: the text of an expression: repetitions, nots, parentheses; all expressions.
-/
import Derived.Test.YtjpcojabdjldbaaPSeq
import Derived.Test.YtjpcojabdjldbaaPAlt
namespace Go.Proofs.Ytjpcojabdjldbaa
open Go.RowKit
open M (OpD NodeD Gr TX byteT setT b1 grp)
set_option linter.unusedVariables false
set_option linter.unusedSimpArgs false

theorem stepCall3 {P : Program} {ops : Array Oper} {o : Oper} {a : Act} {w : World} {K : Act → World → Prop} {P' : Exit → Act → World → Prop} {E : Prop} {f : FuncId} (hf : ∀ args w, (callFunc f args).run P w = .ok (.enter f args) w) (hgd : o.guard = none) (x1 x2 x3 : Operand) (t1 t2 t3 : TypeId)
    (ho : o.op = .call { callee := .value (.func f), args := #[x1, x2, x3], argTypes := #[t1, t2, t3] }) {y1 y2 y3 : Value} (hx1 : a.eval x1 = y1) (hx2 : a.eval x2 = y2) (hx3 : a.eval x3 = y3) (h : Calls P f #[y1, y2, y3] w (fun e w' => ∃ u, e = .returned u ∧ K (a.put o.dst u) w')) : if Region.wanted o (yielded ops a.tmps) = true then Oper.wp P o a w K P' else E := by
  have hw : Region.wanted o (yielded ops a.tmps) = true := by simp [Region.wanted, hgd]
  rw [if_pos hw]
  have hrun : (execOp a.eval o).run P w = .ok (.enter f #[y1, y2, y3]) w := by
    have e : a.eval (.func f) = .func (.func f) #[] #[] := rfl
    unfold execOp
    simp only [ho, resolve, invoke, Deferred.ofValue, Sem.run_bind, Sem.run_pure, Result.andThen_ok, List.map_toArray, List.map_cons, List.map_nil, hx1, hx2, hx3, e]
    exact hf #[y1, y2, y3] w
  unfold Oper.wp
  rw [hrun]
  refine Calls.mono h ?_
  rintro e w' ⟨u, rfl, hk⟩
  exact hk
theorem enter91 (args : Array Value) (w : World) : (callFunc 91 args).run Try.prog w = .ok (.enter 91 args) w := by
  simp [callFunc, Try.func91, Try.f91, go_sem]

set_option maxRecDepth 100000 in
set_option maxHeartbeats 8000000 in
theorem core_star (x : TX) (hx : Full x) : Core (.star x) := by
  intro Q Qs v ve r w least hl h0 hO hv hq hF hL
  have HO : Hid (OutQ Q w v r) := hO
  have HFX : Hid (Full x) := hx
  obtain ⟨va, vc, rfl⟩ := hO.shape
  obtain ⟨vx, rfl, hvx⟩ := hv
  obtain ⟨ux, px, rfl⟩ := hvx.iface
  have HVX : Hid (IsV Qs w x (.iface ux px)) := hvx
  have HQ : Hid (Apart Qs Q w) := hq
  have HF : Hid (x.Fine) := hF
  have hl' : least ≤ 3 := hl
  have HT : Hid ((TX.star x).text = grp (x.bind < 4) x.text ++ b1 42) := by show _ = _; rfl
  have HL : Hid (r.size + ((grp (x.bind < 4) x.text).size + 1) ≤ 12000000) := by
    have e : (TX.star x).text.size = (grp (x.bind < 4) x.text).size + 1 := by rw [HT.out, ByteArray.size_append]; rfl
    show _ ≤ _
    rw [e] at hL
    exact hL
  clear hO hq hF hL hl hvx hx
  have hm := meth169 #[(.iface ux px)]
  have a1 := as169_159 #[(.iface ux px)]
  have a2 := as169_162 #[(.iface ux px)]
  have a3 := as169_164 #[(.iface ux px)]
  have a4 := as169_166 #[(.iface ux px)]
  have a5 := as169_167 #[(.iface ux px)]
  have a6 := as169_169 #[(.iface ux px)]
  go_enter Try.func91, Try.ntmps91
  go_wp2_with fail
  refine (bind169 _ _).mono ?_
  rintro e W1 ⟨rfl, hb1⟩
  have B1 : Hid (Below w.heap.size w (W1.alloc (.cells #[(.iface ux px)] 169))) := bel_tr hb1 (bel1 W1 _)
  have x0 : (W1.alloc (.cells #[(.iface ux px)] 169)).cell? ⟨W1.heap.size, 0, none⟩ = some (.iface ux px) := cN W1.heap.size rfl rfl
  have HX : Hid (Gone Q (W1.alloc (.cells #[(.iface ux px)] 169)) (W1.alloc (.cells #[(.iface ux px)] 169)) (.slice va r.size vc) r) := Gone.start (HO.out.later B1.out)
  have HQX : Hid (Apart Qs Q (W1.alloc (.cells #[(.iface ux px)] 169))) := HQ.out.below B1.out.size
  have HVX1 : Hid (IsV Qs (W1.alloc (.cells #[(.iface ux px)] 169)) x (.iface ux px)) := IsV.later B1.out x (.iface ux px) HVX.out
  clear hb1
  go_wp2_with fail
  refine (HX.out.call (fun Q' ho hq' => HFX.out Q' Qs _ (.iface ux px) r _ 4 (by omega) (by omega) ho HVX1.out (HQX.out.next (Nat.le_refl _) hq') HF.out (by have := HL.out; omega))).mono ?_
  rintro e W2 ⟨a2, c2, r2, rfl, F1, F2, F3⟩
  go_wp2_with (at_builtin; refine outA (t := b1 42) rfl _ _ 22 rfl rfl rfl (F3.out.later (bel1 W2 _)) (src_new W2 (b1 42) 1 1 rfl _ rfl) 12000000 4 (by have := F2.out; have := HL.out; omega) (by decide) (by omega) (by decide) ?_; intro W3 r3 a3 c3 G1 G2 G3)
  go_ret
  exact ⟨_, rfl, by rw [HT.out, ← ByteArray.append_assoc, ← F1.out, ← G1.out]; exact G3.out.rebase B1.out⟩

set_option maxRecDepth 100000 in
set_option maxHeartbeats 8000000 in
theorem core_not (x : TX) (hx : Full x) : Core (.not x) := by
  intro Q Qs v ve r w least hl h0 hO hv hq hF hL
  have HO : Hid (OutQ Q w v r) := hO
  have HFX : Hid (Full x) := hx
  obtain ⟨va, vc, rfl⟩ := hO.shape
  obtain ⟨vx, rfl, hvx⟩ := hv
  obtain ⟨ux, px, rfl⟩ := hvx.iface
  have HVX : Hid (IsV Qs w x (.iface ux px)) := hvx
  have HQ : Hid (Apart Qs Q w) := hq
  have HF : Hid (x.Fine) := hF
  have hl' : least ≤ 2 := hl
  have HT : Hid ((TX.not x).text = b1 33 ++ grp (x.bind < 2) x.text) := by show _ = _; rfl
  have HL : Hid (r.size + (1 + (grp (x.bind < 2) x.text).size) ≤ 12000000) := by
    have e : (TX.not x).text.size = 1 + (grp (x.bind < 2) x.text).size := by rw [HT.out, ByteArray.size_append]; rfl
    show _ ≤ _
    rw [e] at hL
    exact hL
  have hr : r.size ≤ 12000000 := by have := HL.out; omega
  clear hO hq hF hL hl hvx hx
  have hm := meth170 #[(.iface ux px)]
  have a1 := as170_159 #[(.iface ux px)]
  have a2 := as170_162 #[(.iface ux px)]
  have a3 := as170_164 #[(.iface ux px)]
  have a4 := as170_166 #[(.iface ux px)]
  have a5 := as170_167 #[(.iface ux px)]
  have a6 := as170_169 #[(.iface ux px)]
  have a7 := as170_170 #[(.iface ux px)]
  go_enter Try.func91, Try.ntmps91
  go_wp2_with fail
  refine (bind170 _ _).mono ?_
  rintro e W1 ⟨rfl, hb1⟩
  have B1 : Hid (Below w.heap.size w (W1.alloc (.cells #[(.iface ux px)] 170))) := bel_tr hb1 (bel1 W1 _)
  have x0 : (W1.alloc (.cells #[(.iface ux px)] 170)).cell? ⟨W1.heap.size, 0, none⟩ = some (.iface ux px) := cN W1.heap.size rfl rfl
  have HX : Hid (Gone Q (W1.alloc (.cells #[(.iface ux px)] 170)) (W1.alloc (.cells #[(.iface ux px)] 170)) (.slice va r.size vc) r) := Gone.start (HO.out.later B1.out)
  have HNQ : Hid (¬ Q W1.heap.size) := not_q HO.out hb1.size
  have lb : W1.heap.size < (W1.alloc (.cells #[(.iface ux px)] 170)).heap.size := lt_of_cell x0
  have HQX : Hid (Apart Qs Q (W1.alloc (.cells #[(.iface ux px)] 170))) := HQ.out.below B1.out.size
  have HVX1 : Hid (IsV Qs (W1.alloc (.cells #[(.iface ux px)] 170)) x (.iface ux px)) := IsV.later B1.out x (.iface ux px) HVX.out
  clear hb1
  go_wp2
  generalize W1.alloc (.cells #[(.iface ux px)] 170) = X at *
  generalize W1.heap.size = bx at *
  have y0 : (X.alloc (.cells #[.int .u8 33] 5)).cell? ⟨bx, 0, none⟩ = some (.iface ux px) := cellOn _ x0
  go_region_law (first
    | (refine outS (t := b1 33) rfl (.tmp 87) (.tmp 88) 22 rfl (v := .slice va r.size vc) (y := .slice (some ⟨X.heap.size, 0, none⟩) 1 1) (by simp [Act.eval, Act.put]) (by simp [Act.eval, Act.put]) (HX.out.later (bel1 X _).drew) (src_new X.drew (b1 33) 1 1 rfl _ rfl) 12000000 4 hr (by decide) (by omega) (by decide) ?_
       intro W r' a' c' E1 E2 E3
       have z0 : W.cell? ⟨bx, 0, none⟩ = some (.iface ux px) := (E3.out.keep.cell (p := ⟨bx, 0, none⟩) lb HNQ.out).trans x0)
    | (refine stepCall3 enter91 rfl (.tmp 89) (.tmp 91) (.const (.int .i64 2)) 22 73 3 rfl (y1 := .slice a' r'.size c') (y2 := .iface ux px) (y3 := .int .i64 2) (by simp [Act.eval, Act.put]) (by simp [Act.eval, Act.put]) (by simp [Act.eval, Act.put]) ((E3.out.call (fun Q' ho hq' => HFX.out Q' Qs (.slice a' r'.size c') (.iface ux px) r' W 2 (by omega) (by omega) ho (IsV.on (HQX.out.gone E3.out) x (.iface ux px) HVX1.out) (HQX.out.next E3.out.size hq') HF.out (by have h1 := HL.out; have h3 := size_eq E1.out; have h4 : (b1 33).size = 1 := rfl; omega))).mono ?_)
       rintro e W2 ⟨a2, c2, r2, rfl, F1, F2, F3⟩
       refine ⟨_, rfl, ?_⟩))
  all_goals go_goals
  all_goals go_wp2
  all_goals go_ret
  all_goals exact ⟨_, rfl, by rw [HT.out, ← ByteArray.append_assoc, ← E1.out, ← F1.out]; exact F3.out.rebase B1.out⟩

/-- How tightly a value binds is told by its method. -/
def BindIs (t : TX) (ve : Value) : Prop := ∃ u f xs, ve = .iface u (.agg xs) ∧ (∀ w, (method 304 u (.agg xs) "loop.example/s0055/impl.binding").run Try.prog w = .ok (f, .agg xs) w) ∧
  (∀ args w, (callFunc f args).run Try.prog w = .ok (.enter f args) w) ∧ ∀ w, Calls Try.prog f #[.agg xs] w fun e w' => e = .returned (.int .i64 t.bind) ∧ Below w.heap.size w w'
theorem bind_is {Qs : Nat → Prop} {w : World} {t : TX} {ve : Value} (h : IsV Qs w t ve) : BindIs t ve := by
  cases t with
  | empty => exact ⟨172, 171, #[], h, meth172 #[], fun args w => by simp [callFunc, Try.func171, Try.f171, go_sem], fun w => bind171 w⟩
  | set n S =>
    obtain ⟨a, c, h1, _⟩ := h
    exact ⟨159, 164, _, h1, meth159 _, fun args w => by simp [callFunc, Try.func164, Try.f164, go_sem], fun w => bind164 _ w⟩
  | ref s => exact ⟨162, 165, _, h, meth162 _, fun args w => by simp [callFunc, Try.func165, Try.f165, go_sem], fun w => bind165 _ w⟩
  | thr s => exact ⟨164, 166, _, h, meth164 _, fun args w => by simp [callFunc, Try.func166, Try.f166, go_sem], fun w => bind166 _ w⟩
  | seq x y =>
    obtain ⟨vx, vy, h1, _⟩ := h
    exact ⟨166, 167, _, h1, meth166 _, fun args w => by simp [callFunc, Try.func167, Try.f167, go_sem], fun w => bind167 _ _ w⟩
  | alt x y =>
    obtain ⟨vx, vy, h1, _⟩ := h
    exact ⟨167, 168, _, h1, meth167 _, fun args w => by simp [callFunc, Try.func168, Try.f168, go_sem], fun w => bind168 _ _ w⟩
  | star x =>
    obtain ⟨vx, h1, _⟩ := h
    exact ⟨169, 169, _, h1, meth169 _, fun args w => by simp [callFunc, Try.func169, Try.f169, go_sem], fun w => bind169 _ w⟩
  | not x =>
    obtain ⟨vx, h1, _⟩ := h
    exact ⟨170, 170, _, h1, meth170 _, fun args w => by simp [callFunc, Try.func170, Try.f170, go_sem], fun w => bind170 _ w⟩

set_option maxRecDepth 100000 in
set_option maxHeartbeats 8000000 in
theorem full_of (t : TX) (hc : Core t) : Full t := by
  intro Q Qs v ve r w least h0 h4 hO hv hq hF hL
  by_cases hb : t.bind < least
  · have e : grp (decide (t.bind < least)) t.text = b1 40 ++ t.text ++ b1 41 := by unfold grp; rw [if_pos (by simp [hb])]
    rw [e] at hL ⊢
    have HC : Hid (Core t) := hc
    have HO : Hid (OutQ Q w v r) := hO
    have HV : Hid (IsV Qs w t ve) := hv
    have HQ : Hid (Apart Qs Q w) := hq
    have HF : Hid t.Fine := hF
    have HL : Hid (r.size + (1 + t.text.size + 1) ≤ 12000000) := by
      show _ ≤ _
      rw [ByteArray.size_append, ByteArray.size_append] at hL
      exact hL
    have hbp := M.TX.bind_pos t
    have HBP : Hid (0 ≤ t.bind) := hbp
    have hr : r.size ≤ 12000000 := by have := HL.out; omega
    obtain ⟨va, vc, rfl⟩ := hO.shape
    obtain ⟨u, f, xs, rfl, hm, hent, hcall⟩ := bind_is hv
    have HCALL : Hid (∀ w, Calls Try.prog f #[.agg xs] w fun e w' => e = .returned (.int .i64 t.bind) ∧ Below w.heap.size w w') := hcall
    have hbd : decide (t.bind < least) = true := by simp [hb]
    clear hO hv hq hF hL hc e hcall
    generalize t.bind = tb at *
    go_enter Try.func91, Try.ntmps91
    go_wp2_with fail
    refine (HCALL.out _).mono ?_
    rintro e W1 ⟨rfl, hb1⟩
    have B1 : Hid (Below w.heap.size w W1) := hb1
    have B2 : Hid (Below w.heap.size w (W1.alloc (.cells #[.int .u8 40] 5))) := bel_tr hb1 (bel1 W1 _)
    have HX : Hid (Gone Q w (W1.alloc (.cells #[.int .u8 40] 5)) (.slice va r.size vc) r) := (Gone.start HO.out).later B2.out
    clear hb1
    go_wp2_with (at_builtin; refine outA (t := b1 40) rfl _ _ 22 rfl rfl rfl HX.out (src_new W1 (b1 40) 1 1 rfl _ rfl) 12000000 4 hr (by decide) (by omega) (by decide) ?_; intro W3 r3 a3 c3 G1 G2 G3)
    refine (G3.out.call (fun Q' ho hq' => HC.out Q' Qs _ (.iface u (.agg xs)) r3 _ 0 (M.TX.bind_pos t) (by omega) ho (IsV.on (HQ.out.gone G3.out) t (.iface u (.agg xs)) HV.out) (HQ.out.next G3.out.size hq') HF.out (by have h1 := HL.out; have h3 := size_eq G1.out; have h4 : (b1 40).size = 1 := rfl; omega))).mono ?_
    rintro e W4 ⟨a4, c4, r4, rfl, J1, J2, J3⟩
    go_wp2_with (at_builtin; refine outA (t := b1 41) rfl _ _ 22 rfl rfl rfl (J3.out.later (bel1 W4 _)) (src_new W4 (b1 41) 1 1 rfl _ rfl) 12000000 4 (by have h1 := HL.out; have h2 := J2.out; have h3 := size_eq G1.out; have h4 : (b1 40).size = 1 := rfl; omega) (by decide) (by omega) (by decide) ?_; intro W5 r5 a5 c5 K1 K2 K3)
    go_ret
    exact ⟨_, rfl, by rw [← ByteArray.append_assoc, ← ByteArray.append_assoc, ← G1.out, ← J1.out, ← K1.out]; exact K3.out⟩
  · have e : grp (decide (t.bind < least)) t.text = t.text := by unfold grp; rw [if_neg (by simp; omega)]
    rw [e] at hL ⊢
    exact hc Q Qs v ve r w least (by omega) h0 hO hv hq hF hL

theorem full_any (t : TX) : Full t := by
  induction t with
  | empty => exact full_of _ core_empty
  | set n S => exact full_of _ (core_set n S)
  | ref s => exact full_of _ (core_ref s)
  | thr s => exact full_of _ (core_thr s)
  | seq x y ihx ihy => exact full_of _ (core_seq x y ihx ihy)
  | alt x y ihx ihy => exact full_of _ (core_alt x y ihx ihy)
  | star x ih => exact full_of _ (core_star x ih)
  | not x ih => exact full_of _ (core_not x ih)

/-- The whole expression. -/
theorem appendExpr_any (t : TX) (Q Qs : Nat → Prop) (v ve : Value) (r : ByteArray) (w : World) (hO : OutQ Q w v r) (hv : IsV Qs w t ve) (hq : Apart Qs Q w) (hF : t.Fine) (hL : r.size + t.text.size ≤ 12000000) :
    Calls Try.prog 91 #[v, ve, .int .i64 0] w (Puts Q r t.text w) := by
  have hp := M.TX.bind_pos t
  have e : grp (decide (t.bind < 0)) t.text = t.text := by unfold grp; rw [if_neg (by simp; omega)]
  have := full_any t Q Qs v ve r w 0 (by omega) (by omega) hO hv hq hF (by rw [e]; exact hL)
  rw [e] at this
  exact this

end Go.Proofs.Ytjpcojabdjldbaa
