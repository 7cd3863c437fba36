/-
  Walks: the tree of a body.
-/
import Derived.Test.YtjpcojabdjldbaaPVal
import Derived.Test.YtjpcojabdjldbaaPTree
import Derived.Test.YtjpcojabdjldbaaOfold
namespace Go.Proofs.Ytjpcojabdjldbaa
open Go.RowKit
open M (OpD NodeD Gr TX)
set_option linter.unusedVariables false
set_option linter.unusedSimpArgs false

/-! ### What has cells lies in the world -/
theorem Ints.inw {Q : Nat → Prop} {k : IntKind} {w : World} {a : Option Addr} {n : Nat} {S : Nat → Int} (h : Ints Q k w a n S) : Ints (Of w) k w a n S := by
  by_cases e : n = 0
  · exact .inl e
  · rcases h with h | ⟨b, off, h1, hq, h2⟩
    · exact .inl h
    · exact .inr ⟨b, off, h1, lt_of_cell (h2 0 (by omega)), h2⟩
theorem OpC.inw {Q : Nat → Prop} {w : World} {b o : Nat} {d : OpD} (h : OpC Q w b o d) : OpC (Of w) w b o d := by
  obtain ⟨h1, ⟨a, c, h2, h3⟩, h4⟩ := h
  exact ⟨h1, ⟨a, c, h2, h3.inw⟩, h4⟩
theorem OpsA.inw {Q : Nat → Prop} {w : World} {a : Option Addr} {n : Nat} {B : Nat → OpD} (h : OpsA Q w a n B) : OpsA (Of w) w a n B := by
  by_cases e : n = 0
  · exact .inl e
  · rcases h with h | ⟨b, off, h1, hq, h2⟩
    · exact .inl h
    · exact .inr ⟨b, off, h1, lt_of_cell (h2 0 (by omega)).kind, fun i hi => (h2 i hi).inw⟩

/-- A tree is answered. -/
def GivesT (Qs : Nat → Prop) (t : TX) (w : World) (e : Ending) (w' : World) : Prop := ∃ u p, e = .returned (.iface u p) ∧ Hid (IsV Qs w t (.iface u p)) ∧ Below w.heap.size w w'
theorem givesT {Qs : Nat → Prop} {t : TX} {w w' : World} {v : Value} (h : IsV Qs w t v) (k : Below w.heap.size w w') : GivesT Qs t w (.returned v) w' := by
  obtain ⟨u, p, rfl⟩ := h.iface
  exact ⟨u, p, rfl, h, k⟩

/-- The operands of an element lie where the slice says. -/
def OperE (Qs : Nat → Prop) (w : World) (oa : Option Addr) (k : Int) (x y : TX) : Prop :=
  (M.ar k = 1 → ∃ g b vx, oa = some ⟨g, b, none⟩ ∧ w.cell? ⟨g, b, none⟩ = some vx ∧ IsV Qs w x vx) ∧
  (M.ar k = 2 → ∃ g b vx vy, oa = some ⟨g, b, none⟩ ∧ w.cell? ⟨g, b, none⟩ = some vx ∧ w.cell? ⟨g, b + 1, none⟩ = some vy ∧ IsV Qs w x vx ∧ IsV Qs w y vy)

set_option maxRecDepth 100000 in
set_option maxHeartbeats 8000000 in
theorem nodeOf_any (Q Qs : Nat → Prop) (ra la sa oa : Option Addr) (rc lc sc oc : Nat) (g : Gr) (o : OpD) (x y : TX) (w : World) (hG : GramA Q w ra la g) (ho : M.ElemOK g.nr g.nb o) (hS : Ints Qs .i64 w sa o.sl o.set) (hO : OperE Qs w oa o.kind x y) (h1 : g.nr ≤ 100) (h2 : g.nb ≤ 100) :
    Calls Try.prog 94 #[.agg #[.slice ra g.nr rc, .slice la g.nb lc], .agg #[.int .i64 o.kind, .slice sa o.sl sc, .int .i64 o.arg], .slice oa (M.ar o.kind).toNat oc] w (GivesT Qs (nodeG g o x y) w) := by
  have HG : Hid (GramA Q w ra la g) := hG
  have HS : Hid (Ints Qs .i64 w sa o.sl o.set) := hS
  obtain ⟨k0, k7, k3, k4, k5, k6⟩ := ho
  have HO : Hid (OperE Qs w oa o.kind x y) := hO
  clear hG hS hO
  by_cases e1 : o.kind = 1
  · have HT : Hid (nodeG g o x y = .set o.sl o.set) := by show _ = _; simp [nodeG, M.nodeT, e1]
    have har : (M.ar o.kind).toNat = 0 := by simp [M.ar, e1]
    have f1 : (o.kind == 1) = true := by simp [e1]
    rw [har]
    clear k3 k4 k5 k6
    go_enter Try.func94, Try.ntmps94
    go_wp2
    go_ret
    exact givesT (by rw [HT.out]; exact ⟨sa, sc, rfl, HS.out⟩) (bel2 w _ _)
  have g1 : (o.kind == 1) = false := by simp [e1]
  by_cases e2 : o.kind = 2
  · have HT : Hid (nodeG g o x y = .ref (rname g o.arg.toNat)) := by show _ = _; simp [nodeG, M.nodeT, e2]
    have har : (M.ar o.kind).toNat = 0 := by simp [M.ar, e2]
    have f2 : (o.kind == 2) = true := by simp [e2]
    rw [har]
    unfold M.most at k6
    rw [if_neg (by omega), if_pos e2] at k6
    obtain ⟨j, hj⟩ : ∃ j : Nat, o.arg = (j : Int) := ⟨o.arg.toNat, by omega⟩
    have HJ : Hid (o.arg.toNat = j) := by show _ = _; omega
    rw [hj] at k5 k6
    rw [hj]
    have hjn : j < g.nr := by omega
    have HR := (HG.out.later (bel2 w (.cells #[.slice ra g.nr rc, .slice la g.nb lc] 36) (.cells #[.int .i64 o.kind, .slice sa o.sl sc, .int .i64 (j : Int)] 80))).rules
    rcases HR with q | ⟨b, off, rfl, hq, hR⟩
    · omega
    obtain ⟨⟨na, nc, c0, hn⟩, _⟩ := hR j hjn
    have hcv := conv_run Q na (g.rule j).nl nc (g.rule j).name _ hn
    have HN : Hid (rname g j = str (g.rule j).nl (g.rule j).name) := rfl
    generalize str (g.rule j).nl (g.rule j).name = s at hcv HN
    have hbl := lt_of_cell c0
    clear k3 k4 hR hn hj e1 e2
    go_enter Try.func94, Try.ntmps94
    go_wp2
    go_ret
    exact givesT (by rw [HT.out, HJ.out, HN.out]; rfl) (bel2 w _ _)
  have g2 : (o.kind == 2) = false := by simp [e2]
  by_cases e3 : o.kind = 3
  · have HT : Hid (nodeG g o x y = .thr (lname g o.arg.toNat)) := by show _ = _; simp [nodeG, M.nodeT, e3]
    have har : (M.ar o.kind).toNat = 0 := by simp [M.ar, e3]
    have f3 : (o.kind == 3) = true := by simp [e3]
    rw [har]
    unfold M.most at k6
    rw [if_pos e3] at k6
    obtain ⟨j, hj⟩ : ∃ j : Nat, o.arg = (j : Int) := ⟨o.arg.toNat, by omega⟩
    have HJ : Hid (o.arg.toNat = j) := by show _ = _; omega
    rw [hj] at k5 k6
    rw [hj]
    have hjn : j < g.nb := by omega
    have HR := (HG.out.later (bel2 w (.cells #[.slice ra g.nr rc, .slice la g.nb lc] 36) (.cells #[.int .i64 o.kind, .slice sa o.sl sc, .int .i64 (j : Int)] 80))).labs
    rcases HR with q | ⟨b, off, rfl, hq, hR⟩
    · omega
    obtain ⟨⟨na, nc, c0, hn⟩, _⟩ := hR j hjn
    have hcv := conv_run Q na (g.lab j).nl nc (g.lab j).name _ hn
    have HN : Hid (lname g j = str (g.lab j).nl (g.lab j).name) := rfl
    generalize str (g.lab j).nl (g.lab j).name = s at hcv HN
    have hbl := lt_of_cell c0
    clear k3 k4 hR hn hj e1 e2 e3
    go_enter Try.func94, Try.ntmps94
    go_wp2
    go_ret
    exact givesT (by rw [HT.out, HJ.out, HN.out]; rfl) (bel2 w _ _)
  have g3 : (o.kind == 3) = false := by simp [e3]
  by_cases e4 : o.kind = 4
  · have HT : Hid (nodeG g o x y = .seq x y) := by show _ = _; simp [nodeG, M.nodeT, e4]
    have har : (M.ar o.kind).toNat = 2 := by simp [M.ar, e4]
    have f4 : (o.kind == 4) = true := by simp [e4]
    rw [har]
    obtain ⟨gb, b, vx, vy, rfl, c0, c1, hx, hy⟩ := HO.out.2 (by simp [M.ar, e4])
    obtain ⟨ux, px, rfl⟩ := hx.iface
    obtain ⟨uy, py, rfl⟩ := hy.iface
    have HX : Hid (IsV Qs w x (.iface ux px)) := hx
    have HY : Hid (IsV Qs w y (.iface uy py)) := hy
    have hbl := lt_of_cell c0
    clear k3 k4 k5 k6 hx hy
    go_enter Try.func94, Try.ntmps94
    go_wp2
    go_region
    go_wp2
    go_ret
    exact givesT (by rw [HT.out]; exact ⟨_, _, rfl, HX.out, HY.out⟩) (bel2 w _ _).drew
  have g4 : (o.kind == 4) = false := by simp [e4]
  by_cases e5 : o.kind = 5
  · have HT : Hid (nodeG g o x y = .alt x y) := by show _ = _; simp [nodeG, M.nodeT, e5]
    have har : (M.ar o.kind).toNat = 2 := by simp [M.ar, e5]
    have f5 : (o.kind == 5) = true := by simp [e5]
    rw [har]
    obtain ⟨gb, b, vx, vy, rfl, c0, c1, hx, hy⟩ := HO.out.2 (by simp [M.ar, e5])
    obtain ⟨ux, px, rfl⟩ := hx.iface
    obtain ⟨uy, py, rfl⟩ := hy.iface
    have HX : Hid (IsV Qs w x (.iface ux px)) := hx
    have HY : Hid (IsV Qs w y (.iface uy py)) := hy
    have hbl := lt_of_cell c0
    clear k3 k4 k5 k6 hx hy
    go_enter Try.func94, Try.ntmps94
    go_wp2
    go_region
    go_wp2
    go_ret
    exact givesT (by rw [HT.out]; exact ⟨_, _, rfl, HX.out, HY.out⟩) (bel2 w _ _).drew
  have g5 : (o.kind == 5) = false := by simp [e5]
  by_cases e6 : o.kind = 6
  · have HT : Hid (nodeG g o x y = .star x) := by show _ = _; simp [nodeG, M.nodeT, e6]
    have har : (M.ar o.kind).toNat = 1 := by simp [M.ar, e6]
    have f6 : (o.kind == 6) = true := by simp [e6]
    rw [har]
    obtain ⟨gb, b, vx, rfl, c0, hx⟩ := HO.out.1 (by simp [M.ar, e6])
    obtain ⟨ux, px, rfl⟩ := hx.iface
    have HX : Hid (IsV Qs w x (.iface ux px)) := hx
    have hbl := lt_of_cell c0
    clear k3 k4 k5 k6 hx
    go_enter Try.func94, Try.ntmps94
    go_wp2
    go_ret
    exact givesT (by rw [HT.out]; exact ⟨_, rfl, HX.out⟩) (bel2 w _ _)
  have g6 : (o.kind == 6) = false := by simp [e6]
  by_cases e7 : o.kind = 7
  · have HT : Hid (nodeG g o x y = .not x) := by show _ = _; simp [nodeG, M.nodeT, e7]
    have har : (M.ar o.kind).toNat = 1 := by simp [M.ar, e7]
    have f7 : (o.kind == 7) = true := by simp [e7]
    rw [har]
    obtain ⟨gb, b, vx, rfl, c0, hx⟩ := HO.out.1 (by simp [M.ar, e7])
    obtain ⟨ux, px, rfl⟩ := hx.iface
    have HX : Hid (IsV Qs w x (.iface ux px)) := hx
    have hbl := lt_of_cell c0
    clear k3 k4 k5 k6 hx
    go_enter Try.func94, Try.ntmps94
    go_wp2
    go_ret
    exact givesT (by rw [HT.out]; exact ⟨_, rfl, HX.out⟩) (bel2 w _ _)
  have g7 : (o.kind == 7) = false := by simp [e7]
  have HT : Hid (nodeG g o x y = .empty) := by show _ = _; simp [nodeG, M.nodeT, e1, e2, e3, e4, e5, e6, e7]
  have har : (M.ar o.kind).toNat = 0 := by simp [M.ar, e4, e5, e6, e7]
  rw [har]
  clear k3 k4 k5 k6
  go_enter Try.func94, Try.ntmps94
  go_wp2
  go_ret
  exact givesT (by rw [HT.out]; rfl) (bel2 w _ _)

/-! ### The fold -/
theorem stepClo1 {P : Program} {ops : Array Oper} {o : Oper} {a : Act} {w : World} {K : Act → World → Prop} {P' : Exit → Act → World → Prop} {E : Prop} {f : FuncId} (hf : ∀ args w, (callFunc f args).run P w = .ok (.enter f args) w) (hgd : o.guard = none) (c x1 x2 : Operand) (t1 t2 : TypeId)
    (ho : o.op = .call { callee := .value c, args := #[x1, x2], argTypes := #[t1, t2] }) {y1 y2 p1 : Value} (hc : a.eval c = .func (.func f) #[] #[p1]) (hx1 : a.eval x1 = y1) (hx2 : a.eval x2 = y2) (h : Calls P f #[y1, y2, p1] w (fun e w' => ∃ u, e = .returned u ∧ K (a.put o.dst u) w')) : if Region.wanted o (yielded ops a.tmps) = true then Oper.wp P o a w K P' else E := by
  have hw : Region.wanted o (yielded ops a.tmps) = true := by simp [Region.wanted, hgd]
  rw [if_pos hw]
  have hrun : (execOp a.eval o).run P w = .ok (.enter f #[y1, y2, p1]) w := by
    unfold execOp
    simp only [ho, resolve, invoke, Deferred.ofValue, Sem.run_bind, Sem.run_pure, Result.andThen_ok, List.map_toArray, List.map_cons, List.map_nil, hx1, hx2, hc]
    exact hf #[y1, y2, p1] w
  unfold Oper.wp
  rw [hrun]
  refine Calls.mono h ?_
  rintro e w' ⟨u, rfl, hk⟩
  exact hk
theorem enter93 (args : Array Value) (w : World) : (callFunc 93 args).run Try.prog w = .ok (.enter 93 args) w := by
  simp [callFunc, Try.func93, Try.f93, go_sem]
theorem info73 : (Try.prog.info? 73).map (fun i => (i.zero, i.size, i.bytes)) = some (some .nilIface, 1, 16) := by kernel_rfl
theorem elemE : ElemT 131 73 1 16 := ⟨Try.underlying131, ⟨_, info73, rfl⟩, by omega⟩
theorem makeE (w : World) : (Instr.makeSlice 131 (.int .i64 1) (.int .i64 1)).run Try.prog w = .ok (.slice (some ⟨w.heap.size, 0, none⟩) 1 1) (w.alloc (.cells #[.nilIface] 73)) := by
  obtain ⟨i, hi, hi2⟩ := Option.map_eq_some_iff.1 info73
  simp only [Prod.mk.injEq] at hi2
  obtain ⟨hz, hs, hb⟩ := hi2
  have hr := run_make (P := Try.prog) w 131 73 i _ Try.underlying131 hi hz .i64 .i64 1 1 (by omega) (Int.le_refl _) (by rw [hb]; omega) (by omega)
  rw [hs] at hr
  have e : madeCells (Value.nilIface).cells (Int.toNat 1 * 1) = #[.nilIface] := by kernel_rfl
  rw [e] at hr
  exact hr

/-- The cells of a stack, from the bottom. -/
def stE (vs : List Value) : List Value := .nilIface :: vs.reverse
theorem stE_len (vs : List Value) : (stE vs).length = vs.length + 1 := by simp [stE]
theorem stE_cons (v : Value) (vs : List Value) : stE (v :: vs) = stE vs ++ [v] := by simp [stE]
theorem stE_drop (vs : List Value) (a : Nat) (h : a ≤ vs.length) : ∃ post, stE vs = stE (vs.drop a) ++ post ∧ (vs.drop a).length + a = vs.length := by
  refine ⟨(vs.take a).reverse, ?_, by simp; omega⟩
  have := List.take_append_drop a vs
  unfold stE
  conv => lhs; rw [← this]
  rw [List.reverse_append]
  rfl
/-- Values that are the trees of the stack. -/
def StkV (Qs : Nat → Prop) (w : World) : List (Nat × TX) → List Value → Prop
  | [], [] => True
  | (_, t) :: r, v :: vs => IsV Qs w t v ∧ StkV Qs w r vs
  | _, _ => False
theorem StkV.len {Qs : Nat → Prop} {w : World} : ∀ {l : List (Nat × TX)} {vs : List Value}, StkV Qs w l vs → l.length = vs.length
  | [], [], _ => rfl
  | _ :: r, _ :: vs, h => by simp [StkV.len h.2]
theorem StkV.drop {Qs : Nat → Prop} {w : World} (a : Nat) : ∀ {l : List (Nat × TX)} {vs : List Value}, StkV Qs w l vs → StkV Qs w (l.drop a) (vs.drop a) := by
  induction a with
  | zero => intro l vs h; exact h
  | succ a ih =>
    intro l vs h
    match l, vs, h with
    | [], [], _ => trivial
    | _ :: r, _ :: vs, h => exact ih h.2

/-- The value of an element, by the stack. -/
def nodeOn (g : Gr) (o : OpD) (l : List (Nat × TX)) : TX :=
  if M.ar o.kind = 2 then match l with | (_, y) :: (_, x) :: _ => nodeG g o x y | _ => default
  else if M.ar o.kind = 1 then match l with | (_, x) :: _ => nodeG g o x default | _ => default
  else nodeG g o default default
theorem stp_eqT (g : Gr) (o : OpD) (i : Nat) (l : List (Nat × TX)) (h : M.ar o.kind ≤ (l.length : Int)) : ∃ s, M.stp (nodeG g) o i l = (s, nodeOn g o l) :: l.drop (M.ar o.kind).toNat := by
  unfold M.stp nodeOn
  rcases M.ar_cases o.kind with h0 | h0 | h0
  · simp [h0]
  · rw [h0] at h
    match l with
    | [] => simp at h
    | (s, x) :: r => exact ⟨s, by simp [h0]⟩
  · rw [h0] at h
    match l with
    | [] => simp at h
    | [(s, x)] => simp at h
    | (s2, y) :: (s1, x) :: r => exact ⟨s1, by simp [h0]⟩

/-- The operands, out of the stack's cells. -/
theorem operE_of {Q Qs : Nat → Prop} {w0 w : World} {g cap : Nat} {o : OpD} {l : List (Nat × TX)} {vs : List Value} (gr : Gr) (h : OwnC Q w (.slice (some ⟨g, 0, none⟩) (vs.length + 1) cap) 1 (vs.length + 1) (stE vs)) (hv : StkV Qs w0 l vs) (hst : Stay Qs w0 w) (ha : M.ar o.kind ≤ (l.length : Int)) (oa : Option Addr) (hoa : 0 < M.ar o.kind → oa = some ⟨g, vs.length + 1 - (M.ar o.kind).toNat, none⟩) :
    ∃ x y, nodeOn gr o l = nodeG gr o x y ∧ OperE Qs w oa o.kind x y := by
  rcases h with ⟨q, _⟩ | ⟨g', cap', q, h2, h3, h4, h5, h6⟩
  · cases q
  · cases q
    unfold nodeOn
    rcases M.ar_cases o.kind with e | e | e
    · refine ⟨default, default, by simp [e], ?_⟩
      unfold OperE
      exact ⟨fun q => absurd q (by rw [e]; decide), fun q => absurd q (by rw [e]; decide)⟩
    · rw [e] at ha hoa
      match l, vs, hv with
      | [], _, _ => simp at ha
      | (s, x) :: r, v :: vs, hv =>
        refine ⟨x, default, by simp [e], ?_⟩
        unfold OperE
        refine ⟨fun _ => ⟨g, _, v, hoa (by omega), ?_, IsV.on hst x v hv.1⟩, fun q => absurd q (by rw [e]; decide)⟩
        have hl := stE_len vs
        rw [h5 _ (by rw [stE_len]; simp), stE_cons, List.getElem?_append_right (by rw [hl]; simp)]
        rw [hl]
        simp
    · rw [e] at ha hoa
      match l, vs, hv with
      | [], _, _ => simp at ha
      | [_], _, _ => simp at ha
      | (s2, y) :: (s1, x) :: r, vy :: vx :: vs, hv =>
        have hl := stE_len vs
        refine ⟨x, y, by simp [e], ?_⟩
        unfold OperE
        refine ⟨fun q => absurd q (by rw [e]; decide), fun _ => ⟨g, _, vx, vy, hoa (by omega), ?_, ?_, IsV.on hst x vx hv.2.1, IsV.on hst y vy hv.1⟩⟩
        · rw [h5 _ (by rw [stE_len]; simp), stE_cons, stE_cons, List.append_assoc, List.getElem?_append_right (by rw [hl]; simp)]
          rw [hl]
          simp
        · rw [h5 _ (by rw [stE_len]; simp), stE_cons, stE_cons, List.append_assoc, List.getElem?_append_right (by rw [hl]; simp)]
          rw [hl]
          simp

theorem own_cut1 {Q : Nat → Prop} {w : World} {g cap n m : Nat} {cs pre post : List Value} (h : OwnC Q w (.slice (some ⟨g, 0, none⟩) n cap) 1 n cs) (e : cs = pre ++ post) (hm : pre.length = m) (hle : m ≤ n) : OwnC Q w (.slice (some ⟨g, 0, none⟩) m cap) 1 m pre := by
  rcases h with ⟨q, _⟩ | ⟨g', cap', q, h2, h3, h4, h5, h6⟩
  · cases q
  · cases q
    refine .inr ⟨g, cap, rfl, h2, by omega, by omega, fun j hj => ?_, h6⟩
    rw [h5 j (by rw [e, List.length_append]; omega), e, List.getElem?_append_left hj]
theorem src_one {w : World} {g : Nat} {v : Value} (h : w.cell? ⟨g, 0, none⟩ = some v) (hc : v.oneCell' = true) : Src Try.prog 1 131 (.slice (some ⟨g, 0, none⟩) 1 1) 1 [v] w := by
  refine Src.ofSlice (P := Try.prog) w Try.underlying131 ⟨g, 0, none⟩ 1 1 [v] rfl (fun j u hu => ?_) (fun u hu => ?_)
  · match j, hu with
    | 0, hu => simp at hu; subst hu; simpa [Addr.add] using h
    | j + 1, hu => simp at hu
  · simp at hu
    subst hu
    exact hc

def foldE (Qs : Nat → Prop) (w : World) (g : Gr) (n : Nat) (B : Nat → OpD) (v i : Value) (wr : World) : Prop :=
  ∃ (k b cap : Nat) (vs : List Value), k ≤ n ∧ i = .int .i64 (k : Int) ∧ v = .slice (some ⟨b, 0, none⟩) (vs.length + 1) cap ∧
    OwnC (fun b => w.heap.size ≤ b) wr v 1 (vs.length + 1) (stE vs) ∧ Below w.heap.size w wr ∧ StkV Qs w (M.stk (nodeG g) B k) vs

theorem foldE_step {Qs : Nat → Prop} {w wr W1 W4 : World} {g : Gr} {n k b st ar : Nat} {B : Nat → OpD} {l : List (Nat × TX)} {vs : List Value} {v v' : Value} {ob : Obj} (hlt : k < n) (hB : Below w.heap.size w wr) (hV : StkV Qs w l vs) (hv : IsV Qs w (nodeOn g (B k) l) v) (h1 : M.stk (nodeG g) B (k + 1) = (st, nodeOn g (B k) l) :: l.drop ar)
    (h4 : (vs.drop ar).length + 1 = b) (h5 : Below wr.heap.size wr W1)
    (h6 : OwnC (fun x => w.heap.size ≤ x ∨ (W1.alloc ob).heap.size ≤ x) W4 v' 1 (b + 1) (stE (vs.drop ar) ++ [v])) (h7 : Grew (fun x => w.heap.size ≤ x) (W1.alloc ob) W4) : foldE Qs w g n B v' (.int .i64 ((k + 1 : Nat) : Int)) W4 := by
  have s5 := h5.size
  have s0 := hB.size
  have hb' : Below wr.heap.size wr (W1.alloc ob) := bel_tr h5 (bel1 W1 _)
  have q : OwnC (fun x => w.heap.size ≤ x) W4 v' 1 (b + 1) (stE (v :: vs.drop ar)) := by
    rw [stE_cons]
    exact own_wide h6 (fun x q => by
      rcases q with q | q
      · exact q
      · rw [World.size_alloc] at q; omega)
  rcases q with ⟨_, q, _⟩ | ⟨gb, cap, rfl, q2, q3⟩
  · omega
  have hlen : (v :: vs.drop ar).length + 1 = b + 1 := by rw [List.length_cons]; omega
  refine ⟨k + 1, gb, cap, v :: vs.drop ar, by omega, rfl, by rw [hlen], ?_, ?_, ?_⟩
  · rw [hlen]; exact .inr ⟨gb, cap, rfl, q2, q3⟩
  · exact (hB.trans (hb'.mono hB.size)).trans ⟨h7.os, h7.tape, h7.output, h7.size, fun x hx => h7.block x (by rw [World.size_alloc]; omega) (fun q => by omega)⟩
  · rw [h1]
    exact ⟨hv, hV.drop ar⟩

/-- What the closure answers, in every later world. -/
def NodeAns (Qs : Nat → Prop) (w : World) (g : Gr) (p : Value) : Prop :=
  ∀ (o : OpD) (x y : TX) (W : World) (sa oa : Option Addr) (sc oc : Nat), M.ElemOK g.nr g.nb o → Below w.heap.size w W → Ints Qs .i64 W sa o.sl o.set → OperE Qs W oa o.kind x y →
    Calls Try.prog 93 #[.agg #[.int .i64 o.kind, .slice sa o.sl sc, .int .i64 o.arg], .slice oa (M.ar o.kind).toNat oc, p] W (GivesT Qs (nodeG g o x y) W)

set_option maxRecDepth 100000 in
set_option maxHeartbeats 8000000 in
theorem foldE_any (Qs : Nat → Prop) (a : Option Addr) (n c : Nat) (g : Gr) (B : Nat → OpD) (p1 : Value) (w : World) (hB : OpsA Qs w a n B) (hQ : ∀ b, Qs b → b < w.heap.size) (hok : M.BodyOK g.nr g.nb n B) (hn : n ≤ 1048576) (hV : NodeAns Qs w g p1) :
    Calls Try.prog 92 #[.slice a n c, .func (.func 93) #[] #[p1]] w (GivesT Qs (treeB g n B) w) := by
  have HB : Hid (OpsA Qs w a n B) := hB
  have HOK : Hid (M.BodyOK g.nr g.nb n B) := hok
  have HV : Hid (NodeAns Qs w g p1) := hV
  have HQ : Hid (∀ b, Qs b → b < w.heap.size) := hQ
  clear hB hok hV hQ
  have hmk := makeE
  go_enter Try.func92, Try.ntmps92
  go_wp2
  go_loopw [5, 12] (fun v i wr => foldE Qs w g n B v i wr) (fun v i _ => n - (intOf i).toNat)
  case atStart =>
    refine ⟨0, w.heap.size, 1, [], Nat.zero_le _, rfl, rfl, ?_, bel1 w _, by simp [M.stk, StkV]⟩
    refine .inr ⟨w.heap.size, 1, rfl, Nat.le_refl _, rfl, Nat.le_refl _, fun j hj => ?_, fun j hj => ?_⟩
    · obtain rfl : j = 0 := by simp [stE] at hj; omega
      exact cN w.heap.size rfl rfl
    · obtain rfl : j = 0 := by omega
      exact ⟨by rw [show (w.alloc (.cells #[.nilIface] 73)).cell? ⟨w.heap.size, 0, none⟩ = some .nilIface from cN w.heap.size rfl rfl]; rfl, frozenNew w .nilIface 73⟩
  case round =>
    obtain ⟨k, gb, cap, vs, hk, rfl, rfl, hown, hbel, hall⟩ := hrel
    have HOWN : Hid (OwnC (fun b => w.heap.size ≤ b) wr (.slice (some ⟨gb, 0, none⟩) (vs.length + 1) cap) 1 (vs.length + 1) (stE vs)) := hown
    have HBE : Hid (Below w.heap.size w wr) := hbel
    have HALL : Hid (StkV Qs w (M.stk (nodeG g) B k) vs) := hall
    have hcap := own_cap hown
    have hsl := hall.len
    clear hown hbel hall
    by_cases hlt : k < n
    · have hbody := HOK.out
      have hF : M.Fed B k := fun j hj => hbody.2.1 j (by omega)
      have hE : Hid (M.ElemOK g.nr g.nb (B k)) := hbody.1 k hlt
      have hsl2 := M.stk_len (nodeG g) B k hF
      have hard := hbody.2.1 k hlt
      have harb := M.ar_bd (B k).kind
      have HST : Hid (M.stk (nodeG g) B (k + 1) = M.stp (nodeG g) (B k) k (M.stk (nodeG g) B k)) := rfl
      have hdb := M.dep_bd B n k (by omega) (fun j hj => hbody.2.1 j (by omega))
      clear hF hbody
      generalize M.stk (nodeG g) B k = l at *
      have hal : M.ar (B k).kind ≤ (l.length : Int) := by omega
      obtain ⟨r, hr⟩ : ∃ r : Nat, (M.ar (B k).kind) = (r : Int) := ⟨(M.ar (B k).kind).toNat, by omega⟩
      obtain ⟨len, hlen⟩ : ∃ len, vs.length + 1 = len := ⟨_, rfl⟩
      obtain ⟨b, hb⟩ : ∃ b, len - r = b := ⟨_, rfl⟩
      have hb1 : 1 ≤ b := by omega
      have hb2 : b ≤ len := by omega
      have hb3 : (len : Int) - M.ar (B k).kind = (b : Int) := by omega
      have hb4 : len ≤ cap := by omega
      have hb5 : b ≤ cap := by omega
      have hb6 : len ≤ 2097152 := by omega
      have HR : Hid (M.ar (B k).kind = (r : Int)) := hr
      have HLEN : Hid (vs.length + 1 = len) := hlen
      have HBB : Hid (len - r = b) := hb
      have HAL : Hid (M.ar (B k).kind ≤ (l.length : Int)) := hal
      have HSL : Hid (l.length = vs.length) := hsl
      obtain ⟨st, hst⟩ := stp_eqT g (B k) k l hal
      have HSTP : Hid (M.stk (nodeG g) B (k + 1) = (st, nodeOn g (B k) l) :: l.drop (M.ar (B k).kind).toNat) := HST.out.trans hst
      rw [hlen] at HOWN
      rw [hlen]
      have hB := HB.out.later HBE.out
      rcases hB with h0 | ⟨bb, off, rfl, hq, hB⟩
      · omega
      obtain ⟨c0, ⟨sa, sc, c1, hss⟩, c2⟩ := hB k hlt
      have HSS : Hid (Ints Qs .i64 wr sa (B k).sl (B k).set) := hss
      have hbl : bb < wr.heap.size := lt_of_cell c0
      clear hB hss hsl hsl2 hard hdb hal hst hr hlen hb hcap HST
      have x0 : (wr.alloc (.cells #[.int .i64 (B k).kind, .slice sa (B k).sl sc, .int .i64 (B k).arg] 80)).cell? ⟨wr.heap.size, 0, none⟩ = some (.int .i64 (B k).kind) := cN wr.heap.size rfl rfl
      have x1 : (wr.alloc (.cells #[.int .i64 (B k).kind, .slice sa (B k).sl sc, .int .i64 (B k).arg] 80)).cell? ⟨wr.heap.size, 1, none⟩ = some (.slice sa (B k).sl sc) := cN wr.heap.size rfl rfl
      have x2 : (wr.alloc (.cells #[.int .i64 (B k).kind, .slice sa (B k).sl sc, .int .i64 (B k).arg] 80)).cell? ⟨wr.heap.size, 2, none⟩ = some (.int .i64 (B k).arg) := cN wr.heap.size rfl rfl
      have bX : Hid (Below wr.heap.size wr (wr.alloc (.cells #[.int .i64 (B k).kind, .slice sa (B k).sl sc, .int .i64 (B k).arg] 80))) := bel1 wr _
      go_wp2_with (go_at_call 125; refine (operandsOf_any _ _).mono ?_; rintro e W' ⟨rfl, hw⟩; subst W')
      generalize wr.alloc (.cells #[.int .i64 (B k).kind, .slice sa (B k).sl sc, .int .i64 (B k).arg] 80) = X at *
      have hz0 : ¬ cap = 0 := by omega
      have hlr : Hid (len - b = (M.ar (B k).kind).toNat) := by show _ = _; have := HR.out; have := HBB.out; omega
      have key : ∀ oa : Option Addr, (0 < M.ar (B k).kind → oa = some ⟨gb, b, none⟩) → ∀ W, Below wr.heap.size wr W → Calls Try.prog 93 #[.agg #[.int .i64 (B k).kind, .slice sa (B k).sl sc, .int .i64 (B k).arg], .slice oa (len - b) (cap - b), p1] W (fun e W' => ∃ u p, e = .returned (.iface u p) ∧ Hid (IsV Qs w (nodeOn g (B k) l) (.iface u p)) ∧ Below W.heap.size W W') := fun oa hoa W hW => by
        have hwW : Below w.heap.size w W := HBE.out.trans (hW.mono HBE.out.size)
        have hstay : Stay Qs w W := fun z hz => hwW.block z (HQ.out z hz)
        obtain ⟨x, y, e1, e2⟩ := operE_of (o := B k) (l := l) (vs := vs) (Qs := Qs) (w0 := w) (w := W) g (own_late (by rw [HLEN.out]; exact HOWN.out) (by omega) hW) HALL.out hstay HAL.out oa (fun q => by rw [hoa q]; have := HLEN.out; have := HBB.out; have := HR.out; congr 2; omega)
        have h := HV.out (B k) x y W sa oa sc (cap - b) hE.out hwW (HSS.out.later hW) e2
        rw [← hlr.out] at h
        refine h.mono ?_
        rintro e W' ⟨u, p, rfl, hv, hb'⟩
        refine ⟨u, p, rfl, ?_, hb'⟩
        rw [e1]
        exact IsV.on (fun z hz => (hstay z hz).symm) _ _ hv.out
      have HKEY : Hid (∀ oa : Option Addr, (0 < M.ar (B k).kind → oa = some ⟨gb, b, none⟩) → ∀ W, Below wr.heap.size wr W → Calls Try.prog 93 #[.agg #[.int .i64 (B k).kind, .slice sa (B k).sl sc, .int .i64 (B k).arg], .slice oa (len - b) (cap - b), p1] W (fun e W' => ∃ u p, e = .returned (.iface u p) ∧ Hid (IsV Qs w (nodeOn g (B k) l) (.iface u p)) ∧ Below W.heap.size W W')) := key
      clear key
      obtain ⟨post, hpost, hdrop⟩ := stE_drop vs (M.ar (B k).kind).toNat (by have := HAL.out; have := HR.out; have := HSL.out; omega)
      have HCUT : Hid (∀ W, Below wr.heap.size wr W → OwnC (fun b => w.heap.size ≤ b) W (.slice (some ⟨gb, 0, none⟩) b cap) 1 b (stE (vs.drop (M.ar (B k).kind).toNat))) := fun W hW => own_late (own_cut1 HOWN.out hpost (by rw [stE_len]; have := HLEN.out; have := HBB.out; have := HR.out; omega) hb2) (by omega) hW
      have HDROP : Hid ((vs.drop (M.ar (B k).kind).toNat).length + 1 = b) := by show _ = _; have := HLEN.out; have := HBB.out; have := HR.out; omega
      clear hpost hdrop
      have HIF : Hid (cap = b → ¬ 0 < M.ar (B k).kind) := fun e q => by have := HR.out; have := HBB.out; omega
      go_region_law (first
        | (refine stepClo1 enter93 rfl (.tmp 25) (.tmp 26) (.tmp 29) 80 131 rfl (p1 := p1) (y1 := .agg #[.int .i64 (B k).kind, .slice sa (B k).sl sc, .int .i64 (B k).arg]) (y2 := .slice (if cap = b then some ⟨gb, 0, none⟩ else some ⟨gb, b, none⟩) (len - b) (cap - b)) (by simp [Act.eval, Act.put]) (by simp [Act.eval, Act.put]) (by simp [Act.eval, Act.put]) ((HKEY.out (if cap = b then some ⟨gb, 0, none⟩ else some ⟨gb, b, none⟩) (fun q => if_neg (fun e => HIF.out e q)) X.drew bX.out.drew).mono ?_)
           rintro e W1 ⟨uv, pv, rfl, HVV, hb1⟩
           have B1 : Hid (Below wr.heap.size wr W1) := bel_tr bX.out ((Below.refl _ X).drew.trans hb1)
           clear hb1
           refine ⟨_, rfl, ?_⟩)
        | (refine stepC rfl (.tmp 24) (.tmp 31) 131 131 rfl (v := .slice (some ⟨gb, 0, none⟩) b cap) (y := .slice (some ⟨W1.heap.size, 0, none⟩) 1 1) (by simp [Act.eval, Act.put]) (by simp [Act.eval, Act.put]) elemE (HCUT.out (W1.alloc (.cells #[.iface uv pv] 73)) (bel_tr B1.out (bel1 W1 _))) (src_one (cN W1.heap.size rfl rfl) rfl) (by omega) (fun _ => Nat.one_pos) ?_
           intro v' W4 hown4 hgrew4 hsz4
           have HO4 : Hid (OwnC (fun x => w.heap.size ≤ x ∨ (W1.alloc (.cells #[.iface uv pv] 73)).heap.size ≤ x) W4 v' 1 (b + 1) (stE (vs.drop (M.ar (B k).kind).toNat) ++ [.iface uv pv])) := hown4
           have HG4 : Hid (Grew (fun x => w.heap.size ≤ x) (W1.alloc (.cells #[.iface uv pv] 73)) W4) := hgrew4
           clear hown4 hgrew4 hsz4))
      all_goals go_goals
      all_goals go_wp2
      all_goals go_roundw
      all_goals first
        | exact foldE_step hlt HBE.out HALL.out HVV.out HSTP.out HDROP.out B1.out HO4.out HG4.out
        | (simp [intOf]; omega)
    · obtain rfl : k = n := by omega
      have hl1 := M.stk_len (nodeG g) B k HOK.out.2.1
      rw [HOK.out.2.2] at hl1
      have HTR : Hid (treeB g k B = M.top (M.stk (nodeG g) B k)) := rfl
      obtain ⟨s, t, hst⟩ : ∃ s t, M.stk (nodeG g) B k = [(s, t)] := by
        match hq : M.stk (nodeG g) B k with
        | [] => rw [hq] at hl1; simp at hl1
        | [(s, t)] => exact ⟨s, t, rfl⟩
        | _ :: _ :: _ => rw [hq] at hl1; simp at hl1; omega
      rw [hst] at HALL HTR
      obtain ⟨v, rfl⟩ : ∃ v, vs = [v] := by
        have := HALL.out.len
        match vs, this with
        | [v], _ => exact ⟨v, rfl⟩
      have hv : IsV Qs w t v := HALL.out.1
      obtain ⟨u, p, rfl⟩ := hv.iface
      have HVV : Hid (IsV Qs w t (.iface u p)) := hv
      have hc : wr.cell? ⟨gb, 1, none⟩ = some (.iface u p) := by
        rcases HOWN.out with ⟨q, _⟩ | ⟨g', cap', q, h2, h3, h4, h5, h6⟩
        · cases q
        · cases q
          exact h5 1 (by simp [stE])
      have hbl := lt_of_cell hc
      clear hl1 hst hv HOWN HALL HV HB HOK hsl
      go_wp2
      go_ret
      exact givesT (by rw [HTR.out]; exact HVV.out) HBE.out

set_option maxRecDepth 100000 in
set_option maxHeartbeats 4000000 in
theorem clo93 (Q Qs : Nat → Prop) (ra la sa oa : Option Addr) (rc lc sc oc gb : Nat) (g : Gr) (o : OpD) (x y : TX) (w : World) (h0 : w.cell? ⟨gb, 0, none⟩ = some (.slice ra g.nr rc)) (h1 : w.cell? ⟨gb, 1, none⟩ = some (.slice la g.nb lc)) (hG : GramA Q w ra la g) (ho : M.ElemOK g.nr g.nb o) (hS : Ints Qs .i64 w sa o.sl o.set) (hO : OperE Qs w oa o.kind x y) (h2 : g.nr ≤ 100) (h3 : g.nb ≤ 100) (hQ : ∀ b, Qs b → b < w.heap.size) :
    Calls Try.prog 93 #[.agg #[.int .i64 o.kind, .slice sa o.sl sc, .int .i64 o.arg], .slice oa (M.ar o.kind).toNat oc, .pointer (some ⟨gb, 0, none⟩)] w (GivesT Qs (nodeG g o x y) w) := by
  have HX : Hid (∀ W, Below w.heap.size w W → Calls Try.prog 94 #[.agg #[.slice ra g.nr rc, .slice la g.nb lc], .agg #[.int .i64 o.kind, .slice sa o.sl sc, .int .i64 o.arg], .slice oa (M.ar o.kind).toNat oc] W (GivesT Qs (nodeG g o x y) W)) := fun W hW =>
    nodeOf_any Q Qs ra la sa oa rc lc sc oc g o x y W (hG.later hW) ho (hS.later hW)
      ⟨fun q => let ⟨g1, b, vx, e1, e2, e3⟩ := hO.1 q; ⟨g1, b, vx, e1, cell_on e2 hW, IsV.later hW x vx e3⟩,
       fun q => let ⟨g1, b, vx, vy, e1, e2, e3, e4, e5⟩ := hO.2 q; ⟨g1, b, vx, vy, e1, cell_on e2 hW, cell_on e3 hW, IsV.later hW x vx e4, IsV.later hW y vy e5⟩⟩ h2 h3
  have HQ : Hid (∀ b, Qs b → b < w.heap.size) := hQ
  have hgl := lt_of_cell h0
  generalize (M.ar o.kind).toNat = ol at *
  clear hG ho hS hO hQ
  go_enter Try.func93, Try.ntmps93
  go_wp2_with (go_at_call 94; refine (HX.out _ (bel1 w _)).mono ?_; rintro e W ⟨u, p, rfl, hv, hb⟩; have HB : Hid (Below w.heap.size w W) := bel_tr (bel1 w _) hb; have HVV : Hid (IsV Qs (w.alloc (.cells #[.int .i64 o.kind, .slice sa o.sl sc, .int .i64 o.arg] 80)) (nodeG g o x y) (.iface u p)) := hv.out; clear hb hv)
  go_ret
  exact givesT (IsV.on (fun z hz => ((bel1 w _).block z (HQ.out z hz)).symm) _ _ HVV.out) HB.out

set_option maxRecDepth 100000 in
set_option maxHeartbeats 4000000 in
theorem treeOf_any (Q Qs : Nat → Prop) (ra la a : Option Addr) (rc lc n c : Nat) (g : Gr) (B : Nat → OpD) (w : World) (hG : GramA Q w ra la g) (hB : OpsA Qs w a n B) (hQ : ∀ b, Qs b → b < w.heap.size) (hok : M.BodyOK g.nr g.nb n B) (hn : n ≤ 1048576) (h2 : g.nr ≤ 100) (h3 : g.nb ≤ 100) :
    Calls Try.prog 52 #[.agg #[.slice ra g.nr rc, .slice la g.nb lc], .slice a n c] w (GivesT Qs (treeB g n B) w) := by
  have HG : Hid (GramA Q w ra la g) := hG
  have HB : Hid (OpsA Qs w a n B) := hB
  have HQ : Hid (∀ b, Qs b → b < w.heap.size) := hQ
  have HOK : Hid (M.BodyOK g.nr g.nb n B) := hok
  have x0 : Hid ((w.alloc (.cells #[.slice ra g.nr rc, .slice la g.nb lc] 36)).cell? ⟨w.heap.size, 0, none⟩ = some (.slice ra g.nr rc)) := cN w.heap.size rfl rfl
  have x1 : Hid ((w.alloc (.cells #[.slice ra g.nr rc, .slice la g.nb lc] 36)).cell? ⟨w.heap.size, 1, none⟩ = some (.slice la g.nb lc)) := cN w.heap.size rfl rfl
  have HNO : Hid (NodeAns Qs (w.alloc (.cells #[.slice ra g.nr rc, .slice la g.nb lc] 36)) g (.pointer (some ⟨w.heap.size, 0, none⟩))) := fun o x y W sa oa sc oc ho hW hS hO =>
    clo93 Q Qs ra la sa oa rc lc sc oc w.heap.size g o x y W (cell_on x0.out hW) (cell_on x1.out hW) ((hG.later (bel1 w _)).later hW) ho hS hO h2 h3 (fun b hb => by have := hW.size; rw [World.size_alloc] at this; have hb' := hQ b hb; omega)
  clear hG hB hok hQ
  go_enter Try.func52, Try.ntmps52
  go_wp2_with (go_at_call 92; refine (foldE_any Qs a n c g B (.pointer (some ⟨w.heap.size, 0, none⟩)) _ (HB.out.later (bel1 w _)) (fun b hb => by have hb' := HQ.out b hb; rw [World.size_alloc]; omega) HOK.out hn HNO.out).mono ?_; rintro e W ⟨u, p, rfl, hv, hb⟩; have HBW : Hid (Below w.heap.size w W) := bel_tr (bel1 w _) hb; have HVV : Hid (IsV Qs (w.alloc (.cells #[.slice ra g.nr rc, .slice la g.nb lc] 36)) (treeB g n B) (.iface u p)) := hv.out; clear hb hv)
  go_ret
  exact givesT (IsV.on (fun z hz => ((bel1 w _).block z (HQ.out z hz)).symm) _ _ HVV.out) HBW.out

end Go.Proofs.Ytjpcojabdjldbaa
