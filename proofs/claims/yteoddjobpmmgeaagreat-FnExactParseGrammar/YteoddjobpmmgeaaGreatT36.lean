import Derived.Test.YteoddjobpmmgeaaGreatT35
import Derived.Test.YteoddjobpmmgeaaGreatT31
set_option linter.unusedVariables false
set_option linter.unusedSimpArgs false
namespace Go.Proofs.YteoddjobpmmgeaaGreat
section
open Go.RowKit
open M (OpD NodeD Gr)
attribute [local go_sem] as115_115 as115_117 as115_119 as115_121 as115_122 as115_124 as115_125 as115_150 as117_115 as117_117 as117_119 as117_121 as117_122 as117_124 as117_125 as117_150 as119_115 as119_117 as119_119 as119_121 as119_122 as119_124 as119_125 as119_150 as121_115 as121_117 as121_119 as121_121 as121_122 as121_124 as121_125 as121_150 as122_115 as122_117 as122_119 as122_121 as122_122 as122_124 as122_125 as122_150 as124_115 as124_117 as124_119 as124_121 as124_122 as124_124 as124_125 as124_150 as125_115 as125_117 as125_119 as125_121 as125_122 as125_124 as125_125 as125_150
structure Nm2 (w : World) (b1 b2 : Nat) (rs ls : List (List Int)) : Prop where
  rules : MapN w b1 rs (ixN rs)
  labs : MapN w b2 ls (ixN ls)
theorem Nm2.on {w w' : World} {b1 b2 : Nat} {rs ls : List (List Int)} (h : Nm2 w b1 b2 rs ls) (e1 : w'.heap[b1]? = w.heap[b1]?) (e2 : w'.heap[b2]? = w.heap[b2]?) : Nm2 w' b1 b2 rs ls := ⟨h.rules.on e1, h.labs.on e2⟩
def AoIs (O P : Nat → Prop) (D : List OpD) (w : World) (e : Ending) (w' : World) : Prop :=
  ∃ a c n, e = .returned (.slice a n c) ∧ n = D.length ∧ BodP (fun b => O b ∨ P b ∨ New w w' b) w' (.slice a n c) D ∧ Keep (fun b => O b ∨ P b) w w'
def AoC (w : World) (b1 b2 : Nat) (rs ls : List (List Int)) (v : Value) (P : Nat → Prop) (D : List OpD) : Prop :=
  ∀ (W : World) (O : Nat → Prop) (a : Option Addr) (c n : Nat) (D0 : List OpD), Stay P w W → (∀ b, P b → b < W.heap.size ∧ ¬ O b) → (∀ b, O b → b < W.heap.size) → Nm2 W b1 b2 rs ls → ¬ O b1 → ¬ O b2 → ¬ P b1 → ¬ P b2 → BodP O W (.slice a n c) D0 → n = D0.length → D0.length + D.length ≤ 1000000 →
    Calls Tryz.prog 42 #[.agg #[.map (some b1), .map (some b2)], .slice a n c, v] W (AoIs O P (D0 ++ D) W)
theorem ao_fin {O P S : Nat → Prop} {W W2 W3 : World} {D : List OpD} {a : Option Addr} {c n : Nat} (hK : Keep (fun b => O b ∨ P b) W W2) (hS : ∀ b, S b → O b ∨ P b ∨ New W W2 b) {O2 : Nat → Prop} (hO2 : ∀ b, O2 b → O b ∨ P b ∨ New W W2 b) (hn : n = D.length) (hB : BodP (fun b => O2 b ∨ S b ∨ New W2 W3 b) W3 (.slice a n c) D) (k3 : Keep O2 W2 W3) : AoIs O P D W (.returned (.slice a n c)) W3 := by
  have z1 := hK.size
  have z3 := k3.size
  have nm : ∀ b, New W W2 b → New W W3 b := fun b q => ⟨q.1, by have := q.2; omega⟩
  refine ⟨a, c, n, rfl, hn, hB.wide (fun b q => ?_), ⟨k3.os.trans hK.os, k3.tape.trans hK.tape, k3.output.trans hK.output, by omega, fun b hb hc => ?_⟩⟩
  · rcases q with q | q | q
    · exact (hO2 b q).imp id (fun q => q.imp id (nm b))
    · exact (hS b q).imp id (fun q => q.imp id (nm b))
    · exact .inr (.inr ⟨by have := q.1; omega, q.2⟩)
  · refine (k3.block b (by omega) (fun q => ?_)).trans (hK.block b hb hc)
    rcases hO2 b q with z | z | z
    · exact hc (.inl z)
    · exact hc (.inr z)
    · have := z.1; omega
set_option maxHeartbeats 1000000 in
set_option maxRecDepth 100000 in
theorem ao_emp (w : World) (b1 b2 : Nat) (rs ls : List (List Int)) (P : Nat → Prop) : AoC w b1 b2 rs ls empV P (leafD 0 0) := by
  intro W O a c n D0 hst hP hO hN _ _ _ _ hB hn hl
  have HB : Hid (BodP O W (.slice a n c) D0) := hB
  have HO : Hid (∀ b, O b → b < W.heap.size) := hO
  have HL : Hid (D0.length + 1 ≤ 16777216) := by have h : D0.length + 1 ≤ 1000000 := hl; have h2 : D0.length + 1 ≤ 16777216 := by omega
                                                 exact h2
  clear hB hO hst hP hN hl hn
  go_enter Tryz.func42, Tryz.ntmps42
  have HK : Hid (Keep (fun b => O b ∨ P b) W (W.alloc (.cells #[.map (some b1), .map (some b2)] 67))) := (Keep.alloc _ _ _)
  have HB1 : Hid (BodP O (W.alloc (.cells #[.map (some b1), .map (some b2)] 67)) (.slice a n c) D0) := HB.out.on (fun b q => (Keep.alloc (fun _ => False) W (.cells #[.map (some b1), .map (some b2)] 67)).block b (HO.out b q) (fun z => z))
  go_wp2_with (at_builtin; refine aoS rfl _ _ rfl (opd 0 0) rfl rfl rfl rfl rfl (by simp) HB1.out (S := fun _ => False) (fun b q => by have := HO.out b q; simp; omega) (fun b q => q.elim) (.inl ⟨rfl, rfl, rfl⟩) HL.out ?_; intro a' c' n' W3 hn' hB' hK')
  go_ret
  exact ao_fin HK.out (fun b q => q.elim) (fun b q => .inl q) hn'.out hB'.out hK'.out
theorem BodP.alloc {O : Nat → Prop} {W : World} {v : Value} {D : List OpD} (h : BodP O W v D) (hO : ∀ b, O b → b < W.heap.size) (o : Obj) : BodP O (W.alloc o) v D := h.on (fun b q => (Keep.alloc (fun _ => False) W o).block b (hO b q) (fun z => z))
theorem own_alloc {O : Nat → Prop} {W : World} {v : Value} {n m : Nat} {cs : List Value} (h : OwnC O W v n m cs) (hO : ∀ b, O b → b < W.heap.size) (o : Obj) : OwnC O (W.alloc o) v n m cs := h.on (fun b q => (Keep.alloc (fun _ => False) W o).block b (hO b q) (fun z => z))
theorem lt_alloc {O : Nat → Prop} {W : World} (hO : ∀ b, O b → b < W.heap.size) (o : Obj) : ∀ b, O b → b < (W.alloc o).heap.size := fun b q => by have := hO b q; simp; omega
theorem enter42 (args : Array Value) (w : World) : (callFunc 42 args).run Tryz.prog w = .ok (.enter 42 args) w := by
  simp [callFunc, Tryz.func42, Tryz.f42, go_sem]
theorem stepC3 {P : Program} {ops : Array Oper} {o : Oper} {a : Act} {w : World} {K : Act → World → Prop} {P' : Exit → Act → World → Prop} {E : Prop} {f : FuncId} (hf : ∀ args w, (callFunc f args).run P w = .ok (.enter f args) w) (hgd : o.guard = none) (x1 x2 x3 : Operand) (t1 t2 t3 : TypeId)
    (ho : o.op = .call { callee := .value (.func f), args := #[x1, x2, x3], argTypes := #[t1, t2, t3] }) {y1 y2 y3 : Value} (hx1 : a.eval x1 = y1) (hx2 : a.eval x2 = y2) (hx3 : a.eval x3 = y3) (h : Calls P f #[y1, y2, y3] w (fun e w' => ∃ u, e = .returned u ∧ K (a.put o.dst u) w')) : if Region.wanted o (yielded ops a.tmps) = true then Oper.wp P o a w K P' else E := by
  have hw : Region.wanted o (yielded ops a.tmps) = true := by simp [Region.wanted, hgd]
  rw [if_pos hw]
  have hrun : (execOp a.eval o).run P w = .ok (.enter f #[y1, y2, y3]) w := by
    have e : a.eval (.func f) = .func (.func f) #[] #[] := rfl
    unfold execOp
    simp only [ho, resolve, invoke, Deferred.ofValue, Sem.run_bind, Sem.run_pure, Result.andThen_ok, List.map_toArray, List.map_cons, List.map_nil, hx1, hx2, hx3, e]
    exact hf #[y1, y2, y3] w
  unfold Oper.wp
  rw [hrun]
  refine Calls.mono h ?_
  rintro e w' ⟨u, rfl, hk⟩
  exact hk
set_option maxHeartbeats 1000000 in
set_option maxRecDepth 100000 in
theorem ao_set (w : World) (b1 b2 : Nat) (rs ls : List (List Int)) (z : List Int) (sa : Option Addr) (sc : Nat) (P : Nat → Prop) (hS : OwnC P w (.slice sa z.length sc) 1 z.length (intVs .i64 (lf z) z.length)) : AoC w b1 b2 rs ls (.iface 115 (.agg #[.slice sa z.length sc])) P (setD z) := by
  intro W O a c n D0 hst hP hO hN _ _ _ _ hB hn hl
  have HK : Hid (Keep (fun b => O b ∨ P b) W ((W.alloc (.cells #[.map (some b1), .map (some b2)] 67)).alloc (.cells #[.slice sa z.length sc] 115))) := (Keep.alloc _ _ _).trans (Keep.alloc _ _ _)
  have HB : Hid (BodP O ((W.alloc (.cells #[.map (some b1), .map (some b2)] 67)).alloc (.cells #[.slice sa z.length sc] 115)) (.slice a n c) D0) := (hB.alloc hO _).alloc (lt_alloc hO _) _
  have HO : Hid (∀ b, O b → b < ((W.alloc (.cells #[.map (some b1), .map (some b2)] 67)).alloc (.cells #[.slice sa z.length sc] 115)).heap.size) := lt_alloc (lt_alloc hO _) _
  have HP : Hid (∀ b, P b → b < ((W.alloc (.cells #[.map (some b1), .map (some b2)] 67)).alloc (.cells #[.slice sa z.length sc] 115)).heap.size ∧ ¬ O b) := fun b q => ⟨lt_alloc (lt_alloc (fun b q => (hP b q).1) _) _ b q, (hP b q).2⟩
  have HS : Hid (OwnC P ((W.alloc (.cells #[.map (some b1), .map (some b2)] 67)).alloc (.cells #[.slice sa z.length sc] 115)) (.slice sa z.length sc) 1 z.length (intVs .i64 (lf z) z.length)) := own_alloc (own_alloc (hS.on hst) (fun b q => (hP b q).1) _) (lt_alloc (fun b q => (hP b q).1) _) _
  have hl' : D0.length + 1 ≤ 1000000 := hl
  have HL : Hid (D0.length + 1 ≤ 16777216) := Nat.le_trans hl' (by omega)
  clear hB hO hst hP hN hl hn hS hl'
  go_enter Tryz.func42, Tryz.ntmps42
  go_wp2_with (at_builtin; refine aoS rfl _ _ rfl (sod z) rfl rfl rfl rfl rfl (by simp) HB.out (S := P) HO.out HP.out HS.out HL.out ?_; intro a' c' n' W3 hn' hB' hK')
  go_ret
  exact ao_fin HK.out (fun b q => .inr (.inl q)) (fun b q => .inl q) hn'.out hB'.out hK'.out
set_option maxHeartbeats 1000000 in
set_option maxRecDepth 100000 in
theorem ao_ref (w : World) (b1 b2 : Nat) (rs ls : List (List Int)) (z : List Int) (P : Nat → Prop) (hz : z ∈ rs) : AoC w b1 b2 rs ls (.iface 117 (.agg #[.string (str z.length (lf z))])) P (leafD 2 (findF z rs 0)) := by
  intro W O a c n D0 hst hP hO hN _ _ _ _ hB hn hl
  have e : findF z rs 0 = ((valN rs (ixN rs) z : Nat) : Int) := by
    rw [findF_ix hz]
    unfold valN
    rw [if_pos hz, Nat.zero_add]
  rw [e]
  have HK : Hid (Keep (fun b => O b ∨ P b) W ((W.alloc (.cells #[.map (some b1), .map (some b2)] 67)).alloc (.cells #[.string (str z.length (lf z))] 117))) := (Keep.alloc _ _ _).trans (Keep.alloc _ _ _)
  have HB : Hid (BodP O ((W.alloc (.cells #[.map (some b1), .map (some b2)] 67)).alloc (.cells #[.string (str z.length (lf z))] 117)) (.slice a n c) D0) := (hB.alloc hO _).alloc (lt_alloc hO _) _
  have HO : Hid (∀ b, O b → b < ((W.alloc (.cells #[.map (some b1), .map (some b2)] 67)).alloc (.cells #[.string (str z.length (lf z))] 117)).heap.size) := lt_alloc (lt_alloc hO _) _
  have HM : Hid (MapN ((W.alloc (.cells #[.map (some b1), .map (some b2)] 67)).alloc (.cells #[.string (str z.length (lf z))] 117)) b1 rs (ixN rs)) := (hN.rules.alloc _).alloc _
  have HZ : Hid (BytL z ∧ z.length ≤ 1000000) := ⟨hN.rules.byt z hz, hN.rules.sml z hz⟩
  have hl' : D0.length + 1 ≤ 1000000 := hl
  have HL : Hid (D0.length + 1 ≤ 16777216) := Nat.le_trans hl' (by omega)
  clear hB hO hst hP hN hl hn hz hl' e
  go_enter Tryz.func42, Tryz.ntmps42
  go_wp2_with (first
    | (at_lookup; refine lookV _ rfl _ _ rfl b1 rs (ixN rs) z rfl HM.out rfl HZ.out.1 HZ.out.2 ?_)
    | (at_builtin; refine aoS rfl _ _ rfl (opd 2 (valN rs (ixN rs) z : Nat)) rfl rfl rfl rfl rfl (by simp) HB.out (S := fun _ => False) HO.out (fun b q => q.elim) (.inl ⟨rfl, rfl, rfl⟩) HL.out ?_; intro a' c' n' W3 hn' hB' hK'))
  go_ret
  exact ao_fin HK.out (fun b q => q.elim) (fun b q => .inl q) hn'.out hB'.out hK'.out
set_option maxHeartbeats 1000000 in
set_option maxRecDepth 100000 in
theorem ao_thr (w : World) (b1 b2 : Nat) (rs ls : List (List Int)) (z : List Int) (P : Nat → Prop) (hz : z ∈ ls) : AoC w b1 b2 rs ls (.iface 119 (.agg #[.string (str z.length (lf z))])) P (leafD 3 (findF z ls 0)) := by
  intro W O a c n D0 hst hP hO hN _ _ _ _ hB hn hl
  have e : findF z ls 0 = ((valN ls (ixN ls) z : Nat) : Int) := by
    rw [findF_ix hz]
    unfold valN
    rw [if_pos hz, Nat.zero_add]
  rw [e]
  have HK : Hid (Keep (fun b => O b ∨ P b) W ((W.alloc (.cells #[.map (some b1), .map (some b2)] 67)).alloc (.cells #[.string (str z.length (lf z))] 119))) := (Keep.alloc _ _ _).trans (Keep.alloc _ _ _)
  have HB : Hid (BodP O ((W.alloc (.cells #[.map (some b1), .map (some b2)] 67)).alloc (.cells #[.string (str z.length (lf z))] 119)) (.slice a n c) D0) := (hB.alloc hO _).alloc (lt_alloc hO _) _
  have HO : Hid (∀ b, O b → b < ((W.alloc (.cells #[.map (some b1), .map (some b2)] 67)).alloc (.cells #[.string (str z.length (lf z))] 119)).heap.size) := lt_alloc (lt_alloc hO _) _
  have HM : Hid (MapN ((W.alloc (.cells #[.map (some b1), .map (some b2)] 67)).alloc (.cells #[.string (str z.length (lf z))] 119)) b2 ls (ixN ls)) := (hN.labs.alloc _).alloc _
  have HZ : Hid (BytL z ∧ z.length ≤ 1000000) := ⟨hN.labs.byt z hz, hN.labs.sml z hz⟩
  have hl' : D0.length + 1 ≤ 1000000 := hl
  have HL : Hid (D0.length + 1 ≤ 16777216) := Nat.le_trans hl' (by omega)
  clear hB hO hst hP hN hl hn hz hl' e
  go_enter Tryz.func42, Tryz.ntmps42
  go_wp2_with (first
    | (at_lookup; refine lookV _ rfl _ _ rfl b2 ls (ixN ls) z rfl HM.out rfl HZ.out.1 HZ.out.2 ?_)
    | (at_builtin; refine aoS rfl _ _ rfl (opd 3 (valN ls (ixN ls) z : Nat)) rfl rfl rfl rfl rfl (by simp) HB.out (S := fun _ => False) HO.out (fun b q => q.elim) (.inl ⟨rfl, rfl, rfl⟩) HL.out ?_; intro a' c' n' W3 hn' hB' hK'))
  go_ret
  exact ao_fin HK.out (fun b q => q.elim) (fun b q => .inl q) hn'.out hB'.out hK'.out
set_option maxHeartbeats 1000000 in
set_option maxRecDepth 100000 in
theorem ao_star (w : World) (b1 b2 : Nat) (rs ls : List (List Int)) (ty : TypeId) (u : Value) (P : Nat → Prop) (D : List OpD) (hU : AoC w b1 b2 rs ls (.iface ty u) P D) : AoC w b1 b2 rs ls (.iface 124 (.agg #[.iface ty u])) P (unD 6 D) := by
  intro W O a c n D0 hst hP hO hN n1 n2 n3 n4 hB hn hl
  have hl' : D0.length + D.length + 1 ≤ 1000000 := by
    have h := hl
    simp only [unD, List.length_append, List.length_singleton] at h
    omega
  have ka : Keep (fun _ => False) W ((W.alloc (.cells #[.map (some b1), .map (some b2)] 67)).alloc (.cells #[.iface ty u] 124)) := (Keep.alloc _ _ _).trans (Keep.alloc _ _ _)
  have HK : Hid (Keep (fun b => O b ∨ P b) W ((W.alloc (.cells #[.map (some b1), .map (some b2)] 67)).alloc (.cells #[.iface ty u] 124))) := (Keep.alloc _ _ _).trans (Keep.alloc _ _ _)
  have HC : Hid (Calls Tryz.prog 42 #[.agg #[.map (some b1), .map (some b2)], .slice a n c, .iface ty u] ((W.alloc (.cells #[.map (some b1), .map (some b2)] 67)).alloc (.cells #[.iface ty u] 124)) (AoIs O P (D0 ++ D) ((W.alloc (.cells #[.map (some b1), .map (some b2)] 67)).alloc (.cells #[.iface ty u] 124)))) :=
    hU _ O a c n D0 (fun b q => (ka.block b (hP b q).1 (fun z => z)).trans (hst b q)) (fun b q => ⟨lt_alloc (lt_alloc (fun b q => (hP b q).1) _) _ b q, (hP b q).2⟩) (lt_alloc (lt_alloc hO _) _) ⟨(hN.rules.alloc _).alloc _, (hN.labs.alloc _).alloc _⟩ n1 n2 n3 n4 ((hB.alloc hO _).alloc (lt_alloc hO _) _) hn (by omega)
  have HOP : Hid (∀ b, O b ∨ P b → b < ((W.alloc (.cells #[.map (some b1), .map (some b2)] 67)).alloc (.cells #[.iface ty u] 124)).heap.size) := lt_alloc (lt_alloc (fun b q => q.elim (hO b) (fun z => (hP b z).1)) _) _
  have HL : Hid ((D0 ++ D).length + 1 ≤ 16777216) := by
    have h : (D0 ++ D).length + 1 ≤ 16777216 := by rw [List.length_append]; omega
    exact h
  clear hB hO hst hP hN hl hn hU hl' ka
  go_enter Tryz.func42, Tryz.ntmps42
  go_wp2_with fail
  refine HC.out.mono ?_
  rintro e W2 ⟨a2, c2, m2, rfl, hm2, hB2, hK2⟩
  have HB2 : Hid (BodP (fun b => O b ∨ P b ∨ New ((W.alloc (.cells #[.map (some b1), .map (some b2)] 67)).alloc (.cells #[.iface ty u] 124)) W2 b) W2 (.slice a2 m2 c2) (D0 ++ D)) := hB2
  have HK2 : Hid (Keep (fun b => O b ∨ P b) W W2) := HK.out.trans hK2
  have HO2 : Hid (∀ b, O b ∨ P b ∨ New ((W.alloc (.cells #[.map (some b1), .map (some b2)] 67)).alloc (.cells #[.iface ty u] 124)) W2 b → b < W2.heap.size) := fun b q => by
    rcases q with q | q | q
    · exact Nat.lt_of_lt_of_le (HOP.out b (.inl q)) hK2.size
    · exact Nat.lt_of_lt_of_le (HOP.out b (.inr q)) hK2.size
    · exact q.2
  have HO3 : Hid (∀ b, O b ∨ P b ∨ New ((W.alloc (.cells #[.map (some b1), .map (some b2)] 67)).alloc (.cells #[.iface ty u] 124)) W2 b → O b ∨ P b ∨ New W W2 b) := fun b q => q.imp id (fun q => q.imp id (fun q => ⟨Nat.le_trans HK.out.size q.1, q.2⟩))
  clear hm2 hB2 hK2 HC
  go_wp2_with (at_builtin; refine aoS rfl _ _ rfl (opd 6 0) rfl rfl rfl rfl rfl (by first | rfl | simp) HB2.out (S := fun _ => False) HO2.out (fun b q => q.elim) (.inl ⟨rfl, rfl, rfl⟩) HL.out ?_; intro a' c' n' W3 hn' hB' hK')
  go_ret
  have hfin := ao_fin HK2.out (fun b q => q.elim) HO3.out hn'.out hB'.out hK'.out
  rw [List.append_assoc] at hfin
  exact hfin
set_option maxHeartbeats 1000000 in
set_option maxRecDepth 100000 in
theorem ao_not (w : World) (b1 b2 : Nat) (rs ls : List (List Int)) (ty : TypeId) (u : Value) (P : Nat → Prop) (D : List OpD) (hU : AoC w b1 b2 rs ls (.iface ty u) P D) : AoC w b1 b2 rs ls (.iface 125 (.agg #[.iface ty u])) P (unD 7 D) := by
  intro W O a c n D0 hst hP hO hN n1 n2 n3 n4 hB hn hl
  have hl' : D0.length + D.length + 1 ≤ 1000000 := by
    have h := hl
    simp only [unD, List.length_append, List.length_singleton] at h
    omega
  have ka : Keep (fun _ => False) W ((W.alloc (.cells #[.map (some b1), .map (some b2)] 67)).alloc (.cells #[.iface ty u] 125)) := (Keep.alloc _ _ _).trans (Keep.alloc _ _ _)
  have HK : Hid (Keep (fun b => O b ∨ P b) W ((W.alloc (.cells #[.map (some b1), .map (some b2)] 67)).alloc (.cells #[.iface ty u] 125))) := (Keep.alloc _ _ _).trans (Keep.alloc _ _ _)
  have HC : Hid (Calls Tryz.prog 42 #[.agg #[.map (some b1), .map (some b2)], .slice a n c, .iface ty u] ((W.alloc (.cells #[.map (some b1), .map (some b2)] 67)).alloc (.cells #[.iface ty u] 125)) (AoIs O P (D0 ++ D) ((W.alloc (.cells #[.map (some b1), .map (some b2)] 67)).alloc (.cells #[.iface ty u] 125)))) :=
    hU _ O a c n D0 (fun b q => (ka.block b (hP b q).1 (fun z => z)).trans (hst b q)) (fun b q => ⟨lt_alloc (lt_alloc (fun b q => (hP b q).1) _) _ b q, (hP b q).2⟩) (lt_alloc (lt_alloc hO _) _) ⟨(hN.rules.alloc _).alloc _, (hN.labs.alloc _).alloc _⟩ n1 n2 n3 n4 ((hB.alloc hO _).alloc (lt_alloc hO _) _) hn (by omega)
  have HOP : Hid (∀ b, O b ∨ P b → b < ((W.alloc (.cells #[.map (some b1), .map (some b2)] 67)).alloc (.cells #[.iface ty u] 125)).heap.size) := lt_alloc (lt_alloc (fun b q => q.elim (hO b) (fun z => (hP b z).1)) _) _
  have HL : Hid ((D0 ++ D).length + 1 ≤ 16777216) := by
    have h : (D0 ++ D).length + 1 ≤ 16777216 := by rw [List.length_append]; omega
    exact h
  clear hB hO hst hP hN hl hn hU hl' ka
  go_enter Tryz.func42, Tryz.ntmps42
  go_wp2_with fail
  refine HC.out.mono ?_
  rintro e W2 ⟨a2, c2, m2, rfl, hm2, hB2, hK2⟩
  have HB2 : Hid (BodP (fun b => O b ∨ P b ∨ New ((W.alloc (.cells #[.map (some b1), .map (some b2)] 67)).alloc (.cells #[.iface ty u] 125)) W2 b) W2 (.slice a2 m2 c2) (D0 ++ D)) := hB2
  have HK2 : Hid (Keep (fun b => O b ∨ P b) W W2) := HK.out.trans hK2
  have HO2 : Hid (∀ b, O b ∨ P b ∨ New ((W.alloc (.cells #[.map (some b1), .map (some b2)] 67)).alloc (.cells #[.iface ty u] 125)) W2 b → b < W2.heap.size) := fun b q => by
    rcases q with q | q | q
    · exact Nat.lt_of_lt_of_le (HOP.out b (.inl q)) hK2.size
    · exact Nat.lt_of_lt_of_le (HOP.out b (.inr q)) hK2.size
    · exact q.2
  have HO3 : Hid (∀ b, O b ∨ P b ∨ New ((W.alloc (.cells #[.map (some b1), .map (some b2)] 67)).alloc (.cells #[.iface ty u] 125)) W2 b → O b ∨ P b ∨ New W W2 b) := fun b q => q.imp id (fun q => q.imp id (fun q => ⟨Nat.le_trans HK.out.size q.1, q.2⟩))
  clear hm2 hB2 hK2 HC
  go_wp2_with (at_builtin; refine aoS rfl _ _ rfl (opd 7 0) rfl rfl rfl rfl rfl (by first | rfl | simp) HB2.out (S := fun _ => False) HO2.out (fun b q => q.elim) (.inl ⟨rfl, rfl, rfl⟩) HL.out ?_; intro a' c' n' W3 hn' hB' hK')
  go_ret
  have hfin := ao_fin HK2.out (fun b q => q.elim) HO3.out hn'.out hB'.out hK'.out
  rw [List.append_assoc] at hfin
  exact hfin
end
end Go.Proofs.YteoddjobpmmgeaaGreat
