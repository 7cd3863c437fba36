import Derived.Test.YteoddjobpmmgeaaGreatT26
import Derived.Test.YteoddjobpmmgeaaGreatT13
set_option linter.unusedVariables false
set_option linter.unusedSimpArgs false
namespace Go.Proofs.YteoddjobpmmgeaaGreat
section
open Go.RowKit
open M (OpD NodeD Gr)
theorem zeroT115 (w : World) : (zeroValue 115).run Tryz.prog w = .ok (.agg #[.slice none 0 0]) w := by kernel_rfl
theorem zeroT117 (w : World) : (zeroValue 117).run Tryz.prog w = .ok (.agg #[.string ⟨#[]⟩]) w := by kernel_rfl
theorem zeroT119 (w : World) : (zeroValue 119).run Tryz.prog w = .ok (.agg #[.string ⟨#[]⟩]) w := by kernel_rfl
theorem zeroT121 (w : World) : (zeroValue 121).run Tryz.prog w = .ok (.agg #[.nilIface, .nilIface]) w := by kernel_rfl
theorem zeroT122 (w : World) : (zeroValue 122).run Tryz.prog w = .ok (.agg #[.nilIface, .nilIface]) w := by kernel_rfl
theorem zeroT124 (w : World) : (zeroValue 124).run Tryz.prog w = .ok (.agg #[.nilIface]) w := by kernel_rfl
theorem zeroT125 (w : World) : (zeroValue 125).run Tryz.prog w = .ok (.agg #[.nilIface]) w := by kernel_rfl
theorem as115_115 (v : Value) (w : World) : (Instr.typeAssert (.iface 115 v) 85 115 true).run Tryz.prog w = .ok (.tuple #[v, .bool true]) w := by simp [Instr.typeAssert, run_underlying Tryz.underlying115]
theorem as115_117 (v : Value) (w : World) : (Instr.typeAssert (.iface 117 v) 85 115 true).run Tryz.prog w = .ok (.tuple #[.agg #[.slice none 0 0], .bool false]) w := by simp [Instr.typeAssert, run_underlying Tryz.underlying115, zeroT115]
theorem as115_119 (v : Value) (w : World) : (Instr.typeAssert (.iface 119 v) 85 115 true).run Tryz.prog w = .ok (.tuple #[.agg #[.slice none 0 0], .bool false]) w := by simp [Instr.typeAssert, run_underlying Tryz.underlying115, zeroT115]
theorem as115_121 (v : Value) (w : World) : (Instr.typeAssert (.iface 121 v) 85 115 true).run Tryz.prog w = .ok (.tuple #[.agg #[.slice none 0 0], .bool false]) w := by simp [Instr.typeAssert, run_underlying Tryz.underlying115, zeroT115]
theorem as115_122 (v : Value) (w : World) : (Instr.typeAssert (.iface 122 v) 85 115 true).run Tryz.prog w = .ok (.tuple #[.agg #[.slice none 0 0], .bool false]) w := by simp [Instr.typeAssert, run_underlying Tryz.underlying115, zeroT115]
theorem as115_124 (v : Value) (w : World) : (Instr.typeAssert (.iface 124 v) 85 115 true).run Tryz.prog w = .ok (.tuple #[.agg #[.slice none 0 0], .bool false]) w := by simp [Instr.typeAssert, run_underlying Tryz.underlying115, zeroT115]
theorem as115_125 (v : Value) (w : World) : (Instr.typeAssert (.iface 125 v) 85 115 true).run Tryz.prog w = .ok (.tuple #[.agg #[.slice none 0 0], .bool false]) w := by simp [Instr.typeAssert, run_underlying Tryz.underlying115, zeroT115]
theorem as115_150 (v : Value) (w : World) : (Instr.typeAssert (.iface 150 v) 85 115 true).run Tryz.prog w = .ok (.tuple #[.agg #[.slice none 0 0], .bool false]) w := by simp [Instr.typeAssert, run_underlying Tryz.underlying115, zeroT115]
theorem as117_115 (v : Value) (w : World) : (Instr.typeAssert (.iface 115 v) 85 117 true).run Tryz.prog w = .ok (.tuple #[.agg #[.string ⟨#[]⟩], .bool false]) w := by simp [Instr.typeAssert, run_underlying Tryz.underlying117, zeroT117]
theorem as117_117 (v : Value) (w : World) : (Instr.typeAssert (.iface 117 v) 85 117 true).run Tryz.prog w = .ok (.tuple #[v, .bool true]) w := by simp [Instr.typeAssert, run_underlying Tryz.underlying117]
theorem as117_119 (v : Value) (w : World) : (Instr.typeAssert (.iface 119 v) 85 117 true).run Tryz.prog w = .ok (.tuple #[.agg #[.string ⟨#[]⟩], .bool false]) w := by simp [Instr.typeAssert, run_underlying Tryz.underlying117, zeroT117]
theorem as117_121 (v : Value) (w : World) : (Instr.typeAssert (.iface 121 v) 85 117 true).run Tryz.prog w = .ok (.tuple #[.agg #[.string ⟨#[]⟩], .bool false]) w := by simp [Instr.typeAssert, run_underlying Tryz.underlying117, zeroT117]
theorem as117_122 (v : Value) (w : World) : (Instr.typeAssert (.iface 122 v) 85 117 true).run Tryz.prog w = .ok (.tuple #[.agg #[.string ⟨#[]⟩], .bool false]) w := by simp [Instr.typeAssert, run_underlying Tryz.underlying117, zeroT117]
theorem as117_124 (v : Value) (w : World) : (Instr.typeAssert (.iface 124 v) 85 117 true).run Tryz.prog w = .ok (.tuple #[.agg #[.string ⟨#[]⟩], .bool false]) w := by simp [Instr.typeAssert, run_underlying Tryz.underlying117, zeroT117]
theorem as117_125 (v : Value) (w : World) : (Instr.typeAssert (.iface 125 v) 85 117 true).run Tryz.prog w = .ok (.tuple #[.agg #[.string ⟨#[]⟩], .bool false]) w := by simp [Instr.typeAssert, run_underlying Tryz.underlying117, zeroT117]
theorem as117_150 (v : Value) (w : World) : (Instr.typeAssert (.iface 150 v) 85 117 true).run Tryz.prog w = .ok (.tuple #[.agg #[.string ⟨#[]⟩], .bool false]) w := by simp [Instr.typeAssert, run_underlying Tryz.underlying117, zeroT117]
theorem as119_115 (v : Value) (w : World) : (Instr.typeAssert (.iface 115 v) 85 119 true).run Tryz.prog w = .ok (.tuple #[.agg #[.string ⟨#[]⟩], .bool false]) w := by simp [Instr.typeAssert, run_underlying Tryz.underlying119, zeroT119]
theorem as119_117 (v : Value) (w : World) : (Instr.typeAssert (.iface 117 v) 85 119 true).run Tryz.prog w = .ok (.tuple #[.agg #[.string ⟨#[]⟩], .bool false]) w := by simp [Instr.typeAssert, run_underlying Tryz.underlying119, zeroT119]
theorem as119_119 (v : Value) (w : World) : (Instr.typeAssert (.iface 119 v) 85 119 true).run Tryz.prog w = .ok (.tuple #[v, .bool true]) w := by simp [Instr.typeAssert, run_underlying Tryz.underlying119]
theorem as119_121 (v : Value) (w : World) : (Instr.typeAssert (.iface 121 v) 85 119 true).run Tryz.prog w = .ok (.tuple #[.agg #[.string ⟨#[]⟩], .bool false]) w := by simp [Instr.typeAssert, run_underlying Tryz.underlying119, zeroT119]
theorem as119_122 (v : Value) (w : World) : (Instr.typeAssert (.iface 122 v) 85 119 true).run Tryz.prog w = .ok (.tuple #[.agg #[.string ⟨#[]⟩], .bool false]) w := by simp [Instr.typeAssert, run_underlying Tryz.underlying119, zeroT119]
theorem as119_124 (v : Value) (w : World) : (Instr.typeAssert (.iface 124 v) 85 119 true).run Tryz.prog w = .ok (.tuple #[.agg #[.string ⟨#[]⟩], .bool false]) w := by simp [Instr.typeAssert, run_underlying Tryz.underlying119, zeroT119]
theorem as119_125 (v : Value) (w : World) : (Instr.typeAssert (.iface 125 v) 85 119 true).run Tryz.prog w = .ok (.tuple #[.agg #[.string ⟨#[]⟩], .bool false]) w := by simp [Instr.typeAssert, run_underlying Tryz.underlying119, zeroT119]
theorem as119_150 (v : Value) (w : World) : (Instr.typeAssert (.iface 150 v) 85 119 true).run Tryz.prog w = .ok (.tuple #[.agg #[.string ⟨#[]⟩], .bool false]) w := by simp [Instr.typeAssert, run_underlying Tryz.underlying119, zeroT119]
theorem as121_115 (v : Value) (w : World) : (Instr.typeAssert (.iface 115 v) 85 121 true).run Tryz.prog w = .ok (.tuple #[.agg #[.nilIface, .nilIface], .bool false]) w := by simp [Instr.typeAssert, run_underlying Tryz.underlying121, zeroT121]
theorem as121_117 (v : Value) (w : World) : (Instr.typeAssert (.iface 117 v) 85 121 true).run Tryz.prog w = .ok (.tuple #[.agg #[.nilIface, .nilIface], .bool false]) w := by simp [Instr.typeAssert, run_underlying Tryz.underlying121, zeroT121]
theorem as121_119 (v : Value) (w : World) : (Instr.typeAssert (.iface 119 v) 85 121 true).run Tryz.prog w = .ok (.tuple #[.agg #[.nilIface, .nilIface], .bool false]) w := by simp [Instr.typeAssert, run_underlying Tryz.underlying121, zeroT121]
theorem as121_121 (v : Value) (w : World) : (Instr.typeAssert (.iface 121 v) 85 121 true).run Tryz.prog w = .ok (.tuple #[v, .bool true]) w := by simp [Instr.typeAssert, run_underlying Tryz.underlying121]
theorem as121_122 (v : Value) (w : World) : (Instr.typeAssert (.iface 122 v) 85 121 true).run Tryz.prog w = .ok (.tuple #[.agg #[.nilIface, .nilIface], .bool false]) w := by simp [Instr.typeAssert, run_underlying Tryz.underlying121, zeroT121]
theorem as121_124 (v : Value) (w : World) : (Instr.typeAssert (.iface 124 v) 85 121 true).run Tryz.prog w = .ok (.tuple #[.agg #[.nilIface, .nilIface], .bool false]) w := by simp [Instr.typeAssert, run_underlying Tryz.underlying121, zeroT121]
theorem as121_125 (v : Value) (w : World) : (Instr.typeAssert (.iface 125 v) 85 121 true).run Tryz.prog w = .ok (.tuple #[.agg #[.nilIface, .nilIface], .bool false]) w := by simp [Instr.typeAssert, run_underlying Tryz.underlying121, zeroT121]
theorem as121_150 (v : Value) (w : World) : (Instr.typeAssert (.iface 150 v) 85 121 true).run Tryz.prog w = .ok (.tuple #[.agg #[.nilIface, .nilIface], .bool false]) w := by simp [Instr.typeAssert, run_underlying Tryz.underlying121, zeroT121]
theorem as122_115 (v : Value) (w : World) : (Instr.typeAssert (.iface 115 v) 85 122 true).run Tryz.prog w = .ok (.tuple #[.agg #[.nilIface, .nilIface], .bool false]) w := by simp [Instr.typeAssert, run_underlying Tryz.underlying122, zeroT122]
theorem as122_117 (v : Value) (w : World) : (Instr.typeAssert (.iface 117 v) 85 122 true).run Tryz.prog w = .ok (.tuple #[.agg #[.nilIface, .nilIface], .bool false]) w := by simp [Instr.typeAssert, run_underlying Tryz.underlying122, zeroT122]
theorem as122_119 (v : Value) (w : World) : (Instr.typeAssert (.iface 119 v) 85 122 true).run Tryz.prog w = .ok (.tuple #[.agg #[.nilIface, .nilIface], .bool false]) w := by simp [Instr.typeAssert, run_underlying Tryz.underlying122, zeroT122]
theorem as122_121 (v : Value) (w : World) : (Instr.typeAssert (.iface 121 v) 85 122 true).run Tryz.prog w = .ok (.tuple #[.agg #[.nilIface, .nilIface], .bool false]) w := by simp [Instr.typeAssert, run_underlying Tryz.underlying122, zeroT122]
theorem as122_122 (v : Value) (w : World) : (Instr.typeAssert (.iface 122 v) 85 122 true).run Tryz.prog w = .ok (.tuple #[v, .bool true]) w := by simp [Instr.typeAssert, run_underlying Tryz.underlying122]
theorem as122_124 (v : Value) (w : World) : (Instr.typeAssert (.iface 124 v) 85 122 true).run Tryz.prog w = .ok (.tuple #[.agg #[.nilIface, .nilIface], .bool false]) w := by simp [Instr.typeAssert, run_underlying Tryz.underlying122, zeroT122]
theorem as122_125 (v : Value) (w : World) : (Instr.typeAssert (.iface 125 v) 85 122 true).run Tryz.prog w = .ok (.tuple #[.agg #[.nilIface, .nilIface], .bool false]) w := by simp [Instr.typeAssert, run_underlying Tryz.underlying122, zeroT122]
theorem as122_150 (v : Value) (w : World) : (Instr.typeAssert (.iface 150 v) 85 122 true).run Tryz.prog w = .ok (.tuple #[.agg #[.nilIface, .nilIface], .bool false]) w := by simp [Instr.typeAssert, run_underlying Tryz.underlying122, zeroT122]
theorem as124_115 (v : Value) (w : World) : (Instr.typeAssert (.iface 115 v) 85 124 true).run Tryz.prog w = .ok (.tuple #[.agg #[.nilIface], .bool false]) w := by simp [Instr.typeAssert, run_underlying Tryz.underlying124, zeroT124]
theorem as124_117 (v : Value) (w : World) : (Instr.typeAssert (.iface 117 v) 85 124 true).run Tryz.prog w = .ok (.tuple #[.agg #[.nilIface], .bool false]) w := by simp [Instr.typeAssert, run_underlying Tryz.underlying124, zeroT124]
theorem as124_119 (v : Value) (w : World) : (Instr.typeAssert (.iface 119 v) 85 124 true).run Tryz.prog w = .ok (.tuple #[.agg #[.nilIface], .bool false]) w := by simp [Instr.typeAssert, run_underlying Tryz.underlying124, zeroT124]
theorem as124_121 (v : Value) (w : World) : (Instr.typeAssert (.iface 121 v) 85 124 true).run Tryz.prog w = .ok (.tuple #[.agg #[.nilIface], .bool false]) w := by simp [Instr.typeAssert, run_underlying Tryz.underlying124, zeroT124]
theorem as124_122 (v : Value) (w : World) : (Instr.typeAssert (.iface 122 v) 85 124 true).run Tryz.prog w = .ok (.tuple #[.agg #[.nilIface], .bool false]) w := by simp [Instr.typeAssert, run_underlying Tryz.underlying124, zeroT124]
theorem as124_124 (v : Value) (w : World) : (Instr.typeAssert (.iface 124 v) 85 124 true).run Tryz.prog w = .ok (.tuple #[v, .bool true]) w := by simp [Instr.typeAssert, run_underlying Tryz.underlying124]
theorem as124_125 (v : Value) (w : World) : (Instr.typeAssert (.iface 125 v) 85 124 true).run Tryz.prog w = .ok (.tuple #[.agg #[.nilIface], .bool false]) w := by simp [Instr.typeAssert, run_underlying Tryz.underlying124, zeroT124]
theorem as124_150 (v : Value) (w : World) : (Instr.typeAssert (.iface 150 v) 85 124 true).run Tryz.prog w = .ok (.tuple #[.agg #[.nilIface], .bool false]) w := by simp [Instr.typeAssert, run_underlying Tryz.underlying124, zeroT124]
theorem as125_115 (v : Value) (w : World) : (Instr.typeAssert (.iface 115 v) 85 125 true).run Tryz.prog w = .ok (.tuple #[.agg #[.nilIface], .bool false]) w := by simp [Instr.typeAssert, run_underlying Tryz.underlying125, zeroT125]
theorem as125_117 (v : Value) (w : World) : (Instr.typeAssert (.iface 117 v) 85 125 true).run Tryz.prog w = .ok (.tuple #[.agg #[.nilIface], .bool false]) w := by simp [Instr.typeAssert, run_underlying Tryz.underlying125, zeroT125]
theorem as125_119 (v : Value) (w : World) : (Instr.typeAssert (.iface 119 v) 85 125 true).run Tryz.prog w = .ok (.tuple #[.agg #[.nilIface], .bool false]) w := by simp [Instr.typeAssert, run_underlying Tryz.underlying125, zeroT125]
theorem as125_121 (v : Value) (w : World) : (Instr.typeAssert (.iface 121 v) 85 125 true).run Tryz.prog w = .ok (.tuple #[.agg #[.nilIface], .bool false]) w := by simp [Instr.typeAssert, run_underlying Tryz.underlying125, zeroT125]
theorem as125_122 (v : Value) (w : World) : (Instr.typeAssert (.iface 122 v) 85 125 true).run Tryz.prog w = .ok (.tuple #[.agg #[.nilIface], .bool false]) w := by simp [Instr.typeAssert, run_underlying Tryz.underlying125, zeroT125]
theorem as125_124 (v : Value) (w : World) : (Instr.typeAssert (.iface 124 v) 85 125 true).run Tryz.prog w = .ok (.tuple #[.agg #[.nilIface], .bool false]) w := by simp [Instr.typeAssert, run_underlying Tryz.underlying125, zeroT125]
theorem as125_125 (v : Value) (w : World) : (Instr.typeAssert (.iface 125 v) 85 125 true).run Tryz.prog w = .ok (.tuple #[v, .bool true]) w := by simp [Instr.typeAssert, run_underlying Tryz.underlying125]
theorem as125_150 (v : Value) (w : World) : (Instr.typeAssert (.iface 150 v) 85 125 true).run Tryz.prog w = .ok (.tuple #[.agg #[.nilIface], .bool false]) w := by simp [Instr.typeAssert, run_underlying Tryz.underlying125, zeroT125]
theorem Bod.more {O S : Nat → Prop} {L : Nat → Nat} {W2 W4 : World} {v v4 : Value} {l : List OC} {x : OC} (h : Bod O L W2 v l) (hO : ∀ b, O b → b < W2.heap.size) (hS : ∀ b, S b → b < W2.heap.size ∧ ¬ O b) (hset : OwnC S W2 (.slice x.a x.d.sl x.c) 1 x.d.sl (intVs .i64 x.d.set x.d.sl))
    (own : OwnC (fun b => (O b ∧ L b = 0) ∨ W2.heap.size ≤ b) W4 v4 3 (l.length + 1) (cellsO l ++ ocv x)) (g4 : Grew (fun b => O b ∧ L b = 0) W2 W4) :
    ∃ L4, Bod (fun b => O b ∨ S b ∨ New W2 W4 b) L4 W4 v4 (l ++ [x]) := by
  classical
  refine ⟨fun b => if W2.heap.size ≤ b then 0 else if S b then l.length + 1 else L b, ?_, fun i y hy => ?_⟩
  · have hn : l.length + 1 = (l ++ [x]).length := by simp
    have hc : cellsO l ++ ocv x = cellsO (l ++ [x]) := by simp [cellsO]
    rw [← hn, ← hc]
    rcases own with ⟨_, q, _⟩ | ⟨g, cap, e, hq, h3, h4, h5, h6⟩
    · omega
    refine .inr ⟨g, cap, e, ?_, h3, h4, h5, h6⟩
    have hg : g < W4.heap.size := by
      have hlen : 0 < (cellsO l ++ ocv x).length := by rw [List.length_append, ocv_len]; omega
      have h := h5 0 hlen
      rw [List.getElem?_eq_getElem hlen] at h
      exact lt_of_cell h
    rcases hq with ⟨q1, q2⟩ | q
    · have q3 := hO g q1
      exact ⟨.inl q1, by simp only [if_neg (show ¬ W2.heap.size ≤ g by omega), if_neg (fun z => (hS g z).2 q1), q2]⟩
    · exact ⟨.inr (.inr ⟨q, hg⟩), by simp only [if_pos q]⟩
  · by_cases e : i < l.length
    · rw [List.getElem?_append_left e] at hy
      refine ownC_wide ((h.sets i y hy).on (w' := W4) (fun b hb => g4.block b (hO b hb.1) (fun q => by have := hb.2; have := q.2; omega))) (fun b hb => ⟨.inl hb.1, ?_⟩)
      have := hO b hb.1
      simp only [if_neg (show ¬ W2.heap.size ≤ b by omega), if_neg (fun z => (hS b z).2 hb.1), hb.2]
    · rw [List.getElem?_append_right (by omega)] at hy
      obtain ⟨j, hj⟩ : ∃ j, i - l.length = j := ⟨_, rfl⟩
      rw [hj] at hy
      match j, hy with
      | 0, hy =>
        cases hy
        refine ownC_wide (hset.on (w' := W4) (fun b hb => g4.block b (hS b hb).1 (fun q => (hS b hb).2 q.1))) (fun b hb => ⟨.inr (.inl hb), ?_⟩)
        have := (hS b hb).1
        simp only [if_neg (show ¬ W2.heap.size ≤ b by omega), if_pos hb]
        omega
theorem aoS {ops : Array Oper} {rest : List Oper} {o : Oper} {a : Act} {P' : Exit → Act → World → Prop} {W2 : World} (hgd : o.guard = none) (s x : Operand) (ho : o.op = .call { callee := .builtin .append, args := #[s, x], argTypes := #[48, 48] })
    {v : Value} {D : List OpD} {O S : Nat → Prop} {k g : Int} {xa : Option Addr} {xn xc y : Nat} {ty : TypeId} (d : OpD) (hk : d.kind = k) (hn : d.sl = xn) (hg : d.arg = g) (hs : a.eval s = v) (hx : a.eval x = .slice (some ⟨y, 0, none⟩) 1 1) (hy : y = W2.heap.size) (h1 : BodP O W2 v D) (hO : ∀ b, O b → b < W2.heap.size) (hS : ∀ b, S b → b < W2.heap.size ∧ ¬ O b) (hset : OwnC S W2 (.slice xa d.sl xc) 1 d.sl (intVs .i64 d.set d.sl)) (hlen : D.length + 1 ≤ 16777216)
    (h : ∀ a' c' n' W3, Hid (n' = (D ++ [d]).length) → Hid (BodP (fun b => O b ∨ S b ∨ New W2 W3 b) W3 (.slice a' n' c') (D ++ [d])) → Hid (Keep O W2 W3) → wpList Tryz.prog ops P' rest (a.put o.dst (.slice a' n' c')) W3) : wpList Tryz.prog ops P' (o :: rest) a (W2.alloc (.cells #[.int .i64 k, .slice xa xn xc, .int .i64 g] ty)) := by
  subst hk hn hg hy
  obtain ⟨L, l, hb, hl⟩ := h1
  have e1 : l.length = D.length := by rw [← hl, List.length_map]
  have ka : Keep (fun _ => False) W2 (W2.alloc (.cells #[.int .i64 d.kind, .slice xa d.sl xc, .int .i64 d.arg] ty)) := Keep.alloc _ _ _
  have hsz : (W2.alloc (.cells #[.int .i64 d.kind, .slice xa d.sl xc, .int .i64 d.arg] ty)).heap.size = W2.heap.size + 1 := by simp
  have hb2 : Bod O L (W2.alloc (.cells #[.int .i64 d.kind, .slice xa d.sl xc, .int .i64 d.arg] ty)) v l := hb.on (fun b q => ka.block b (hO b q) (fun z => z))
  refine appE hgd s x 48 48 ho hs hx elem48 (Q := fun b => O b ∧ L b = 0) (n := l.length) (cs := cellsO l) (m := 1) (news := ocv ⟨d, xa, xc⟩) hb2.own (src_op (x := ⟨d, xa, xc⟩) (World.alloc_heap_new W2 _)) (by omega) ?_
  intro v3 W3 hown hgrew hsz3
  obtain ⟨a3, c3, rfl⟩ := own_shape hown
  obtain ⟨L4, hB⟩ := Bod.more (x := ⟨d, xa, xc⟩) hb2 (fun b q => by have := hO b q; omega) (fun b q => ⟨by have := (hS b q).1; omega, (hS b q).2⟩) (hset.on (fun b q => ka.block b (hS b q).1 (fun z => z))) hown hgrew
  refine h a3 c3 _ W3 (by show _ = _; rw [List.length_append, e1]; rfl) ⟨L4, _, hB.wide (fun b q => ⟨q.imp id (fun q => q.imp id (fun q => ⟨by have := q.1; omega, q.2⟩)), rfl⟩), by rw [List.map_append, hl]; rfl⟩ ?_
  have kg := hgrew.kept
  exact ⟨kg.os.trans ka.os, kg.tape.trans ka.tape, kg.output.trans ka.output, Nat.le_trans ka.size kg.size, fun b hb hc => (kg.block b (by omega) (fun q => hc q.1)).trans (ka.block b hb (fun z => z))⟩
inductive TrV (w : World) (rs ls : List (List Int)) : Value → (Nat → Prop) → List OpD → Prop
  | set (z : List Int) (a : Option Addr) (c : Nat) (P : Nat → Prop) : OwnC P w (.slice a z.length c) 1 z.length (intVs .i64 (lf z) z.length) → TrV w rs ls (.iface 115 (.agg #[.slice a z.length c])) P (setD z)
  | ref (z : List Int) (P : Nat → Prop) : z ∈ rs → TrV w rs ls (.iface 117 (.agg #[.string (str z.length (lf z))])) P (leafD 2 (findF z rs 0))
  | thr (z : List Int) (P : Nat → Prop) : z ∈ ls → TrV w rs ls (.iface 119 (.agg #[.string (str z.length (lf z))])) P (leafD 3 (findF z ls 0))
  | seq (u u' : Value) (Pa Pb P : Nat → Prop) (D D' : List OpD) : TrV w rs ls u Pa D → TrV w rs ls u' Pb D' → (∀ b, Pa b → P b) → (∀ b, Pb b → P b) → (∀ b, Pa b → ¬ Pb b) → TrV w rs ls (.iface 121 (.agg #[u, u'])) P (binD 4 D D')
  | alt (u u' : Value) (Pa Pb P : Nat → Prop) (D D' : List OpD) : TrV w rs ls u Pa D → TrV w rs ls u' Pb D' → (∀ b, Pa b → P b) → (∀ b, Pb b → P b) → (∀ b, Pa b → ¬ Pb b) → TrV w rs ls (.iface 122 (.agg #[u, u'])) P (binD 5 D D')
  | star (u : Value) (P : Nat → Prop) (D : List OpD) : TrV w rs ls u P D → TrV w rs ls (.iface 124 (.agg #[u])) P (unD 6 D)
  | not (u : Value) (P : Nat → Prop) (D : List OpD) : TrV w rs ls u P D → TrV w rs ls (.iface 125 (.agg #[u])) P (unD 7 D)
  | emp (P : Nat → Prop) : TrV w rs ls empV P (leafD 0 0)
theorem TrV.iface {w : World} {rs ls : List (List Int)} {v : Value} {P : Nat → Prop} {D : List OpD} (h : TrV w rs ls v P D) : ∃ ty u, v = .iface ty u := by
  cases h <;> exact ⟨_, _, rfl⟩
theorem strOps_snoc (z : List Int) (x y : Int) : strOps ((z ++ [x]) ++ [y]) = binD 4 (strOps (z ++ [x])) (setD (oneD y)) := by
  cases z with
  | nil => rfl
  | cons c r =>
    simp only [List.cons_append, strOps]
    rw [List.foldl_append]
    simp [binD]
theorem StrN.trv {w : World} {rs ls : List (List Int)} : ∀ (z : List Int) {v : Value} {P : Nat → Prop}, StrN w z v P → TrV w rs ls v P (strOps z.reverse)
  | [], v, P, h => by
    have h : v = empV := h
    subst h
    exact .emp P
  | [x], v, P, h => by
    obtain ⟨a, c, rfl, h⟩ := h
    exact .set (oneD x) a c P h
  | y :: x :: r, v, P, h => by
    obtain ⟨u, u', Pa, Pb, rfl, h1, h2, h3, h4, ⟨a, c, rfl, h5⟩⟩ := h
    have h6 := StrN.trv (rs := rs) (ls := ls) (x :: r) h4
    rw [List.reverse_cons] at h6
    rw [List.reverse_cons, List.reverse_cons, strOps_snoc]
    exact .seq _ _ Pa Pb P _ _ h6 (.set (oneD y) a c Pb h5) h1 h2 h3
theorem TrA.trv {w : World} {rs ls : List (List Int)} : ∀ (e : PE) {v : Value} {P : Nat → Prop}, TrA w e v P → (∀ t ∈ e.refT, t.nm ∈ rs) → (∀ t ∈ e.thrT, t.nm ∈ ls) → TrV w rs ls v P (e.ops rs ls) := by
  intro e
  induction e with
  | ref t =>
    intro v P h h1 h2
    have h : v = .iface 117 (.agg #[.string (str t.nm.length (lf t.nm))]) := h
    subst h
    exact .ref t.nm P (h1 t (by simp [PE.refT]))
  | thr c t =>
    intro v P h h1 h2
    have h : v = .iface 119 (.agg #[.string (str t.nm.length (lf t.nm))]) := h
    subst h
    exact .thr t.nm P (h2 t (by simp [PE.thrT]))
  | str t =>
    intro v P h h1 h2
    have := StrN.trv (rs := rs) (ls := ls) _ (show StrN w t.nm.reverse v P from h)
    rw [List.reverse_reverse] at this
    exact this
  | cls t =>
    intro v P h h1 h2
    obtain ⟨a, c, rfl, h⟩ := h
    exact .set t.set a c P h
  | dot t =>
    intro v P h h1 h2
    obtain ⟨a, c, rfl, h⟩ := h
    exact .set [0, 255] a c P h
  | grp o e c ih => exact fun h h1 h2 => ih h h1 h2
  | star e t ih =>
    rintro v P ⟨u, rfl, h⟩ h1 h2
    exact .star u P _ (ih h h1 h2)
  | opt e t ih =>
    rintro v P ⟨u, rfl, h⟩ h1 h2
    exact .alt u empV P (fun _ => False) P _ _ (ih h h1 h2) (.emp _) (fun b q => q) (fun b q => q.elim) (fun b q z => z)
  | not t e ih =>
    rintro v P ⟨u, rfl, h⟩ h1 h2
    exact .not u P _ (ih h h1 h2)
  | amp t e ih =>
    rintro v P ⟨u, rfl, h⟩ h1 h2
    exact .not _ P _ (.not u P _ (ih h h1 h2))
  | emp =>
    intro v P h h1 h2
    have h : v = empV := h
    subst h
    exact .emp P
  | seq a b iha ihb =>
    rintro v P ⟨u, u', Pa, Pb, rfl, k1, k2, k3, h, h'⟩ h1 h2
    exact .seq u u' Pa Pb P _ _ (iha h (fun t q => h1 t (List.mem_append.2 (.inl q))) (fun t q => h2 t (List.mem_append.2 (.inl q)))) (ihb h' (fun t q => h1 t (List.mem_append.2 (.inr q))) (fun t q => h2 t (List.mem_append.2 (.inr q)))) k1 k2 k3
  | alt a t b iha ihb =>
    rintro v P ⟨u, u', Pa, Pb, rfl, k1, k2, k3, h, h'⟩ h1 h2
    exact .alt u u' Pa Pb P _ _ (iha h (fun t q => h1 t (List.mem_append.2 (.inl q))) (fun t q => h2 t (List.mem_append.2 (.inl q)))) (ihb h' (fun t q => h1 t (List.mem_append.2 (.inr q))) (fun t q => h2 t (List.mem_append.2 (.inr q)))) k1 k2 k3
end
end Go.Proofs.YteoddjobpmmgeaaGreat
