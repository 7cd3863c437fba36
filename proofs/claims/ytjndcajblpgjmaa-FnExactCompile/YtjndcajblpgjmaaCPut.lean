/-
  Walks: an instruction is put; one is aimed.
-/
import Derived.Test.YtjndcajblpgjmaaCState
import Derived.Deep.RegionLaw
namespace Go.Proofs.Ytjndcajblpgjmaa
open Go.RowKit
open M (OpD NodeD Gr InsD EX ins)
set_option linter.unusedVariables false
set_option linter.unusedSimpArgs false

theorem own_shape {Q : Nat → Prop} {w : World} {v : Value} {sz n : Nat} {cs : List Value} (h : OwnC Q w v sz n cs) : ∃ a c, v = .slice a n c := by
  rcases h with ⟨rfl, rfl, _⟩ | ⟨g, cap, rfl, _⟩
  · exact ⟨none, 0, rfl⟩
  · exact ⟨_, _, rfl⟩
theorem src_ins (w : World) (x : IC) : Src Try.prog 4 50 (.slice (some ⟨w.heap.size, 0, none⟩) 1 1) 1 (icv x) (w.alloc (.cells #[.int .i64 x.d.kind, .int .i64 x.d.arg, .int .i64 x.d.to, .slice x.a x.d.sl x.c] 118)) := by
  refine Src.ofSlice (P := Try.prog) _ Try.underlying50 ⟨w.heap.size, 0, none⟩ 1 1 (icv x) rfl (fun j u hu => ?_) (fun u hu => ?_)
  · have e' : (⟨w.heap.size, 0, none⟩ : Addr).add j = ⟨w.heap.size, j, none⟩ := by
      by_cases h0 : j = 0
      · subst h0; simp [Addr.add]
      · simp [Addr.add, h0]
    rw [e']
    match j, hu with
    | 0, hu => exact cN w.heap.size rfl hu
    | 1, hu => exact cN w.heap.size rfl hu
    | 2, hu => exact cN w.heap.size rfl hu
    | 3, hu => exact cN w.heap.size rfl hu
    | j + 4, hu => simp [icv] at hu
  · simp [icv] at hu
    rcases hu with rfl | rfl | rfl | rfl <;> rfl

/-- What put leaves. -/
def PutIs (w0 : World) (cb : Nat) (u0 u1 : Value) (l : List IC) (fl : List Int) (F S : Nat → Prop) (vf : Value) (n : Nat) (e : Ending) (w' : World) : Prop :=
  e = .returned (.int .i64 (n : Int)) ∧ ∃ P' vp', CP w0 cb u0 u1 l [] fl w' P' F S vp' vf

set_option maxRecDepth 100000 in
set_option maxHeartbeats 4000000 in
theorem put_cp (w0 : World) (cb : Nat) (u0 u1 : Value) (l : List IC) (x : IC) (fl : List Int) (w : World) (P F S : Nat → Prop) (vp vf : Value) (h : CP w0 cb u0 u1 l [x] fl w P F S vp vf) (hl : l.length ≤ 200000) :
    Calls Try.prog 85 #[.pointer (some ⟨cb, 0, none⟩), .agg #[.int .i64 x.d.kind, .int .i64 x.d.arg, .int .i64 x.d.to, .slice x.a x.d.sl x.c]] w (PutIs w0 cb u0 u1 (l ++ [x]) fl F S vf l.length) := by
  obtain ⟨pa, pc, rfl⟩ := own_shape h.own
  have HX : Hid (CP w0 cb u0 u1 l [x] fl (w.alloc (.cells #[.int .i64 x.d.kind, .int .i64 x.d.arg, .int .i64 x.d.to, .slice x.a x.d.sl x.c] 118)) P F S (.slice pa l.length pc) vf) := h.later (bel1 w _)
  have x0 : (w.alloc (.cells #[.int .i64 x.d.kind, .int .i64 x.d.arg, .int .i64 x.d.to, .slice x.a x.d.sl x.c] 118)).cell? ⟨w.heap.size, 0, none⟩ = some (.int .i64 x.d.kind) := cN w.heap.size rfl rfl
  have x1 : (w.alloc (.cells #[.int .i64 x.d.kind, .int .i64 x.d.arg, .int .i64 x.d.to, .slice x.a x.d.sl x.c] 118)).cell? ⟨w.heap.size, 1, none⟩ = some (.int .i64 x.d.arg) := cN w.heap.size rfl rfl
  have x2 : (w.alloc (.cells #[.int .i64 x.d.kind, .int .i64 x.d.arg, .int .i64 x.d.to, .slice x.a x.d.sl x.c] 118)).cell? ⟨w.heap.size, 2, none⟩ = some (.int .i64 x.d.to) := cN w.heap.size rfl rfl
  have x3 : (w.alloc (.cells #[.int .i64 x.d.kind, .int .i64 x.d.arg, .int .i64 x.d.to, .slice x.a x.d.sl x.c] 118)).cell? ⟨w.heap.size, 3, none⟩ = some (.slice x.a x.d.sl x.c) := cN w.heap.size rfl rfl
  clear h
  go_enter Try.func85, Try.ntmps85
  go_wp2
  generalize w.alloc (.cells #[.int .i64 x.d.kind, .int .i64 x.d.arg, .int .i64 x.d.to, .slice x.a x.d.sl x.c] 118) = X at *
  have p2 := HX.out.p
  have pf := HX.out.soft 2
  have lcb := HX.out.cb0.2
  have lx := lt_of_cell x0
  have HY : Hid (CP w0 cb u0 u1 l [x] fl (X.drew.alloc (.cells #[.int .i64 x.d.kind, .int .i64 x.d.arg, .int .i64 x.d.to, .slice x.a x.d.sl x.c] 118)) P F S (.slice pa l.length pc) vf) := HX.out.later ((Below.refl _ X).drew.trans (bel1 X.drew _))
  have q2 : (X.alloc (.cells #[.int .i64 x.d.kind, .int .i64 x.d.arg, .int .i64 x.d.to, .slice x.a x.d.sl x.c] 118)).cell? ⟨cb, 2, none⟩ = some (.slice pa l.length pc) := cellOn _ p2
  go_region_law (first
    | (refine stepC rfl (.tmp 9) (.tmp 11) 50 50 rfl (v := .slice pa l.length pc) (y := .slice (some ⟨X.heap.size, 0, none⟩) 1 1) (by simp [Act.eval, Act.put]) (by simp [Act.eval, Act.put]) elem50 HY.out.own (src_ins X.drew x) (by omega) (fun _ => Nat.one_pos) ?_
       intro v' W4 hown4 hgrew4 hsz4
       obtain ⟨a', c', rfl⟩ := own_shape hown4
       have HP4 := HY.out.put hown4 hgrew4
       have hcb4 : W4.heap[cb]? = (X.drew.alloc (.cells #[.int .i64 x.d.kind, .int .i64 x.d.arg, .int .i64 x.d.to, .slice x.a x.d.sl x.c] 118)).heap[cb]? := hgrew4.block cb HY.out.cb0.2 (fun q => (HY.out.rp cb q).2.2.1 rfl)
       have r2 : W4.cell? ⟨cb, 2, none⟩ = some (.slice pa l.length pc) := (World.cell?_of_block (a := ⟨cb, 2, none⟩) hcb4).trans HY.out.p
       have r3 : W4.frozen? ⟨cb, 2, none⟩ = false := (World.frozen?_of_block (a := ⟨cb, 2, none⟩) hcb4).trans (HY.out.soft 2)
       have HP5 : Hid (CP w0 cb u0 u1 (l ++ [x]) [] fl (W4.setCell ⟨cb, 2, none⟩ (.slice a' (l.length + 1) c')) (fun b => (P b ∨ (X.drew.alloc (.cells #[.int .i64 x.d.kind, .int .i64 x.d.arg, .int .i64 x.d.to, .slice x.a x.d.sl x.c] 118)).heap.size ≤ b) ∧ b < W4.heap.size ∧ b ≠ cb) F S (.slice a' (l.length + 1) c') vf) := HP4
       clear hown4 hgrew4 hsz4 HP4 hcb4))
  all_goals go_goals
  all_goals go_wp2
  all_goals go_ret
  all_goals exact ⟨ret_int (by omega), _, _, HP5.out⟩

theorem set_at {l r : List IC} {x y : IC} : (l ++ x :: r).set l.length y = l ++ y :: r := by simp

set_option maxRecDepth 100000 in
set_option maxHeartbeats 4000000 in
theorem aim_any (w0 : World) (cb : Nat) (u0 u1 : Value) (l : List IC) (fl : List Int) (w : World) (i : Nat) (x : IC) (h : CS w0 cb u0 u1 l [] fl w) (hx : l[i]? = some x) (hl : l.length ≤ 200000) :
    Calls Try.prog 182 #[.pointer (some ⟨cb, 0, none⟩), .int .i64 (i : Int)] w fun e w' => (∃ v, e = .returned v) ∧ CS w0 cb u0 u1 (l.set i (toI x (l.length : Int))) [] fl w' := by
  obtain ⟨P, F, S, vp, vf, h⟩ := h
  have hi : i < l.length := (List.getElem?_eq_some_iff.1 hx).1
  obtain ⟨g, cap, rfl, hw⟩ : ∃ g cap, vp = .slice (some ⟨g, 0, none⟩) l.length cap ∧ Wr w g (cap * 4) ∧ l.length ≤ cap := by
    rcases h.own with ⟨_, q, _⟩ | ⟨g, cap, e, hq, h3, h4, h5, h6⟩
    · omega
    · exact ⟨g, cap, e, h6, h4⟩
  have HP : Hid (CP w0 cb u0 u1 (l.set i (toI x (l.length : Int))) [] fl (w.drew.setCell ⟨g, i * 4 + 2, none⟩ (.int .i64 (l.length : Int))) P F S (.slice (some ⟨g, 0, none⟩) l.length cap) vf) := (h.later (Below.refl _ w).drew).aim hx
  have p2 := h.p
  have lcb := h.cb0.2
  obtain ⟨u, hu⟩ := Option.isSome_iff_exists.1 (hw.1 (i * 4 + 2) (by omega)).1
  have hf := (hw.1 (i * 4 + 2) (by omega)).2
  have lg := lt_of_cell hu
  have hi' : (i : Int) < (l.length : Int) := by omega
  clear h hx hw
  go_enter Try.func182, Try.ntmps182
  go_wp2
  go_region
  all_goals go_wp2
  all_goals go_end0
  all_goals exact ⟨⟨_, rfl⟩, _, _, _, _, _, HP.out⟩

end Go.Proofs.Ytjndcajblpgjmaa
