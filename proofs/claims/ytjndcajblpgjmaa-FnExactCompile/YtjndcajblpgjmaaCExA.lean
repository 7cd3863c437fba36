/-
  Walks: the program's instructions of an expression: what they share.
-/
import Derived.Test.YtjndcajblpgjmaaCPut
import Derived.Test.YtjndcajblpgjmaaSEmA
import Derived.Test.YtjndcajblpgjmaaMeans
namespace Go.Proofs.Ytjndcajblpgjmaa
open Go.RowKit
open M (OpD NodeD Gr InsD EX ins emit wsum)
set_option linter.unusedVariables false
set_option linter.unusedSimpArgs false


set_option maxHeartbeats 2000000 in
theorem twoOperands_any (b o n c : Nat) (T : Nat → OpD) (w : World) (Q : Nat → Prop) (hB : ∀ i, i < n → OpC Q w b (o + i * 3) (T i)) (hn : n ≤ 1048576) (hc : n ≤ c) (s : Nat) (hs : s < n)
    (h1 : M.dep T s + 1 = M.dep T n) (h2 : ∀ j, s < j → j ≤ n → M.dep T n ≤ M.dep T j) :
    Calls Try.prog 181 #[.slice (some ⟨b, o, none⟩) n c] w fun en w' => en = .returned (.tuple #[.slice (some ⟨b, o, none⟩) s c, .slice (some ⟨b, o + s * 3, none⟩) (n - s) (c - s)]) ∧ Below w.heap.size w w' := by
  have HB : Hid (∀ i, i < n → OpC Q w b (o + i * 3) (T i)) := hB
  have H1 : Hid (M.dep T s + 1 = M.dep T n) := h1
  have H2 : Hid (∀ j, s < j → j ≤ n → M.dep T n ≤ M.dep T j) := h2
  clear hB h1 h2
  go_enter Try.func181, Try.ntmps181
  go_wp2
  go_loopw [5, 4] (fun d i wr => startI w T s n d i wr) (fun d i _ => (intOf i).toNat)
  case atStart => exact ⟨n, by omega, Nat.le_refl _, val_int (by omega), rfl, rfl⟩
  case round =>
    obtain ⟨k, hk, hke, rfl, rfl, rfl⟩ := hrel
    by_cases hlt : s < k
    · have hd := H2.out k hlt hke
      have hd2 := dep_back T k n hke
      obtain ⟨q, rfl⟩ : ∃ q, k = q + 1 := ⟨k - 1, by omega⟩
      obtain ⟨c0, ⟨sa, sc, c1, hss⟩, c2⟩ := HB.out q (by omega)
      have har := M.ar_bd (T q).kind
      have HST : Hid (M.dep T (q + 1) = M.dep T q + (1 - M.ar (T q).kind)) := rfl
      clear hss
      have x1 : (0 : Int) < ((q + 1 : Nat) : Int) := by omega
      have x2 : (0 : Int) < 1 - M.dep T n + M.dep T (q + 1) := by omega
      have x3 : ((q + 1 : Nat) : Int) - 1 = (q : Int) := by omega
      have x4 : (q : Int) < n := by omega
      go_wp2_with (go_at_call 172; refine (operandsOf_any _ _).mono ?_; rintro e W ⟨rfl, hw⟩; subst W)
      go_roundw
      case rel => exact ⟨q, by omega, by omega, val_int (by have := HST.out; omega), by first | rfl | go_num, by trivial⟩
      case measure => simp [intOf] <;> omega
    · obtain rfl : k = s := by omega
      have x2 : 1 - M.dep T n + M.dep T k = 0 := by have := H1.out; omega
      have z1 : ¬ c = k := by omega
      have z2 : k ≤ n := by omega
      have z3 : k ≤ c := by omega
      have z4 : ¬ c = 0 := by omega
      have z5 : (k : Int) ≤ (n : Int) := by omega
      have z7 := wrap_small k (by omega)
      rw [x2]
      go_wp2
      go_region
      all_goals go_wp2
      all_goals refine bodyPost_ret (by simp [results, Try.f181, go_sem]; rfl) rfl ?_
      all_goals exact ⟨rfl, (Below.refl _ _).drew⟩

/-- What putExpression leaves. -/
def ExpIs (w0 : World) (cb : Nat) (u0 u1 : Value) (L : List IC) (fl : List Int) (x : EX) (e : Ending) (w' : World) : Prop :=
  (∃ v, e = .returned v) ∧ ∃ K : List IC, K.map IC.d = emit (fun n => (n : Int)) x L.length ∧ CS w0 cb u0 u1 (L ++ K) [] fl w'
theorem exp_len {K : List IC} {r : Nat → Int} {x : EX} {p : Nat} (h : K.map IC.d = emit r x p) : K.length = x.len := by
  rw [← List.length_map (f := IC.d), h, M.emit_len]
theorem enter139 (args : Array Value) (w : World) : (callFunc 139 args).run Try.prog w = .ok (.enter 139 args) w := by
  simp [callFunc, Try.func139, Try.f139, go_sem]
theorem enter85 (args : Array Value) (w : World) : (callFunc 85 args).run Try.prog w = .ok (.enter 85 args) w := by
  simp [callFunc, Try.func85, Try.f85, go_sem]
/-- put, whatever the blocks. -/
theorem put_any (w0 : World) (cb : Nat) (u0 u1 : Value) (l : List IC) (fl : List Int) (w : World) (k a t : Int) (h : CS w0 cb u0 u1 l [] fl w) (hl : l.length ≤ 200000) :
    Calls Try.prog 85 #[.pointer (some ⟨cb, 0, none⟩), .agg #[.int .i64 k, .int .i64 a, .int .i64 t, .slice none 0 0]] w fun e w' => e = .returned (.int .i64 (l.length : Int)) ∧ Hid (CS w0 cb u0 u1 (l ++ [ic k a t]) [] fl w') := by
  obtain ⟨P, F, S, vp, vf, h⟩ := h.plain k a t
  refine (put_cp w0 cb u0 u1 l (ic k a t) fl w P F S vp vf h hl).mono ?_
  rintro e w' ⟨rfl, P', vp', h'⟩
  exact ⟨rfl, P', F, S, vp', vf, h'⟩
theorem put_set (w0 : World) (cb : Nat) (u0 u1 : Value) (l : List IC) (fl : List Int) (w : World) (x : IC) (h : CS w0 cb u0 u1 l [x] fl w) (hl : l.length ≤ 200000) :
    Calls Try.prog 85 #[.pointer (some ⟨cb, 0, none⟩), .agg #[.int .i64 x.d.kind, .int .i64 x.d.arg, .int .i64 x.d.to, .slice x.a x.d.sl x.c]] w fun e w' => e = .returned (.int .i64 (l.length : Int)) ∧ Hid (CS w0 cb u0 u1 (l ++ [x]) [] fl w') := by
  obtain ⟨P, F, S, vp, vf, h⟩ := h
  refine (put_cp w0 cb u0 u1 l x fl w P F S vp vf h hl).mono ?_
  rintro e w' ⟨rfl, P', vp', h'⟩
  exact ⟨rfl, P', F, S, vp', vf, h'⟩

end Go.Proofs.Ytjndcajblpgjmaa
