import Derived.Test.YtcmcbemcfjbchabRDo
import Derived.BigQuiet

/-
  The program's machine in memory; the smaller of its functions.
-/
namespace Go.Proofs.Ytcmcbemcfjbchab
open Go.RowKit
open M (OpD NodeD Gr InsD)
set_option linter.unusedVariables false
set_option linter.unusedSimpArgs false

/-! ### Frames as values -/
/-- The value of a frame; n: it is a not or lies on one. -/
def frC (f : FrD) (n : Bool) : Value :=
  if f.kind = 0 then .iface 284 (.agg #[.int .i64 f.to, .bool n, .int .i64 (f.pos : Int), .int .i64 (f.log : Int)])
  else if f.kind = 1 then .iface 289 (.agg #[.int .i64 f.to, .bool n, .int .i64 (f.pos : Int), .int .i64 (f.log : Int)])
  else .iface 292 (.agg #[.int .i64 f.to, .bool n])
def cellsG : Bool → List FrD → List Value
  | _, [] => []
  | n, f :: r => frC f (n || f.kind == 1) :: cellsG (n || f.kind == 1) r
theorem cellsG_len : ∀ (l : List FrD) (n : Bool), (cellsG n l).length = l.length
  | [], _ => rfl
  | f :: r, n => by rw [cellsG, List.length_cons, cellsG_len r, List.length_cons]
theorem cellsG_snoc (f : FrD) : ∀ (l : List FrD) (n : Bool), cellsG n (l ++ [f]) = cellsG n l ++ [frC f ((n || l.any (fun f => f.kind == 1)) || f.kind == 1)]
  | [], n => by simp [cellsG]
  | g :: r, n => by
    rw [List.cons_append, cellsG, cellsG_snoc f r, cellsG, List.cons_append, List.any_cons, Bool.or_assoc n]
theorem cellsG_take : ∀ (l : List FrD) (n : Bool) (j : Nat), cellsG n (l.take j) = (cellsG n l).take j
  | [], n, j => by simp [cellsG]
  | f :: r, n, 0 => by simp [cellsG]
  | f :: r, n, j + 1 => by rw [List.take_succ_cons, cellsG, cellsG_take r, cellsG, List.take_succ_cons]
theorem cellsG_get : ∀ (l : List FrD) (n : Bool) (i : Nat) (f : FrD), l[i]? = some f → (cellsG n l)[i]? = some (frC f (n || (l.take (i + 1)).any (fun f => f.kind == 1)))
  | [], n, i, f, h => by simp at h
  | g :: r, n, 0, f, h => by simp at h; subst h; simp [cellsG]
  | g :: r, n, i + 1, f, h => by
    simp at h
    rw [cellsG, List.getElem?_cons_succ, cellsG_get r _ i f h, List.take_succ_cons, List.any_cons, Bool.or_assoc]
theorem frC_one (f : FrD) (n : Bool) : (frC f n).oneCell' = true := by
  unfold frC
  split
  · rfl
  · split <;> rfl

/-! ### The machine -/
/-- The machine's block: what does not lie elsewhere. -/
structure MacC (w : World) (b : Nat) (s : MSt) (ia : Option Addr) (il ic : Nat) (most : Int) (ka : Option Addr) (kn kc : Nat) (la : Option Addr) (ln lc : Nat) : Prop where
  c0 : w.cell? ⟨b, 0, none⟩ = some (.slice ia il ic)
  c1 : w.cell? ⟨b, 1, none⟩ = some (.int .i64 most)
  c2 : w.cell? ⟨b, 2, none⟩ = some (.int .i64 s.at_)
  c3 : w.cell? ⟨b, 3, none⟩ = some (.int .i64 (s.pos : Int))
  c4 : w.cell? ⟨b, 4, none⟩ = some (.slice ka kn kc)
  c5 : w.cell? ⟨b, 5, none⟩ = some (.slice la ln lc)
  c6 : w.cell? ⟨b, 6, none⟩ = some (.int .i64 (s.far : Int))
  ex : ∀ i, i < 256 → w.cell? ⟨b, 7 + i, none⟩ = some (.bool (s.exp i))
  c8 : w.cell? ⟨b, 263, none⟩ = some (.int .i64 (s.steps : Int))
  c9 : w.cell? ⟨b, 264, none⟩ = some (.int .i64 (s.throws : Int))
  c10 : w.cell? ⟨b, 265, none⟩ = some (.int .i64 s.label)
  fz : ∀ j, w.frozen? ⟨b, j, none⟩ = false
/-- The machine in memory. -/
structure MacA (K L : Nat → Prop) (w : World) (b : Nat) (s : MSt) (ia : Option Addr) (il ic : Nat) (most : Int) (ka : Option Addr) (kc : Nat) (la : Option Addr) (lc : Nat) : Prop where
  c : MacC w b s ia il ic most ka s.st.length kc la s.log.length lc
  st : OwnC K w (.slice ka s.st.length kc) 1 s.st.length (cellsG false s.st)
  log : OwnC L w (.slice la s.log.length lc) 3 s.log.length (cellsE s.log)
  lt : ∀ x, K x ∨ L x → x < w.heap.size
  kl : ∀ x, K x → ¬ L x
  kb : ¬ K b
  lb : ¬ L b
theorem MacC.on {w w' : World} {b : Nat} {s : MSt} {ia : Option Addr} {il ic : Nat} {most : Int} {ka : Option Addr} {kn kc : Nat} {la : Option Addr} {ln lc : Nat} (h : MacC w b s ia il ic most ka kn kc la ln lc) (k : w'.heap[b]? = w.heap[b]?) : MacC w' b s ia il ic most ka kn kc la ln lc := by
  have hc : ∀ o, w'.cell? ⟨b, o, none⟩ = w.cell? ⟨b, o, none⟩ := fun o => World.cell?_of_block (a := ⟨b, o, none⟩) k
  exact ⟨(hc _).trans h.c0, (hc _).trans h.c1, (hc _).trans h.c2, (hc _).trans h.c3, (hc _).trans h.c4, (hc _).trans h.c5, (hc _).trans h.c6, fun i hi => (hc _).trans (h.ex i hi), (hc _).trans h.c8, (hc _).trans h.c9, (hc _).trans h.c10, fun j => (World.frozen?_of_block (a := ⟨b, j, none⟩) k).trans (h.fz j)⟩
theorem MacA.on {K L : Nat → Prop} {w w' : World} {b : Nat} {s : MSt} {ia : Option Addr} {il ic : Nat} {most : Int} {ka : Option Addr} {kc : Nat} {la : Option Addr} {lc : Nat} (h : MacA K L w b s ia il ic most ka kc la lc) (k : ∀ x, K x ∨ L x ∨ x = b → w'.heap[x]? = w.heap[x]?) (hs : w.heap.size ≤ w'.heap.size) : MacA K L w' b s ia il ic most ka kc la lc :=
  ⟨h.c.on (k b (.inr (.inr rfl))), h.st.on (fun x hx => k x (.inl hx)), h.log.on (fun x hx => k x (.inr (.inl hx))), fun x hx => Nat.lt_of_lt_of_le (h.lt x hx) hs, h.kl, h.kb, h.lb⟩
theorem MacA.bl {K L : Nat → Prop} {w : World} {b : Nat} {s : MSt} {ia : Option Addr} {il ic : Nat} {most : Int} {ka : Option Addr} {kc : Nat} {la : Option Addr} {lc : Nat} (h : MacA K L w b s ia il ic most ka kc la lc) : b < w.heap.size := lt_of_cell h.c.c0
theorem MacA.later {K L : Nat → Prop} {w w' : World} {b : Nat} {s : MSt} {ia : Option Addr} {il ic : Nat} {most : Int} {ka : Option Addr} {kc : Nat} {la : Option Addr} {lc : Nat} (h : MacA K L w b s ia il ic most ka kc la lc) (k : Below w.heap.size w w') : MacA K L w' b s ia il ic most ka kc la lc :=
  h.on (fun x hx => k.block x (by rcases hx with q | q | q; exact h.lt x (.inl q); exact h.lt x (.inr q); rw [q]; exact h.bl)) k.size
/-- A store into the machine's own block. -/
theorem MacC.set2 {w : World} {b : Nat} {s : MSt} {ia : Option Addr} {il ic : Nat} {most : Int} {ka : Option Addr} {kn kc : Nat} {la : Option Addr} {ln lc : Nat} (h : MacC w b s ia il ic most ka kn kc la ln lc) (z : Int) : MacC (w.setCell ⟨b, 2, none⟩ (.int .i64 z)) b { s with at_ := z } ia il ic most ka kn kc la ln lc :=
  ⟨cell_setO (by omega) h.c0, cell_setO (by omega) h.c1, cell_set_same h.c2, cell_setO (by omega) h.c3, cell_setO (by omega) h.c4, cell_setO (by omega) h.c5, cell_setO (by omega) h.c6, fun i hi => cell_setO (by omega) (h.ex i hi), cell_setO (by omega) h.c8, cell_setO (by omega) h.c9, cell_setO (by omega) h.c10, fun j => (World.frozen?_setCell _ _ _ _).trans (h.fz j)⟩
theorem MacC.set3 {w : World} {b : Nat} {s : MSt} {ia : Option Addr} {il ic : Nat} {most : Int} {ka : Option Addr} {kn kc : Nat} {la : Option Addr} {ln lc : Nat} (h : MacC w b s ia il ic most ka kn kc la ln lc) (z : Nat) : MacC (w.setCell ⟨b, 3, none⟩ (.int .i64 (z : Int))) b { s with pos := z } ia il ic most ka kn kc la ln lc :=
  ⟨cell_setO (by omega) h.c0, cell_setO (by omega) h.c1, cell_setO (by omega) h.c2, cell_set_same h.c3, cell_setO (by omega) h.c4, cell_setO (by omega) h.c5, cell_setO (by omega) h.c6, fun i hi => cell_setO (by omega) (h.ex i hi), cell_setO (by omega) h.c8, cell_setO (by omega) h.c9, cell_setO (by omega) h.c10, fun j => (World.frozen?_setCell _ _ _ _).trans (h.fz j)⟩
theorem MacC.set4 {w : World} {b : Nat} {s : MSt} {ia : Option Addr} {il ic : Nat} {most : Int} {ka : Option Addr} {kn kc : Nat} {la : Option Addr} {ln lc : Nat} (h : MacC w b s ia il ic most ka kn kc la ln lc) (ka' : Option Addr) (kn' kc' : Nat) : MacC (w.setCell ⟨b, 4, none⟩ (.slice ka' kn' kc')) b s ia il ic most ka' kn' kc' la ln lc :=
  ⟨cell_setO (by omega) h.c0, cell_setO (by omega) h.c1, cell_setO (by omega) h.c2, cell_setO (by omega) h.c3, cell_set_same h.c4, cell_setO (by omega) h.c5, cell_setO (by omega) h.c6, fun i hi => cell_setO (by omega) (h.ex i hi), cell_setO (by omega) h.c8, cell_setO (by omega) h.c9, cell_setO (by omega) h.c10, fun j => (World.frozen?_setCell _ _ _ _).trans (h.fz j)⟩
theorem MacC.set5 {w : World} {b : Nat} {s : MSt} {ia : Option Addr} {il ic : Nat} {most : Int} {ka : Option Addr} {kn kc : Nat} {la : Option Addr} {ln lc : Nat} (h : MacC w b s ia il ic most ka kn kc la ln lc) (la' : Option Addr) (ln' lc' : Nat) : MacC (w.setCell ⟨b, 5, none⟩ (.slice la' ln' lc')) b s ia il ic most ka kn kc la' ln' lc' :=
  ⟨cell_setO (by omega) h.c0, cell_setO (by omega) h.c1, cell_setO (by omega) h.c2, cell_setO (by omega) h.c3, cell_setO (by omega) h.c4, cell_set_same h.c5, cell_setO (by omega) h.c6, fun i hi => cell_setO (by omega) (h.ex i hi), cell_setO (by omega) h.c8, cell_setO (by omega) h.c9, cell_setO (by omega) h.c10, fun j => (World.frozen?_setCell _ _ _ _).trans (h.fz j)⟩
theorem MacC.set6 {w : World} {b : Nat} {s : MSt} {ia : Option Addr} {il ic : Nat} {most : Int} {ka : Option Addr} {kn kc : Nat} {la : Option Addr} {ln lc : Nat} (h : MacC w b s ia il ic most ka kn kc la ln lc) (z : Nat) : MacC (w.setCell ⟨b, 6, none⟩ (.int .i64 (z : Int))) b { s with far := z } ia il ic most ka kn kc la ln lc :=
  ⟨cell_setO (by omega) h.c0, cell_setO (by omega) h.c1, cell_setO (by omega) h.c2, cell_setO (by omega) h.c3, cell_setO (by omega) h.c4, cell_setO (by omega) h.c5, cell_set_same h.c6, fun i hi => cell_setO (by omega) (h.ex i hi), cell_setO (by omega) h.c8, cell_setO (by omega) h.c9, cell_setO (by omega) h.c10, fun j => (World.frozen?_setCell _ _ _ _).trans (h.fz j)⟩
theorem MacC.set8 {w : World} {b : Nat} {s : MSt} {ia : Option Addr} {il ic : Nat} {most : Int} {ka : Option Addr} {kn kc : Nat} {la : Option Addr} {ln lc : Nat} (h : MacC w b s ia il ic most ka kn kc la ln lc) (z : Nat) : MacC (w.setCell ⟨b, 263, none⟩ (.int .i64 (z : Int))) b { s with steps := z } ia il ic most ka kn kc la ln lc :=
  ⟨cell_setO (by omega) h.c0, cell_setO (by omega) h.c1, cell_setO (by omega) h.c2, cell_setO (by omega) h.c3, cell_setO (by omega) h.c4, cell_setO (by omega) h.c5, cell_setO (by omega) h.c6, fun i hi => cell_setO (by omega) (h.ex i hi), cell_set_same h.c8, cell_setO (by omega) h.c9, cell_setO (by omega) h.c10, fun j => (World.frozen?_setCell _ _ _ _).trans (h.fz j)⟩
theorem MacC.set9 {w : World} {b : Nat} {s : MSt} {ia : Option Addr} {il ic : Nat} {most : Int} {ka : Option Addr} {kn kc : Nat} {la : Option Addr} {ln lc : Nat} (h : MacC w b s ia il ic most ka kn kc la ln lc) (z : Nat) : MacC (w.setCell ⟨b, 264, none⟩ (.int .i64 (z : Int))) b { s with throws := z } ia il ic most ka kn kc la ln lc :=
  ⟨cell_setO (by omega) h.c0, cell_setO (by omega) h.c1, cell_setO (by omega) h.c2, cell_setO (by omega) h.c3, cell_setO (by omega) h.c4, cell_setO (by omega) h.c5, cell_setO (by omega) h.c6, fun i hi => cell_setO (by omega) (h.ex i hi), cell_setO (by omega) h.c8, cell_set_same h.c9, cell_setO (by omega) h.c10, fun j => (World.frozen?_setCell _ _ _ _).trans (h.fz j)⟩
theorem MacC.set10 {w : World} {b : Nat} {s : MSt} {ia : Option Addr} {il ic : Nat} {most : Int} {ka : Option Addr} {kn kc : Nat} {la : Option Addr} {ln lc : Nat} (h : MacC w b s ia il ic most ka kn kc la ln lc) (z : Int) : MacC (w.setCell ⟨b, 265, none⟩ (.int .i64 z)) b { s with label := z } ia il ic most ka kn kc la ln lc :=
  ⟨cell_setO (by omega) h.c0, cell_setO (by omega) h.c1, cell_setO (by omega) h.c2, cell_setO (by omega) h.c3, cell_setO (by omega) h.c4, cell_setO (by omega) h.c5, cell_setO (by omega) h.c6, fun i hi => cell_setO (by omega) (h.ex i hi), cell_setO (by omega) h.c8, cell_setO (by omega) h.c9, cell_set_same h.c10, fun j => (World.frozen?_setCell _ _ _ _).trans (h.fz j)⟩
/-- What else is in memory stays while only the machine's block turns. -/
theorem MacA.put {K L : Nat → Prop} {w w' : World} {b : Nat} {s s' : MSt} {ia : Option Addr} {il ic : Nat} {most : Int} {ka : Option Addr} {kc : Nat} {la : Option Addr} {lc : Nat} (h : MacA K L w b s ia il ic most ka kc la lc) (ho : Only (fun x => x = b) w w') (hst : s'.st = s.st) (hlog : s'.log = s.log) (hc : MacC w' b s' ia il ic most ka s.st.length kc la s.log.length lc) : MacA K L w' b s' ia il ic most ka kc la lc := by
  refine ⟨by rw [hst, hlog]; exact hc, ?_, ?_, fun x hx => by rw [ho.size]; exact h.lt x hx, h.kl, h.kb, h.lb⟩
  · rw [hst]; exact h.st.on (fun x hx => ho.block x (fun e => h.kb (e ▸ hx)))
  · rw [hlog]; exact h.log.on (fun x hx => ho.block x (fun e => h.lb (e ▸ hx)))

/-! ### What an action leaves -/
def rcode (t : MSt) : Int := if t.done then t.code else -1
/-- t: the state of the plain machine behind the step. Where the run is over, index and stack may be others. -/
def ActIs (t : MSt) (K L : Nat → Prop) (b : Nat) (ia : Option Addr) (il ic : Nat) (most : Int) (w : World) (e : Ending) (w' : World) : Prop :=
  e = .returned (.int .i64 (rcode t)) ∧ ∃ z st ka kc la lc, ∃ K' L' : Nat → Prop, (t.done = false → z = t.at_ ∧ st = t.st) ∧ MacA K' L' w' b { t with at_ := z, st := st } ia il ic most ka kc la lc ∧
    (∀ x, K' x → K x ∨ New w w' x) ∧ (∀ x, L' x → L x ∨ New w w' x) ∧ Kept (fun x => K x ∨ L x ∨ x = b) w w'

end Go.Proofs.Ytcmcbemcfjbchab

/-
  Walks: the program's machine: take, insideNot, headerTo, here.
-/
namespace Go.Proofs.Ytcmcbemcfjbchab
open Go.RowKit
open M (OpD NodeD Gr InsD)
set_option linter.unusedVariables false
set_option linter.unusedSimpArgs false

def GivesW (v : Value) (W : World) (e : Ending) (w' : World) : Prop := e = .returned v ∧ w' = W
set_option maxRecDepth 100000 in
set_option maxHeartbeats 4000000 in
theorem take_none (b : Nat) (ka : Option Addr) (kc : Nat) (w : World) (c4 : w.cell? ⟨b, 4, none⟩ = some (.slice ka 0 kc)) :
    Calls Try.prog 227 #[.pointer (some ⟨b, 0, none⟩)] w (GivesW .nilIface w) := by
  go_enter Try.func227, Try.ntmps227
  go_wp2
  go_ret
  exact ⟨rfl, rfl⟩
set_option maxRecDepth 100000 in
set_option maxHeartbeats 4000000 in
theorem take_some (b g j kc : Nat) (v : Value) (w : World) (c4 : w.cell? ⟨b, 4, none⟩ = some (.slice (some ⟨g, 0, none⟩) (j + 1) kc)) (f4 : w.frozen? ⟨b, 4, none⟩ = false) (cg : w.cell? ⟨g, j, none⟩ = some v) (hj : j ≤ 1000) (hk : j + 1 ≤ kc) :
    Calls Try.prog 227 #[.pointer (some ⟨b, 0, none⟩)] w (GivesW v (w.setCell ⟨b, 4, none⟩ (.slice (some ⟨g, 0, none⟩) j kc))) := by
  have e1 : ((j + 1 : Nat) : Int) - 1 = (j : Int) := by omega
  have hlt : (j : Int) < ((j + 1 : Nat) : Int) := by omega
  have hk' : (j : Int) ≤ (kc : Int) := by omega
  go_enter Try.func227, Try.ntmps227
  go_wp2
  go_ret
  exact ⟨rfl, rfl⟩

theorem sizeHead : (Try.prog.info? 278).map (·.size) = some 2 := by kernel_rfl
theorem rowChoice : (Try.prog.info? 284).bind (fun i => (i.methods.find? (·.name == "loop.example/s0055/impl.head")).map (fun m => (m.path, m.func))) = some (#[⟨284, 0, false⟩], some (259, false)) := by kernel_rfl
theorem headChoice (fuel : Nat) (a b c d : Value) (w : World) : (method (fuel + 1) 284 (.agg #[a, b, c, d]) "loop.example/s0055/impl.head").run Try.prog w = .ok (259, .agg #[a, b]) w := by
  obtain ⟨i, hi, hm⟩ := Option.bind_eq_some_iff.1 rowChoice
  obtain ⟨m, hf, hmm⟩ := Option.map_eq_some_iff.1 hm
  simp only [Prod.mk.injEq] at hmm
  obtain ⟨j, hj, hs⟩ := Option.map_eq_some_iff.1 sizeHead
  unfold method
  simp [typeInfo, hi, hf, hmm.1, hmm.2, hj, hs, follow, run_underlying Try.underlying284, run_underlying Try.underlying278, receiverAt, part, isAgg, sizeOf, Place.get]
theorem rowNot : (Try.prog.info? 289).bind (fun i => (i.methods.find? (·.name == "loop.example/s0055/impl.head")).map (fun m => (m.path, m.func))) = some (#[⟨289, 0, false⟩], some (259, false)) := by kernel_rfl
theorem headNot (fuel : Nat) (a b c d : Value) (w : World) : (method (fuel + 1) 289 (.agg #[a, b, c, d]) "loop.example/s0055/impl.head").run Try.prog w = .ok (259, .agg #[a, b]) w := by
  obtain ⟨i, hi, hm⟩ := Option.bind_eq_some_iff.1 rowNot
  obtain ⟨m, hf, hmm⟩ := Option.map_eq_some_iff.1 hm
  simp only [Prod.mk.injEq] at hmm
  obtain ⟨j, hj, hs⟩ := Option.map_eq_some_iff.1 sizeHead
  unfold method
  simp [typeInfo, hi, hf, hmm.1, hmm.2, hj, hs, follow, run_underlying Try.underlying289, run_underlying Try.underlying278, receiverAt, part, isAgg, sizeOf, Place.get]
theorem rowRet : (Try.prog.info? 292).bind (fun i => (i.methods.find? (·.name == "loop.example/s0055/impl.head")).map (fun m => (m.path, m.func))) = some (#[⟨292, 0, false⟩], some (259, false)) := by kernel_rfl
theorem headRet (fuel : Nat) (a b : Value) (w : World) : (method (fuel + 1) 292 (.agg #[a, b]) "loop.example/s0055/impl.head").run Try.prog w = .ok (259, .agg #[a, b]) w := by
  obtain ⟨i, hi, hm⟩ := Option.bind_eq_some_iff.1 rowRet
  obtain ⟨m, hf, hmm⟩ := Option.map_eq_some_iff.1 hm
  simp only [Prod.mk.injEq] at hmm
  obtain ⟨j, hj, hs⟩ := Option.map_eq_some_iff.1 sizeHead
  unfold method
  simp [typeInfo, hi, hf, hmm.1, hmm.2, hj, hs, follow, run_underlying Try.underlying292, run_underlying Try.underlying278, receiverAt, part, isAgg, sizeOf, Place.get]
theorem field_not (z : Int) (n : Bool) (w : World) : (Instr.field 278 (.agg #[.int .i64 z, .bool n]) 1).run Try.prog w = .ok (.bool n) w := by
  simp [Instr.field, run_underlying Try.underlying278, run_underlying Try.underlying4, part, isAgg, asAgg]
theorem head_any (z : Int) (n : Bool) (w : World) : Calls Try.prog 259 #[.agg #[.int .i64 z, .bool n]] w (GivesV (.agg #[.int .i64 z, .bool n]) w) := by
  go_enter Try.func259, Try.ntmps259
  go_wp2
  refine bodyPost_ret (v := .agg #[.int .i64 z, .bool n]) ?_ rfl ⟨rfl, bel2 w _ _⟩
  simp [results, Try.f259, go_sem]
set_option maxRecDepth 100000 in
set_option maxHeartbeats 4000000 in
theorem inside_none (b : Nat) (ka : Option Addr) (kc : Nat) (w : World) (c4 : w.cell? ⟨b, 4, none⟩ = some (.slice ka 0 kc)) :
    Calls Try.prog 221 #[.pointer (some ⟨b, 0, none⟩)] w (TellsB false w) := by
  go_enter Try.func221, Try.ntmps221
  go_wp2
  go_ret
  exact ⟨rfl, Below.refl _ _⟩
set_option maxRecDepth 100000 in
set_option maxHeartbeats 4000000 in
theorem inside_some (b g j kc : Nat) (f : FrD) (n : Bool) (w : World) (c4 : w.cell? ⟨b, 4, none⟩ = some (.slice (some ⟨g, 0, none⟩) (j + 1) kc)) (cg : w.cell? ⟨g, j, none⟩ = some (frC f n)) (hj : j ≤ 1000) :
    Calls Try.prog 221 #[.pointer (some ⟨b, 0, none⟩)] w (TellsB n w) := by
  have e1 : ((j + 1 : Nat) : Int) - 1 = (j : Int) := by omega
  have hlt : (j : Int) < ((j + 1 : Nat) : Int) := by omega
  unfold frC at cg
  split at cg
  · skip
    have hfd := field_not f.to n
    have hm := fun fuel w => headChoice fuel (.int .i64 f.to) (.bool n) (.int .i64 (f.pos : Int)) (.int .i64 (f.log : Int)) w
    go_enter Try.func221, Try.ntmps221
    go_wp2_with (go_at_call 259; refine (head_any _ _ _).mono ?_; rintro e W ⟨rfl, hb⟩; have HB : Hid _ := hb; clear hb)
    go_ret
    exact ⟨rfl, HB.out⟩
  · split at cg
    · skip
      have hfd := field_not f.to n
      have hm := fun fuel w => headNot fuel (.int .i64 f.to) (.bool n) (.int .i64 (f.pos : Int)) (.int .i64 (f.log : Int)) w
      go_enter Try.func221, Try.ntmps221
      go_wp2_with (go_at_call 259; refine (head_any _ _ _).mono ?_; rintro e W ⟨rfl, hb⟩; have HB : Hid _ := hb; clear hb)
      go_ret
      exact ⟨rfl, HB.out⟩
    · skip
      have hfd := field_not f.to n
      have hm := fun fuel w => headRet fuel (.int .i64 f.to) (.bool n) w
      go_enter Try.func221, Try.ntmps221
      go_wp2_with (go_at_call 259; refine (head_any _ _ _).mono ?_; rintro e W ⟨rfl, hb⟩; have HB : Hid _ := hb; clear hb)
      go_ret
      exact ⟨rfl, HB.out⟩

/-- The top frame's cell. -/
theorem top_cell {K : Nat → Prop} {w : World} {ka : Option Addr} {kc : Nat} {l : List FrD} {j : Nat} {f : FrD} (h : OwnC K w (.slice ka l.length kc) 1 l.length (cellsG false l)) (hl : l.length = j + 1) (hf : l[j]? = some f) :
    ∃ g, ka = some ⟨g, 0, none⟩ ∧ K g ∧ l.length ≤ kc ∧ w.cell? ⟨g, j, none⟩ = some (frC f (l.any (fun f => f.kind == 1))) := by
  rcases h with ⟨_, e, _⟩ | ⟨g, cap, e, hq, h3, h4, h5, h6⟩
  · omega
  · injection e with e1 e2 e3
    refine ⟨g, e1, hq, by omega, ?_⟩
    rw [h5 j (by rw [cellsG_len]; omega), cellsG_get l false j f hf, List.take_of_length_le (by omega), Bool.false_or]
theorem inside_any (K L : Nat → Prop) (b : Nat) (s : MSt) (ia : Option Addr) (il ic : Nat) (most : Int) (ka : Option Addr) (kc : Nat) (la : Option Addr) (lc : Nat) (w : World) (hA : MacA K L w b s ia il ic most ka kc la lc) (hn : s.st.length ≤ 1000) :
    Calls Try.prog 221 #[.pointer (some ⟨b, 0, none⟩)] w (TellsB s.inNot w) := by
  have c4 := hA.c.c4
  rcases Nat.eq_zero_or_pos s.st.length with h0 | h0
  · have e : s.inNot = false := by unfold MSt.inNot; rw [List.eq_nil_of_length_eq_zero h0]; rfl
    rw [e]
    rw [h0] at c4
    exact inside_none b ka kc w c4
  · obtain ⟨j, hj⟩ : ∃ j, s.st.length = j + 1 := ⟨s.st.length - 1, by omega⟩
    obtain ⟨f, hf, _⟩ := getLast_at hj
    obtain ⟨g, rfl, hg, hkc, hc⟩ := top_cell hA.st hj hf
    rw [hj] at c4
    exact inside_some b g j kc f s.inNot w c4 hc (by omega)
set_option maxRecDepth 100000 in
set_option maxHeartbeats 4000000 in
theorem headerTo_any (K L : Nat → Prop) (b : Nat) (s : MSt) (ia : Option Addr) (il ic : Nat) (most : Int) (ka : Option Addr) (kc : Nat) (la : Option Addr) (lc : Nat) (z : Int) (w : World) (hA : MacA K L w b s ia il ic most ka kc la lc) (hn : s.st.length ≤ 1000) :
    Calls Try.prog 225 #[.pointer (some ⟨b, 0, none⟩), .int .i64 z] w (GivesV (.agg #[.int .i64 z, .bool s.inNot]) w) := by
  have HA : Hid (MacA K L w b s ia il ic most ka kc la lc) := hA
  clear hA
  obtain ⟨nn, hnn⟩ : ∃ nn, s.inNot = nn := ⟨_, rfl⟩
  have HNN : Hid (s.inNot = nn) := hnn
  rw [hnn]
  clear hnn
  go_enter Try.func225, Try.ntmps225
  go_wp2_with fail
  refine (inside_any K L b s ia il ic most ka kc la lc _ (HA.out.later (bel1 w _)) hn).mono ?_
  rintro e W ⟨rfl, hb⟩
  rw [HNN.out]
  have x0 := cell_on (a := ⟨w.heap.size, 0, none⟩) (v := .int .i64 0) (cN w.heap.size rfl rfl) hb
  have x1 := cell_on (a := ⟨w.heap.size, 1, none⟩) (v := .bool false) (cN w.heap.size rfl rfl) hb
  have f0 : W.frozen? ⟨w.heap.size, 0, none⟩ = false := by
    rw [hb.frozen (p := ⟨w.heap.size, 0, none⟩) (by simp)]
    exact soft1 w _ 278 _ _ (by omega) (by simp)
  have f1 : W.frozen? ⟨w.heap.size, 1, none⟩ = false := by
    rw [hb.frozen (p := ⟨w.heap.size, 1, none⟩) (by simp)]
    exact soft1 w _ 278 _ _ (by omega) (by simp)
  have HB : Hid (Below w.heap.size w W) := bel_tr (bel1 w _) hb
  clear hb
  go_wp2
  refine bodyPost_ret (v := .agg #[.int .i64 z, .bool nn]) ?_ rfl ?_
  · simp [results, Try.f225, go_sem, *]
  · exact ⟨rfl, bel_set (bel_set HB.out _ _ _ (by omega)) _ _ _ (by omega)⟩
set_option maxRecDepth 100000 in
set_option maxHeartbeats 4000000 in
theorem here_any (b pos ln lc : Nat) (la : Option Addr) (w : World) (c3 : w.cell? ⟨b, 3, none⟩ = some (.int .i64 (pos : Int))) (c5 : w.cell? ⟨b, 5, none⟩ = some (.slice la ln lc)) :
    Calls Try.prog 226 #[.pointer (some ⟨b, 0, none⟩)] w (GivesV (.agg #[.int .i64 (pos : Int), .int .i64 (ln : Int)]) w) := by
  have lb : b < w.heap.size := lt_of_cell c3
  go_enter Try.func226, Try.ntmps226
  go_wp2
  go_region
  all_goals
    go_wp2
    refine bodyPost_ret (v := .agg #[.int .i64 (pos : Int), .int .i64 (ln : Int)]) ?_ rfl ?_
    · simp [results, Try.f226, go_sem, *]
    · exact ⟨rfl, (bel1 w _).drew⟩

end Go.Proofs.Ytcmcbemcfjbchab
