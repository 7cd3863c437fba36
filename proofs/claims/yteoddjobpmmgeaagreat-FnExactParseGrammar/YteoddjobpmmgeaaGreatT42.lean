import Derived.Test.YteoddjobpmmgeaaGreatT19
import Derived.Test.YteoddjobpmmgeaaGreatT10
import Derived.Defers
import Derived.Recover
import Derived.Laws.Pointers
import Derived.Test.YteoddjobpmmgeaaGreatT17
set_option linter.unusedVariables false
set_option linter.unusedSimpArgs false
namespace Go.Proofs.YteoddjobpmmgeaaGreat
section
open Go.RowKit
open M (OpD NodeD Gr)
theorem zeroF (w : World) : (zeroValue 56).run Tryz.prog w = .ok (.agg #[.int .i64 0, .int .i64 0]) w := by kernel_rfl
theorem asFlt (v : Value) (w : World) : (Instr.typeAssert (.iface 56 v) 20 56 true).run Tryz.prog w = .ok (.tuple #[v, .bool true]) w := by simp [Instr.typeAssert, run_underlying Tryz.underlying56]
theorem asNil (w : World) : (Instr.typeAssert .nilIface 20 56 true).run Tryz.prog w = .ok (.tuple #[.agg #[.int .i64 0, .int .i64 0], .bool false]) w := by simp [Instr.typeAssert, run_underlying Tryz.underlying56, zeroF]
attribute [local go_sem] asFlt asNil
theorem results19 : Tryz.f19.results = #[] := by kernel_rfl
set_option maxHeartbeats 1000000 in
set_option maxRecDepth 100000 in
theorem catch_idle (G C A : Nat) (w : World) :
    CallsD Tryz.prog 19 #[.pointer (some ⟨G, 0, none⟩), .pointer (some ⟨C, 0, none⟩), .pointer (some ⟨A, 0, none⟩)] .returning w fun e u' w' => e = .returned (.tuple #[]) ∧ u' = .returning ∧ Keep (fun _ => False) w w' := by
  refine callsD_of_wpS Tryz.func19 rfl fun c₀ cs hu => ?_
  apply wpS_seq
  apply wpS_region
  simp [wpOpsS, go_sem, recoverD, hu, Tryz.ntmps19, Exit.thenS]
  apply wpS_seq
  apply wpS_region
  simp [wpOpsS, go_sem, recoverD, hu, Tryz.ntmps19, Exit.thenS]
  refine wpS_cond (t := false) (by simp [Act.eval, Array.replicate]) ?_
  simp only [Bool.false_eq_true, if_false]
  refine wpS_of_wp (wp_skip ?_)
  cases c₀
  simp_all [bodyPostS, results, results19]
  exact Keep.alloc _ _ _
def CaughtIs (G C A : Nat) (c p : Int) (w w' : World) : Prop :=
  Keep (fun b => b = G ∨ b = C ∨ b = A) w w' ∧ w'.cell? ⟨G, 0, none⟩ = some (.slice none 0 0) ∧ w'.cell? ⟨G, 1, none⟩ = some (.slice none 0 0) ∧ w'.cell? ⟨C, 0, none⟩ = some (.int .i64 c) ∧ w'.cell? ⟨A, 0, none⟩ = some (.int .i64 p)
set_option maxHeartbeats 1000000 in
set_option maxRecDepth 100000 in
theorem catch_fault (G C A : Nat) (c p : Int) (w : World) (hGC : G ≠ C) (hGA : G ≠ A) (hCA : C ≠ A) {u0 u1 u2 u3 : Value} (g0 : w.cell? ⟨G, 0, none⟩ = some u0) (g1 : w.cell? ⟨G, 1, none⟩ = some u1) (c0 : w.cell? ⟨C, 0, none⟩ = some u2) (a0 : w.cell? ⟨A, 0, none⟩ = some u3) (fg0 : w.frozen? ⟨G, 0, none⟩ = false) (fg1 : w.frozen? ⟨G, 1, none⟩ = false) (fc : w.frozen? ⟨C, 0, none⟩ = false) (fa : w.frozen? ⟨A, 0, none⟩ = false) :
    CallsD Tryz.prog 19 #[.pointer (some ⟨G, 0, none⟩), .pointer (some ⟨C, 0, none⟩), .pointer (some ⟨A, 0, none⟩)] (.panicking (flt c p)) w fun e u' w' => e = .returned (.tuple #[]) ∧ u' = .panicking [{ v := .iface 56 (.agg #[.int .i64 c, .int .i64 p]), recovered := true }] ∧ CaughtIs G C A c p w w' := by
  have lG : G < w.heap.size := lt_of_cell g0
  have lC : C < w.heap.size := lt_of_cell c0
  have lA : A < w.heap.size := lt_of_cell a0
  unfold flt
  refine callsD_of_wpS Tryz.func19 rfl fun c₀ cs hu => ?_
  apply wpS_seq
  apply wpS_region
  simp [wpOpsS, go_sem, recoverD, hu, Tryz.ntmps19, Exit.thenS]
  apply wpS_seq
  apply wpS_region
  simp [wpOpsS, go_sem, recoverD, hu, Tryz.ntmps19, Exit.thenS]
  refine wpS_cond (t := true) (by simp [Act.eval, Array.replicate]) ?_
  simp only [if_true]
  refine wpS_of_wp ?_
  simp [Array.replicate]
  have nGs : ¬ G = w.heap.size := by omega
  have nCs : ¬ C = w.heap.size := by omega
  have nAs : ¬ A = w.heap.size := by omega
  have nCG : ¬ C = G := fun e => hGC e.symm
  have nAG : ¬ A = G := fun e => hGA e.symm
  have nAC : ¬ A = C := fun e => hCA e.symm
  go_region
  have HFI : CaughtIs G C A c p w (((((w.setCell ⟨G, 0, none⟩ (.slice none 0 0)).setCell ⟨G, 1, none⟩ (.slice none 0 0)).setCell ⟨C, 0, none⟩ (.int .i64 c)).setCell ⟨A, 0, none⟩ (.int .i64 p)).alloc (.cells #[.int .i64 c, .int .i64 p] 56)).drew := by
    obtain ⟨V, hV⟩ : ∃ V, V = (((w.setCell ⟨G, 0, none⟩ (.slice none 0 0)).setCell ⟨G, 1, none⟩ (.slice none 0 0)).setCell ⟨C, 0, none⟩ (.int .i64 c)).setCell ⟨A, 0, none⟩ (.int .i64 p) := ⟨_, rfl⟩
    have k1 : Keep (fun b => b = G ∨ b = C ∨ b = A) w V := by
      rw [hV]
      exact (((Keep.setCell (C := fun b => b = G ∨ b = C ∨ b = A) _ _ _ (.inl rfl)).trans (Keep.setCell _ _ _ (.inl rfl))).trans (Keep.setCell _ _ _ (.inr (.inl rfl)))).trans (Keep.setCell _ _ _ (.inr (.inr rfl)))
    have hs : V.heap.size = w.heap.size := by rw [hV]; simp only [size_set]
    have k2 : Keep (fun _ => False) V (V.alloc (.cells #[.int .i64 c, .int .i64 p] 56)).drew := (Keep.alloc _ _ _).trans (Keep.drew _ _)
    rw [← hV]
    refine ⟨k1.trans (k2.mono (fun b q => q.elim)), (k2.cell (p := ⟨G, 0, none⟩) (by rw [hs]; exact lG) (fun z => z)).trans ?_, (k2.cell (p := ⟨G, 1, none⟩) (by rw [hs]; exact lG) (fun z => z)).trans ?_, (k2.cell (p := ⟨C, 0, none⟩) (by rw [hs]; exact lC) (fun z => z)).trans ?_, (k2.cell (p := ⟨A, 0, none⟩) (by rw [hs]; exact lA) (fun z => z)).trans ?_⟩
    · rw [hV]; simp [go_sem, *]
    · rw [hV]; simp [go_sem, *]
    · rw [hV]; simp [go_sem, *]
    · rw [hV]; simp [go_sem, *]
  simp [bodyPostS, results, results19]
  exact HFI
end
section
open Go.RowKit
open M (OpD NodeD Gr)
def PRs (t : Tx) (code at_ : Int) (g : Gr) : Prop :=
  (4000 < t.n ∧ code = 7 ∧ at_ = 0 ∧ g = zeroG) ∨ (t.n ≤ 4000 ∧ ((∃ p : Nat, rdAll t.n ((toksT t).length + 1) (toksT t) = .inl p ∧ code = 5 ∧ at_ = p ∧ g = zeroG) ∨
    (∃ qs, rdAll t.n ((toksT t).length + 1) (toksT t) = .inr qs ∧ TailRes t.n qs code at_ g)))
theorem asc_one : ∀ {l l' : List (List Int)}, Asc l → Asc l' → (∀ z, z ∈ l ↔ z ∈ l') → l = l'
  | [], [], _, _, _ => rfl
  | [], y :: s, _, _, h => absurd ((h y).2 (List.mem_cons_self ..)) (by simp)
  | x :: r, [], _, _, h => absurd ((h x).1 (List.mem_cons_self ..)) (by simp)
  | x :: r, y :: s, ha, hb, h => by
    have e : x = y := by
      rcases ltB_tot x y with q | q | q
      · rcases List.mem_cons.1 ((h x).1 (List.mem_cons_self ..)) with z | z
        · exact z
        · exact absurd (ltB_tr q (hb.1 x z)) (ltB_irr x)
      · exact q
      · rcases List.mem_cons.1 ((h y).2 (List.mem_cons_self ..)) with z | z
        · exact z.symm
        · exact absurd (ltB_tr q (ha.1 y z)) (ltB_irr y)
    subst e
    rw [asc_one ha.2 hb.2 (fun z => ?_)]
    constructor
    · intro hz
      rcases List.mem_cons.1 ((h z).1 (List.mem_cons_of_mem _ hz)) with q | q
      · rw [q] at hz
        exact absurd (ha.1 _ hz) (ltB_irr _)
      · exact q
    · intro hz
      rcases List.mem_cons.1 ((h z).2 (List.mem_cons_of_mem _ hz)) with q | q
      · rw [q] at hz
        exact absurd (hb.1 _ hz) (ltB_irr _)
      · exact q
theorem tail_one {n : Nat} {qs : List Rl} {c a c' a' : Int} {g g' : Gr} (h : TailRes n qs c a g) (k : TailRes n qs c' a' g') : c = c' ∧ a = a' ∧ g = g' := by
  unfold TailRes at h k
  cases hd : dupF [] qs with
  | some p =>
    rw [hd] at h k
    exact ⟨h.1.trans k.1.symm, h.2.1.trans k.2.1.symm, h.2.2.trans k.2.2.symm⟩
  | none =>
    rw [hd] at h k
    cases hr : refsF (namesOf qs) qs with
    | some p =>
      rw [hr] at h k
      exact ⟨h.1.trans k.1.symm, h.2.1.trans k.2.1.symm, h.2.2.trans k.2.2.symm⟩
    | none =>
      rw [hr] at h k
      simp only at h k
      by_cases hn : namesOf qs = []
      · rw [if_pos hn] at h k
        exact ⟨h.1.trans k.1.symm, h.2.1.trans k.2.1.symm, h.2.2.trans k.2.2.symm⟩
      · rw [if_neg hn] at h k
        obtain ⟨ls, h1, h2, h3⟩ := h
        obtain ⟨ls', k1, k2, k3⟩ := k
        obtain rfl : ls = ls' := asc_one h1 k1 (fun z => (h2 z).trans (k2 z).symm)
        rcases h3 with ⟨q, h⟩ | ⟨q, h⟩
        · rcases k3 with ⟨q', k⟩ | ⟨q', k⟩
          · exact ⟨h.1.trans k.1.symm, h.2.1.trans k.2.1.symm, h.2.2.trans k.2.2.symm⟩
          · exact absurd q q'
        · rcases k3 with ⟨q', k⟩ | ⟨q', k⟩
          · exact absurd q' q
          · exact ⟨h.1.trans k.1.symm, h.2.1.trans k.2.1.symm, h.2.2.trans k.2.2.symm⟩
theorem prs_one {t : Tx} {c a c' a' : Int} {g g' : Gr} (h : PRs t c a g) (k : PRs t c' a' g') : c = c' ∧ a = a' ∧ g = g' := by
  rcases h with ⟨h0, h⟩ | ⟨h0, h⟩
  · rcases k with ⟨_, k⟩ | ⟨k0, _⟩
    · exact ⟨h.1.trans k.1.symm, h.2.1.trans k.2.1.symm, h.2.2.trans k.2.2.symm⟩
    · omega
  · rcases k with ⟨k0, _⟩ | ⟨_, k⟩
    · omega
    · rcases h with ⟨p, hr, h⟩ | ⟨qs, hr, h⟩
      · rcases k with ⟨p', kr, k⟩ | ⟨qs', kr, k⟩
        · rw [hr] at kr
          injection kr with kr
          subst kr
          exact ⟨h.1.trans k.1.symm, h.2.1.trans k.2.1.symm, h.2.2.trans k.2.2.symm⟩
        · rw [hr] at kr; cases kr
      · rcases k with ⟨p', kr, k⟩ | ⟨qs', kr, k⟩
        · rw [hr] at kr; cases kr
        · rw [hr] at kr
          injection kr with kr
          subst kr
          exact tail_one h k
end
end Go.Proofs.YteoddjobpmmgeaaGreat
