/-
  Walks: the sequence of a grammar's nodes.
-/
import Derived.Test.YtjndcajblpgjmaaIter
import Derived.Test.YtjndcajblpgjmaaBodies
import Derived.Shelf.Abstract
import Derived.Shelf.RegionOpen
import Derived.OwnWalkIn
import Derived.TacticsInMore
import Derived.LoopNIn
import Derived.LoopIn
import Derived.Deep.Slices
namespace Go.Proofs.Ytjndcajblpgjmaa
open Go.RowKit Go.Shelf
open M (OpD NodeD Gr)
set_option linter.unusedVariables false
attribute [local go_sem] Oper.semAt_some

/-- The nodes of a grammar, in one row: the rules, then the labels. -/
def nd (g : Gr) (p : Nat) : NodeD := if p < g.nr then g.rule p else g.lab (p - g.nr)

/-- The lists of a grammar laid out by number. -/
structure Flat (w : World) (ra la : Option Addr) (g : Gr) (rb ro lb lo : Nat) (na ba : Nat → Option Addr) (nc bc : Nat → Nat) : Prop where
  ra : 0 < g.nr → ra = some ⟨rb, ro, none⟩
  la : 0 < g.nb → la = some ⟨lb, lo, none⟩
  r0 : ∀ i, i < g.nr → w.cell? ⟨rb, ro + i * 2, none⟩ = some (.slice (na i) (nd g i).nl (nc i))
  r1 : ∀ i, i < g.nr → w.cell? ⟨rb, ro + i * 2 + 1, none⟩ = some (.slice (ba i) (nd g i).bl (bc i))
  l0 : ∀ i, i < g.nb → w.cell? ⟨lb, lo + i * 3, none⟩ = some (.slice (na (g.nr + i)) (nd g (g.nr + i)).nl (nc (g.nr + i)))
  l1 : ∀ i, i < g.nb → w.cell? ⟨lb, lo + i * 3 + 1, none⟩ = some (.bool (g.lab i).has)
  l2 : ∀ i, i < g.nb → w.cell? ⟨lb, lo + i * 3 + 2, none⟩ = some (.slice (ba (g.nr + i)) (nd g (g.nr + i)).bl (bc (g.nr + i)))

theorem nd_rule (g : Gr) {i : Nat} (h : i < g.nr) : nd g i = g.rule i := by simp [nd, h]
theorem nd_lab (g : Gr) (i : Nat) : nd g (g.nr + i) = g.lab i := by unfold nd; rw [if_neg (by omega), show g.nr + i - g.nr = i by omega]

def leans (g : Gr) (bx rb lb : Nat) (k : Nat) : Prop := k = bx ∨ (k = rb ∧ 0 < g.nr) ∨ (k = lb ∧ 0 < g.nb)
def ndEnc (g : Gr) (na ba : Nat → Option Addr) (nc bc : Nat → Nat) (p : Nat) : Array Value := #[.slice (na p) (nd g p).nl (nc p), .slice (ba p) (nd g p).bl (bc p)]

def nodesI (w W : World) (g : Gr) (bx rb lb : Nat) (J : Nat → World → Prop) (from_ n : Nat) (i : Value) (wr : World) : Prop :=
  ∃ p : Nat, p ≤ n ∧ i = .int .i64 (p : Int) ∧ J (from_ + p) wr ∧ W.heap.size ≤ wr.heap.size ∧ ∀ k, leans g bx rb lb k → wr.heap[k]? = w.heap[k]?

set_option maxRecDepth 100000 in
set_option maxHeartbeats 4000000 in
theorem nodes_gives (bx : Nat) (ra la : Option Addr) (rc lc : Nat) (g : Gr) (rb ro lb lo : Nat) (na ba : Nat → Option Addr) (nc bc : Nat → Nat) (w : World)
    (h1 : g.nr ≤ 1048576) (h2 : g.nb ≤ 1048576)
    (hb0 : w.cell? ⟨bx, 0, none⟩ = some (.slice ra g.nr rc)) (hb1 : w.cell? ⟨bx, 1, none⟩ = some (.slice la g.nb lc)) (hF : Flat w ra la g rb ro lb lo na ba nc bc) :
    Gives Try.prog 167 #[.pointer (some ⟨bx, 0, none⟩)] 0 (fun p => p < g.nr + g.nb) (fun p => p + 1) (ndEnc g na ba nc bc) (leans g bx rb lb) w := by
  intro l C J Jx W hsz hD hDC hCW hJ hJx hY h0
  have hdep : Fence.wide.depth = none := rfl
  have HF : Hid (Flat w ra la g rb ro lb lo na ba nc bc) := hF
  clear hF
  refine callsIn_of_wp Try.func167 rfl trivial ?_ rfl
  simp only [Try.ntmps167, List.size_toArray, List.length_cons, List.length_nil, Nat.reduceAdd, Nat.reduceSub, Array.replicate_succ, Array.replicate_zero, List.push_toArray, List.append_toArray, List.nil_append, List.cons_append]
  have hx0 : W.cell? ⟨bx, 0, none⟩ = some (.slice ra g.nr rc) := (World.cell?_of_block (a := ⟨bx, 0, none⟩) (hD bx (.inl rfl))).trans hb0
  gi_wp2
  gi_loopw [10] (fun i wr => nodesI w W g bx rb lb J 0 g.nr i wr) (fun i _ => g.nr - (intOf i).toNat)
  case atStart => exact ⟨0, Nat.zero_le _, rfl, h0, Nat.le_refl _, hD⟩
  case round =>
    obtain ⟨p, hp, rfl, hJs, hszr, hDr⟩ := hrel
    rw [Nat.zero_add] at hJs
    by_cases hlt : p < g.nr
    · obtain rfl := HF.out.ra (by omega)
      have c0 : wr.cell? ⟨rb, ro + p * 2, none⟩ = some (.slice (na p) (nd g p).nl (nc p)) := (World.cell?_of_block (a := ⟨rb, ro + p * 2, none⟩) (hDr rb (.inr (.inl ⟨rfl, by omega⟩)))).trans (HF.out.r0 p hlt)
      have c1 : wr.cell? ⟨rb, ro + p * 2 + 1, none⟩ = some (.slice (ba p) (nd g p).bl (bc p)) := (World.cell?_of_block (a := ⟨rb, ro + p * 2 + 1, none⟩) (hDr rb (.inr (.inl ⟨rfl, by omega⟩)))).trans (HF.out.r1 p hlt)
      have hbl : rb < wr.heap.size := lt_of_cell c0
      have hJa := hJ p wr (wr.alloc (Obj.cells #[Value.slice (na p) (nd g p).nl (nc p), Value.slice (ba p) (nd g p).bl (bc p)] 76)) hJs ((Below.refl _ wr).alloc (by omega) _)
      obtain ⟨fn, tmps, assign, body, hy, hR⟩ := hY p _ hJa (by omega)
      unfold ndEnc at hy
      clear hJa
      gi_wp2
      refine hR.mono ?_
      clear hR hy
      rintro e W3 (⟨rfl, hJ3, hk3⟩ | ⟨rfl, hJx3, _⟩)
      · have hD3 : ∀ k, leans g bx rb lb k → W3.heap[k]? = w.heap[k]? := fun k hk => by
          have hkw : k < wr.heap.size := by
            have e := hDr k hk
            have : w.heap[k]?.isSome := by
              rcases hk with rfl | ⟨rfl, hm0⟩ | ⟨rfl, hm0⟩
              · have := lt_of_cell hb0; simp [this]
              · have := lt_of_cell (HF.out.r0 0 hm0); simp [this]
              · have := lt_of_cell (HF.out.l0 0 hm0); simp [this]
            rw [← e] at this
            rcases Nat.lt_or_ge k wr.heap.size with h | h
            · exact h
            · simp [h] at this
          refine (hk3.block k (by simp; omega) (hDC k hk)).trans ((Below.heap_alloc _ _ _ hkw).trans (hDr k hk))
        gi_wp2
        go_roundw
        case rel => exact ⟨p + 1, by omega, by go_num, by rw [Nat.zero_add]; exact hJ3, Nat.le_trans (Nat.le_trans hszr (by simp)) hk3.size, hD3⟩
        case measure => simp [intOf]; omega
      · gi_wp2
        refine bodyPost_ret (results_none rfl _ _ _) rfl ?_
        exact ⟨⟨_, rfl⟩, .inr ⟨p, by omega, hJx3⟩⟩
    · have hpn : p = g.nr := by omega
      rw [hpn] at hJs
      clear hpn
      have hx1 : wr.cell? ⟨bx, 1, none⟩ = some (.slice la g.nb lc) := (World.cell?_of_block (a := ⟨bx, 1, none⟩) (hDr bx (.inl rfl))).trans hb1
      obtain ⟨V, eV⟩ : ∃ V, wr = V := ⟨_, rfl⟩
      subst wr
      gi_wp2
      gi_loopw [25] (fun i wr => nodesI w W g bx rb lb J g.nr g.nb i wr) (fun i _ => g.nb - (intOf i).toNat)
      case atStart => exact ⟨0, Nat.zero_le _, rfl, hJs, hszr, hDr⟩
      case round =>
        clear hJs hszr hDr hx1
        obtain ⟨q, hq, rfl, hJs, hszr, hDr⟩ := hrel
        by_cases hlt : q < g.nb
        · obtain rfl := HF.out.la (by omega)
          have c0 : wr.cell? ⟨lb, lo + q * 3, none⟩ = some (.slice (na (g.nr + q)) (nd g (g.nr + q)).nl (nc (g.nr + q))) := (World.cell?_of_block (a := ⟨lb, lo + q * 3, none⟩) (hDr lb (.inr (.inr ⟨rfl, by omega⟩)))).trans (HF.out.l0 q hlt)
          have c1 : wr.cell? ⟨lb, lo + q * 3 + 1, none⟩ = some (.bool (g.lab q).has) := (World.cell?_of_block (a := ⟨lb, lo + q * 3 + 1, none⟩) (hDr lb (.inr (.inr ⟨rfl, by omega⟩)))).trans (HF.out.l1 q hlt)
          have c2 : wr.cell? ⟨lb, lo + q * 3 + 2, none⟩ = some (.slice (ba (g.nr + q)) (nd g (g.nr + q)).bl (bc (g.nr + q))) := (World.cell?_of_block (a := ⟨lb, lo + q * 3 + 2, none⟩) (hDr lb (.inr (.inr ⟨rfl, by omega⟩)))).trans (HF.out.l2 q hlt)
          have hbl : lb < wr.heap.size := lt_of_cell c0
          have hJa := hJ (g.nr + q) wr (wr.alloc (Obj.cells #[Value.slice (na (g.nr + q)) (nd g (g.nr + q)).nl (nc (g.nr + q)), Value.bool (g.lab q).has, Value.slice (ba (g.nr + q)) (nd g (g.nr + q)).bl (bc (g.nr + q))] 80)) hJs ((Below.refl _ wr).alloc (by omega) _)
          obtain ⟨fn, tmps, assign, body, hy, hR⟩ := hY (g.nr + q) _ hJa (by omega)
          unfold ndEnc at hy
          clear hJa
          gi_wp2
          refine hR.mono ?_
          clear hR hy
          rintro e W3 (⟨rfl, hJ3, hk3⟩ | ⟨rfl, hJx3, _⟩)
          · have hD3 : ∀ k, leans g bx rb lb k → W3.heap[k]? = w.heap[k]? := fun k hk => by
              have hkw : k < wr.heap.size := by
                have e := hDr k hk
                have : w.heap[k]?.isSome := by
                  rcases hk with rfl | ⟨rfl, hm0⟩ | ⟨rfl, hm0⟩
                  · have := lt_of_cell hb0; simp [this]
                  · have := lt_of_cell (HF.out.r0 0 hm0); simp [this]
                  · have := lt_of_cell (HF.out.l0 0 hm0); simp [this]
                rw [← e] at this
                rcases Nat.lt_or_ge k wr.heap.size with h | h
                · exact h
                · simp [h] at this
              refine (hk3.block k (by simp; omega) (hDC k hk)).trans ((Below.heap_alloc _ _ _ hkw).trans (hDr k hk))
            gi_wp2
            go_roundw
            case rel => exact ⟨q + 1, by omega, by go_num, hJ3, Nat.le_trans (Nat.le_trans hszr (by simp)) hk3.size, hD3⟩
            case measure => simp [intOf]; omega
          · gi_wp2
            refine bodyPost_ret (results_none rfl _ _ _) rfl ?_
            exact ⟨⟨_, rfl⟩, .inr ⟨g.nr + q, by omega, hJx3⟩⟩
        · gi_wp2
          go_end0
          exact ⟨⟨_, rfl⟩, .inl ⟨g.nr + q, by omega, hJs⟩⟩

set_option maxHeartbeats 1000000 in
theorem nodes_in (ra la : Option Addr) (nr rc nb lc : Nat) (w : World) :
    CallsIn Fence.wide 0 Try.prog 116 #[.agg #[.slice ra nr rc, .slice la nb lc]] w fun e w' => e = .returned (.func (.func 167) #[] #[.pointer (some ⟨w.heap.size, 0, none⟩)]) ∧ w' = w.alloc (.cells #[.slice ra nr rc, .slice la nb lc] 36) := by
  refine callsIn_of_wp Try.func116 rfl trivial ?_ rfl
  simp only [Try.ntmps116, List.size_toArray, List.length_cons, List.length_nil, Nat.reduceAdd, Nat.reduceSub, Array.replicate_succ, Array.replicate_zero, List.push_toArray, List.append_toArray, List.nil_append, List.cons_append]
  gi_wp2
  go_ret
  exact ⟨rfl, rfl⟩

end Go.Proofs.Ytjndcajblpgjmaa
