import Derived.Test.YteoddjobpmmgeaaGreatT02
import Derived.Test.YteoddjobpmmgeaaGreatT01
import Derived.Shelf.Abstract
import Derived.Shelf.RegionOpen
import Derived.OwnWalkIn
import Derived.TacticsInMore
import Derived.LoopNIn
import Derived.LoopIn
import Derived.Deep.Slices
set_option linter.unusedVariables false
set_option linter.unusedSimpArgs false
namespace Go.Proofs.YteoddjobpmmgeaaGreat
section
open Go.RowKit Go.Shelf
open M (OpD NodeD Gr)
attribute [local go_sem] Oper.semAt_some
def nd (g : Gr) (p : Nat) : NodeD := if p < g.nr then g.rule p else g.lab (p - g.nr)
structure Flat (w : World) (ra la : Option Addr) (g : Gr) (rb ro lb lo : Nat) (na ba : Nat → Option Addr) (nc bc : Nat → Nat) : Prop where
  ra : 0 < g.nr → ra = some ⟨rb, ro, none⟩
  la : 0 < g.nb → la = some ⟨lb, lo, none⟩
  r0 : ∀ i, i < g.nr → w.cell? ⟨rb, ro + i * 2, none⟩ = some (.slice (na i) (nd g i).nl (nc i))
  r1 : ∀ i, i < g.nr → w.cell? ⟨rb, ro + i * 2 + 1, none⟩ = some (.slice (ba i) (nd g i).bl (bc i))
  l0 : ∀ i, i < g.nb → w.cell? ⟨lb, lo + i * 3, none⟩ = some (.slice (na (g.nr + i)) (nd g (g.nr + i)).nl (nc (g.nr + i)))
  l1 : ∀ i, i < g.nb → w.cell? ⟨lb, lo + i * 3 + 1, none⟩ = some (.bool (g.lab i).has)
  l2 : ∀ i, i < g.nb → w.cell? ⟨lb, lo + i * 3 + 2, none⟩ = some (.slice (ba (g.nr + i)) (nd g (g.nr + i)).bl (bc (g.nr + i)))
theorem nd_rule (g : Gr) {i : Nat} (h : i < g.nr) : nd g i = g.rule i := by simp [nd, h]
theorem nd_lab (g : Gr) (i : Nat) : nd g (g.nr + i) = g.lab i := by unfold nd; rw [if_neg (by omega), show g.nr + i - g.nr = i by omega]
def leans (g : Gr) (bx rb lb : Nat) (k : Nat) : Prop := k = bx ∨ (k = rb ∧ 0 < g.nr) ∨ (k = lb ∧ 0 < g.nb)
def ndEnc (g : Gr) (na ba : Nat → Option Addr) (nc bc : Nat → Nat) (p : Nat) : Array Value := #[.slice (na p) (nd g p).nl (nc p), .slice (ba p) (nd g p).bl (bc p)]
def nodesI (w W : World) (g : Gr) (bx rb lb : Nat) (J : Nat → World → Prop) (from_ n : Nat) (i : Value) (wr : World) : Prop :=
  ∃ p : Nat, p ≤ n ∧ i = .int .i64 (p : Int) ∧ J (from_ + p) wr ∧ W.heap.size ≤ wr.heap.size ∧ ∀ k, leans g bx rb lb k → wr.heap[k]? = w.heap[k]?
set_option maxRecDepth 100000 in
set_option maxHeartbeats 4000000 in
theorem nodes_gives (bx : Nat) (ra la : Option Addr) (rc lc : Nat) (g : Gr) (rb ro lb lo : Nat) (na ba : Nat → Option Addr) (nc bc : Nat → Nat) (w : World)
    (h1 : g.nr ≤ 1048576) (h2 : g.nb ≤ 1048576)
    (hb0 : w.cell? ⟨bx, 0, none⟩ = some (.slice ra g.nr rc)) (hb1 : w.cell? ⟨bx, 1, none⟩ = some (.slice la g.nb lc)) (hF : Flat w ra la g rb ro lb lo na ba nc bc) :
    Gives Tryz.prog 70 #[.pointer (some ⟨bx, 0, none⟩)] 0 (fun p => p < g.nr + g.nb) (fun p => p + 1) (ndEnc g na ba nc bc) (leans g bx rb lb) w := by
  intro l C J Jx W hsz hD hDC hCW hJ hJx hY h0
  have hdep : Fence.wide.depth = none := rfl
  have HF : Hid (Flat w ra la g rb ro lb lo na ba nc bc) := hF
  clear hF
  refine callsIn_of_wp Tryz.func70 rfl trivial ?_ rfl
  simp only [Tryz.ntmps70, List.size_toArray, List.length_cons, List.length_nil, Nat.reduceAdd, Nat.reduceSub, Array.replicate_succ, Array.replicate_zero, List.push_toArray, List.append_toArray, List.nil_append, List.cons_append]
  have hx0 : W.cell? ⟨bx, 0, none⟩ = some (.slice ra g.nr rc) := (World.cell?_of_block (a := ⟨bx, 0, none⟩) (hD bx (.inl rfl))).trans hb0
  gi_wp2
  gi_loopw [10] (fun i wr => nodesI w W g bx rb lb J 0 g.nr i wr) (fun i _ => g.nr - (intOf i).toNat)
  case atStart => exact ⟨0, Nat.zero_le _, rfl, h0, Nat.le_refl _, hD⟩
  case round =>
    obtain ⟨p, hp, rfl, hJs, hszr, hDr⟩ := hrel
    rw [Nat.zero_add] at hJs
    by_cases hlt : p < g.nr
    · obtain rfl := HF.out.ra (by omega)
      have c0 : wr.cell? ⟨rb, ro + p * 2, none⟩ = some (.slice (na p) (nd g p).nl (nc p)) := (World.cell?_of_block (a := ⟨rb, ro + p * 2, none⟩) (hDr rb (.inr (.inl ⟨rfl, by omega⟩)))).trans (HF.out.r0 p hlt)
      have c1 : wr.cell? ⟨rb, ro + p * 2 + 1, none⟩ = some (.slice (ba p) (nd g p).bl (bc p)) := (World.cell?_of_block (a := ⟨rb, ro + p * 2 + 1, none⟩) (hDr rb (.inr (.inl ⟨rfl, by omega⟩)))).trans (HF.out.r1 p hlt)
      have hbl : rb < wr.heap.size := lt_of_cell c0
      have hJa := hJ p wr (wr.alloc (Obj.cells #[Value.slice (na p) (nd g p).nl (nc p), Value.slice (ba p) (nd g p).bl (bc p)] 53)) hJs ((Below.refl _ wr).alloc (by omega) _)
      obtain ⟨fn, tmps, assign, body, hy, hR⟩ := hY p _ hJa (by omega)
      unfold ndEnc at hy
      clear hJa
      gi_wp2
      refine hR.mono ?_
      clear hR hy
      rintro e W3 (⟨rfl, hJ3, hk3⟩ | ⟨rfl, hJx3, _⟩)
      · have hD3 : ∀ k, leans g bx rb lb k → W3.heap[k]? = w.heap[k]? := fun k hk => by
          have hkw : k < wr.heap.size := by
            have e := hDr k hk
            have : w.heap[k]?.isSome := by
              rcases hk with rfl | ⟨rfl, hm0⟩ | ⟨rfl, hm0⟩
              · have := lt_of_cell hb0; simp [this]
              · have := lt_of_cell (HF.out.r0 0 hm0); simp [this]
              · have := lt_of_cell (HF.out.l0 0 hm0); simp [this]
            rw [← e] at this
            rcases Nat.lt_or_ge k wr.heap.size with h | h
            · exact h
            · simp [h] at this
          refine (hk3.block k (by simp; omega) (hDC k hk)).trans ((Below.heap_alloc _ _ _ hkw).trans (hDr k hk))
        gi_wp2
        go_roundw
        case rel => exact ⟨p + 1, by omega, by go_num, by rw [Nat.zero_add]; exact hJ3, Nat.le_trans (Nat.le_trans hszr (by simp)) hk3.size, hD3⟩
        case measure => simp [intOf]; omega
      · gi_wp2
        refine bodyPost_ret (results_none rfl _ _ _) rfl ?_
        exact ⟨⟨_, rfl⟩, .inr ⟨p, by omega, hJx3⟩⟩
    · have hpn : p = g.nr := by omega
      rw [hpn] at hJs
      clear hpn
      have hx1 : wr.cell? ⟨bx, 1, none⟩ = some (.slice la g.nb lc) := (World.cell?_of_block (a := ⟨bx, 1, none⟩) (hDr bx (.inl rfl))).trans hb1
      obtain ⟨V, eV⟩ : ∃ V, wr = V := ⟨_, rfl⟩
      subst wr
      gi_wp2
      gi_loopw [25] (fun i wr => nodesI w W g bx rb lb J g.nr g.nb i wr) (fun i _ => g.nb - (intOf i).toNat)
      case atStart => exact ⟨0, Nat.zero_le _, rfl, hJs, hszr, hDr⟩
      case round =>
        clear hJs hszr hDr hx1
        obtain ⟨q, hq, rfl, hJs, hszr, hDr⟩ := hrel
        by_cases hlt : q < g.nb
        · obtain rfl := HF.out.la (by omega)
          have c0 : wr.cell? ⟨lb, lo + q * 3, none⟩ = some (.slice (na (g.nr + q)) (nd g (g.nr + q)).nl (nc (g.nr + q))) := (World.cell?_of_block (a := ⟨lb, lo + q * 3, none⟩) (hDr lb (.inr (.inr ⟨rfl, by omega⟩)))).trans (HF.out.l0 q hlt)
          have c1 : wr.cell? ⟨lb, lo + q * 3 + 1, none⟩ = some (.bool (g.lab q).has) := (World.cell?_of_block (a := ⟨lb, lo + q * 3 + 1, none⟩) (hDr lb (.inr (.inr ⟨rfl, by omega⟩)))).trans (HF.out.l1 q hlt)
          have c2 : wr.cell? ⟨lb, lo + q * 3 + 2, none⟩ = some (.slice (ba (g.nr + q)) (nd g (g.nr + q)).bl (bc (g.nr + q))) := (World.cell?_of_block (a := ⟨lb, lo + q * 3 + 2, none⟩) (hDr lb (.inr (.inr ⟨rfl, by omega⟩)))).trans (HF.out.l2 q hlt)
          have hbl : lb < wr.heap.size := lt_of_cell c0
          have hJa := hJ (g.nr + q) wr (wr.alloc (Obj.cells #[Value.slice (na (g.nr + q)) (nd g (g.nr + q)).nl (nc (g.nr + q)), Value.bool (g.lab q).has, Value.slice (ba (g.nr + q)) (nd g (g.nr + q)).bl (bc (g.nr + q))] 50)) hJs ((Below.refl _ wr).alloc (by omega) _)
          obtain ⟨fn, tmps, assign, body, hy, hR⟩ := hY (g.nr + q) _ hJa (by omega)
          unfold ndEnc at hy
          clear hJa
          gi_wp2
          refine hR.mono ?_
          clear hR hy
          rintro e W3 (⟨rfl, hJ3, hk3⟩ | ⟨rfl, hJx3, _⟩)
          · have hD3 : ∀ k, leans g bx rb lb k → W3.heap[k]? = w.heap[k]? := fun k hk => by
              have hkw : k < wr.heap.size := by
                have e := hDr k hk
                have : w.heap[k]?.isSome := by
                  rcases hk with rfl | ⟨rfl, hm0⟩ | ⟨rfl, hm0⟩
                  · have := lt_of_cell hb0; simp [this]
                  · have := lt_of_cell (HF.out.r0 0 hm0); simp [this]
                  · have := lt_of_cell (HF.out.l0 0 hm0); simp [this]
                rw [← e] at this
                rcases Nat.lt_or_ge k wr.heap.size with h | h
                · exact h
                · simp [h] at this
              refine (hk3.block k (by simp; omega) (hDC k hk)).trans ((Below.heap_alloc _ _ _ hkw).trans (hDr k hk))
            gi_wp2
            go_roundw
            case rel => exact ⟨q + 1, by omega, by go_num, hJ3, Nat.le_trans (Nat.le_trans hszr (by simp)) hk3.size, hD3⟩
            case measure => simp [intOf]; omega
          · gi_wp2
            refine bodyPost_ret (results_none rfl _ _ _) rfl ?_
            exact ⟨⟨_, rfl⟩, .inr ⟨g.nr + q, by omega, hJx3⟩⟩
        · gi_wp2
          go_end0
          exact ⟨⟨_, rfl⟩, .inl ⟨g.nr + q, by omega, hJs⟩⟩
set_option maxHeartbeats 1000000 in
theorem nodes_in (ra la : Option Addr) (nr rc nb lc : Nat) (w : World) :
    CallsIn Fence.wide 0 Tryz.prog 45 #[.agg #[.slice ra nr rc, .slice la nb lc]] w fun e w' => e = .returned (.func (.func 70) #[] #[.pointer (some ⟨w.heap.size, 0, none⟩)]) ∧ w' = w.alloc (.cells #[.slice ra nr rc, .slice la nb lc] 26) := by
  refine callsIn_of_wp Tryz.func45 rfl trivial ?_ rfl
  simp only [Tryz.ntmps45, List.size_toArray, List.length_cons, List.length_nil, Nat.reduceAdd, Nat.reduceSub, Array.replicate_succ, Array.replicate_zero, List.push_toArray, List.append_toArray, List.nil_append, List.cons_append]
  gi_wp2
  go_ret
  exact ⟨rfl, rfl⟩
end
section
open Go.RowKit Go.Shelf
open M (OpD NodeD Gr)
attribute [local go_sem] Oper.semAt_some
def sumN (g : Gr) (p : Nat) : Nat := M.sum (fun i => (nd g i).bl) p
theorem sumN_succ (g : Gr) (p : Nat) : sumN g (p + 1) = sumN g p + (nd g p).bl := rfl
def Over (g : Gr) : Prop := 100 < g.nr ∨ 100 < g.nb ∨ ∃ p, p < g.nr + g.nb ∧ (2000 < sumN g (p + 1) ∨ 32 < (nd g p).nl)
structure OvOwn (w : World) (y : Nat) (s : Int) (x : World) : Prop where
  res : ∃ v, x.cell? ⟨y + 1, 0, none⟩ = some v
  resf : x.frozen? ⟨y + 1, 0, none⟩ = false
  sum : x.cell? ⟨y + 1 + 1, 0, none⟩ = some (.int .i64 s)
  sumf : x.frozen? ⟨y + 1 + 1, 0, none⟩ = false
  bel : Below y w x
  size : y + 4 ≤ x.heap.size
theorem OvOwn.below {w : World} {y : Nat} {s : Int} {x z : World} (h : OvOwn w y s x) (hb : Below (y + 4) x z) : OvOwn w y s z :=
  ⟨h.res.imp fun _ hv => (hb.cell (p := ⟨y + 1, 0, none⟩) (by show y + 1 < y + 4; omega)).trans hv,
    (hb.frozen (p := ⟨y + 1, 0, none⟩) (by show y + 1 < y + 4; omega)).trans h.resf,
    (hb.cell (p := ⟨y + 1 + 1, 0, none⟩) (by show y + 1 + 1 < y + 4; omega)).trans h.sum,
    (hb.frozen (p := ⟨y + 1 + 1, 0, none⟩) (by show y + 1 + 1 < y + 4; omega)).trans h.sumf, h.bel.trans (hb.mono (by omega)), Nat.le_trans h.size hb.size⟩
theorem OvOwn.store {w : World} {y : Nat} {s s' : Int} {x : World} (h : OvOwn w y s x) (hw : y ≤ w.heap.size) : OvOwn w y s' (x.setCell ⟨y + 1 + 1, 0, none⟩ (.int .i64 s')) :=
  ⟨h.res.imp fun _ hv => by rw [World.cell?_of_block (Below.heap_setCell x ⟨y + 1 + 1, 0, none⟩ _ (y + 1) (by simp))]; exact hv,
    (World.frozen?_setCell _ _ _ _).trans h.resf, World.cell?_setCell_same' _ _ _ (by rw [h.sum]; rfl), (World.frozen?_setCell _ _ _ _).trans h.sumf,
    h.bel.setCell (p := ⟨y + 1 + 1, 0, none⟩) (by show y ≤ y + 1 + 1; omega) _, by simpa [World.setCell] using h.size⟩
theorem OvOwn.answer {w : World} {y : Nat} {s : Int} {x : World} (h : OvOwn w y s x) : Below y w (x.setCell ⟨y + 1, 0, none⟩ (.bool true)) ∧ y + 4 ≤ (x.setCell ⟨y + 1, 0, none⟩ (.bool true)).heap.size ∧ (x.setCell ⟨y + 1, 0, none⟩ (.bool true)).cell? ⟨y + 1, 0, none⟩ = some (.bool true) :=
  ⟨h.bel.setCell (p := ⟨y + 1, 0, none⟩) (by show y ≤ y + 1; omega) _, by simpa [World.setCell] using h.size, by obtain ⟨v, hv⟩ := h.res; exact World.cell?_setCell_same' _ _ _ (by rw [hv]; rfl)⟩
def overI (w : World) (g : Gr) (p : Nat) (x : World) : Prop := OvOwn w w.heap.size (sumN g p : Nat) x ∧ p ≤ g.nr + g.nb ∧ sumN g p ≤ 2000 ∧ ∀ q, q < p → ¬ (2000 < sumN g (q + 1) ∨ 32 < (nd g q).nl)
def overX (w : World) (g : Gr) (cd : Code) (p : Nat) (x : World) : Prop :=
  cd = .ret ∧ Below w.heap.size w x ∧ w.heap.size + 4 ≤ x.heap.size ∧ x.cell? ⟨w.heap.size + 1, 0, none⟩ = some (.bool true) ∧ p < g.nr + g.nb ∧ (2000 < sumN g (p + 1) ∨ 32 < (nd g p).nl)
theorem cells2New (W : World) (v0 v1 : Value) (t : TypeId) : (W.alloc (.cells #[v0, v1] t)).cell? ⟨W.heap.size, 0, none⟩ = some v0 ∧ (W.alloc (.cells #[v0, v1] t)).cell? ⟨W.heap.size, 1, none⟩ = some v1 := by
  have h := World.alloc_heap_new W (.cells #[v0, v1] t)
  refine ⟨?_, ?_⟩ <;> simp only [World.cell?, h] <;> rfl
set_option maxRecDepth 100000 in
set_option maxHeartbeats 4000000 in
theorem overLimits_in (ra la : Option Addr) (rc lc : Nat) (g : Gr) (rb ro lb lo : Nat) (na ba : Nat → Option Addr) (nc bc : Nat → Nat) (w : World)
    (hs : SmallG g) (hF : ∀ W, Below w.heap.size w W → Flat W ra la g rb ro lb lo na ba nc bc) :
    CallsIn Fence.wide 0 Tryz.prog 23 #[.agg #[.slice ra g.nr rc, .slice la g.nb lc]] w (SaysB (Over g) w) := by
  have hdep : Fence.wide.depth = none := rfl
  have h1 := hs.nr
  have h2 := hs.nb
  have HF : Hid (∀ W, Below w.heap.size w W → Flat W ra la g rb ro lb lo na ba nc bc) := hF
  have hsn : ∀ p, p < g.nr + g.nb → (nd g p).bl ≤ 1048576 ∧ (nd g p).nl ≤ 1048576 := fun p hp => by
    unfold nd
    split
    · exact ⟨(hs.rule p (by omega)).body.1, (hs.rule p (by omega)).name⟩
    · exact ⟨(hs.lab (p - g.nr) (by omega)).body.1, (hs.lab (p - g.nr) (by omega)).name⟩
  have HS : Hid (∀ p, p < g.nr + g.nb → (nd g p).bl ≤ 1048576 ∧ (nd g p).nl ≤ 1048576) := hsn
  have hlr : 0 < g.nr → rb < w.heap.size := fun h => lt_of_cell ((hF w (Below.refl _ _)).r0 0 h)
  have hll : 0 < g.nb → lb < w.heap.size := fun h => lt_of_cell ((hF w (Below.refl _ _)).l0 0 h)
  clear hF hsn hs
  by_cases o1 : 100 < g.nr
  · have o1' : (100 : Int) < (g.nr : Int) := by omega
    refine callsIn_of_wp_marks Tryz.func23 rfl trivial ?_ rfl
    simp only [Tryz.ntmps23, List.size_toArray, List.length_cons, List.length_nil, Nat.reduceAdd, Nat.reduceSub, Array.replicate_succ, Array.replicate_zero, List.push_toArray, List.append_toArray, List.nil_append, List.cons_append]
    gi_wp2
    refine ⟨.bool true, ?_, ⟨true, rfl, iffT (.inl o1)⟩, bel2 w _ _⟩
    have := cellNew (w.alloc (Obj.cells #[Value.slice ra g.nr rc, Value.slice la g.nb lc] 26)) (.bool true) 4
    rw [World.size_alloc] at this
    simp [results, Tryz.f23, go_sem, this]
  have o1' : ¬ (100 : Int) < (g.nr : Int) := by omega
  by_cases o2 : 100 < g.nb
  · have o2' : (100 : Int) < (g.nb : Int) := by omega
    refine callsIn_of_wp_marks Tryz.func23 rfl trivial ?_ rfl
    simp only [Tryz.ntmps23, List.size_toArray, List.length_cons, List.length_nil, Nat.reduceAdd, Nat.reduceSub, Array.replicate_succ, Array.replicate_zero, List.push_toArray, List.append_toArray, List.nil_append, List.cons_append]
    gi_wp2
    refine ⟨.bool true, ?_, ⟨true, rfl, iffT (.inr (.inl o2))⟩, bel2 w _ _⟩
    have := cellNew (w.alloc (Obj.cells #[Value.slice ra g.nr rc, Value.slice la g.nb lc] 26)) (.bool true) 4
    rw [World.size_alloc] at this
    simp [results, Tryz.f23, go_sem, this]
  have o2' : ¬ (100 : Int) < (g.nb : Int) := by omega
  refine callsIn_of_wp_marks Tryz.func23 rfl trivial ?_ rfl
  simp only [Tryz.ntmps23, List.size_toArray, List.length_cons, List.length_nil, Nat.reduceAdd, Nat.reduceSub, Array.replicate_succ, Array.replicate_zero, List.push_toArray, List.append_toArray, List.nil_append, List.cons_append]
  gi_wp2_with (refine ⟨trivial, ?_⟩; gi_at_call 45; refine (nodes_in _ _ _ _ _ _ _).mono ?_; rintro e w' ⟨rfl, rfl⟩)
  obtain ⟨Wl, hWl⟩ : ∃ Wl, (((w.alloc (Obj.cells #[Value.slice ra g.nr rc, Value.slice la g.nb lc] 26)).alloc (Obj.cells #[Value.bool false] 4)).alloc (Obj.cells #[Value.int IntKind.i64 0] 3)).alloc (Obj.cells #[Value.slice ra g.nr rc, Value.slice la g.nb lc] 26) = Wl := ⟨_, rfl⟩
  have sWl : Wl.heap.size = w.heap.size + 4 := by rw [← hWl]; simp
  have bWl : Below w.heap.size w Wl := by rw [← hWl]; exact ((((Below.refl _ w).alloc (Nat.le_refl _) _).alloc (by simp) _).alloc (by simp; omega) _).alloc (by simp; omega) _
  have ha := cellNew (w.alloc (Obj.cells #[Value.slice ra g.nr rc, Value.slice la g.nb lc] 26)) (.bool false) 4
  have haf := frozenNew (w.alloc (Obj.cells #[Value.slice ra g.nr rc, Value.slice la g.nb lc] 26)) (.bool false) 4
  have hr := cellNew ((w.alloc (Obj.cells #[Value.slice ra g.nr rc, Value.slice la g.nb lc] 26)).alloc (Obj.cells #[Value.bool false] 4)) (.int .i64 0) 3
  have hrf := frozenNew ((w.alloc (Obj.cells #[Value.slice ra g.nr rc, Value.slice la g.nb lc] 26)).alloc (Obj.cells #[Value.bool false] 4)) (.int .i64 0) 3
  have hx := cells2New (((w.alloc (Obj.cells #[Value.slice ra g.nr rc, Value.slice la g.nb lc] 26)).alloc (Obj.cells #[Value.bool false] 4)).alloc (Obj.cells #[Value.int IntKind.i64 0] 3)) (.slice ra g.nr rc) (.slice la g.nb lc) 26
  simp only [World.size_alloc] at ha haf hr hrf hx
  rw [hWl] at hx
  have oWl : OvOwn w w.heap.size 0 Wl := ⟨⟨_, by rw [← hWl]; exact cellOn _ (cellOn _ ha)⟩, by rw [← hWl]; exact frozenOn _ (cellOn _ ha) (frozenOn _ ha haf), by rw [← hWl]; exact cellOn _ hr, by rw [← hWl]; exact frozenOn _ hr hrf, bWl, by omega⟩
  rw [hWl]
  clear hWl ha haf hr hrf
  refine range_law (gf := 70) (lb := #[.pointer (some ⟨w.heap.size + 1 + 1 + 1, 0, none⟩)]) rfl (enters_of Tryz.func70 (by kernel_rfl) rfl)
    (nodes_gives (w.heap.size + 1 + 1 + 1) ra la rc lc g rb ro lb lo na ba nc bc Wl h1 h2 hx.1 hx.2 (HF.out Wl bWl)) (fun _ => rfl) ?hD (fun k => k = w.heap.size + 1 ∨ k = w.heap.size + 1 + 1) ?hCD ?hCw
    (overI w g) (overX w g) ?hI ?hIx ?h0 ?round ?done ?stop
  case hD =>
    rintro k (rfl | ⟨rfl, hm0⟩ | ⟨rfl, hm0⟩)
    · omega
    · have := hlr hm0; omega
    · have := hll hm0; omega
  case hCD =>
    rintro k (rfl | ⟨rfl, hm0⟩ | ⟨rfl, hm0⟩) hc
    · omega
    · have := hlr hm0; omega
    · have := hll hm0; omega
  case hCw =>
    rintro k hk hc
    omega
  case hI =>
    rintro s A E ⟨ho, hp⟩ hbel
    exact ⟨ho.below (hbel.mono (by omega)), hp⟩
  case hIx =>
    rintro cd s A E ⟨rfl, hbe, hs, hc, hp⟩ hbel
    exact ⟨rfl, hbe.trans (hbel.mono (by omega)), Nat.le_trans hs hbel.size, (hbel.cell (p := ⟨w.heap.size + 1, 0, none⟩) (by show w.heap.size + 1 < _; omega)).trans hc, hp⟩
  case h0 => exact ⟨oWl, Nat.zero_le _, Nat.zero_le _, fun q hq => absurd hq (Nat.not_lt_zero _)⟩
  case round =>
    intro l' p x hl1 hl2 hIs hlt
    unfold ndEnc
    gi_wp2
    refine ⟨Keep.refl _ _, hIs, ?_⟩
    clear hIs
    rintro x2 hk2 hs2 ⟨ho, hc1, hc2, hI2⟩
    obtain ⟨rv, k1⟩ := ho.res
    have k2 := ho.resf
    have k3 := ho.sum
    have k4 := ho.sumf
    have HI : Hid _ := hI2
    obtain ⟨b1, b2⟩ := HS.out p hlt
    have hnx := sumN_succ g p
    have HX : Hid _ := hnx
    clear hI2 hnx
    have hst := OvOwn.store (s' := (sumN g p : Int) + ((nd g p).bl : Int)) ho (Nat.le_refl _)
    have HST : Hid (OvOwn w w.heap.size ((sumN g p : Int) + ((nd g p).bl : Int)) (x2.setCell ⟨w.heap.size + 1 + 1, 0, none⟩ (.int .i64 ((sumN g p : Int) + ((nd g p).bl : Int))))) := hst
    clear hst ho
    by_cases t1 : 2000 < sumN g p + (nd g p).bl
    · have t1' : (2000 : Int) < (sumN g p : Int) + ((nd g p).bl : Int) := by omega
      gi_wp2
      obtain ⟨a1, a2, a3⟩ := HST.out.answer
      exact ⟨(Keep.setCell _ _ _ (.inr rfl)).trans (Keep.setCell _ _ _ (.inl rfl)), rfl, a1, a2, a3, hlt, .inl (by have := HX.out; omega)⟩
    have t1' : ¬ (2000 : Int) < (sumN g p : Int) + ((nd g p).bl : Int) := by omega
    by_cases t2 : 32 < (nd g p).nl
    · have t2' : (32 : Int) < ((nd g p).nl : Int) := by omega
      gi_wp2
      obtain ⟨a1, a2, a3⟩ := HST.out.answer
      exact ⟨(Keep.setCell _ _ _ (.inr rfl)).trans (Keep.setCell _ _ _ (.inl rfl)), rfl, a1, a2, a3, hlt, .inr t2⟩
    have t2' : ¬ (32 : Int) < ((nd g p).nl : Int) := by omega
    gi_wp2
    have e : ((sumN g (p + 1) : Nat) : Int) = (sumN g p : Int) + ((nd g p).bl : Int) := by rw [HX.out]; omega
    exact ⟨Keep.setCell _ _ _ (.inr rfl), by rw [e]; exact HST.out, by omega, by have := HX.out; omega, all_snoc HI.out (by have := HX.out; omega)⟩
  case done =>
    rintro d p x hd hnm ⟨ho, hc1, hc2, hI2⟩ hK
    obtain ⟨rv, k1⟩ := ho.res
    have k2 := ho.resf
    gi_wp2
    have hne : d ≠ w.heap.size + 1 := by omega
    have hK' : (x.setCell ⟨w.heap.size + 1, 0, none⟩ (.bool false)).heap[d]? = some (.deferred (some [])) := (Below.heap_setCell x ⟨w.heap.size + 1, 0, none⟩ _ d hne).trans hK
    refine ⟨by simp, .inl ⟨_, _, rfl, run_takeDeferred hK', ?_⟩⟩
    have hbp := belowPut (B := w.heap.size + 4) (x.setCell ⟨w.heap.size + 1, 0, none⟩ (.bool false)) (.deferred none) (d := d) (by omega) (by simpa [World.setCell] using ho.size)
    have hc4 : (x.setCell ⟨w.heap.size + 1, 0, none⟩ (.bool false)).cell? ⟨w.heap.size + 1, 0, none⟩ = some (.bool false) := World.cell?_setCell_same' _ _ _ (by rw [k1]; rfl)
    have hc5 := (hbp.cell (p := ⟨w.heap.size + 1, 0, none⟩) (by show w.heap.size + 1 < _; omega)).trans hc4
    have hbf := (ho.bel.setCell (p := ⟨w.heap.size + 1, 0, none⟩) (by show w.heap.size ≤ w.heap.size + 1; omega) (.bool false)).trans (hbp.mono (by omega))
    refine ⟨.bool false, ?_, ⟨false, rfl, iffF ?_⟩, hbf⟩
    · simp [results, Tryz.f23, go_sem, hc5]
    · rintro (h | h | ⟨q, hq, h⟩)
      · exact o1 h
      · exact o2 h
      · exact hI2 q (by omega) h
  case stop =>
    rintro d cd p x hd hsm ⟨rfl, hbe, hsx, hcr, hc1, hI2⟩ hK
    gi_wp2
    refine ⟨by simp, .inl ⟨_, _, rfl, run_takeDeferred hK, ?_⟩⟩
    have hdx : d < x.heap.size := (Array.getElem?_eq_some_iff.1 hK).1
    have hbp := belowPut (B := w.heap.size + 4) x (.deferred none) (d := d) (by omega) hsx
    have hc5 := (hbp.cell (p := ⟨w.heap.size + 1, 0, none⟩) (by show w.heap.size + 1 < _; omega)).trans hcr
    have hbf := hbe.trans (hbp.mono (by omega))
    refine ⟨.bool true, ?_, ⟨true, rfl, iffT (.inr (.inr ⟨p, hc1, hI2⟩))⟩, hbf⟩
    simp [results, Tryz.f23, go_sem, hc5]
end
section
open Go.RowKit Go.Shelf
open M (OpD NodeD Gr)
attribute [local go_sem] Oper.semAt_some
def ThrownTo (g : Gr) (p l : Nat) : Prop := ∃ q, q < p ∧ M.Throws (nd g q).bl (nd g q).body l
def Cnt (x : World) (b nb : Nat) (P : Nat → Prop) (top : Nat) : Prop :=
  ∃ f : Nat → Nat, x.rowIs b 3 nb (fun i => .int .i64 (f i)) ∧ (∀ i, i < nb → (f i ≠ 0 ↔ P i)) ∧ ∀ i, i < nb → f i ≤ top
def Meant (g : Gr) : Prop := ∀ i, i < g.nb → (g.lab i).has = false → ThrownTo g (g.nr + g.nb) i
theorem Cnt.congr {x : World} {b nb top top' : Nat} {P P' : Nat → Prop} (h : Cnt x b nb P top) (e : ∀ i, i < nb → (P i ↔ P' i)) (ht : top ≤ top') : Cnt x b nb P' top' := by
  obtain ⟨f, hr, hp, hb⟩ := h
  exact ⟨f, hr, fun i hi => (hp i hi).trans (e i hi), fun i hi => Nat.le_trans (hb i hi) ht⟩
theorem Cnt.of_block {x z : World} {b nb top : Nat} {P : Nat → Prop} (h : Cnt x b nb P top) (e : z.heap[b]? = x.heap[b]?) : Cnt z b nb P top := by
  obtain ⟨f, hr, hp, hb⟩ := h
  exact ⟨f, hr.of_block e, hp, hb⟩
structure MtOwn (w : World) (y : Nat) (ra la : Option Addr) (nr rc nb lc : Nat) (P : Nat → Prop) (top : Nat) (x : World) : Prop where
  box0 : x.cell? ⟨y, 0, none⟩ = some (.slice ra nr rc)
  box1 : x.cell? ⟨y, 1, none⟩ = some (.slice la nb lc)
  sl : x.cell? ⟨y + 1 + 1, 0, none⟩ = some (.slice (some ⟨y + 1, 0, none⟩) nb nb)
  cnt : Cnt x (y + 1) nb P top
  bel : Below y w x
  size : y + 4 ≤ x.heap.size
theorem MtOwn.below {w : World} {y : Nat} {ra la : Option Addr} {nr rc nb lc : Nat} {P : Nat → Prop} {top : Nat} {x z : World} (h : MtOwn w y ra la nr rc nb lc P top x) (hb : Below (y + 4) x z) : MtOwn w y ra la nr rc nb lc P top z :=
  ⟨(hb.cell (p := ⟨y, 0, none⟩) (by show y < y + 4; omega)).trans h.box0, (hb.cell (p := ⟨y, 1, none⟩) (by show y < y + 4; omega)).trans h.box1,
    (hb.cell (p := ⟨y + 1 + 1, 0, none⟩) (by show y + 1 + 1 < y + 4; omega)).trans h.sl, h.cnt.of_block (hb.block _ (by omega)), h.bel.trans (hb.mono (by omega)), Nat.le_trans h.size hb.size⟩
theorem MtOwn.congr {w : World} {y : Nat} {ra la : Option Addr} {nr rc nb lc : Nat} {P P' : Nat → Prop} {top top' : Nat} {x : World} (h : MtOwn w y ra la nr rc nb lc P top x) (e : ∀ i, i < nb → (P i ↔ P' i)) (ht : top ≤ top') : MtOwn w y ra la nr rc nb lc P' top' x :=
  ⟨h.box0, h.box1, h.sl, h.cnt.congr e ht, h.bel, h.size⟩
end
end Go.Proofs.YteoddjobpmmgeaaGreat
