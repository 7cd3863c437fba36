/-
  Walks: the line that holds an offset; the line with a number.
-/
import Derived.Test.YtkgopipejgcbiaaDoorLines
import Derived.Test.YtkgopipejgcbiaaDoorColumn
namespace Go.Proofs.YtkgopipejgcbiaaDoor
open Go.RowKit Go.Shelf
set_option linter.unusedVariables false
attribute [local go_sem] Oper.semAt_some

/-- What the function's own boxes hold between two rounds: the argument at y, the line that is answered at y + 1, whether there is one at y + 2. -/
structure HoOwn (w : World) (y : Nat) (q : Int) (x : World) : Prop where
  arg : x.cell? ⟨y, 0, none⟩ = some (.int .i64 q)
  r0 : ∃ v, x.cell? ⟨y + 1, 0, none⟩ = some v
  r1 : ∃ v, x.cell? ⟨y + 1, 1, none⟩ = some v
  r2 : ∃ v, x.cell? ⟨y + 1, 2, none⟩ = some v
  rf0 : x.frozen? ⟨y + 1, 0, none⟩ = false
  rf1 : x.frozen? ⟨y + 1, 1, none⟩ = false
  rf2 : x.frozen? ⟨y + 1, 2, none⟩ = false
  r3 : ∃ v, x.cell? ⟨y + 1 + 1, 0, none⟩ = some v
  rf3 : x.frozen? ⟨y + 1 + 1, 0, none⟩ = false
  bel : Below y w x
  size : y + 4 ≤ x.heap.size

theorem HoOwn.below {w : World} {y : Nat} {q : Int} {x z : World} (h : HoOwn w y q x) (hb : Below (y + 4) x z) : HoOwn w y q z := by
  have c : ∀ k o, k < y + 4 → z.cell? ⟨k, o, none⟩ = x.cell? ⟨k, o, none⟩ := fun k o hk => hb.cell (p := ⟨k, o, none⟩) hk
  have f : ∀ k o, k < y + 4 → z.frozen? ⟨k, o, none⟩ = x.frozen? ⟨k, o, none⟩ := fun k o hk => hb.frozen (p := ⟨k, o, none⟩) hk
  exact ⟨(c _ _ (by omega)).trans h.arg, h.r0.imp fun _ e => (c _ _ (by omega)).trans e, h.r1.imp fun _ e => (c _ _ (by omega)).trans e, h.r2.imp fun _ e => (c _ _ (by omega)).trans e,
    (f _ _ (by omega)).trans h.rf0, (f _ _ (by omega)).trans h.rf1, (f _ _ (by omega)).trans h.rf2, h.r3.imp fun _ e => (c _ _ (by omega)).trans e, (f _ _ (by omega)).trans h.rf3,
    h.bel.trans (hb.mono (by omega)), Nat.le_trans h.size hb.size⟩

theorem frozen3New (W : World) (v0 v1 v2 : Value) (t : TypeId) (o : Nat) : (W.alloc (.cells #[v0, v1, v2] t)).frozen? ⟨W.heap.size, o, none⟩ = false := by
  have h := World.alloc_heap_new W (.cells #[v0, v1, v2] t)
  simp only [World.frozen?, h]; simp

/-- The world behind the four stores of an answer. -/
abbrev put4 (x : World) (y : Nat) (a0 a1 a2 a3 : Value) : World :=
  (((x.setCell ⟨y + 1, 0, none⟩ a0).setCell ⟨y + 1, 1, none⟩ a1).setCell ⟨y + 1, 2, none⟩ a2).setCell ⟨y + 1 + 1, 0, none⟩ a3

theorem put4_cells {x : World} {y : Nat} {v0 v1 v2 v3 : Value} (a0 a1 a2 a3 : Value) (h0 : x.cell? ⟨y + 1, 0, none⟩ = some v0) (h1 : x.cell? ⟨y + 1, 1, none⟩ = some v1) (h2 : x.cell? ⟨y + 1, 2, none⟩ = some v2) (h3 : x.cell? ⟨y + 1 + 1, 0, none⟩ = some v3) :
    (put4 x y a0 a1 a2 a3).cell? ⟨y + 1, 0, none⟩ = some a0 ∧ (put4 x y a0 a1 a2 a3).cell? ⟨y + 1, 1, none⟩ = some a1 ∧ (put4 x y a0 a1 a2 a3).cell? ⟨y + 1, 2, none⟩ = some a2 ∧ (put4 x y a0 a1 a2 a3).cell? ⟨y + 1 + 1, 0, none⟩ = some a3 := by
  have e1 : (⟨y + 1, 0, none⟩ : Addr) ≠ ⟨y + 1, 1, none⟩ := by simp
  have e2 : (⟨y + 1, 0, none⟩ : Addr) ≠ ⟨y + 1, 2, none⟩ := by simp
  have e3 : (⟨y + 1, 1, none⟩ : Addr) ≠ ⟨y + 1, 2, none⟩ := by simp
  have e4 : ∀ o, (⟨y + 1 + 1, 0, none⟩ : Addr) ≠ ⟨y + 1, o, none⟩ := by simp
  have same : ∀ (W : World) (a : Addr) (v u : Value), W.cell? a = some u → (W.setCell a v).cell? a = some v := fun W a v u h => World.cell?_setCell_same' W a v (by rw [h]; rfl)
  have other : ∀ (W : World) (a c : Addr) (v : Value), a ≠ c → (W.setCell a v).cell? c = W.cell? c := fun W a c v h => by first | exact World.cell?_setCell_other h | exact World.cell?_setCell_other W a c v h | exact World.cell?_setCell_other _ _ _ _ h
  have g0 := same x ⟨y + 1, 0, none⟩ a0 _ h0
  have g1 := same _ ⟨y + 1, 1, none⟩ a1 _ ((other x ⟨y + 1, 0, none⟩ ⟨y + 1, 1, none⟩ a0 e1).trans h1)
  have g2 := same _ ⟨y + 1, 2, none⟩ a2 _ ((other (x.setCell ⟨y + 1, 0, none⟩ a0) ⟨y + 1, 1, none⟩ ⟨y + 1, 2, none⟩ a1 e3).trans ((other x ⟨y + 1, 0, none⟩ ⟨y + 1, 2, none⟩ a0 e2).trans h2))
  have g3 := same _ ⟨y + 1 + 1, 0, none⟩ a3 _ ((other ((x.setCell ⟨y + 1, 0, none⟩ a0).setCell ⟨y + 1, 1, none⟩ a1) ⟨y + 1, 2, none⟩ ⟨y + 1 + 1, 0, none⟩ a2 (e4 2).symm).trans ((other (x.setCell ⟨y + 1, 0, none⟩ a0) ⟨y + 1, 1, none⟩ ⟨y + 1 + 1, 0, none⟩ a1 (e4 1).symm).trans ((other x ⟨y + 1, 0, none⟩ ⟨y + 1 + 1, 0, none⟩ a0 (e4 0).symm).trans h3)))
  exact ⟨(other _ _ _ _ (e4 0)).trans ((other _ _ _ _ e2.symm).trans ((other _ _ _ _ e1.symm).trans g0)),
    (other _ _ _ _ (e4 1)).trans ((other _ _ _ _ e3.symm).trans g1), (other _ _ _ _ (e4 2)).trans g2, g3⟩

theorem put4_keep (x : World) (y : Nat) (a0 a1 a2 a3 : Value) : Keep (fun k => k = y + 1 ∨ k = y + 1 + 1) x (put4 x y a0 a1 a2 a3) :=
  (((Keep.setCell _ _ _ (.inl rfl)).trans (Keep.setCell _ _ _ (.inl rfl))).trans (Keep.setCell _ _ _ (.inl rfl))).trans (Keep.setCell _ _ _ (.inr rfl))

theorem lnLen_at {T : Nat → Int} {n f : Nat} (h : f + lnLen T n f < n) : T (f + lnLen T n f) = 10 := eolen_at (sh T f) (n - f) (by show lnLen T n f < n - f; omega)
theorem lnLen_not {T : Nat → Int} {n f j : Nat} (h1 : f ≤ j) (h2 : j < f + lnLen T n f) : T j ≠ 10 := by
  have := eolen_not (sh T f) (n - f) (j - f) (by show j - f < lnLen T n f; omega)
  unfold sh at this
  rwa [Nat.add_sub_cancel' h1] at this
theorem cnt_next {T : Nat → Int} {n f : Nat} (h : f + lnLen T n f < n) : M.cnt T (f + lnLen T n f + 1) = M.cnt T f + 1 := by
  rw [M.cnt_nl _ _ (lnLen_at h), M.cnt_same T f (f + lnLen T n f) (by omega) (fun j h1 h2 => lnLen_not h1 h2)]
theorem hold_next {T : Nat → Int} {n num fr : Nat} {q : Int} (hf : fr ≤ n)
    (h : fr ≤ n + 1 ∧ num ≤ fr + 1 ∧ (fr ≤ n → num = 1 + M.cnt T fr ∧ (fr = 0 ∨ T (fr - 1) = 10)) ∧ (0 ≤ q → (fr : Int) ≤ q)) (hq : ¬ ((fr : Int) ≤ q ∧ q ≤ (fr : Int) + (lnLen T n fr : Int))) :
    (lnNext T n (num, fr)).2 ≤ n + 1 ∧ (lnNext T n (num, fr)).1 ≤ (lnNext T n (num, fr)).2 + 1 ∧ ((lnNext T n (num, fr)).2 ≤ n → (lnNext T n (num, fr)).1 = 1 + M.cnt T (lnNext T n (num, fr)).2 ∧ ((lnNext T n (num, fr)).2 = 0 ∨ T ((lnNext T n (num, fr)).2 - 1) = 10)) ∧ (0 ≤ q → ((lnNext T n (num, fr)).2 : Int) ≤ q) := by
  have hl := lnLen_le T n fr
  show fr + lnLen T n fr + 1 ≤ n + 1 ∧ num + 1 ≤ fr + lnLen T n fr + 1 + 1 ∧ (fr + lnLen T n fr + 1 ≤ n → num + 1 = 1 + M.cnt T (fr + lnLen T n fr + 1) ∧ (fr + lnLen T n fr + 1 = 0 ∨ T (fr + lnLen T n fr + 1 - 1) = 10)) ∧ (0 ≤ q → ((fr + lnLen T n fr + 1 : Nat) : Int) ≤ q)
  refine ⟨by omega, by omega, fun hn => ⟨?_, .inr ?_⟩, fun h0 => ?_⟩
  · rw [cnt_next (by omega), (h.2.2.1 hf).1]; omega
  · rw [Nat.add_sub_cancel]; exact lnLen_at (by omega)
  · have := h.2.2.2 h0; omega

def holdingI (w : World) (T : Nat → Int) (n : Nat) (q : Int) (s : Nat × Nat) (x : World) : Prop := HoOwn w w.heap.size q x ∧ s.2 ≤ n + 1 ∧ s.1 ≤ s.2 + 1 ∧ (s.2 ≤ n → s.1 = 1 + M.cnt T s.2 ∧ (s.2 = 0 ∨ T (s.2 - 1) = 10)) ∧ (0 ≤ q → (s.2 : Int) ≤ q)
/-- The answer lies in its boxes. -/
def holdingX (w : World) (T : Nat → Int) (n : Nat) (adr : Nat → Option Addr) (cap : Nat) (q : Int) (cd : Code) (s : Nat × Nat) (x : World) : Prop :=
  cd = .ret ∧ Below w.heap.size w x ∧ w.heap.size + 4 ≤ x.heap.size ∧ x.cell? ⟨w.heap.size + 1, 0, none⟩ = some (.int .i64 (s.1 : Nat)) ∧ x.cell? ⟨w.heap.size + 1, 1, none⟩ = some (.int .i64 (s.2 : Nat)) ∧
    x.cell? ⟨w.heap.size + 1, 2, none⟩ = some (.slice (adr s.2) (lnLen T n s.2) (cap - s.2)) ∧ x.cell? ⟨w.heap.size + 1 + 1, 0, none⟩ = some (.bool true) ∧ s.2 ≤ n ∧ s.1 = 1 + M.cnt T s.2 ∧ (s.2 = 0 ∨ T (s.2 - 1) = 10) ∧ (s.2 : Int) ≤ q ∧ q ≤ (s.2 + lnLen T n s.2 : Nat)

set_option maxRecDepth 100000 in
set_option maxHeartbeats 8000000 in
theorem holding_in (a : Option Addr) (n cap : Nat) (q : Int) (T : Nat → Int) (adr : Nat → Option Addr) (w : World) (hV : TextV w a n cap T adr) :
    CallsIn Fence.wide 0 Tryd.prog 13 #[.slice a n cap, .int .i64 q] w fun e w' => ((∃ num fr : Nat, e = .returned (.tuple #[lineV num fr (adr fr) (lnLen T n fr) (cap - fr), .bool true]) ∧ fr ≤ n ∧ num = 1 + M.cnt T fr ∧ (fr = 0 ∨ T (fr - 1) = 10) ∧ (fr : Int) ≤ q ∧ q ≤ (fr + lnLen T n fr : Nat)) ∨ (e = .returned (.tuple #[.agg #[.int .i64 0, .int .i64 0, .slice none 0 0], .bool false]) ∧ (q < 0 ∨ (n : Int) < q))) ∧ Below w.heap.size w w' := by
  have hdep : Fence.wide.depth = none := rfl
  have hmo : Tryd.prog.follows .mixedOrders = true := by kernel_rfl
  have hn := hV.small
  refine callsIn_of_wp_marks Tryd.func13 rfl trivial ?_ rfl
  simp only [Tryd.ntmps13, List.size_toArray, List.length_cons, List.length_nil, Nat.reduceAdd, Nat.reduceSub, Array.replicate_succ, Array.replicate_zero, List.push_toArray, List.append_toArray, List.nil_append, List.cons_append]
  gi_wp2_with (refine ⟨trivial, ?_⟩; gi_at_call 18; refine (all_in _ _ _ _).mono ?_; rintro e w' ⟨rfl, rfl⟩)
  obtain ⟨Wl, hWl⟩ : ∃ Wl, (((w.alloc (Obj.cells #[Value.int IntKind.i64 q] 3)).alloc (Obj.cells #[Value.int IntKind.i64 0, Value.int IntKind.i64 0, Value.slice none 0 0] 32)).alloc (Obj.cells #[Value.bool false] 4)).alloc (Obj.cells #[Value.slice a n cap] 34) = Wl := ⟨_, rfl⟩
  have sWl : Wl.heap.size = w.heap.size + 4 := by rw [← hWl]; simp
  have bWl : Below w.heap.size w Wl := by rw [← hWl]; exact ((((Below.refl _ w).alloc (Nat.le_refl _) _).alloc (by simp) _).alloc (by simp; omega) _).alloc (by simp; omega) _
  have ha := cellNew w (.int .i64 q) 3
  have hr := cells3New (w.alloc (Obj.cells #[Value.int IntKind.i64 q] 3)) (.int .i64 0) (.int .i64 0) (.slice none 0 0) 32
  have hrf := fun o => frozen3New (w.alloc (Obj.cells #[Value.int IntKind.i64 q] 3)) (.int .i64 0) (.int .i64 0) (.slice none 0 0) 32 o
  have hs := cellNew ((w.alloc (Obj.cells #[Value.int IntKind.i64 q] 3)).alloc (Obj.cells #[Value.int IntKind.i64 0, Value.int IntKind.i64 0, Value.slice none 0 0] 32)) (.bool false) 4
  have hsf := frozenNew ((w.alloc (Obj.cells #[Value.int IntKind.i64 q] 3)).alloc (Obj.cells #[Value.int IntKind.i64 0, Value.int IntKind.i64 0, Value.slice none 0 0] 32)) (.bool false) 4
  have hx := cellNew (((w.alloc (Obj.cells #[Value.int IntKind.i64 q] 3)).alloc (Obj.cells #[Value.int IntKind.i64 0, Value.int IntKind.i64 0, Value.slice none 0 0] 32)).alloc (Obj.cells #[Value.bool false] 4)) (.slice a n cap) 34
  simp only [World.size_alloc] at hr hrf hs hsf hx
  rw [hWl] at hx
  have oWl : HoOwn w w.heap.size q Wl := by
    rw [← hWl]
    exact ⟨cellOn _ (cellOn _ (cellOn _ ha)), ⟨_, cellOn _ (cellOn _ hr.1)⟩, ⟨_, cellOn _ (cellOn _ hr.2.1)⟩, ⟨_, cellOn _ (cellOn _ hr.2.2)⟩,
      frozenOn _ (cellOn _ hr.1) (frozenOn _ hr.1 (hrf 0)), frozenOn _ (cellOn _ hr.2.1) (frozenOn _ hr.2.1 (hrf 1)), frozenOn _ (cellOn _ hr.2.2) (frozenOn _ hr.2.2 (hrf 2)),
      ⟨_, cellOn _ hs⟩, frozenOn _ hs hsf, by rw [hWl]; exact bWl, by rw [hWl]; omega⟩
  rw [hWl]
  clear hWl ha hr hrf hs hsf
  obtain ⟨D, hD, hG⟩ := hV.lines (w.heap.size + 1 + 1 + 1) Wl bWl hx
  refine range_law (gf := 26) (lb := #[.pointer (some ⟨w.heap.size + 1 + 1 + 1, 0, none⟩)]) rfl (enters_of Tryd.func26 (by kernel_rfl) rfl)
    hG (fun _ => rfl) ?hD (fun k => k = w.heap.size + 1 ∨ k = w.heap.size + 1 + 1) ?hCD ?hCw
    (holdingI w T n q) (holdingX w T n adr cap q) ?hI ?hIx ?h0 ?round ?done ?stop
  case hD =>
    intro k hk
    rcases hD k hk with h | h <;> omega
  case hCD =>
    intro k hk hc
    rcases hD k hk with h | h <;> omega
  case hCw =>
    rintro k hk hc
    omega
  case hI =>
    rintro s A E ⟨ho, hp⟩ hbel
    exact ⟨ho.below (hbel.mono (by omega)), hp⟩
  case hIx =>
    rintro cd s A E ⟨rfl, hbe, hs, h1, h2, h3, h4, hp⟩ hbel
    have c : ∀ k o, k < w.heap.size + 4 → E.cell? ⟨k, o, none⟩ = A.cell? ⟨k, o, none⟩ := fun k o hk => hbel.cell (p := ⟨k, o, none⟩) (by show k < _; omega)
    exact ⟨rfl, hbe.trans (hbel.mono (by omega)), Nat.le_trans hs hbel.size, (c _ _ (by omega)).trans h1, (c _ _ (by omega)).trans h2, (c _ _ (by omega)).trans h3, (c _ _ (by omega)).trans h4, hp⟩
  case h0 => exact ⟨oWl, by simp [M.cnt]⟩
  case round =>
    intro l' s x hl1 hl2 hIs hlt
    obtain ⟨num, fr⟩ := s
    simp only [lnEnc, lineV]
    gi_wp2
    have hbx : Below (w.heap.size + 4) x (x.alloc (.cells #[.int .i64 num, .int .i64 fr, .slice (adr fr) (lnLen T n fr) (cap - fr)] 32)) := (Below.refl _ x).alloc hIs.1.size _
    refine ⟨Keep.alloc _ _ _, ⟨hIs.1.below hbx, hIs.2⟩, ?_⟩
    clear hIs hbx
    rintro x2 hk2 hs2 ⟨ho, hI2⟩
    have hn3 := cells3New x (.int .i64 num) (.int .i64 fr) (.slice (adr fr) (lnLen T n fr) (cap - fr)) 32
    have c0 := (hk2.cell (p := ⟨x.heap.size, 0, none⟩) (by show x.heap.size < _; simp) (by show ¬ x.heap.size = l'; omega)).trans hn3.1
    have c1 := (hk2.cell (p := ⟨x.heap.size, 1, none⟩) (by show x.heap.size < _; simp) (by show ¬ x.heap.size = l'; omega)).trans hn3.2.1
    have c2 := (hk2.cell (p := ⟨x.heap.size, 2, none⟩) (by show x.heap.size < _; simp) (by show ¬ x.heap.size = l'; omega)).trans hn3.2.2
    have q0 : x.heap.size < x2.heap.size := by omega
    have q1 : w.heap.size + 1 < x2.heap.size := by have := ho.size; omega
    have q2 : w.heap.size + 1 + 1 < x2.heap.size := by have := ho.size; omega
    have q3 : w.heap.size < x2.heap.size := by omega
    clear hn3 hk2 hs2
    have ka := ho.arg
    obtain ⟨v0, k0⟩ := ho.r0
    obtain ⟨v1, k1⟩ := ho.r1
    obtain ⟨v2, k2⟩ := ho.r2
    obtain ⟨v3, k3⟩ := ho.r3
    have f0 := ho.rf0
    have f1 := ho.rf1
    have f2 := ho.rf2
    have f3 := ho.rf3
    have HI : Hid _ := hI2
    clear hI2
    have hll := lnLen_le T n fr
    have hfr' : fr ≤ 1048576 := by omega
    have hlm : lnLen T n fr ≤ 1048576 := by omega
    have hlt' : fr ≤ n := hlt
    by_cases hfq : (fr : Int) ≤ q
    · have hd1 : decide ((fr : Int) ≤ q) = true := by simp [hfq]
      by_cases hqe : q ≤ (fr : Int) + (lnLen T n fr : Int)
      · have hd2 : decide (q ≤ (fr : Int) + (lnLen T n fr : Int)) = true := by simp [hqe]
        obtain ⟨p0, p1, p2, p3⟩ := put4_cells (.int .i64 num) (.int .i64 fr) (.slice (adr fr) (lnLen T n fr) (cap - fr)) (.bool true) k0 k1 k2 k3
        have hkY := put4_keep x2 w.heap.size (.int .i64 num) (.int .i64 fr) (.slice (adr fr) (lnLen T n fr) (cap - fr)) (.bool true)
        have hsX := ho.size
        have HX : Hid (roundEnds (fun k => k = w.heap.size + 1 ∨ k = w.heap.size + 1 + 1) (holdingI w T n q) (holdingX w T n adr cap q) (num, fr) (lnNext T n (num, fr)) x2 .ret { tmps := #[], defers := [] }
            (((put4 x2 w.heap.size (.int .i64 num) (.int .i64 fr) (.slice (adr fr) (lnLen T n fr) (cap - fr)) (.bool true)).alloc (.cells #[.int .i64 num, .int .i64 fr, .slice (adr fr) (lnLen T n fr) (cap - fr)] 32)).drew)) := by
          have hkX := (hkY.trans (Keep.alloc _ _ (.cells #[.int .i64 num, .int .i64 fr, .slice (adr fr) (lnLen T n fr) (cap - fr)] 32))).trans (Keep.drew _ _)
          have hi := HI.out
          refine ⟨hkX, rfl, ho.bel.trans (hkX.below (by omega) (by omega)), Nat.le_trans hsX hkX.size, cellOn _ p0, cellOn _ p1, cellOn _ p2, cellOn _ p3, hlt', (hi.2.2.1 hlt').1, (hi.2.2.1 hlt').2, hfq, ?_⟩
          rw [Int.natCast_add]; exact hqe
        clear hkY p0 p1 p2 p3
        gi_wp2
        gi_region_with_o (first | (refine ⟨trivial, ?_⟩; gi_at_call 19; refine (end_in _ _ _ _ _ _ (by assumption) (by assumption)).mono ?_; rintro e w' ⟨rfl, rfl⟩) | (gi_at_call 19; refine (end_in _ _ _ _ _ _ (by assumption) (by assumption)).mono ?_; rintro e w' ⟨rfl, rfl⟩))
        all_goals
          gi_wp2
          exact HX.out
      · have hd2 : decide (q ≤ (fr : Int) + (lnLen T n fr : Int)) = false := by simp; omega
        have HX : Hid (∀ X, Below x2.heap.size x2 X → roundEnds (fun k => k = w.heap.size + 1 ∨ k = w.heap.size + 1 + 1) (holdingI w T n q) (holdingX w T n adr cap q) (num, fr) (lnNext T n (num, fr)) x2 .normal { tmps := #[], defers := [] } X) := fun X bX =>
          ⟨Keep.of_below bX (fun k hk _ => hk), ho.below (bX.mono (by have := ho.size; omega)), hold_next hlt' HI.out (by omega)⟩
        gi_wp2
        gi_region_with_o (first | (refine ⟨trivial, ?_⟩; gi_at_call 19; refine (end_in _ _ _ _ _ _ (by assumption) (by assumption)).mono ?_; rintro e w' ⟨rfl, rfl⟩) | (gi_at_call 19; refine (end_in _ _ _ _ _ _ (by assumption) (by assumption)).mono ?_; rintro e w' ⟨rfl, rfl⟩))
        all_goals
          gi_wp2
          exact HX.out _ (((Below.refl _ x2).alloc (Nat.le_refl _) _).drew)
    · have hd1 : decide ((fr : Int) ≤ q) = false := by simp; omega
      have HX : Hid (∀ X, Below x2.heap.size x2 X → roundEnds (fun k => k = w.heap.size + 1 ∨ k = w.heap.size + 1 + 1) (holdingI w T n q) (holdingX w T n adr cap q) (num, fr) (lnNext T n (num, fr)) x2 .normal { tmps := #[], defers := [] } X) := fun X bX =>
        ⟨Keep.of_below bX (fun k hk _ => hk), ho.below (bX.mono (by have := ho.size; omega)), hold_next hlt' HI.out (by omega)⟩
      have hfn : Fence.wide.fn 19 := trivial
      gi_wp2
      gi_region_with_o (fail)
      all_goals
        gi_wp2
        exact HX.out _ ((Below.refl _ x2).drew)
  case done =>
    rintro d s x hd hnm ⟨ho, hI2⟩ hK
    obtain ⟨v0, k0⟩ := ho.r0
    obtain ⟨v1, k1⟩ := ho.r1
    obtain ⟨v2, k2⟩ := ho.r2
    obtain ⟨v3, k3⟩ := ho.r3
    have f0 := ho.rf0
    have f1 := ho.rf1
    have f2 := ho.rf2
    have f3 := ho.rf3
    have hdx : d < x.heap.size := (Array.getElem?_eq_some_iff.1 hK).1
    have hsx := ho.size
    have HI : Hid _ := hI2
    clear hI2
    gi_wp2
    have hkp := put4_keep x w.heap.size (.int .i64 0) (.int .i64 0) (.slice none 0 0) (.bool false)
    have hK' := (hkp.block d hdx (by omega)).trans hK
    refine ⟨by simp, .inl ⟨_, _, rfl, run_takeDeferred hK', ?_⟩⟩
    have hsy := Nat.le_trans ho.size hkp.size
    have hbp := belowPut (B := w.heap.size + 4) _ (.deferred none) (d := d) (by omega) hsy
    obtain ⟨p0, p1, p2, p3⟩ := put4_cells (.int .i64 0) (.int .i64 0) (.slice none 0 0) (.bool false) k0 k1 k2 k3
    have g1 := (hbp.cell (p := ⟨w.heap.size + 1, 0, none⟩) (by show w.heap.size + 1 < _; omega)).trans p0
    have g2 := (hbp.cell (p := ⟨w.heap.size + 1, 1, none⟩) (by show w.heap.size + 1 < _; omega)).trans p1
    have g3 := (hbp.cell (p := ⟨w.heap.size + 1, 2, none⟩) (by show w.heap.size + 1 < _; omega)).trans p2
    have g4 := (hbp.cell (p := ⟨w.heap.size + 1 + 1, 0, none⟩) (by show w.heap.size + 1 + 1 < _; omega)).trans p3
    refine ⟨.tuple #[.agg #[.int .i64 0, .int .i64 0, .slice none 0 0], .bool false], ?_, .inr ⟨rfl, ?_⟩, (ho.bel.trans (hkp.below (by omega) (by omega))).trans (hbp.mono (by omega))⟩
    · simp [results, Tryd.f13, go_sem, g1, g2, g3, g4]
    · have := HI.out; omega
  case stop =>
    rintro d cd s x hd hsm ⟨rfl, hbe, hsx, h1, h2, h3, h4, hI2⟩ hK
    gi_wp2
    refine ⟨by simp, .inl ⟨_, _, rfl, run_takeDeferred hK, ?_⟩⟩
    have hdx : d < x.heap.size := (Array.getElem?_eq_some_iff.1 hK).1
    have hbp := belowPut (B := w.heap.size + 4) x (.deferred none) (d := d) (by omega) hsx
    have c : ∀ k o, k < w.heap.size + 4 → (x.putObj d (.deferred none)).cell? ⟨k, o, none⟩ = x.cell? ⟨k, o, none⟩ := fun k o hk => hbp.cell (p := ⟨k, o, none⟩) hk
    have g1 := (c _ _ (by omega)).trans h1
    have g2 := (c _ _ (by omega)).trans h2
    have g3 := (c _ _ (by omega)).trans h3
    have g4 := (c _ _ (by omega)).trans h4
    have hbf := hbe.trans (hbp.mono (by omega))
    refine ⟨.tuple #[lineV s.1 s.2 (adr s.2) (lnLen T n s.2) (cap - s.2), .bool true], ?_, .inl ⟨s.1, s.2, rfl, hI2⟩, hbf⟩
    simp [results, Tryd.f13, go_sem, g1, g2, g3, g4]

end Go.Proofs.YtkgopipejgcbiaaDoor
