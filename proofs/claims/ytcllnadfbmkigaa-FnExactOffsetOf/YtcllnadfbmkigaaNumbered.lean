/-
  Walks: the line with a number.
-/
import Derived.Test.YtcllnadfbmkigaaHolding
namespace Go.Proofs.Ytcllnadfbmkigaa
open Go.RowKit Go.Shelf
set_option linter.unusedVariables false
attribute [local go_sem] Oper.semAt_some

/-- What is known of the lines before the state s, none of which has the number q. -/
def NumI (T : Nat → Int) (n : Nat) (q : Int) (s : Nat × Nat) : Prop :=
  s.2 ≤ n + 1 ∧ s.1 ≤ s.2 + 1 ∧ 1 ≤ s.1 ∧ (s.2 ≤ n → s.1 = 1 + M.cnt T s.2 ∧ (s.2 = 0 ∨ T (s.2 - 1) = 10)) ∧ (s.2 = n + 1 → s.1 = 2 + M.cnt T n) ∧ ∀ j : Nat, 1 ≤ j → j < s.1 → (j : Int) ≠ q

theorem num_next {T : Nat → Int} {n num fr : Nat} {q : Int} (hf : fr ≤ n) (h : NumI T n q (num, fr)) (hq : ¬ (num : Int) = q) : NumI T n q (lnNext T n (num, fr)) := by
  have hl := lnLen_le T n fr
  obtain ⟨h1, h2, h3, h4, h5, h6⟩ := h
  have h4' := h4 hf
  have h41 : num = 1 + M.cnt T fr := h4'.1
  have h3' : 1 ≤ num := h3
  have h2' : num ≤ fr + 1 := h2
  refine ⟨?_, ?_, ?_, ?_, ?_, ?_⟩
  · show fr + lnLen T n fr + 1 ≤ n + 1; omega
  · show num + 1 ≤ fr + lnLen T n fr + 1 + 1; omega
  · show 1 ≤ num + 1; omega
  · intro hn
    have hn' : fr + lnLen T n fr + 1 ≤ n := hn
    refine ⟨?_, .inr ?_⟩
    · show num + 1 = 1 + M.cnt T (fr + lnLen T n fr + 1); rw [cnt_next (by omega)]; omega
    · show T (fr + lnLen T n fr + 1 - 1) = 10; rw [Nat.add_sub_cancel]; exact lnLen_at (by omega)
  · intro hn
    have hn' : fr + lnLen T n fr + 1 = n + 1 := hn
    show num + 1 = 2 + M.cnt T n
    have hs := M.cnt_same T fr n (by omega) (fun j a c => lnLen_not (n := n) a (by omega))
    omega
  · intro j a c
    have c' : j < num + 1 := c
    by_cases e : j = num
    · subst e; exact hq
    · exact h6 j a (by show j < num; omega)

def numberedI (w : World) (T : Nat → Int) (n : Nat) (q : Int) (s : Nat × Nat) (x : World) : Prop := HoOwn w w.heap.size q x ∧ NumI T n q s
/-- The answer lies in its boxes. -/
def numberedX (w : World) (T : Nat → Int) (n : Nat) (adr : Nat → Option Addr) (cap : Nat) (q : Int) (cd : Code) (s : Nat × Nat) (x : World) : Prop :=
  cd = .ret ∧ Below w.heap.size w x ∧ w.heap.size + 4 ≤ x.heap.size ∧ x.cell? ⟨w.heap.size + 1, 0, none⟩ = some (.int .i64 (s.1 : Nat)) ∧ x.cell? ⟨w.heap.size + 1, 1, none⟩ = some (.int .i64 (s.2 : Nat)) ∧
    x.cell? ⟨w.heap.size + 1, 2, none⟩ = some (.slice (adr s.2) (lnLen T n s.2) (cap - s.2)) ∧ x.cell? ⟨w.heap.size + 1 + 1, 0, none⟩ = some (.bool true) ∧ s.2 ≤ n ∧ s.1 = 1 + M.cnt T s.2 ∧ (s.2 = 0 ∨ T (s.2 - 1) = 10) ∧ q = (s.1 : Nat)

set_option maxRecDepth 100000 in
set_option maxHeartbeats 8000000 in
theorem numbered_in (a : Option Addr) (n cap : Nat) (q : Int) (T : Nat → Int) (adr : Nat → Option Addr) (w : World) (hV : TextV w a n cap T adr) :
    CallsIn Fence.wide 0 Try.prog 9 #[.slice a n cap, .int .i64 q] w fun e w' => ((∃ num fr : Nat, e = .returned (.tuple #[lineV num fr (adr fr) (lnLen T n fr) (cap - fr), .bool true]) ∧ fr ≤ n ∧ num = 1 + M.cnt T fr ∧ (fr = 0 ∨ T (fr - 1) = 10) ∧ q = (num : Nat)) ∨ (e = .returned (.tuple #[.agg #[.int .i64 0, .int .i64 0, .slice none 0 0], .bool false]) ∧ ∀ j : Nat, 1 ≤ j → j ≤ 1 + M.cnt T n → (j : Int) ≠ q)) ∧ Below w.heap.size w w' := by
  have hdep : Fence.wide.depth = none := rfl
  have hmo : Try.prog.follows .mixedOrders = true := by kernel_rfl
  have hn := hV.small
  refine callsIn_of_wp_marks Try.func9 rfl trivial ?_ rfl
  simp only [Try.ntmps9, List.size_toArray, List.length_cons, List.length_nil, Nat.reduceAdd, Nat.reduceSub, Array.replicate_succ, Array.replicate_zero, List.push_toArray, List.append_toArray, List.nil_append, List.cons_append]
  gi_wp2_with (refine ⟨trivial, ?_⟩; gi_at_call 13; refine (all_in _ _ _ _).mono ?_; rintro e w' ⟨rfl, rfl⟩)
  obtain ⟨Wl, hWl⟩ : ∃ Wl, (((w.alloc (Obj.cells #[Value.int IntKind.i64 q] 3)).alloc (Obj.cells #[Value.int IntKind.i64 0, Value.int IntKind.i64 0, Value.slice none 0 0] 29)).alloc (Obj.cells #[Value.bool false] 4)).alloc (Obj.cells #[Value.slice a n cap] 31) = Wl := ⟨_, rfl⟩
  have sWl : Wl.heap.size = w.heap.size + 4 := by rw [← hWl]; simp
  have bWl : Below w.heap.size w Wl := by rw [← hWl]; exact ((((Below.refl _ w).alloc (Nat.le_refl _) _).alloc (by simp) _).alloc (by simp; omega) _).alloc (by simp; omega) _
  have ha := cellNew w (.int .i64 q) 3
  have hr := cells3New (w.alloc (Obj.cells #[Value.int IntKind.i64 q] 3)) (.int .i64 0) (.int .i64 0) (.slice none 0 0) 29
  have hrf := fun o => frozen3New (w.alloc (Obj.cells #[Value.int IntKind.i64 q] 3)) (.int .i64 0) (.int .i64 0) (.slice none 0 0) 29 o
  have hs := cellNew ((w.alloc (Obj.cells #[Value.int IntKind.i64 q] 3)).alloc (Obj.cells #[Value.int IntKind.i64 0, Value.int IntKind.i64 0, Value.slice none 0 0] 29)) (.bool false) 4
  have hsf := frozenNew ((w.alloc (Obj.cells #[Value.int IntKind.i64 q] 3)).alloc (Obj.cells #[Value.int IntKind.i64 0, Value.int IntKind.i64 0, Value.slice none 0 0] 29)) (.bool false) 4
  have hx := cellNew (((w.alloc (Obj.cells #[Value.int IntKind.i64 q] 3)).alloc (Obj.cells #[Value.int IntKind.i64 0, Value.int IntKind.i64 0, Value.slice none 0 0] 29)).alloc (Obj.cells #[Value.bool false] 4)) (.slice a n cap) 31
  simp only [World.size_alloc] at hr hrf hs hsf hx
  rw [hWl] at hx
  have oWl : HoOwn w w.heap.size q Wl := by
    rw [← hWl]
    exact ⟨cellOn _ (cellOn _ (cellOn _ ha)), ⟨_, cellOn _ (cellOn _ hr.1)⟩, ⟨_, cellOn _ (cellOn _ hr.2.1)⟩, ⟨_, cellOn _ (cellOn _ hr.2.2)⟩,
      frozenOn _ (cellOn _ hr.1) (frozenOn _ hr.1 (hrf 0)), frozenOn _ (cellOn _ hr.2.1) (frozenOn _ hr.2.1 (hrf 1)), frozenOn _ (cellOn _ hr.2.2) (frozenOn _ hr.2.2 (hrf 2)),
      ⟨_, cellOn _ hs⟩, frozenOn _ hs hsf, by rw [hWl]; exact bWl, by rw [hWl]; omega⟩
  rw [hWl]
  clear hWl ha hr hrf hs hsf
  obtain ⟨D, hD, hG⟩ := hV.lines (w.heap.size + 1 + 1 + 1) Wl bWl hx
  refine range_law (gf := 15) (lb := #[.pointer (some ⟨w.heap.size + 1 + 1 + 1, 0, none⟩)]) rfl (enters_of Try.func15 (by kernel_rfl) rfl)
    hG (fun _ => rfl) ?hD (fun k => k = w.heap.size + 1 ∨ k = w.heap.size + 1 + 1) ?hCD ?hCw
    (numberedI w T n q) (numberedX w T n adr cap q) ?hI ?hIx ?h0 ?round ?done ?stop
  case hD =>
    intro k hk
    rcases hD k hk with h | h <;> omega
  case hCD =>
    intro k hk hc
    rcases hD k hk with h | h <;> omega
  case hCw =>
    rintro k hk hc
    omega
  case hI =>
    rintro s A E ⟨ho, hp⟩ hbel
    exact ⟨ho.below (hbel.mono (by omega)), hp⟩
  case hIx =>
    rintro cd s A E ⟨rfl, hbe, hs, h1, h2, h3, h4, hp⟩ hbel
    have c : ∀ k o, k < w.heap.size + 4 → E.cell? ⟨k, o, none⟩ = A.cell? ⟨k, o, none⟩ := fun k o hk => hbel.cell (p := ⟨k, o, none⟩) (by show k < _; omega)
    exact ⟨rfl, hbe.trans (hbel.mono (by omega)), Nat.le_trans hs hbel.size, (c _ _ (by omega)).trans h1, (c _ _ (by omega)).trans h2, (c _ _ (by omega)).trans h3, (c _ _ (by omega)).trans h4, hp⟩
  case h0 => exact ⟨oWl, by show (0 : Nat) ≤ n + 1; omega, by show (1 : Nat) ≤ 0 + 1; omega, Nat.le_refl _, fun _ => ⟨rfl, .inl rfl⟩, fun h => by have h' : (0 : Nat) = n + 1 := h; omega, fun j a c => by have c' : j < 1 := c; omega⟩
  case round =>
    intro l' s x hl1 hl2 hIs hlt
    obtain ⟨num, fr⟩ := s
    simp only [lnEnc, lineV]
    gi_wp2
    have hbx : Below (w.heap.size + 4) x (x.alloc (.cells #[.int .i64 num, .int .i64 fr, .slice (adr fr) (lnLen T n fr) (cap - fr)] 29)) := (Below.refl _ x).alloc hIs.1.size _
    refine ⟨Keep.alloc _ _ _, ⟨hIs.1.below hbx, hIs.2⟩, ?_⟩
    clear hIs hbx
    rintro x2 hk2 hs2 ⟨ho, hI2⟩
    have hn3 := cells3New x (.int .i64 num) (.int .i64 fr) (.slice (adr fr) (lnLen T n fr) (cap - fr)) 29
    have c0 := (hk2.cell (p := ⟨x.heap.size, 0, none⟩) (by show x.heap.size < _; simp) (by show ¬ x.heap.size = l'; omega)).trans hn3.1
    have c1 := (hk2.cell (p := ⟨x.heap.size, 1, none⟩) (by show x.heap.size < _; simp) (by show ¬ x.heap.size = l'; omega)).trans hn3.2.1
    have c2 := (hk2.cell (p := ⟨x.heap.size, 2, none⟩) (by show x.heap.size < _; simp) (by show ¬ x.heap.size = l'; omega)).trans hn3.2.2
    have q0 : x.heap.size < x2.heap.size := by omega
    have q1 : w.heap.size + 1 < x2.heap.size := by have := ho.size; omega
    have q2 : w.heap.size + 1 + 1 < x2.heap.size := by have := ho.size; omega
    have q3 : w.heap.size < x2.heap.size := by omega
    clear hn3 hk2 hs2
    have ka := ho.arg
    obtain ⟨v0, k0⟩ := ho.r0
    obtain ⟨v1, k1⟩ := ho.r1
    obtain ⟨v2, k2⟩ := ho.r2
    obtain ⟨v3, k3⟩ := ho.r3
    have f0 := ho.rf0
    have f1 := ho.rf1
    have f2 := ho.rf2
    have f3 := ho.rf3
    have HI : Hid _ := hI2
    clear hI2
    have hll := lnLen_le T n fr
    have hfr' : fr ≤ 1048576 := by omega
    have hlm : lnLen T n fr ≤ 1048576 := by omega
    have hlt' : fr ≤ n := hlt
    by_cases hfq : (num : Int) = q
    · have hd1 : ((num : Int) == q) = true := by simp [hfq]
      have HQ : Hid ((num : Int) = q) := hfq
      clear hfq
      obtain ⟨p0, p1, p2, p3⟩ := put4_cells (.int .i64 num) (.int .i64 fr) (.slice (adr fr) (lnLen T n fr) (cap - fr)) (.bool true) k0 k1 k2 k3
      have hkX := put4_keep x2 w.heap.size (.int .i64 num) (.int .i64 fr) (.slice (adr fr) (lnLen T n fr) (cap - fr)) (.bool true)
      have hsX := ho.size
      have HX : Hid (roundEnds (fun k => k = w.heap.size + 1 ∨ k = w.heap.size + 1 + 1) (numberedI w T n q) (numberedX w T n adr cap q) (num, fr) (lnNext T n (num, fr)) x2 .ret { tmps := #[], defers := [] }
          (put4 x2 w.heap.size (.int .i64 num) (.int .i64 fr) (.slice (adr fr) (lnLen T n fr) (cap - fr)) (.bool true))) := by
        have hi := HI.out
        exact ⟨hkX, rfl, ho.bel.trans (hkX.below (by omega) (by omega)), Nat.le_trans hsX hkX.size, p0, p1, p2, p3, hlt', (hi.2.2.2.1 hlt').1, (hi.2.2.2.1 hlt').2, HQ.out.symm⟩
      clear hkX p0 p1 p2 p3
      gi_wp2
      exact HX.out
    · have hd1 : ((num : Int) == q) = false := by simp [hfq]
      have HX : Hid (roundEnds (fun k => k = w.heap.size + 1 ∨ k = w.heap.size + 1 + 1) (numberedI w T n q) (numberedX w T n adr cap q) (num, fr) (lnNext T n (num, fr)) x2 .normal { tmps := #[], defers := [] } x2) :=
        ⟨Keep.refl _ _, ho, num_next hlt' HI.out hfq⟩
      clear hfq
      gi_wp2
      exact HX.out
  case done =>
    rintro d s x hd hnm ⟨ho, hI2⟩ hK
    obtain ⟨v0, k0⟩ := ho.r0
    obtain ⟨v1, k1⟩ := ho.r1
    obtain ⟨v2, k2⟩ := ho.r2
    obtain ⟨v3, k3⟩ := ho.r3
    have f0 := ho.rf0
    have f1 := ho.rf1
    have f2 := ho.rf2
    have f3 := ho.rf3
    have hdx : d < x.heap.size := (Array.getElem?_eq_some_iff.1 hK).1
    have hsx := ho.size
    have HI : Hid _ := hI2
    clear hI2
    gi_wp2
    have hkp := put4_keep x w.heap.size (.int .i64 0) (.int .i64 0) (.slice none 0 0) (.bool false)
    have hK' := (hkp.block d hdx (by omega)).trans hK
    refine ⟨by simp, .inl ⟨_, _, rfl, run_takeDeferred hK', ?_⟩⟩
    have hsy := Nat.le_trans ho.size hkp.size
    have hbp := belowPut (B := w.heap.size + 4) _ (.deferred none) (d := d) (by omega) hsy
    obtain ⟨p0, p1, p2, p3⟩ := put4_cells (.int .i64 0) (.int .i64 0) (.slice none 0 0) (.bool false) k0 k1 k2 k3
    have g1 := (hbp.cell (p := ⟨w.heap.size + 1, 0, none⟩) (by show w.heap.size + 1 < _; omega)).trans p0
    have g2 := (hbp.cell (p := ⟨w.heap.size + 1, 1, none⟩) (by show w.heap.size + 1 < _; omega)).trans p1
    have g3 := (hbp.cell (p := ⟨w.heap.size + 1, 2, none⟩) (by show w.heap.size + 1 < _; omega)).trans p2
    have g4 := (hbp.cell (p := ⟨w.heap.size + 1 + 1, 0, none⟩) (by show w.heap.size + 1 + 1 < _; omega)).trans p3
    refine ⟨.tuple #[.agg #[.int .i64 0, .int .i64 0, .slice none 0 0], .bool false], ?_, .inr ⟨rfl, ?_⟩, (ho.bel.trans (hkp.below (by omega) (by omega))).trans (hbp.mono (by omega))⟩
    · simp [results, Try.f9, go_sem, g1, g2, g3, g4]
    · intro j a c
      have hi := HI.out
      have e1 : s.2 = n + 1 := by have := hi.1; omega
      exact hi.2.2.2.2.2 j a (by have := hi.2.2.2.2.1 e1; omega)
  case stop =>
    rintro d cd s x hd hsm ⟨rfl, hbe, hsx, h1, h2, h3, h4, hI2⟩ hK
    gi_wp2
    refine ⟨by simp, .inl ⟨_, _, rfl, run_takeDeferred hK, ?_⟩⟩
    have hdx : d < x.heap.size := (Array.getElem?_eq_some_iff.1 hK).1
    have hbp := belowPut (B := w.heap.size + 4) x (.deferred none) (d := d) (by omega) hsx
    have c : ∀ k o, k < w.heap.size + 4 → (x.putObj d (.deferred none)).cell? ⟨k, o, none⟩ = x.cell? ⟨k, o, none⟩ := fun k o hk => hbp.cell (p := ⟨k, o, none⟩) hk
    have g1 := (c _ _ (by omega)).trans h1
    have g2 := (c _ _ (by omega)).trans h2
    have g3 := (c _ _ (by omega)).trans h3
    have g4 := (c _ _ (by omega)).trans h4
    have hbf := hbe.trans (hbp.mono (by omega))
    refine ⟨.tuple #[lineV s.1 s.2 (adr s.2) (lnLen T n s.2) (cap - s.2), .bool true], ?_, .inl ⟨s.1, s.2, rfl, hI2⟩, hbf⟩
    simp [results, Try.f9, go_sem, g1, g2, g3, g4]

end Go.Proofs.Ytcllnadfbmkigaa
