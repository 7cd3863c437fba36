/-
  Walks: the column of an offset in a line; the offset of a column.
-/
import Derived.Test.YtcllnadfbmkigaaPlaces
namespace Go.Proofs.Ytcllnadfbmkigaa
open Go.RowKit Go.Shelf
set_option linter.unusedVariables false
attribute [local go_sem] Oper.semAt_some

theorem cells3New (W : World) (v0 v1 v2 : Value) (t : TypeId) : (W.alloc (.cells #[v0, v1, v2] t)).cell? ⟨W.heap.size, 0, none⟩ = some v0 ∧ (W.alloc (.cells #[v0, v1, v2] t)).cell? ⟨W.heap.size, 1, none⟩ = some v1 ∧ (W.alloc (.cells #[v0, v1, v2] t)).cell? ⟨W.heap.size, 2, none⟩ = some v2 := by
  have h := World.alloc_heap_new W (.cells #[v0, v1, v2] t)
  refine ⟨?_, ?_, ?_⟩ <;> simp only [World.cell?, h] <;> rfl

/-- What the function's own boxes hold between two rounds: the argument at y + 1, the answer at y + 2. -/
structure CoOwn (w : World) (y : Nat) (q : Int) (x : World) : Prop where
  arg : x.cell? ⟨y + 1, 0, none⟩ = some (.int .i64 q)
  res : ∃ v, x.cell? ⟨y + 1 + 1, 0, none⟩ = some v
  resf : x.frozen? ⟨y + 1 + 1, 0, none⟩ = false
  bel : Below y w x
  size : y + 4 ≤ x.heap.size

theorem CoOwn.below {w : World} {y : Nat} {q : Int} {x z : World} (h : CoOwn w y q x) (hb : Below (y + 4) x z) : CoOwn w y q z :=
  ⟨(hb.cell (p := ⟨y + 1, 0, none⟩) (by show y + 1 < y + 4; omega)).trans h.arg, h.res.imp fun _ hv => (hb.cell (p := ⟨y + 1 + 1, 0, none⟩) (by show y + 1 + 1 < y + 4; omega)).trans hv,
    (hb.frozen (p := ⟨y + 1 + 1, 0, none⟩) (by show y + 1 + 1 < y + 4; omega)).trans h.resf, h.bel.trans (hb.mono (by omega)), Nat.le_trans h.size hb.size⟩

theorem pos_step {B : Nat → Int} {m c p : Nat} (hc : 1 ≤ c) (h : p = M.pos B m 0 (c - 1)) : p + M.cl B m p = M.pos B m 0 (c + 1 - 1) := by
  obtain ⟨k, rfl⟩ : ∃ k, c = k + 1 := ⟨c - 1, by omega⟩
  simp only [Nat.add_sub_cancel] at h ⊢
  rw [h]; rfl
theorem pos_all {B : Nat → Int} {m c p f q : Nat} (hc : 1 ≤ c) (h : p = M.pos B m 0 (c - 1)) (hj : ∀ j, j < c - 1 → f + M.pos B m 0 j < q) (hq : f + p < q) : ∀ j, j < c + 1 - 1 → f + M.pos B m 0 j < q := fun j hjc => by
  by_cases e : j = c - 1
  · subst e; rw [← h]; exact hq
  · exact hj j (by omega)

def offsetI (w : World) (B : Nat → Int) (m from_ : Nat) (q : Int) (s : Nat × Nat) (x : World) : Prop := CoOwn w w.heap.size q x ∧ 1 ≤ s.1 ∧ ((s.2 ≤ m ∧ s.2 = M.pos B m 0 (s.1 - 1) ∧ ∀ j, j < s.1 - 1 → M.pos B m 0 j < m ∧ (j : Int) + 1 ≠ q) ∨ (s.2 = m + 1 ∧ ∃ K, M.pos B m 0 K = m ∧ (∀ j, j < K → M.pos B m 0 j < m) ∧ ∀ j, j ≤ K → (j : Int) + 1 ≠ q))
def offsetX (w : World) (B : Nat → Int) (m from_ : Nat) (q : Int) (cd : Code) (s : Nat × Nat) (x : World) : Prop :=
  cd = .ret ∧ Below w.heap.size w x ∧ w.heap.size + 4 ≤ x.heap.size ∧ x.cell? ⟨w.heap.size + 1 + 1, 0, none⟩ = some (.int .i64 (from_ + s.2 : Nat)) ∧ 1 ≤ s.1 ∧ s.2 ≤ m ∧ s.2 = M.pos B m 0 (s.1 - 1) ∧ (∀ j, j < s.1 - 1 → M.pos B m 0 j < m) ∧ q = (s.1 : Nat)

set_option maxRecDepth 100000 in
set_option maxHeartbeats 4000000 in
theorem offset_in (num from_ b off m cap : Nat) (a : Option Addr) (q : Int) (B : Nat → Int) (w : World) (hB : Tx w b off m B) (hb : ∀ i, 0 ≤ B i ∧ B i ≤ 255) (hm : m ≤ 1048576) (hf : from_ ≤ 1048576) (hcap : m ≤ cap) (hA : 0 < m → a = some ⟨b, off, none⟩) :
    CallsIn Fence.wide 0 Try.prog 10 #[lineV num from_ a m cap, .int .i64 q] w fun e w' => ((∃ c : Nat, e = .returned (.int .i64 (from_ + M.pos B m 0 c : Nat)) ∧ q = (c + 1 : Nat) ∧ M.pos B m 0 c ≤ m ∧ ∀ j, j < c → M.pos B m 0 j < m) ∨ (e = .returned (.int .i64 (-1)) ∧ ∃ K, M.pos B m 0 K = m ∧ (∀ j, j < K → M.pos B m 0 j < m) ∧ ∀ j, j ≤ K → (j : Int) + 1 ≠ q)) ∧ Below w.heap.size w w' := by
  have hdep : Fence.wide.depth = none := rfl
  have hbl : 0 < m → b < w.heap.size := fun h => lt_of_cell (hB 0 h)
  refine callsIn_of_wp_marks Try.func10 rfl trivial ?_ rfl
  simp only [Try.ntmps10, List.size_toArray, List.length_cons, List.length_nil, Nat.reduceAdd, Nat.reduceSub, Array.replicate_succ, Array.replicate_zero, List.push_toArray, List.append_toArray, List.nil_append, List.cons_append]
  gi_wp2_with (refine ⟨trivial, ?_⟩; gi_at_call 14; refine (places_in _ _ _ _ _ _).mono ?_; rintro e w' ⟨rfl, rfl⟩)
  obtain ⟨Wl, hWl⟩ : ∃ Wl, (((w.alloc (Obj.cells #[Value.int IntKind.i64 num, Value.int IntKind.i64 from_, Value.slice a m cap] 29)).alloc (Obj.cells #[Value.int IntKind.i64 q] 3)).alloc (Obj.cells #[Value.int IntKind.i64 0] 3)).alloc (Obj.cells #[Value.int IntKind.i64 num, Value.int IntKind.i64 from_, Value.slice a m cap] 29) = Wl := ⟨_, rfl⟩
  have sWl : Wl.heap.size = w.heap.size + 4 := by rw [← hWl]; simp
  have bWl : Below w.heap.size w Wl := by rw [← hWl]; exact ((((Below.refl _ w).alloc (Nat.le_refl _) _).alloc (by simp) _).alloc (by simp; omega) _).alloc (by simp; omega) _
  have ha := cellNew (w.alloc (Obj.cells #[Value.int IntKind.i64 num, Value.int IntKind.i64 from_, Value.slice a m cap] 29)) (.int .i64 q) 3
  have hr := cellNew ((w.alloc (Obj.cells #[Value.int IntKind.i64 num, Value.int IntKind.i64 from_, Value.slice a m cap] 29)).alloc (Obj.cells #[Value.int IntKind.i64 q] 3)) (.int .i64 0) 3
  have hrf := frozenNew ((w.alloc (Obj.cells #[Value.int IntKind.i64 num, Value.int IntKind.i64 from_, Value.slice a m cap] 29)).alloc (Obj.cells #[Value.int IntKind.i64 q] 3)) (.int .i64 0) 3
  have hx := cells3New (((w.alloc (Obj.cells #[Value.int IntKind.i64 num, Value.int IntKind.i64 from_, Value.slice a m cap] 29)).alloc (Obj.cells #[Value.int IntKind.i64 q] 3)).alloc (Obj.cells #[Value.int IntKind.i64 0] 3)) (.int .i64 num) (.int .i64 from_) (.slice a m cap) 29
  simp only [World.size_alloc] at ha hr hrf hx
  rw [hWl] at hx
  have oWl : CoOwn w w.heap.size q Wl := ⟨by rw [← hWl]; exact cellOn _ (cellOn _ ha), ⟨_, by rw [← hWl]; exact cellOn _ hr⟩, by rw [← hWl]; exact frozenOn _ hr hrf, bWl, by omega⟩
  rw [hWl]
  clear hWl ha hr hrf
  refine range_law (gf := 17) (lb := #[.pointer (some ⟨w.heap.size + 1 + 1 + 1, 0, none⟩)]) rfl (enters_of Try.func17 (by kernel_rfl) rfl)
    (places_gives (w.heap.size + 1 + 1 + 1) num from_ b off m cap a B Wl hx.1 hx.2.1 hx.2.2 (hB.later bWl) hb hm hf hcap hA) (fun _ => rfl) ?hD (fun k => k = w.heap.size + 1 + 1) ?hCD ?hCw
    (offsetI w B m from_ q) (offsetX w B m from_ q) ?hI ?hIx ?h0 ?round ?done ?stop
  case hD =>
    rintro k (rfl | ⟨rfl, hm0⟩)
    · omega
    · have := hbl hm0; omega
  case hCD =>
    rintro k (rfl | ⟨rfl, hm0⟩) hc
    · omega
    · have := hbl hm0; omega
  case hCw =>
    rintro k hk hc
    omega
  case hI =>
    rintro s A E ⟨ho, hp⟩ hbel
    exact ⟨ho.below (hbel.mono (by omega)), hp⟩
  case hIx =>
    rintro cd s A E ⟨rfl, hbe, hs, hc, hp⟩ hbel
    exact ⟨rfl, hbe.trans (hbel.mono (by omega)), Nat.le_trans hs hbel.size, (hbel.cell (p := ⟨w.heap.size + 1 + 1, 0, none⟩) (by show w.heap.size + 1 + 1 < _; omega)).trans hc, hp⟩
  case h0 => exact ⟨oWl, Nat.le_refl _, by simp [M.pos]⟩
  case round =>
    intro l' s x hl1 hl2 hIs hlt
    obtain ⟨c, p⟩ := s
    gi_wp2
    refine ⟨Keep.refl _ _, ?_⟩
    clear hIs
    rintro x2 hk2 hs2 ⟨ho, hc1, hI2⟩
    have k1 := ho.arg
    obtain ⟨rv, k2⟩ := ho.res
    have k3 := ho.resf
    have HI : Hid _ := hI2
    clear hI2
    have hlt' : p ≤ m := hlt

    obtain ⟨i1, i2, i3⟩ : p ≤ m ∧ p = M.pos B m 0 (c - 1) ∧ ∀ j, j < c - 1 → M.pos B m 0 j < m ∧ (j : Int) + 1 ≠ q := by
      rcases HI.out with h | h
      · exact h
      · exact absurd h.1 (by show ¬ p = m + 1; omega)
    have I2 : Hid (p = M.pos B m 0 (c - 1)) := i2
    have I3 : Hid (∀ j, j < c - 1 → M.pos B m 0 j < m ∧ (j : Int) + 1 ≠ q) := i3
    clear i2 i3
    by_cases hge : (c : Int) = q
    · have hge' : ((c : Int) == q) = true := by simp [hge]
      have HG : Hid ((c : Int) = q) := hge
      clear hge
      gi_wp2
      refine ⟨Keep.setCell _ _ _ rfl, rfl, ho.bel.setCell (p := ⟨w.heap.size + 1 + 1, 0, none⟩) (by show w.heap.size ≤ w.heap.size + 1 + 1; omega) _,
        Nat.le_trans ho.size (Keep.setCell (C := fun _ => True) x2 _ _ trivial).size, ?_, hc1, i1, I2.out, fun j hj => (I3.out j hj).1, HG.out.symm⟩
      rw [Int.natCast_add]
      exact World.cell?_setCell_same' _ _ _ (by rw [k2]; rfl)
    · have hge' : ((c : Int) == q) = false := by simp [hge]
      have HG : Hid (¬ (c : Int) = q) := hge
      clear hge
      by_cases hpm : p < m
      · have hpn : plNext B m (c, p) = (c + 1, p + M.cl B m p) := by simp [plNext, hpm]
        rw [hpn]
        clear hpn
        gi_wp2
        refine ⟨Keep.refl _ _, ho, by show 1 ≤ c + 1; omega, .inl ⟨M.cl_le B m p hpm, pos_step hc1 I2.out, fun j hj => ?_⟩⟩
        have hj' : j < c := by simpa using hj
        by_cases e : j = c - 1
        · subst e
          exact ⟨by rw [← I2.out]; exact hpm, by have := HG.out; omega⟩
        · exact I3.out j (by omega)
      · have hpn : plNext B m (c, p) = (c + 1, m + 1) := by simp [plNext, hpm]
        rw [hpn]
        clear hpn
        gi_wp2
        refine ⟨Keep.refl _ _, ho, by show 1 ≤ c + 1; omega, .inr ⟨rfl, c - 1, by rw [← I2.out]; omega, fun j hj => (I3.out j hj).1, fun j hj => ?_⟩⟩
        by_cases e : j = c - 1
        · subst e
          have := HG.out; omega
        · exact (I3.out j (by omega)).2
  case done =>
    rintro d s x hd hnm ⟨ho, hc1, hI2⟩ hK
    have hI3 : ∃ K, M.pos B m 0 K = m ∧ (∀ j, j < K → M.pos B m 0 j < m) ∧ ∀ j, j ≤ K → (j : Int) + 1 ≠ q := by
      rcases hI2 with h | h
      · exact absurd h.1 hnm
      · exact h.2
    have HI3 : Hid _ := hI3
    clear hI3 hI2
    obtain ⟨rv, k2⟩ := ho.res
    have k3 := ho.resf
    gi_wp2
    have hdx : d < x.heap.size := (Array.getElem?_eq_some_iff.1 hK).1
    have hsx := ho.size
    have hK' : (x.setCell ⟨w.heap.size + 1 + 1, 0, none⟩ (.int .i64 (-1))).heap[d]? = some (.deferred (some [])) := (Below.heap_setCell _ _ _ _ (by show d ≠ w.heap.size + 1 + 1; omega)).trans hK
    refine ⟨by simp, .inl ⟨_, _, rfl, run_takeDeferred hK', ?_⟩⟩
    have hsy : w.heap.size + 4 ≤ (x.setCell ⟨w.heap.size + 1 + 1, 0, none⟩ (.int .i64 (-1))).heap.size := Nat.le_trans ho.size (Keep.setCell (C := fun _ => True) x _ _ trivial).size
    have hbp := belowPut (B := w.heap.size + 4) (x.setCell ⟨w.heap.size + 1 + 1, 0, none⟩ (.int .i64 (-1))) (.deferred none) (d := d) (by omega) hsy
    have hc5 := (hbp.cell (p := ⟨w.heap.size + 1 + 1, 0, none⟩) (by show w.heap.size + 1 + 1 < _; omega)).trans (World.cell?_setCell_same' x ⟨w.heap.size + 1 + 1, 0, none⟩ (.int .i64 (-1)) (by rw [k2]; rfl))
    refine ⟨.int .i64 (-1), ?_, .inr ⟨rfl, HI3.out⟩, (ho.bel.setCell (p := ⟨w.heap.size + 1 + 1, 0, none⟩) (by show w.heap.size ≤ w.heap.size + 1 + 1; omega) _).trans (hbp.mono (by omega))⟩
    simp [results, Try.f10, go_sem, hc5]
  case stop =>
    rintro d cd s x hd hsm ⟨rfl, hbe, hsx, hcr, hc1, hI2⟩ hK
    gi_wp2
    refine ⟨by simp, .inl ⟨_, _, rfl, run_takeDeferred hK, ?_⟩⟩
    have hdx : d < x.heap.size := (Array.getElem?_eq_some_iff.1 hK).1
    have hbp := belowPut (B := w.heap.size + 4) x (.deferred none) (d := d) (by omega) hsx
    have hc5 := (hbp.cell (p := ⟨w.heap.size + 1 + 1, 0, none⟩) (by show w.heap.size + 1 + 1 < _; omega)).trans hcr
    have hbf := hbe.trans (hbp.mono (by omega))
    refine ⟨.int .i64 (from_ + s.2 : Nat), ?_, .inl ⟨s.1 - 1, by rw [← hI2.2.1], by rw [Nat.sub_add_cancel hc1]; exact hI2.2.2.2, by rw [← hI2.2.1]; exact hI2.1, hI2.2.2.1⟩, hbf⟩
    simp [results, Try.f10, go_sem, hc5]

end Go.Proofs.Ytcllnadfbmkigaa
