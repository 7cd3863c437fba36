/-
  Walks: each label is there for a reason.
-/
import Derived.Test.YtjndcajblpgjmaaOver
namespace Go.Proofs.Ytjndcajblpgjmaa
open Go.RowKit Go.Shelf
open M (OpD NodeD Gr)
set_option linter.unusedVariables false
attribute [local go_sem] Oper.semAt_some

theorem info3 : (Try.prog.info? 3).map (fun i => (i.zero, i.size, i.bytes)) = some (some (.int .i64 0), 1, 8) := by kernel_rfl

/-- The label l is thrown in the first p nodes. -/
def ThrownTo (g : Gr) (p l : Nat) : Prop := ∃ q, q < p ∧ M.Throws (nd g q).bl (nd g q).body l
/-- .. in the first p nodes, or in the first k elements of node p. -/
def ThrownAt (g : Gr) (p k l : Nat) : Prop := ThrownTo g p l ∨ M.Throws k (nd g p).body l

/-- Every throw names a label. -/
def ArgsOK (g : Gr) : Prop := ∀ p, p < g.nr + g.nb → ∀ i, i < (nd g p).bl → ((nd g p).body i).kind = 3 → 0 ≤ ((nd g p).body i).arg ∧ ((nd g p).body i).arg < g.nb

/-- The counts: not nought just where P holds. -/
def Cnt (x : World) (b nb : Nat) (P : Nat → Prop) (top : Nat) : Prop :=
  ∃ f : Nat → Nat, x.rowIs b 3 nb (fun i => .int .i64 (f i)) ∧ (∀ i, i < nb → (f i ≠ 0 ↔ P i)) ∧ ∀ i, i < nb → f i ≤ top

theorem Cnt.bump {x : World} {b nb top a : Nat} {P : Nat → Prop} (h : Cnt x b nb P top) (ha : a < nb) {z : Nat} (hz : x.cell? ⟨b, a, none⟩ = some (.int .i64 (z : Int))) :
    Cnt (x.setCell ⟨b, a, none⟩ (.int .i64 ((z : Int) + 1))) b nb (fun i => P i ∨ i = a) (top + 1) := by
  obtain ⟨f, hr, hp, ht⟩ := h
  have hfa : (f a : Int) = z := by
    have := hr.cell ha
    rw [hz] at this
    simp at this
    omega
  refine ⟨fun i => if i = a then f a + 1 else f i, (hr.set a _).congr fun i hi => ?_, fun i hi => ?_, fun i hi => ?_⟩
  · by_cases e : i = a
    · subst e; simp; omega
    · simp [e]
  · by_cases e : i = a
    · subst e; simp
    · simp [e, hp i hi]
  · have := ht i hi
    by_cases e : i = a
    · subst e; simp; omega
    · simp [e]; omega

def Meant (g : Gr) : Prop := ∀ i, i < g.nb → (g.lab i).has = false → ThrownTo g (g.nr + g.nb) i


theorem Cnt.congr {x : World} {b nb top top' : Nat} {P P' : Nat → Prop} (h : Cnt x b nb P top) (e : ∀ i, i < nb → (P i ↔ P' i)) (ht : top ≤ top') : Cnt x b nb P' top' := by
  obtain ⟨f, hr, hp, hb⟩ := h
  exact ⟨f, hr, fun i hi => (hp i hi).trans (e i hi), fun i hi => Nat.le_trans (hb i hi) ht⟩
theorem Cnt.of_block {x z : World} {b nb top : Nat} {P : Nat → Prop} (h : Cnt x b nb P top) (e : z.heap[b]? = x.heap[b]?) : Cnt z b nb P top := by
  obtain ⟨f, hr, hp, hb⟩ := h
  exact ⟨f, hr.of_block e, hp, hb⟩

theorem throws_zero (B : Nat → OpD) (l : Nat) : ¬ M.Throws 0 B l := by rintro ⟨i, hi, _⟩; omega
theorem throws_succ (k : Nat) (B : Nat → OpD) (l : Nat) : M.Throws (k + 1) B l ↔ M.Throws k B l ∨ ((B k).kind = 3 ∧ (B k).arg = l) := by
  constructor
  · rintro ⟨i, hi, h⟩
    by_cases e : i = k
    · subst e; exact .inr h
    · exact .inl ⟨i, by omega, h⟩
  · rintro (⟨i, hi, h⟩ | h)
    · exact ⟨i, by omega, h⟩
    · exact ⟨k, by omega, h⟩
theorem thrownTo_succ (g : Gr) (p l : Nat) : ThrownTo g (p + 1) l ↔ ThrownAt g p (nd g p).bl l := by
  constructor
  · rintro ⟨q, hq, h⟩
    by_cases e : q = p
    · subst e; exact .inr h
    · exact .inl ⟨q, by omega, h⟩
  · rintro (⟨q, hq, h⟩ | h)
    · exact ⟨q, by omega, h⟩
    · exact ⟨p, by omega, h⟩

/-- What the function's own boxes hold between two rounds: the grammar at y, the counts at y + 1, their slice at y + 2. -/
structure MtOwn (w : World) (y : Nat) (ra la : Option Addr) (nr rc nb lc : Nat) (P : Nat → Prop) (top : Nat) (x : World) : Prop where
  box0 : x.cell? ⟨y, 0, none⟩ = some (.slice ra nr rc)
  box1 : x.cell? ⟨y, 1, none⟩ = some (.slice la nb lc)
  sl : x.cell? ⟨y + 1 + 1, 0, none⟩ = some (.slice (some ⟨y + 1, 0, none⟩) nb nb)
  cnt : Cnt x (y + 1) nb P top
  bel : Below y w x
  size : y + 4 ≤ x.heap.size
theorem MtOwn.below {w : World} {y : Nat} {ra la : Option Addr} {nr rc nb lc : Nat} {P : Nat → Prop} {top : Nat} {x z : World} (h : MtOwn w y ra la nr rc nb lc P top x) (hb : Below (y + 4) x z) : MtOwn w y ra la nr rc nb lc P top z :=
  ⟨(hb.cell (p := ⟨y, 0, none⟩) (by show y < y + 4; omega)).trans h.box0, (hb.cell (p := ⟨y, 1, none⟩) (by show y < y + 4; omega)).trans h.box1,
    (hb.cell (p := ⟨y + 1 + 1, 0, none⟩) (by show y + 1 + 1 < y + 4; omega)).trans h.sl, h.cnt.of_block (hb.block _ (by omega)), h.bel.trans (hb.mono (by omega)), Nat.le_trans h.size hb.size⟩
theorem MtOwn.congr {w : World} {y : Nat} {ra la : Option Addr} {nr rc nb lc : Nat} {P P' : Nat → Prop} {top top' : Nat} {x : World} (h : MtOwn w y ra la nr rc nb lc P top x) (e : ∀ i, i < nb → (P i ↔ P' i)) (ht : top ≤ top') : MtOwn w y ra la nr rc nb lc P' top' x :=
  ⟨h.box0, h.box1, h.sl, h.cnt.congr e ht, h.bel, h.size⟩
theorem MtOwn.bump {w : World} {y : Nat} {ra la : Option Addr} {nr rc nb lc : Nat} {P : Nat → Prop} {top : Nat} {x : World} (h : MtOwn w y ra la nr rc nb lc P top x) {a : Nat} (ha : a < nb) {z : Nat} (hz : x.cell? ⟨y + 1, a, none⟩ = some (.int .i64 (z : Int))) :
    MtOwn w y ra la nr rc nb lc (fun i => P i ∨ i = a) (top + 1) (x.setCell ⟨y + 1, a, none⟩ (.int .i64 ((z : Int) + 1))) :=
  ⟨by rw [World.cell?_of_block (Below.heap_setCell x ⟨y + 1, a, none⟩ _ y (by simp))]; exact h.box0,
    by rw [World.cell?_of_block (Below.heap_setCell x ⟨y + 1, a, none⟩ _ y (by simp))]; exact h.box1,
    by rw [World.cell?_of_block (Below.heap_setCell x ⟨y + 1, a, none⟩ _ (y + 1 + 1) (by simp))]; exact h.sl,
    h.cnt.bump ha hz, h.bel.setCell (p := ⟨y + 1, a, none⟩) (by show y ≤ y + 1; omega) _, by simpa [World.setCell] using h.size⟩

def meantI (w : World) (ra la : Option Addr) (rc lc : Nat) (g : Gr) (p : Nat) (x : World) : Prop := MtOwn w w.heap.size ra la g.nr rc g.nb lc (ThrownTo g p) (sumN g p) x ∧ p ≤ g.nr + g.nb
def meantR (w x2 : World) (ra la : Option Addr) (rc lc : Nat) (g : Gr) (p : Nat) (i : Value) (wr : World) : Prop :=
  ∃ k : Nat, k ≤ (nd g p).bl ∧ i = .int .i64 (k : Int) ∧ MtOwn w w.heap.size ra la g.nr rc g.nb lc (ThrownAt g p k) (sumN g p + k) wr ∧ Keep (fun b => b = w.heap.size + 1) x2 wr

set_option maxRecDepth 100000 in
set_option maxHeartbeats 4000000 in
theorem labelsMeant_in (Q : Nat → Prop) (ra la : Option Addr) (rc lc : Nat) (g : Gr) (rb ro lb lo : Nat) (na ba : Nat → Option Addr) (nc bc : Nat → Nat) (w : World)
    (hs : SmallG g) (hF : ∀ W, Below w.heap.size w W → Flat W ra la g rb ro lb lo na ba nc bc) (hO : ∀ p, p < g.nr + g.nb → OpsA Q w (ba p) (nd g p).bl (nd g p).body)
    (hA : ArgsOK g) (hsum : sumN g (g.nr + g.nb) ≤ 2000) :
    CallsIn Fence.wide 0 Try.prog 61 #[.agg #[.slice ra g.nr rc, .slice la g.nb lc]] w (SaysB (Meant g) w) := by
  have hdep : Fence.wide.depth = none := rfl
  have h1 := hs.nr
  have h2 := hs.nb
  have HF : Hid (∀ W, Below w.heap.size w W → Flat W ra la g rb ro lb lo na ba nc bc) := hF
  have HO : Hid (∀ p, p < g.nr + g.nb → OpsA Q w (ba p) (nd g p).bl (nd g p).body) := hO
  have HAR : Hid (ArgsOK g) := hA
  have hsn : ∀ p, p < g.nr + g.nb → (nd g p).bl ≤ 1048576 ∧ sumN g p + (nd g p).bl ≤ 2000 := fun p hp => by
    refine ⟨?_, ?_⟩
    · unfold nd
      split
      · exact (hs.rule p (by omega)).body.1
      · exact (hs.lab (p - g.nr) (by omega)).body.1
    · rw [← sumN_succ]
      exact Nat.le_trans (M.sum_le _ (by omega)) hsum
  have HS : Hid (∀ p, p < g.nr + g.nb → (nd g p).bl ≤ 1048576 ∧ sumN g p + (nd g p).bl ≤ 2000) := hsn
  have hlr : 0 < g.nr → rb < w.heap.size := fun h => lt_of_cell ((hF w (Below.refl _ _)).r0 0 h)
  have hll : 0 < g.nb → lb < w.heap.size := fun h => lt_of_cell ((hF w (Below.refl _ _)).l0 0 h)
  have hmk := run_make_row' (P := Try.prog) 57 3 (.int .i64 0) 8 Try.underlying57 info3 rfl .i64 .i64 g.nb (by omega) (by omega)
  clear hF hsn hs hO hA
  refine callsIn_of_wp_marks Try.func61 rfl trivial ?_ rfl
  simp only [Try.ntmps61, List.size_toArray, List.length_cons, List.length_nil, Nat.reduceAdd, Nat.reduceSub, Array.replicate_succ, Array.replicate_zero, List.push_toArray, List.append_toArray, List.nil_append, List.cons_append]
  gi_wp2_with (refine ⟨trivial, ?_⟩; gi_at_call 116; refine (nodes_in _ _ _ _ _ _ _).mono ?_; rintro e w' ⟨rfl, rfl⟩)
  obtain ⟨Wl, hWl⟩ : ∃ Wl, (((w.alloc (Obj.cells #[Value.slice ra g.nr rc, Value.slice la g.nb lc] 36)).alloc (Obj.cells (madeCells #[Value.int IntKind.i64 0] g.nb) 3)).alloc (Obj.cells #[Value.slice (some ⟨w.heap.size + 1, 0, none⟩) g.nb g.nb] 57)).alloc (Obj.cells #[Value.slice ra g.nr rc, Value.slice la g.nb lc] 36) = Wl := ⟨_, rfl⟩
  have sWl : Wl.heap.size = w.heap.size + 4 := by rw [← hWl]; simp
  have bWl : Below w.heap.size w Wl := by rw [← hWl]; exact ((((Below.refl _ w).alloc (Nat.le_refl _) _).alloc (by simp) _).alloc (by simp; omega) _).alloc (by simp; omega) _
  have ha := cells2New w (.slice ra g.nr rc) (.slice la g.nb lc) 36
  have hm := World.rowIs_made (w.alloc (Obj.cells #[Value.slice ra g.nr rc, Value.slice la g.nb lc] 36)) (.int .i64 0) g.nb 3
  have hr := cellNew ((w.alloc (Obj.cells #[Value.slice ra g.nr rc, Value.slice la g.nb lc] 36)).alloc (Obj.cells (madeCells #[Value.int IntKind.i64 0] g.nb) 3)) (.slice (some ⟨w.heap.size + 1, 0, none⟩) g.nb g.nb) 57
  have hx := cells2New (((w.alloc (Obj.cells #[Value.slice ra g.nr rc, Value.slice la g.nb lc] 36)).alloc (Obj.cells (madeCells #[Value.int IntKind.i64 0] g.nb) 3)).alloc (Obj.cells #[Value.slice (some ⟨w.heap.size + 1, 0, none⟩) g.nb g.nb] 57)) (.slice ra g.nr rc) (.slice la g.nb lc) 36
  simp only [World.size_alloc] at ha hm hr hx
  rw [hWl] at hx
  have oWl : MtOwn w w.heap.size ra la g.nr rc g.nb lc (ThrownTo g 0) (sumN g 0) Wl := by
    rw [← hWl]
    refine ⟨cellOn _ (cellOn _ (cellOn _ ha.1)), cellOn _ (cellOn _ (cellOn _ ha.2)), cellOn _ hr, ⟨fun _ => 0, ((hm.alloc _).alloc _).congr fun i hi => rfl, fun i hi => ?_, fun i hi => Nat.zero_le _⟩, by rw [hWl]; exact bWl, by rw [hWl]; omega⟩
    exact ⟨fun h => absurd rfl h, fun ⟨q, hq, _⟩ => absurd hq (Nat.not_lt_zero _)⟩
  rw [hWl]
  clear hWl ha hm hr hmk
  refine range_law (gf := 167) (lb := #[.pointer (some ⟨w.heap.size + 1 + 1 + 1, 0, none⟩)]) rfl (enters_of Try.func167 (by kernel_rfl) rfl)
    (nodes_gives (w.heap.size + 1 + 1 + 1) ra la rc lc g rb ro lb lo na ba nc bc Wl h1 h2 hx.1 hx.2 (HF.out Wl bWl)) (fun _ => rfl) ?hD (fun k => k = w.heap.size + 1) ?hCD ?hCw
    (meantI w ra la rc lc g) (fun _ _ _ => False) ?hI ?hIx ?h0 ?round ?done ?stop
  case hD =>
    rintro k (rfl | ⟨rfl, hm0⟩ | ⟨rfl, hm0⟩)
    · omega
    · have := hlr hm0; omega
    · have := hll hm0; omega
  case hCD =>
    rintro k (rfl | ⟨rfl, hm0⟩ | ⟨rfl, hm0⟩) hc
    · omega
    · have := hlr hm0; omega
    · have := hll hm0; omega
  case hCw =>
    rintro k hk hc
    omega
  case hI =>
    rintro s A E ⟨ho, hp⟩ hbel
    exact ⟨ho.below (hbel.mono (by omega)), hp⟩
  case hIx =>
    rintro cd s A E h hbel
    exact h
  case h0 => exact ⟨oWl, Nat.zero_le _⟩
  case round =>
    intro l' p x hl1 hl2 hIs hlt
    unfold ndEnc
    gi_wp2
    refine ⟨Keep.refl _ _, hIs, ?_⟩
    clear hIs
    rintro x2 hk2 hs2 ⟨ho, hc1⟩
    obtain ⟨b1, b2⟩ := HS.out p hlt
    have HOW : Hid (MtOwn w w.heap.size ra la g.nr rc g.nb lc (ThrownTo g p) (sumN g p) x2) := ho
    clear ho
    gi_wp2
    gi_loopw [20] (fun i wr => meantR w x2 ra la rc lc g p i wr) (fun i _ => (nd g p).bl - (intOf i).toNat)
    case atStart => exact ⟨0, Nat.zero_le _, rfl, HOW.out.congr (fun i hi => ⟨.inl, fun h => h.elim id (fun q => absurd q (throws_zero _ _))⟩) (Nat.le_refl _), Keep.refl _ _⟩
    case round =>
      obtain ⟨k, hk, rfl, ho, hkp⟩ := hrel
      by_cases hlk : k < (nd g p).bl
      · have hB := (HO.out p hlt).later ho.bel
        rcases hB with h0 | ⟨b, off, hba, hq, hB⟩
        · omega
        obtain ⟨c0, ⟨sa, sc, c1, hsx⟩, c2⟩ := hB k hlk
        clear hsx hB
        have hbl : b < wr.heap.size := lt_of_cell c0
        have harg := HAR.out p hlt k hlk
        obtain ⟨d, hd⟩ : ∃ d, (nd g p).body k = d := ⟨_, rfl⟩
        have HD : Hid ((nd g p).body k = d) := hd
        rw [hd] at c0 c1 c2 harg
        clear hd
        obtain ⟨kd, sl, S, arg⟩ := d
        simp only at c0 c1 c2 harg
        have HKP : Hid (Keep (fun b => b = w.heap.size + 1) x2 wr) := hkp
        have HW2 : Hid (MtOwn w w.heap.size ra la g.nr rc g.nb lc (ThrownAt g p k) (sumN g p + k) wr) := ho
        have g2 := ho.sl
        have hsz := ho.size
        clear hkp
        rw [hba]
        by_cases e3 : kd = 3
        · subst e3
          obtain ⟨a0, a1⟩ := harg rfl
          obtain ⟨a, rfl⟩ := Int.eq_ofNat_of_zero_le a0
          have ha : a < g.nb := by omega
          obtain ⟨f, hr, hp, ht⟩ := ho.cnt
          have g3 := hr.cell ha
          have g4 := hr.frozen a
          have g5 := ht a ha
          clear ho hr hp ht harg
          generalize f a = z at g3 g5
          have l1 : w.heap.size + 1 < wr.heap.size := by omega
          have l2 : w.heap.size + 1 + 1 < wr.heap.size := by omega
          have ha' : (a : Int) < (g.nb : Int) := by omega
          have hst := (HW2.out.bump ha g3)
          have HST : Hid (MtOwn w w.heap.size ra la g.nr rc g.nb lc (fun i => ThrownAt g p k i ∨ i = a) (sumN g p + k + 1) (wr.setCell ⟨w.heap.size + 1, a, none⟩ (.int .i64 ((z : Int) + 1)))) := hst
          clear hst
          gi_wp2
          go_roundw
          case rel =>
            refine ⟨k + 1, by omega, by go_num, ?_, ?_⟩
            · refine (HST.out.below ((Below.refl _ _).alloc (by have := HST.out.size; omega) _)).congr (fun i hi => ?_) (by omega)
              show (ThrownTo g p i ∨ M.Throws k (nd g p).body i) ∨ i = a ↔ ThrownTo g p i ∨ M.Throws (k + 1) (nd g p).body i
              rw [throws_succ, HD.out]
              show _ ↔ ThrownTo g p i ∨ M.Throws k (nd g p).body i ∨ ((3 : Int) = 3 ∧ (a : Int) = i)
              constructor
              · rintro ((h | h) | h)
                · exact .inl h
                · exact .inr (.inl h)
                · exact .inr (.inr ⟨rfl, by omega⟩)
              · rintro (h | h | h)
                · exact .inl (.inl h)
                · exact .inl (.inr h)
                · exact .inr (by omega)
            · exact HKP.out.trans ((Keep.setCell (C := fun b => b = w.heap.size + 1) wr ⟨w.heap.size + 1, a, none⟩ _ rfl).trans (Keep.alloc _ _ _))
          case measure => simp [intOf]; omega
        · have f3 : (kd == 3) = false := by simp [e3]
          have E3 : Hid (¬ kd = 3) := e3
          clear e3 ho harg
          gi_wp2
          go_roundw
          case rel => exact ⟨k + 1, by omega, by go_num, (HW2.out.below ((Below.refl _ wr).alloc (by omega) _)).congr (fun i hi => ⟨fun h => h.imp id (fun q => (throws_succ _ _ _).2 (.inl q)), fun h => h.imp id (fun q => ((throws_succ _ _ _).1 q).elim id (fun r => absurd (by rw [HD.out] at r; exact r.1) E3.out))⟩) (by omega), HKP.out.trans (Keep.alloc _ _ _)⟩
          case measure => simp [intOf]; omega
      · obtain rfl : k = (nd g p).bl := by omega
        gi_wp2
        exact ⟨hkp, ho.congr (fun i hi => (thrownTo_succ g p i).symm) (Nat.le_refl _), by omega⟩
  case done =>
    rintro d p x hd hnm ⟨ho, hc1⟩ hK
    obtain rfl : p = g.nr + g.nb := by omega
    have hdx : d < x.heap.size := (Array.getElem?_eq_some_iff.1 hK).1
    have g0 := ho.box0
    have g1 := ho.box1
    have g2 := ho.sl
    have hsz := ho.size
    have HOW : Hid (MtOwn w w.heap.size ra la g.nr rc g.nb lc (ThrownTo g (g.nr + g.nb)) (sumN g (g.nr + g.nb)) x) := ho
    clear ho
    gi_wp2
    gi_loopw [38] (fun i wr => rulesI x g.nb (fun j => (g.lab j).has = false → ThrownTo g (g.nr + g.nb) j) i wr) (fun i _ => g.nb - (intOf i).toNat)
    case atStart => exact ⟨0, Nat.zero_le _, rfl, Below.refl _ _, fun j hj => absurd hj (Nat.not_lt_zero _)⟩
    case round =>
      obtain ⟨m, hm, rfl, hbel, hall⟩ := hrel
      have HM : Hid (∀ j, j < m → (g.lab j).has = false → ThrownTo g (g.nr + g.nb) j) := hall
      have HBE : Hid (Below x.heap.size x wr) := hbel
      have hsx := hbel.size
      have hKr : wr.heap[d]? = some (.deferred (some [])) := (hbel.block d hdx).trans hK
      have ho := HOW.out.below (hbel.mono hsz)
      have HBX : Hid (Below w.heap.size w wr) := ho.bel
      clear hall g0 g1 g2
      have g2 := ho.sl
      have l1 : w.heap.size + 1 < wr.heap.size := by omega
      have l2 : w.heap.size + 1 + 1 < wr.heap.size := by omega
      by_cases hlt : m < g.nb
      · have hFl := HF.out wr ho.bel
        obtain rfl := hFl.la (by omega)
        have c0 := hFl.l0 m hlt
        have c1 := hFl.l1 m hlt
        have c2 := hFl.l2 m hlt
        have hbl : lb < wr.heap.size := lt_of_cell c0
        have hlt' : (m : Int) < (g.nb : Int) := by omega
        clear hFl hbel
        obtain ⟨f, hr, hp, ht⟩ := ho.cnt
        have g3 := hr.cell hlt
        have hpm := hp m hlt
        clear hr hp ht ho hKr
        generalize f m = z at g3 hpm
        have HP : Hid (z ≠ 0 ↔ ThrownTo g (g.nr + g.nb) m) := hpm
        clear hpm
        cases hh : (g.lab m).has with
        | true =>
          have HH : Hid ((g.lab m).has = true) := hh
          rw [hh] at c1
          clear hh
          gi_wp2
          go_roundw
          case rel => exact ⟨m + 1, by omega, by go_num, bel_tr HBE.out (bel1 wr _), all_snoc HM.out (fun q => absurd (HH.out.symm.trans q) (by decide))⟩
          case measure => simp [intOf]; omega
        | false =>
          have HH : Hid ((g.lab m).has = false) := hh
          rw [hh] at c1
          clear hh
          by_cases hz : z = 0
          · subst hz
            gi_wp2
            have hK2 : (wr.alloc (Obj.cells #[Value.slice (na (g.nr + m)) (nd g (g.nr + m)).nl (nc (g.nr + m)), Value.bool false, Value.slice (ba (g.nr + m)) (nd g (g.nr + m)).bl (bc (g.nr + m))] 80)).heap[d]? = some (.deferred (some [])) := (Below.heap_alloc _ _ _ (by omega)).trans ((HBE.out.block d hdx).trans hK)
            refine ⟨by simp, .inl ⟨_, _, rfl, run_takeDeferred hK2, ?_⟩⟩
            have hbp := belowPut (B := w.heap.size) (wr.alloc (Obj.cells #[Value.slice (na (g.nr + m)) (nd g (g.nr + m)).nl (nc (g.nr + m)), Value.bool false, Value.slice (ba (g.nr + m)) (nd g (g.nr + m)).bl (bc (g.nr + m))] 80)) (.deferred none) (d := d) (by omega) (by simp; omega)
            refine ⟨.bool false, ?_, ⟨false, rfl, iffF fun q => ?_⟩, (bel_tr HBX.out (bel1 wr _)).trans hbp⟩
            · simp [results, Try.f61, go_sem]
            · exact (HP.out.2 (q m hlt HH.out)) rfl
          · have hz' : ((z : Int) == 0) = false := by simp; omega
            have HZ : Hid (¬ z = 0) := hz
            clear hz
            gi_wp2
            go_roundw
            case rel => exact ⟨m + 1, by omega, by go_num, bel_tr HBE.out (bel1 wr _), all_snoc HM.out (fun _ => HP.out.1 HZ.out)⟩
            case measure => simp [intOf]; omega
      · obtain rfl : m = g.nb := by omega
        clear hbel
        gi_wp2
        refine ⟨by simp, .inl ⟨_, _, rfl, run_takeDeferred hKr, ?_⟩⟩
        have hbp := belowPut (B := w.heap.size) wr (.deferred none) (d := d) (by omega) (by omega)
        refine ⟨.bool true, ?_, ⟨true, rfl, iffT HM.out⟩, HBX.out.trans hbp⟩
        simp [results, Try.f61, go_sem]
  case stop =>
    rintro d cd p x hd hsm h hK
    exact h.elim

end Go.Proofs.Ytjndcajblpgjmaa
