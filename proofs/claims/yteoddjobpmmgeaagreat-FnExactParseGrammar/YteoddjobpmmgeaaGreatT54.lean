import Derived.Test.YteoddjobpmmgeaaGreatT49
import Derived.Test.YteoddjobpmmgeaaGreatT52
import Derived.Test.YteoddjobpmmgeaaGreatT53
set_option linter.unusedVariables false
set_option linter.unusedSimpArgs false
namespace Go.Proofs.YteoddjobpmmgeaaGreat
section
open Go.RowKit
open M (OpD NodeD Gr)
structure IG (w0 : World) (g : Gr) (w : World) (G : Nat → Nat) (ra la : Option Addr) (rc lc : Nat) (rs cs : List GC) : Prop where
  bg : BG w0 G w (.slice ra g.nr rc) (.slice la g.nb lc) rs cs
  eq : gram (rs.map (·.d)) (cs.map (·.d)) = g
  sm : SmGC rs cs
theorem IG.nr {w0 w : World} {g : Gr} {G : Nat → Nat} {ra la : Option Addr} {rc lc : Nat} {rs cs : List GC} (h : IG w0 g w G ra la rc lc rs cs) : g.nr = rs.length ∧ g.nb = cs.length := by
  rw [← h.eq]
  exact ⟨by show (rs.map (·.d)).length = _; rw [List.length_map], by show (cs.map (·.d)).length = _; rw [List.length_map]⟩
theorem IG.gramA {w0 w : World} {g : Gr} {G : Nat → Nat} {ra la : Option Addr} {rc lc : Nat} {rs cs : List GC} (h : IG w0 g w G ra la rc lc rs cs) : GramA (New w0 w) w ra la g := by
  obtain ⟨ra', rc', la', lc', e1, e2, hX⟩ := h.bg.grP.gram
  rw [h.eq] at hX
  injection e1 with e1 _ _
  injection e2 with e2 _ _
  subst e1 e2
  exact hX.plain
theorem IG.small {w0 w : World} {g : Gr} {G : Nat → Nat} {ra la : Option Addr} {rc lc : Nat} {rs cs : List GC} (h : IG w0 g w G ra la rc lc rs cs) : SmallG g := by
  rw [← h.eq]
  refine gram_small (by rw [List.length_map]; exact h.sm.nr) (by rw [List.length_map]; exact h.sm.nc) (fun x hx => ?_) (fun x hx => ?_)
  · obtain ⟨y, hy, rfl⟩ := List.mem_map.1 hx
    exact h.sm.r y hy
  · obtain ⟨y, hy, rfl⟩ := List.mem_map.1 hx
    exact h.sm.c y hy
theorem IPIs.ig {t : Tx} {w w' : World} {e : Ending} {c0 a0 : Int} {g : Gr} (h : IPIs t w e w') (hp : PRs t c0 a0 g) : ∃ ra la rc lc G rs cs, e = .returned (.tuple #[.agg #[.slice ra g.nr rc, .slice la g.nb lc], .int .i64 c0, .int .i64 a0]) ∧ IG w g w' G ra la rc lc rs cs ∧ (∀ b, w'.heap.size ≤ b → G b = 3) ∧ Keep (fun _ => False) w w' := by
  obtain ⟨code, at_, g', G, rv, lv, rs, cs, hP, rfl, hB, hg, hK, hS⟩ := h
  obtain ⟨rfl, rfl, rfl⟩ := prs_one hP hp
  obtain ⟨ra, rc, erv⟩ := own_shape hB.rules
  obtain ⟨la, lc, elv⟩ := own_shape hB.labs
  subst erv elv
  have e1 : g'.nr = rs.length := by rw [← hg]; show (rs.map (·.d)).length = _; rw [List.length_map]
  have e2 : g'.nb = cs.length := by rw [← hg]; show (cs.map (·.d)).length = _; rw [List.length_map]
  refine ⟨ra, la, rc, lc, tagN G w' 3, rs, cs, by rw [e1, e2], ⟨?_, hg, hS⟩, fun b hb => tagN_new hb, hK⟩
  rw [e1, e2]
  exact hB.on (Nat.le_refl _) (fun _ _ _ => rfl) (fun b hb _ => tagN_old hb) (fun b hb => by
    by_cases e : b < w'.heap.size
    · rw [tagN_old e] at hb; exact hB.new b hb
    · rw [tagN_new (by omega)] at hb; exact absurd rfl hb)
theorem keep_below {w w' : World} (h : Keep (fun _ => False) w w') : Below w.heap.size w w' := h.bel
theorem gram_on {Q : Nat → Prop} {w w' : World} {ra la : Option Addr} {g : Gr} (h : GramA Q w ra la g) (t : Stay Q w w') : GramA Q w' ra la g := ⟨h.rules.on t, h.labs.on t⟩
structure LF (w W2 W3 W4 : World) (s2 : Nat) (g : Gr) (ra la : Option Addr) (rc lc : Nat) (ra' la' : Option Addr) (rc' lc' : Nat) (X : World) : Prop where
  v0 : X.heap[W2.heap.size]? = some (.cells #[.slice ra g.nr rc, .slice la g.nb lc] 26)
  v1 : X.heap[W4.heap.size]? = some (.cells #[.slice ra' g.nr rc', .slice la' g.nb lc'] 26)
  k : Keep (fun _ => False) w X
  gr : GramA (Of W2) X ra la g
  o2 : w.heap.size ≤ W2.heap.size
  o3 : W2.heap.size < s2
  o4 : s2 < W3.heap.size
  o5 : W3.heap.size ≤ W4.heap.size
theorem LF.step {w W2 W3 W4 : World} {s2 : Nat} {g : Gr} {ra la : Option Addr} {rc lc : Nat} {ra' la' : Option Addr} {rc' lc' : Nat} {X X' : World} {C : Nat → Prop} (h : LF w W2 W3 W4 s2 g ra la rc lc ra' la' rc' lc' X) (k : Keep C X X') (hC : ∀ b, C b → b = s2 ∨ (W3.heap.size ≤ b ∧ b < W4.heap.size)) : LF w W2 W3 W4 s2 g ra la rc lc ra' la' rc' lc' X' := by
  have o2 := h.o2
  have o3 := h.o3
  have o4 := h.o4
  have o5 := h.o5
  have l0 := (Array.getElem?_eq_some_iff.1 h.v0).1
  have l1 := (Array.getElem?_eq_some_iff.1 h.v1).1
  refine ⟨(k.block _ l0 (fun q => by have := hC _ q; omega)).trans h.v0, (k.block _ l1 (fun q => by have := hC _ q; omega)).trans h.v1, ⟨k.os.trans h.k.os, k.tape.trans h.k.tape, k.output.trans h.k.output, Nat.le_trans h.k.size k.size, fun b hb hc => (k.block b (Nat.lt_of_lt_of_le hb h.k.size) (fun q => by have := hC _ q; omega)).trans (h.k.block b hb hc)⟩, gram_on h.gr (fun b q => k.block b (by have q : b < W2.heap.size := q; omega) (fun z => by have q : b < W2.heap.size := q; have := hC _ z; omega)), o2, o3, o4, o5⟩
theorem LF.cells {w W2 W3 W4 : World} {s2 : Nat} {g : Gr} {ra la : Option Addr} {rc lc : Nat} {ra' la' : Option Addr} {rc' lc' : Nat} {X : World} (h : LF w W2 W3 W4 s2 g ra la rc lc ra' la' rc' lc' X) : X.cell? ⟨W2.heap.size, 0, none⟩ = some (.slice ra g.nr rc) ∧ X.cell? ⟨W2.heap.size, 1, none⟩ = some (.slice la g.nb lc) ∧ X.cell? ⟨W4.heap.size, 0, none⟩ = some (.slice ra' g.nr rc') ∧ X.cell? ⟨W4.heap.size, 1, none⟩ = some (.slice la' g.nb lc') ∧ W2.heap.size < X.heap.size ∧ W4.heap.size < X.heap.size :=
  ⟨blk_cell h.v0 rfl, blk_cell h.v0 rfl, blk_cell h.v1 rfl, blk_cell h.v1 rfl, (Array.getElem?_eq_some_iff.1 h.v0).1, (Array.getElem?_eq_some_iff.1 h.v1).1⟩
theorem IG.keep {w0 w w' : World} {g : Gr} {G : Nat → Nat} {ra la : Option Addr} {rc lc : Nat} {rs cs : List GC} {C : Nat → Prop} (h : IG w0 g w G ra la rc lc rs cs) (k : Keep C w w') (hC : ∀ b, C b → G b = 3) : IG w0 g w' G ra la rc lc rs cs := ⟨h.bg.keep k hC, h.eq, h.sm⟩
theorem eqG {w0 W2 X : World} {g : Gr} {G : Nat → Nat} {ra la ra' la' : Option Addr} {rc lc rc' lc' : Nat} {rs cs : List GC} (h : IG w0 g X G ra' la' rc' lc' rs cs) (h2 : GramA (Of W2) X ra la g) : Calls Tryz.prog 7 #[.agg #[.slice ra' g.nr rc', .slice la' g.nb lc'], .agg #[.slice ra g.nr rc, .slice la g.nb lc]] X fun e w' => e = .returned (.bool true) ∧ Keep (fun _ => False) X w' := by
  refine (eqGrammar_same _ _ ra' ra la' la rc' rc lc' lc g X h.gramA h2 h.small).mono ?_
  rintro e w' ⟨⟨r, rfl, hr⟩, hb⟩
  obtain rfl : r = true := hr.2 trivial
  exact ⟨rfl, YteoddjobpmmgeaaGreat.Below.kept hb⟩
set_option maxHeartbeats 4000000 in
set_option maxRecDepth 100000 in
theorem lawWalk (t : Tx) (a : Option Addr) (c : Nat) (w : World) (hT : Ints (fun b => b < w.heap.size) .u8 w a t.n t.T) : Calls Tryz.prog 3 #[.slice a t.n c] w fun e w' => e = .returned (.bool true) ∧ Below w.heap.size w w' := by
  have hn := t.le
  have HT : Hid (Ints (fun b => b < w.heap.size) .u8 w a t.n t.T) := hT
  have HTX : Hid (∀ X, Keep (fun _ => False) w X → Calls Tryz.prog 5 #[.slice a t.n c] X (TbIs t.T t.n X)) := fun X k => toBytes_own _ a t.n c t.T X (ints_stay hT (fun b q => k.block b q (fun z => z))) t.le
  have hbig : ¬ ((1048576 : Int) < (t.n : Int)) := by omega
  clear hT
  go_enter Tryz.func3, Tryz.ntmps3
  go_wp2_with fail
  refine (HTX.out w (Keep.refl _ _)).mono ?_
  rintro e W1 ⟨rfl, o1, k1, z1⟩
  have HK1 : Hid (Keep (fun _ => False) w W1) := k1
  have HC1 : Hid (Calls Tryz.prog 4 #[.slice (some ⟨w.heap.size, 0, none⟩) t.n t.n] W1 (ParsedIs t W1)) := sparse_any _ t _ t.n W1 (own_lists o1)
  clear o1 k1 z1
  go_wp2_with fail
  refine HC1.out.mono ?_
  clear HC1
  rintro e W2 ⟨code, at_, g, ra, rc, la, lc, hP, rfl, hG2, k2⟩
  have HP : Hid (PRs t code at_ g) := hP
  have HK2 : Hid (Keep (fun _ => False) w W2) := HK1.out.trans k2
  have HG2 : Hid (GramA (Of W2) W2 ra la g) := hG2
  clear hP k2 hG2
  go_wp2_with fail
  have HV2 : Hid ((W2.alloc (.cells #[.slice ra g.nr rc, .slice la g.nb lc] 26)).heap[W2.heap.size]? = some (.cells #[.slice ra g.nr rc, .slice la g.nb lc] 26) ∧ Keep (fun _ => False) W2 (W2.alloc (.cells #[.slice ra g.nr rc, .slice la g.nb lc] 26)) ∧ (W2.alloc (.cells #[.slice ra g.nr rc, .slice la g.nb lc] 26)).heap.size = W2.heap.size + 1) := ⟨World.alloc_heap_new W2 _, Keep.alloc _ _ _, by simp⟩
  generalize W2.alloc (.cells #[.slice ra g.nr rc, .slice la g.nb lc] 26) = V2 at *
  refine (HTX.out V2 (HK2.out.trans HV2.out.2.1)).mono ?_
  rintro e W3 ⟨rfl, o3, k3, z3⟩
  have HO3 : Hid (OwnC (fun b => b = V2.heap.size) W3 (.slice (some ⟨V2.heap.size, 0, none⟩) t.n t.n) 1 t.n (intVs .u8 t.T t.n)) := o3
  have HK3 : Hid (Keep (fun _ => False) V2 W3 ∧ V2.heap.size < W3.heap.size) := ⟨k3, z3⟩
  have HC3 : Hid (Calls Tryz.prog 6 #[.slice (some ⟨V2.heap.size, 0, none⟩) t.n t.n] W3 (IPIs t W3)) := iparse_any t _ t.n W3 (ints_wide (own_lists o3) (fun b q => by rw [q]; exact z3)) (Nat.le_refl _)
  clear o3 k3 z3
  go_wp2_with fail
  refine HC3.out.mono ?_
  clear HC3
  intro e W4 hI
  obtain ⟨ra', la', rc', lc', G, rs, cs, rfl, hIG, hG3, k4⟩ := hI.ig HP.out
  have HIG : Hid (IG W3 g W4 G ra' la' rc' lc' rs cs) := hIG
  have HG3 : Hid (∀ b, W4.heap.size ≤ b → G b = 3) := hG3
  have HK4 : Hid (Keep (fun _ => False) W3 W4) := k4
  clear hI hIG hG3 k4
  have HLF : Hid (LF w W2 W3 W4 V2.heap.size g ra la rc lc ra' la' rc' lc' (W4.alloc (.cells #[.slice ra' g.nr rc', .slice la' g.nb lc'] 26)) ∧ IG W3 g (W4.alloc (.cells #[.slice ra' g.nr rc', .slice la' g.nb lc'] 26)) G ra' la' rc' lc' rs cs ∧ OwnC (fun b => b = V2.heap.size) (W4.alloc (.cells #[.slice ra' g.nr rc', .slice la' g.nb lc'] 26)) (.slice (some ⟨V2.heap.size, 0, none⟩) t.n t.n) 1 t.n (intVs .u8 t.T t.n)) := by
    have ka : Keep (fun _ => False) W4 (W4.alloc (.cells #[.slice ra' g.nr rc', .slice la' g.nb lc'] 26)) := Keep.alloc _ _ _
    have kA := HK4.out.trans ka
    have kB := HK3.out.1.trans kA
    have kC := HV2.out.2.1.trans kB
    have z2 := HK2.out.size
    have zV := HV2.out.2.2
    have z3 := HK3.out.2
    have z4 := HK4.out.size
    refine ⟨⟨(kB.block _ (by omega) (fun z => z)).trans HV2.out.1, World.alloc_heap_new W4 _, HK2.out.trans kC, gram_on HG2.out (fun b q => kC.block b q (fun z => z)), z2, by omega, z3, z4⟩, HIG.out.keep ka (fun b q => q.elim), HO3.out.on (fun b q => kA.block b (by rw [q]; exact z3) (fun z => z))⟩
  have x0 := HLF.out.1.cells.1
  have x1 := HLF.out.1.cells.2.1
  have lx := HLF.out.1.cells.2.2.2.2.1
  have x2 := HLF.out.1.cells.2.2.1
  have x3 := HLF.out.1.cells.2.2.2.1
  have hW2W4 : W2.heap.size < W4.heap.size := by
    have z3 := HK3.out.2
    have z4 := HK4.out.size
    have zV := HV2.out.2.2
    omega
  have HG3' : Hid (∀ b, W4.heap.size ≤ b → G b = 3) := HG3.out
  have HGn : Hid (∀ b, G b ≠ 3 → W3.heap.size ≤ b ∧ b < W4.heap.size) := fun b hb => ⟨HIG.out.bg.new b hb, Nat.lt_of_not_le (fun q => hb (HG3.out b q))⟩
  clear HK1 HK2 HG2 HV2 HO3 HK3 HIG HK4 HG3
  generalize hV4 : W4.alloc (.cells #[.slice ra' g.nr rc', .slice la' g.nb lc'] 26) = V4 at *
  go_wp2_with fail
  refine (eqG HLF.out.2.1 HLF.out.1.gr).mono ?_
  rintro e W5 ⟨rfl, k5⟩
  have HL5 : Hid (LF w W2 W3 W4 V2.heap.size g ra la rc lc ra' la' rc' lc' W5 ∧ IG W3 g W5 G ra' la' rc' lc' rs cs ∧ OwnC (fun b => b = V2.heap.size) W5 (.slice (some ⟨V2.heap.size, 0, none⟩) t.n t.n) 1 t.n (intVs .u8 t.T t.n)) :=
    ⟨HLF.out.1.step k5 (fun b q => q.elim), HLF.out.2.1.keep k5 (fun b q => q.elim), HLF.out.2.2.on (fun b q => k5.block b (by rw [q]; have := HLF.out.1.o4; have := HLF.out.1.o5; have := HLF.out.1.cells.2.2.2.2.2; omega) (fun z => z))⟩
  clear k5 HLF x0 x1 x2 x3 lx hV4 hW2W4
  go_wp2_with fail
  refine (HTX.out W5 HL5.out.1.k).mono ?_
  rintro e W6 ⟨rfl, o6, k6, z6⟩
  have HL6 : Hid (LF w W2 W3 W4 V2.heap.size g ra la rc lc ra' la' rc' lc' W6 ∧ IG W3 g W6 G ra' la' rc' lc' rs cs ∧ OwnC (fun b => b = V2.heap.size) W6 (.slice (some ⟨V2.heap.size, 0, none⟩) t.n t.n) 1 t.n (intVs .u8 t.T t.n)) :=
    ⟨HL5.out.1.step k6 (fun b q => q.elim), HL5.out.2.1.keep k6 (fun b q => q.elim), HL5.out.2.2.on (fun b q => k6.block b (by rw [q]; have := HL5.out.1.o4; have := HL5.out.1.o5; have := HL5.out.1.cells.2.2.2.2.2; omega) (fun z => z))⟩
  have HC6 : Hid (Calls Tryz.prog 8 #[.slice (some ⟨V2.heap.size, 0, none⟩) t.n t.n, .slice (some ⟨W5.heap.size, 0, none⟩) t.n t.n] W6 fun e w' => e = .returned (.bool true) ∧ Keep (fun _ => False) W6 w') := by
    refine (eqByteS_same _ _ _ _ t.n t.n t.n t.T W6 (own_lists HL6.out.2.2) (own_lists o6) t.le).mono ?_
    rintro e w' ⟨⟨r, rfl, hr⟩, hb⟩
    obtain rfl : r = true := hr.2 trivial
    exact ⟨rfl, YteoddjobpmmgeaaGreat.Below.kept hb⟩
  clear o6 k6 z6 HL5
  go_wp2_with fail
  refine HC6.out.mono ?_
  clear HC6
  rintro e W7 ⟨rfl, k7⟩
  have HL7 : Hid (LF w W2 W3 W4 V2.heap.size g ra la rc lc ra' la' rc' lc' W7 ∧ IG W3 g W7 G ra' la' rc' lc' rs cs ∧ OwnC (fun b => b = V2.heap.size) W7 (.slice (some ⟨V2.heap.size, 0, none⟩) t.n t.n) 1 t.n (intVs .u8 t.T t.n)) :=
    ⟨HL6.out.1.step k7 (fun b q => q.elim), HL6.out.2.1.keep k7 (fun b q => q.elim), HL6.out.2.2.on (fun b q => k7.block b (by rw [q]; have := HL6.out.1.o4; have := HL6.out.1.o5; have := HL6.out.1.cells.2.2.2.2.2; omega) (fun z => z))⟩
  clear k7 HL6
  go_wp2_with fail
  refine (markByteS_own _ _ t.n t.n t.T 1 W7 HL7.out.2.2 t.le (by omega) (by omega)).mono ?_
  rintro e W8 ⟨rfl, _, k8⟩
  have HL8 : Hid (LF w W2 W3 W4 V2.heap.size g ra la rc lc ra' la' rc' lc' W8 ∧ IG W3 g W8 G ra' la' rc' lc' rs cs) :=
    ⟨HL7.out.1.step k8 (fun b q => .inl q), HL7.out.2.1.keep k8 (fun b q => by
      by_cases e : G b = 3
      · exact e
      · have h1 := (HGn.out b e).1
        have q : b = V2.heap.size := q
        have := HL7.out.1.o4
        omega)⟩
  have x0 := HL8.out.1.cells.1
  have x1 := HL8.out.1.cells.2.1
  have x2 := HL8.out.1.cells.2.2.1
  have x3 := HL8.out.1.cells.2.2.2.1
  have lx := HL8.out.1.cells.2.2.2.2.1
  have ly := HL8.out.1.cells.2.2.2.2.2
  have hpos : ¬ ((1 : Int) + (t.n : Int) < 0) := by omega
  clear k8 HL7
  go_wp2_with fail
  refine (eqG HL8.out.2 HL8.out.1.gr).mono ?_
  rintro e W9 ⟨rfl, k9⟩
  have HL9 : Hid (LF w W2 W3 W4 V2.heap.size g ra la rc lc ra' la' rc' lc' W9 ∧ IG W3 g W9 G ra' la' rc' lc' rs cs) := ⟨HL8.out.1.step k9 (fun b q => q.elim), HL8.out.2.keep k9 (fun b q => q.elim)⟩
  have y2 := HL9.out.1.cells.2.2.1
  have y3 := HL9.out.1.cells.2.2.2.1
  have ly9 := HL9.out.1.cells.2.2.2.2.2
  clear k9 HL8 x0 x1 x2 x3 lx ly
  go_wp2_with fail
  have hsz9 := HL9.out.1.cells.2.2.2.2.2
  refine (markGram W3 G ra' la' rc' lc' g.nr g.nb rs cs W9 HL9.out.2.bg HL9.out.2.nr.1 HL9.out.2.nr.2 HL9.out.2.sm.nr HL9.out.2.sm.nc HL9.out.2.sm.r HL9.out.2.sm.c (fun b hb => HG3'.out b (by omega))).mono ?_
  rintro e W10 ⟨rfl, hB10, k10⟩
  have HL10 : Hid (LF w W2 W3 W4 V2.heap.size g ra la rc lc ra' la' rc' lc' W10) := HL9.out.1.step k10 (fun b q => .inr (HGn.out b q))
  have HC10 : Hid (Calls Tryz.prog 11 #[.agg #[.slice ra' g.nr rc', .slice la' g.nb lc'], .int .i64 1] W10 (HgIs (1 + cntK cR rs + cntK cB cs) W10)) := by
    obtain ⟨r1, r2, r3, r4, e1, e2, hX⟩ := hB10.grP.gram
    injection e1 with e1 _ _
    injection e2 with e2 _ _
    subst e1 e2
    have m1 : cntK cR rs = cntK cntR (rs.map (·.d)) := cntK_map (·.d) cntR rs
    have m2 : cntK cB cs = cntK cntB (cs.map (·.d)) := cntK_map (·.d) cntB cs
    rw [gcR_map, gcB_map, m1] at hX
    rw [m1, m2]
    refine heldGram _ ra' la' rc' lc' g.nr g.nb (rs.map (·.d)) (cs.map (·.d)) W10 hX.plain (by rw [List.length_map]; exact HL9.out.2.nr.1) (by rw [List.length_map]; exact HL9.out.2.nr.2) (by rw [List.length_map]; exact HL9.out.2.sm.nr) (by rw [List.length_map]; exact HL9.out.2.sm.nc) (fun x hx => ?_) (fun x hx => ?_)
    · obtain ⟨y, hy, rfl⟩ := List.mem_map.1 hx
      exact HL9.out.2.sm.r y hy
    · obtain ⟨y, hy, rfl⟩ := List.mem_map.1 hx
      exact HL9.out.2.sm.c y hy
  have z2 := HL10.out.cells.2.2.1
  have z3 := HL10.out.cells.2.2.2.1
  have lz := HL10.out.cells.2.2.2.2.2
  have hk0 : ¬ ((1 : Int) + (cntK cR rs : Int) + (cntK cB cs : Int) < 0) := by omega
  clear hB10 k10 HL9 y2 y3 ly9 hsz9 hpos
  generalize (1 : Int) + (cntK cR rs : Int) + (cntK cB cs : Int) = kk0 at *
  go_wp2_with fail
  refine HC10.out.mono ?_
  clear HC10
  rintro e W11 ⟨rfl, k11⟩
  have HL11 : Hid (LF w W2 W3 W4 V2.heap.size g ra la rc lc ra' la' rc' lc' W11) := HL10.out.step k11 (fun b q => q.elim)
  clear k11 HL10 z2 z3 lz
  go_wp2_with fail
  refine (HTX.out W11 HL11.out.k).mono ?_
  rintro e W12 ⟨rfl, o12, k12, z12⟩
  have HL12 : Hid (LF w W2 W3 W4 V2.heap.size g ra la rc lc ra' la' rc' lc' W12) := HL11.out.step k12 (fun b q => q.elim)
  have HC12 : Hid (Calls Tryz.prog 6 #[.slice (some ⟨W11.heap.size, 0, none⟩) t.n t.n] W12 (IPIs t W12)) := iparse_any t _ t.n W12 (ints_wide (own_lists o12) (fun b q => by rw [q]; exact z12)) (Nat.le_refl _)
  clear o12 k12 z12 HL11
  go_wp2_with fail
  refine HC12.out.mono ?_
  clear HC12
  intro e W13 hI
  obtain ⟨rb, lb, rd, ld, G2, rs2, cs2, rfl, hIG2, hG32, k13⟩ := hI.ig HP.out
  have HL13 : Hid (LF w W2 W3 W4 V2.heap.size g ra la rc lc ra' la' rc' lc' (W13.alloc (.cells #[.slice rb g.nr rd, .slice lb g.nb ld] 26)) ∧ IG W12 g (W13.alloc (.cells #[.slice rb g.nr rd, .slice lb g.nb ld] 26)) G2 rb lb rd ld rs2 cs2) :=
    ⟨(HL12.out.step k13 (fun b q => q.elim)).step (Keep.alloc (fun _ => False) _ _) (fun b q => q.elim), hIG2.keep (Keep.alloc (fun _ => False) _ _) (fun b q => q.elim)⟩
  have hW13 : W2.heap.size < W13.heap.size := Nat.lt_of_lt_of_le HL12.out.cells.2.2.2.2.1 k13.size
  have x0 : W13.cell? ⟨W2.heap.size, 0, none⟩ = some (.slice ra g.nr rc) := (HL12.out.step k13 (fun b q => q.elim)).cells.1
  have x1 : W13.cell? ⟨W2.heap.size, 1, none⟩ = some (.slice la g.nb lc) := (HL12.out.step k13 (fun b q => q.elim)).cells.2.1
  clear hI hIG2 hG32 k13 HL12
  go_wp2_with fail
  refine (eqG HL13.out.2 HL13.out.1.gr).mono ?_
  rintro e W14 ⟨rfl, k14⟩
  have HFI : Hid (Below w.heap.size w W14) := keep_below (HL13.out.1.k.trans k14)
  clear k14 HL13
  go_wp2
  go_ret
  exact ⟨rfl, HFI.out⟩
end
end Go.Proofs.YteoddjobpmmgeaaGreat
