/-
  Walks: the value of a choice.
-/
import Derived.Test.YtjpcojabdjldbaaOv
import Derived.Test.YtjpcojabdjldbaaLast
import Derived.Test.YtjpcojabdjldbaaSValid
namespace Go.Proofs.Ytjpcojabdjldbaa
open Go.RowKit
open M (OpD NodeD Gr)
set_option linter.unusedVariables false
set_option linter.unusedSimpArgs false

set_option maxRecDepth 100000 in
set_option maxHeartbeats 16000000 in
theorem ov_alt (gp mp : Value) (sa : Option Addr) (nr sc ob oo oc : Nat) (mk : NS) (o : OpD) (x y : Opn) (w : World) (hk : o.kind = 5) (hx : OpnC w ob oo x) (hy : OpnC w ob (oo + 6) y) (kx : x.beg.OK) (ky : y.beg.OK) :
    Calls Try.prog 104 #[.agg #[.int .i64 o.kind, .slice sa o.sl sc, .int .i64 o.arg], .slice (some ⟨ob, oo, none⟩) 2 oc, gp, mp] w (IsOpn (valO nr mk o x y) w) := by
  have hN : ¬ M.Names o := by rintro (q | q) <;> omega
  have HK : Hid (valO nr mk o x y = ⟨x.nul || y.nul, x.beg.join y.beg, x.loop || y.loop⟩) := by show _ = _; simp [valO, hk, hN]
  have f0 : (o.kind == 0) = false := by simp [hk]
  have f2 : (o.kind == 2) = false := by simp [hk]
  have f3 : (o.kind == 3) = false := by simp [hk]
  have f4 : (o.kind == 4) = false := by simp [hk]
  have f5 : (o.kind == 5) = true := by simp [hk]
  have HX : Hid (OpnC w ob oo x) := hx
  have HY : Hid (OpnC w ob (oo + 6) y) := hy
  have KX : Hid x.beg.OK := kx
  have KY : Hid y.beg.OK := ky
  clear hk hN kx ky hx hy
  obtain ⟨xn, xb, xl⟩ := x
  obtain ⟨yn, yb, yl⟩ := y
  simp only at KX KY
  cases xn
  · cases xl
    · go_enter Try.func104, Try.ntmps104
      go_wp2
      have AX : Hid (At6 ((w.alloc (.cells #[.int .i64 o.kind, .slice sa o.sl sc, .int .i64 o.arg] 80)).alloc (ops6 oz)) (w.heap.size + 1) oz) := by
        have := At6.new (w.alloc (.cells #[.int .i64 o.kind, .slice sa o.sl sc, .int .i64 o.arg] 80)) oz
        rw [World.size_alloc] at this
        exact this
      have BX : Hid (Below w.heap.size w ((w.alloc (.cells #[.int .i64 o.kind, .slice sa o.sl sc, .int .i64 o.arg] 80)).alloc (ops6 oz))) := bel2 w _ _
      have SX : Hid (((w.alloc (.cells #[.int .i64 o.kind, .slice sa o.sl sc, .int .i64 o.arg] 80)).alloc (ops6 oz)).heap.size = w.heap.size + 2) := by show _ = _; simp
      have eX : ((w.alloc (.cells #[.int .i64 o.kind, .slice sa o.sl sc, .int .i64 o.arg] 80)).alloc (.cells #[.bool false, .int .u64 0, .int .u64 0, .int .u64 0, .int .u64 0, .bool false] 95)) = ((w.alloc (.cells #[.int .i64 o.kind, .slice sa o.sl sc, .int .i64 o.arg] 80)).alloc (ops6 oz)) := rfl
      rw [eX]
      clear eX
      generalize ((w.alloc (.cells #[.int .i64 o.kind, .slice sa o.sl sc, .int .i64 o.arg] 80)).alloc (ops6 oz)) = X at *
      obtain ⟨x0, x1, x2, x3, x4, x5⟩ := HX.out.later BX.out
      obtain ⟨y0, y1, y2, y3, y4, y5⟩ := HY.out.later BX.out
      simp only at x0 x1 x2 x3 x4 x5 y0 y1 y2 y3 y4 y5
      have hbX : ob < X.heap.size := lt_of_cell x0
      go_region
      · have A1 : Hid (At6 ((X.alloc (.cells #[.bool false, .int .u64 xb.a, .int .u64 xb.b, .int .u64 xb.c, .int .u64 xb.d, .bool false] 95)).alloc (.cells #[.bool yn, .int .u64 yb.a, .int .u64 yb.b, .int .u64 yb.c, .int .u64 yb.d, .bool yl] 95)).drew (X.heap.size) (⟨false, xb, false⟩ : Opn)) := at6_one X (⟨false, xb, false⟩ : Opn) (⟨yn, yb, yl⟩ : Opn)
        have A2 : Hid (At6 ((X.alloc (.cells #[.bool false, .int .u64 xb.a, .int .u64 xb.b, .int .u64 xb.c, .int .u64 xb.d, .bool false] 95)).alloc (.cells #[.bool yn, .int .u64 yb.a, .int .u64 yb.b, .int .u64 yb.c, .int .u64 yb.d, .bool yl] 95)).drew (X.heap.size + 1) (⟨yn, yb, yl⟩ : Opn)) := at6_two X (⟨false, xb, false⟩ : Opn) (⟨yn, yb, yl⟩ : Opn)
        have BY : Hid (Below X.heap.size X ((X.alloc (.cells #[.bool false, .int .u64 xb.a, .int .u64 xb.b, .int .u64 xb.c, .int .u64 xb.d, .bool false] 95)).alloc (.cells #[.bool yn, .int .u64 yb.a, .int .u64 yb.b, .int .u64 yb.c, .int .u64 yb.d, .bool yl] 95)).drew) := (bel2 X _ _).drew
        generalize ((X.alloc (.cells #[.bool false, .int .u64 xb.a, .int .u64 xb.b, .int .u64 xb.c, .int .u64 xb.d, .bool false] 95)).alloc (.cells #[.bool yn, .int .u64 yb.a, .int .u64 yb.b, .int .u64 yb.c, .int .u64 yb.d, .bool yl] 95)).drew = Y at *
        have A3 : Hid (At6 Y (w.heap.size + 1) oz) := AX.out.later BY.out
        have l1 := A1.out.lt
        have l2 := A2.out.lt
        have l3 := A3.out.lt
        have lne : ¬ w.heap.size + 1 = Y.heap.size := by omega
        obtain ⟨p0, p1, p2, p3, p4, p5⟩ := A1.out.cells
        obtain ⟨q0, q1, q2, q3, q4, q5⟩ := A2.out.cells
        obtain ⟨r0, r1, r2, r3, r4, r5⟩ := A3.out.cells
        obtain ⟨s0, s1, s2, s3, s4, s5⟩ := A3.out.soft
        simp only [oz, nz] at p0 p1 p2 p3 p4 p5 q0 q1 q2 q3 q4 q5 r0 r1 r2 r3 r4 r5
        clear x0 x1 x2 x3 x4 x5 y0 y1 y2 y3 y4 y5
        clear f0 f2 f3 f4 f5 HX HY hbX
        obtain ⟨ι, hne, F, hF, hF'⟩ := family Y
        have c0 : ∀ n, (F n).cell? ⟨X.heap.size, 0, none⟩ = some (.bool false) := fun n => cell_on p0 (hF n)
        have c1 : ∀ n, (F n).cell? ⟨X.heap.size, 1, none⟩ = some (.int .u64 xb.a) := fun n => cell_on p1 (hF n)
        have c2 : ∀ n, (F n).cell? ⟨X.heap.size, 2, none⟩ = some (.int .u64 xb.b) := fun n => cell_on p2 (hF n)
        have c3 : ∀ n, (F n).cell? ⟨X.heap.size, 3, none⟩ = some (.int .u64 xb.c) := fun n => cell_on p3 (hF n)
        have c4 : ∀ n, (F n).cell? ⟨X.heap.size, 4, none⟩ = some (.int .u64 xb.d) := fun n => cell_on p4 (hF n)
        have c5 : ∀ n, (F n).cell? ⟨X.heap.size, 5, none⟩ = some (.bool false) := fun n => cell_on p5 (hF n)
        have e0 : ∀ n, (F n).cell? ⟨X.heap.size + 1, 0, none⟩ = some (.bool yn) := fun n => cell_on q0 (hF n)
        have e1 : ∀ n, (F n).cell? ⟨X.heap.size + 1, 1, none⟩ = some (.int .u64 yb.a) := fun n => cell_on q1 (hF n)
        have e2 : ∀ n, (F n).cell? ⟨X.heap.size + 1, 2, none⟩ = some (.int .u64 yb.b) := fun n => cell_on q2 (hF n)
        have e3 : ∀ n, (F n).cell? ⟨X.heap.size + 1, 3, none⟩ = some (.int .u64 yb.c) := fun n => cell_on q3 (hF n)
        have e4 : ∀ n, (F n).cell? ⟨X.heap.size + 1, 4, none⟩ = some (.int .u64 yb.d) := fun n => cell_on q4 (hF n)
        have e5 : ∀ n, (F n).cell? ⟨X.heap.size + 1, 5, none⟩ = some (.bool yl) := fun n => cell_on q5 (hF n)
        have HC : Hid (∃ n, Y.drew = F n) := hF' _ (Below.refl _ Y).drew
        have HF : Hid (∀ n, Below Y.heap.size Y (F n)) := hF
        have HF' : Hid (∀ W, Below Y.heap.size Y W → ∃ n, W = F n) := hF'
        have HU : Hid (∀ n, Calls Try.prog 107 #[.agg #[.int .u64 xb.a, .int .u64 xb.b, .int .u64 xb.c, .int .u64 xb.d], .agg #[.int .u64 yb.a, .int .u64 yb.b, .int .u64 yb.c, .int .u64 yb.d]] (F n) fun e w'' => e = .returned (.agg #[.int .u64 (xb.join yb).a, .int .u64 (xb.join yb).b, .int .u64 (xb.join yb).c, .int .u64 (xb.join yb).d]) ∧ ∃ m, w'' = F m) := fun n => (union_agg xb yb (F n) KX.out KY.out).mono (fun e W q => by
          obtain ⟨⟨u, rfl, rfl⟩, hb⟩ := q
          exact ⟨rfl, hF' W (bel_tr (hF n) hb)⟩)
        clear hF hF'
        go_wp2_with fail
        refine region_last F rfl (by kernel_rfl) (by kernel_rfl) (by kernel_rfl) (by kernel_rfl) HC.out ?_
        simp only [List.dropLast]
        repeat (go_big_quiet_step (first | (go_at_call 107; exact HU.out _)))
        refine wpQuiet_nil ?_
        rintro _ ⟨nq, rfl⟩
        refine ⟨by simp [Region.wanted], fun K hK => ?_⟩
        obtain ⟨V, hV⟩ : ∃ V, F nq = V := ⟨_, rfl⟩
        have BV : Hid (Below Y.heap.size Y V) := hV ▸ HF.out nq
        rw [hV]
        clear hV HC HF HF' HU
        obtain ⟨r0', r1', r2', r3', r4', r5'⟩ := (A3.out.later BV.out).cells
        obtain ⟨s0', s1', s2', s3', s4', s5'⟩ := (A3.out.later BV.out).soft
        simp only [oz, nz] at r0' r1' r2' r3' r4' r5'
        dsimp only [List.getLast]
        go_simp
        refine hK _ _ ?_
        go_wp2
        refine bodyPost_ret (v := opv ⟨yn, xb.join yb, yl⟩) (by simp [results, Try.f104, go_sem, opv, *]) rfl ?_
        exact ⟨by rw [HK.out]; simp, set6_below (bel_tr (bel_tr BX.out BY.out) BV.out) (w.heap.size + 1) ⟨yn, xb.join yb, yl⟩ (by omega)⟩
      · have A1 : Hid (At6 ((X.alloc (.cells #[.bool yn, .int .u64 yb.a, .int .u64 yb.b, .int .u64 yb.c, .int .u64 yb.d, .bool yl] 95)).alloc (.cells #[.bool false, .int .u64 xb.a, .int .u64 xb.b, .int .u64 xb.c, .int .u64 xb.d, .bool false] 95)).drew (X.heap.size + 1) (⟨false, xb, false⟩ : Opn)) := at6_two X (⟨yn, yb, yl⟩ : Opn) (⟨false, xb, false⟩ : Opn)
        have A2 : Hid (At6 ((X.alloc (.cells #[.bool yn, .int .u64 yb.a, .int .u64 yb.b, .int .u64 yb.c, .int .u64 yb.d, .bool yl] 95)).alloc (.cells #[.bool false, .int .u64 xb.a, .int .u64 xb.b, .int .u64 xb.c, .int .u64 xb.d, .bool false] 95)).drew (X.heap.size) (⟨yn, yb, yl⟩ : Opn)) := at6_one X (⟨yn, yb, yl⟩ : Opn) (⟨false, xb, false⟩ : Opn)
        have BY : Hid (Below X.heap.size X ((X.alloc (.cells #[.bool yn, .int .u64 yb.a, .int .u64 yb.b, .int .u64 yb.c, .int .u64 yb.d, .bool yl] 95)).alloc (.cells #[.bool false, .int .u64 xb.a, .int .u64 xb.b, .int .u64 xb.c, .int .u64 xb.d, .bool false] 95)).drew) := (bel2 X _ _).drew
        generalize ((X.alloc (.cells #[.bool yn, .int .u64 yb.a, .int .u64 yb.b, .int .u64 yb.c, .int .u64 yb.d, .bool yl] 95)).alloc (.cells #[.bool false, .int .u64 xb.a, .int .u64 xb.b, .int .u64 xb.c, .int .u64 xb.d, .bool false] 95)).drew = Y at *
        have A3 : Hid (At6 Y (w.heap.size + 1) oz) := AX.out.later BY.out
        have l1 := A1.out.lt
        have l2 := A2.out.lt
        have l3 := A3.out.lt
        have lne : ¬ w.heap.size + 1 = Y.heap.size := by omega
        obtain ⟨p0, p1, p2, p3, p4, p5⟩ := A1.out.cells
        obtain ⟨q0, q1, q2, q3, q4, q5⟩ := A2.out.cells
        obtain ⟨r0, r1, r2, r3, r4, r5⟩ := A3.out.cells
        obtain ⟨s0, s1, s2, s3, s4, s5⟩ := A3.out.soft
        simp only [oz, nz] at p0 p1 p2 p3 p4 p5 q0 q1 q2 q3 q4 q5 r0 r1 r2 r3 r4 r5
        clear x0 x1 x2 x3 x4 x5 y0 y1 y2 y3 y4 y5
        clear f0 f2 f3 f4 f5 HX HY hbX
        obtain ⟨ι, hne, F, hF, hF'⟩ := family Y
        have c0 : ∀ n, (F n).cell? ⟨X.heap.size + 1, 0, none⟩ = some (.bool false) := fun n => cell_on p0 (hF n)
        have c1 : ∀ n, (F n).cell? ⟨X.heap.size + 1, 1, none⟩ = some (.int .u64 xb.a) := fun n => cell_on p1 (hF n)
        have c2 : ∀ n, (F n).cell? ⟨X.heap.size + 1, 2, none⟩ = some (.int .u64 xb.b) := fun n => cell_on p2 (hF n)
        have c3 : ∀ n, (F n).cell? ⟨X.heap.size + 1, 3, none⟩ = some (.int .u64 xb.c) := fun n => cell_on p3 (hF n)
        have c4 : ∀ n, (F n).cell? ⟨X.heap.size + 1, 4, none⟩ = some (.int .u64 xb.d) := fun n => cell_on p4 (hF n)
        have c5 : ∀ n, (F n).cell? ⟨X.heap.size + 1, 5, none⟩ = some (.bool false) := fun n => cell_on p5 (hF n)
        have e0 : ∀ n, (F n).cell? ⟨X.heap.size, 0, none⟩ = some (.bool yn) := fun n => cell_on q0 (hF n)
        have e1 : ∀ n, (F n).cell? ⟨X.heap.size, 1, none⟩ = some (.int .u64 yb.a) := fun n => cell_on q1 (hF n)
        have e2 : ∀ n, (F n).cell? ⟨X.heap.size, 2, none⟩ = some (.int .u64 yb.b) := fun n => cell_on q2 (hF n)
        have e3 : ∀ n, (F n).cell? ⟨X.heap.size, 3, none⟩ = some (.int .u64 yb.c) := fun n => cell_on q3 (hF n)
        have e4 : ∀ n, (F n).cell? ⟨X.heap.size, 4, none⟩ = some (.int .u64 yb.d) := fun n => cell_on q4 (hF n)
        have e5 : ∀ n, (F n).cell? ⟨X.heap.size, 5, none⟩ = some (.bool yl) := fun n => cell_on q5 (hF n)
        have HC : Hid (∃ n, Y.drew = F n) := hF' _ (Below.refl _ Y).drew
        have HF : Hid (∀ n, Below Y.heap.size Y (F n)) := hF
        have HF' : Hid (∀ W, Below Y.heap.size Y W → ∃ n, W = F n) := hF'
        have HU : Hid (∀ n, Calls Try.prog 107 #[.agg #[.int .u64 xb.a, .int .u64 xb.b, .int .u64 xb.c, .int .u64 xb.d], .agg #[.int .u64 yb.a, .int .u64 yb.b, .int .u64 yb.c, .int .u64 yb.d]] (F n) fun e w'' => e = .returned (.agg #[.int .u64 (xb.join yb).a, .int .u64 (xb.join yb).b, .int .u64 (xb.join yb).c, .int .u64 (xb.join yb).d]) ∧ ∃ m, w'' = F m) := fun n => (union_agg xb yb (F n) KX.out KY.out).mono (fun e W q => by
          obtain ⟨⟨u, rfl, rfl⟩, hb⟩ := q
          exact ⟨rfl, hF' W (bel_tr (hF n) hb)⟩)
        clear hF hF'
        go_wp2_with fail
        refine region_last F rfl (by kernel_rfl) (by kernel_rfl) (by kernel_rfl) (by kernel_rfl) HC.out ?_
        simp only [List.dropLast]
        repeat (go_big_quiet_step (first | (go_at_call 107; exact HU.out _)))
        refine wpQuiet_nil ?_
        rintro _ ⟨nq, rfl⟩
        refine ⟨by simp [Region.wanted], fun K hK => ?_⟩
        obtain ⟨V, hV⟩ : ∃ V, F nq = V := ⟨_, rfl⟩
        have BV : Hid (Below Y.heap.size Y V) := hV ▸ HF.out nq
        rw [hV]
        clear hV HC HF HF' HU
        obtain ⟨r0', r1', r2', r3', r4', r5'⟩ := (A3.out.later BV.out).cells
        obtain ⟨s0', s1', s2', s3', s4', s5'⟩ := (A3.out.later BV.out).soft
        simp only [oz, nz] at r0' r1' r2' r3' r4' r5'
        dsimp only [List.getLast]
        go_simp
        refine hK _ _ ?_
        go_wp2
        refine bodyPost_ret (v := opv ⟨yn, xb.join yb, yl⟩) (by simp [results, Try.f104, go_sem, opv, *]) rfl ?_
        exact ⟨by rw [HK.out]; simp, set6_below (bel_tr (bel_tr BX.out BY.out) BV.out) (w.heap.size + 1) ⟨yn, xb.join yb, yl⟩ (by omega)⟩
    · go_enter Try.func104, Try.ntmps104
      go_wp2
      have AX : Hid (At6 ((w.alloc (.cells #[.int .i64 o.kind, .slice sa o.sl sc, .int .i64 o.arg] 80)).alloc (ops6 oz)) (w.heap.size + 1) oz) := by
        have := At6.new (w.alloc (.cells #[.int .i64 o.kind, .slice sa o.sl sc, .int .i64 o.arg] 80)) oz
        rw [World.size_alloc] at this
        exact this
      have BX : Hid (Below w.heap.size w ((w.alloc (.cells #[.int .i64 o.kind, .slice sa o.sl sc, .int .i64 o.arg] 80)).alloc (ops6 oz))) := bel2 w _ _
      have SX : Hid (((w.alloc (.cells #[.int .i64 o.kind, .slice sa o.sl sc, .int .i64 o.arg] 80)).alloc (ops6 oz)).heap.size = w.heap.size + 2) := by show _ = _; simp
      have eX : ((w.alloc (.cells #[.int .i64 o.kind, .slice sa o.sl sc, .int .i64 o.arg] 80)).alloc (.cells #[.bool false, .int .u64 0, .int .u64 0, .int .u64 0, .int .u64 0, .bool false] 95)) = ((w.alloc (.cells #[.int .i64 o.kind, .slice sa o.sl sc, .int .i64 o.arg] 80)).alloc (ops6 oz)) := rfl
      rw [eX]
      clear eX
      generalize ((w.alloc (.cells #[.int .i64 o.kind, .slice sa o.sl sc, .int .i64 o.arg] 80)).alloc (ops6 oz)) = X at *
      obtain ⟨x0, x1, x2, x3, x4, x5⟩ := HX.out.later BX.out
      obtain ⟨y0, y1, y2, y3, y4, y5⟩ := HY.out.later BX.out
      simp only at x0 x1 x2 x3 x4 x5 y0 y1 y2 y3 y4 y5
      have hbX : ob < X.heap.size := lt_of_cell x0
      go_region
      · have A1 : Hid (At6 ((X.alloc (.cells #[.bool false, .int .u64 xb.a, .int .u64 xb.b, .int .u64 xb.c, .int .u64 xb.d, .bool true] 95)).alloc (.cells #[.bool yn, .int .u64 yb.a, .int .u64 yb.b, .int .u64 yb.c, .int .u64 yb.d, .bool yl] 95)).drew (X.heap.size) (⟨false, xb, true⟩ : Opn)) := at6_one X (⟨false, xb, true⟩ : Opn) (⟨yn, yb, yl⟩ : Opn)
        have A2 : Hid (At6 ((X.alloc (.cells #[.bool false, .int .u64 xb.a, .int .u64 xb.b, .int .u64 xb.c, .int .u64 xb.d, .bool true] 95)).alloc (.cells #[.bool yn, .int .u64 yb.a, .int .u64 yb.b, .int .u64 yb.c, .int .u64 yb.d, .bool yl] 95)).drew (X.heap.size + 1) (⟨yn, yb, yl⟩ : Opn)) := at6_two X (⟨false, xb, true⟩ : Opn) (⟨yn, yb, yl⟩ : Opn)
        have BY : Hid (Below X.heap.size X ((X.alloc (.cells #[.bool false, .int .u64 xb.a, .int .u64 xb.b, .int .u64 xb.c, .int .u64 xb.d, .bool true] 95)).alloc (.cells #[.bool yn, .int .u64 yb.a, .int .u64 yb.b, .int .u64 yb.c, .int .u64 yb.d, .bool yl] 95)).drew) := (bel2 X _ _).drew
        generalize ((X.alloc (.cells #[.bool false, .int .u64 xb.a, .int .u64 xb.b, .int .u64 xb.c, .int .u64 xb.d, .bool true] 95)).alloc (.cells #[.bool yn, .int .u64 yb.a, .int .u64 yb.b, .int .u64 yb.c, .int .u64 yb.d, .bool yl] 95)).drew = Y at *
        have A3 : Hid (At6 Y (w.heap.size + 1) oz) := AX.out.later BY.out
        have l1 := A1.out.lt
        have l2 := A2.out.lt
        have l3 := A3.out.lt
        have lne : ¬ w.heap.size + 1 = Y.heap.size := by omega
        obtain ⟨p0, p1, p2, p3, p4, p5⟩ := A1.out.cells
        obtain ⟨q0, q1, q2, q3, q4, q5⟩ := A2.out.cells
        obtain ⟨r0, r1, r2, r3, r4, r5⟩ := A3.out.cells
        obtain ⟨s0, s1, s2, s3, s4, s5⟩ := A3.out.soft
        simp only [oz, nz] at p0 p1 p2 p3 p4 p5 q0 q1 q2 q3 q4 q5 r0 r1 r2 r3 r4 r5
        clear x0 x1 x2 x3 x4 x5 y0 y1 y2 y3 y4 y5
        clear f0 f2 f3 f4 f5 HX HY hbX
        obtain ⟨ι, hne, F, hF, hF'⟩ := family Y
        have c0 : ∀ n, (F n).cell? ⟨X.heap.size, 0, none⟩ = some (.bool false) := fun n => cell_on p0 (hF n)
        have c1 : ∀ n, (F n).cell? ⟨X.heap.size, 1, none⟩ = some (.int .u64 xb.a) := fun n => cell_on p1 (hF n)
        have c2 : ∀ n, (F n).cell? ⟨X.heap.size, 2, none⟩ = some (.int .u64 xb.b) := fun n => cell_on p2 (hF n)
        have c3 : ∀ n, (F n).cell? ⟨X.heap.size, 3, none⟩ = some (.int .u64 xb.c) := fun n => cell_on p3 (hF n)
        have c4 : ∀ n, (F n).cell? ⟨X.heap.size, 4, none⟩ = some (.int .u64 xb.d) := fun n => cell_on p4 (hF n)
        have c5 : ∀ n, (F n).cell? ⟨X.heap.size, 5, none⟩ = some (.bool true) := fun n => cell_on p5 (hF n)
        have e0 : ∀ n, (F n).cell? ⟨X.heap.size + 1, 0, none⟩ = some (.bool yn) := fun n => cell_on q0 (hF n)
        have e1 : ∀ n, (F n).cell? ⟨X.heap.size + 1, 1, none⟩ = some (.int .u64 yb.a) := fun n => cell_on q1 (hF n)
        have e2 : ∀ n, (F n).cell? ⟨X.heap.size + 1, 2, none⟩ = some (.int .u64 yb.b) := fun n => cell_on q2 (hF n)
        have e3 : ∀ n, (F n).cell? ⟨X.heap.size + 1, 3, none⟩ = some (.int .u64 yb.c) := fun n => cell_on q3 (hF n)
        have e4 : ∀ n, (F n).cell? ⟨X.heap.size + 1, 4, none⟩ = some (.int .u64 yb.d) := fun n => cell_on q4 (hF n)
        have e5 : ∀ n, (F n).cell? ⟨X.heap.size + 1, 5, none⟩ = some (.bool yl) := fun n => cell_on q5 (hF n)
        have HC : Hid (∃ n, Y.drew = F n) := hF' _ (Below.refl _ Y).drew
        have HF : Hid (∀ n, Below Y.heap.size Y (F n)) := hF
        have HF' : Hid (∀ W, Below Y.heap.size Y W → ∃ n, W = F n) := hF'
        have HU : Hid (∀ n, Calls Try.prog 107 #[.agg #[.int .u64 xb.a, .int .u64 xb.b, .int .u64 xb.c, .int .u64 xb.d], .agg #[.int .u64 yb.a, .int .u64 yb.b, .int .u64 yb.c, .int .u64 yb.d]] (F n) fun e w'' => e = .returned (.agg #[.int .u64 (xb.join yb).a, .int .u64 (xb.join yb).b, .int .u64 (xb.join yb).c, .int .u64 (xb.join yb).d]) ∧ ∃ m, w'' = F m) := fun n => (union_agg xb yb (F n) KX.out KY.out).mono (fun e W q => by
          obtain ⟨⟨u, rfl, rfl⟩, hb⟩ := q
          exact ⟨rfl, hF' W (bel_tr (hF n) hb)⟩)
        clear hF hF'
        go_wp2_with fail
        refine region_last F rfl (by kernel_rfl) (by kernel_rfl) (by kernel_rfl) (by kernel_rfl) HC.out ?_
        simp only [List.dropLast]
        repeat (go_big_quiet_step (first | (go_at_call 107; exact HU.out _)))
        refine wpQuiet_nil ?_
        rintro _ ⟨nq, rfl⟩
        refine ⟨by simp [Region.wanted], fun K hK => ?_⟩
        obtain ⟨V, hV⟩ : ∃ V, F nq = V := ⟨_, rfl⟩
        have BV : Hid (Below Y.heap.size Y V) := hV ▸ HF.out nq
        rw [hV]
        clear hV HC HF HF' HU
        obtain ⟨r0', r1', r2', r3', r4', r5'⟩ := (A3.out.later BV.out).cells
        obtain ⟨s0', s1', s2', s3', s4', s5'⟩ := (A3.out.later BV.out).soft
        simp only [oz, nz] at r0' r1' r2' r3' r4' r5'
        dsimp only [List.getLast]
        go_simp
        refine hK _ _ ?_
        go_wp2
        refine bodyPost_ret (v := opv ⟨yn, xb.join yb, true⟩) (by simp [results, Try.f104, go_sem, opv, *]) rfl ?_
        exact ⟨by rw [HK.out]; simp, set6_below (bel_tr (bel_tr BX.out BY.out) BV.out) (w.heap.size + 1) ⟨yn, xb.join yb, true⟩ (by omega)⟩
      · have A1 : Hid (At6 ((X.alloc (.cells #[.bool yn, .int .u64 yb.a, .int .u64 yb.b, .int .u64 yb.c, .int .u64 yb.d, .bool yl] 95)).alloc (.cells #[.bool false, .int .u64 xb.a, .int .u64 xb.b, .int .u64 xb.c, .int .u64 xb.d, .bool true] 95)).drew (X.heap.size + 1) (⟨false, xb, true⟩ : Opn)) := at6_two X (⟨yn, yb, yl⟩ : Opn) (⟨false, xb, true⟩ : Opn)
        have A2 : Hid (At6 ((X.alloc (.cells #[.bool yn, .int .u64 yb.a, .int .u64 yb.b, .int .u64 yb.c, .int .u64 yb.d, .bool yl] 95)).alloc (.cells #[.bool false, .int .u64 xb.a, .int .u64 xb.b, .int .u64 xb.c, .int .u64 xb.d, .bool true] 95)).drew (X.heap.size) (⟨yn, yb, yl⟩ : Opn)) := at6_one X (⟨yn, yb, yl⟩ : Opn) (⟨false, xb, true⟩ : Opn)
        have BY : Hid (Below X.heap.size X ((X.alloc (.cells #[.bool yn, .int .u64 yb.a, .int .u64 yb.b, .int .u64 yb.c, .int .u64 yb.d, .bool yl] 95)).alloc (.cells #[.bool false, .int .u64 xb.a, .int .u64 xb.b, .int .u64 xb.c, .int .u64 xb.d, .bool true] 95)).drew) := (bel2 X _ _).drew
        generalize ((X.alloc (.cells #[.bool yn, .int .u64 yb.a, .int .u64 yb.b, .int .u64 yb.c, .int .u64 yb.d, .bool yl] 95)).alloc (.cells #[.bool false, .int .u64 xb.a, .int .u64 xb.b, .int .u64 xb.c, .int .u64 xb.d, .bool true] 95)).drew = Y at *
        have A3 : Hid (At6 Y (w.heap.size + 1) oz) := AX.out.later BY.out
        have l1 := A1.out.lt
        have l2 := A2.out.lt
        have l3 := A3.out.lt
        have lne : ¬ w.heap.size + 1 = Y.heap.size := by omega
        obtain ⟨p0, p1, p2, p3, p4, p5⟩ := A1.out.cells
        obtain ⟨q0, q1, q2, q3, q4, q5⟩ := A2.out.cells
        obtain ⟨r0, r1, r2, r3, r4, r5⟩ := A3.out.cells
        obtain ⟨s0, s1, s2, s3, s4, s5⟩ := A3.out.soft
        simp only [oz, nz] at p0 p1 p2 p3 p4 p5 q0 q1 q2 q3 q4 q5 r0 r1 r2 r3 r4 r5
        clear x0 x1 x2 x3 x4 x5 y0 y1 y2 y3 y4 y5
        clear f0 f2 f3 f4 f5 HX HY hbX
        obtain ⟨ι, hne, F, hF, hF'⟩ := family Y
        have c0 : ∀ n, (F n).cell? ⟨X.heap.size + 1, 0, none⟩ = some (.bool false) := fun n => cell_on p0 (hF n)
        have c1 : ∀ n, (F n).cell? ⟨X.heap.size + 1, 1, none⟩ = some (.int .u64 xb.a) := fun n => cell_on p1 (hF n)
        have c2 : ∀ n, (F n).cell? ⟨X.heap.size + 1, 2, none⟩ = some (.int .u64 xb.b) := fun n => cell_on p2 (hF n)
        have c3 : ∀ n, (F n).cell? ⟨X.heap.size + 1, 3, none⟩ = some (.int .u64 xb.c) := fun n => cell_on p3 (hF n)
        have c4 : ∀ n, (F n).cell? ⟨X.heap.size + 1, 4, none⟩ = some (.int .u64 xb.d) := fun n => cell_on p4 (hF n)
        have c5 : ∀ n, (F n).cell? ⟨X.heap.size + 1, 5, none⟩ = some (.bool true) := fun n => cell_on p5 (hF n)
        have e0 : ∀ n, (F n).cell? ⟨X.heap.size, 0, none⟩ = some (.bool yn) := fun n => cell_on q0 (hF n)
        have e1 : ∀ n, (F n).cell? ⟨X.heap.size, 1, none⟩ = some (.int .u64 yb.a) := fun n => cell_on q1 (hF n)
        have e2 : ∀ n, (F n).cell? ⟨X.heap.size, 2, none⟩ = some (.int .u64 yb.b) := fun n => cell_on q2 (hF n)
        have e3 : ∀ n, (F n).cell? ⟨X.heap.size, 3, none⟩ = some (.int .u64 yb.c) := fun n => cell_on q3 (hF n)
        have e4 : ∀ n, (F n).cell? ⟨X.heap.size, 4, none⟩ = some (.int .u64 yb.d) := fun n => cell_on q4 (hF n)
        have e5 : ∀ n, (F n).cell? ⟨X.heap.size, 5, none⟩ = some (.bool yl) := fun n => cell_on q5 (hF n)
        have HC : Hid (∃ n, Y.drew = F n) := hF' _ (Below.refl _ Y).drew
        have HF : Hid (∀ n, Below Y.heap.size Y (F n)) := hF
        have HF' : Hid (∀ W, Below Y.heap.size Y W → ∃ n, W = F n) := hF'
        have HU : Hid (∀ n, Calls Try.prog 107 #[.agg #[.int .u64 xb.a, .int .u64 xb.b, .int .u64 xb.c, .int .u64 xb.d], .agg #[.int .u64 yb.a, .int .u64 yb.b, .int .u64 yb.c, .int .u64 yb.d]] (F n) fun e w'' => e = .returned (.agg #[.int .u64 (xb.join yb).a, .int .u64 (xb.join yb).b, .int .u64 (xb.join yb).c, .int .u64 (xb.join yb).d]) ∧ ∃ m, w'' = F m) := fun n => (union_agg xb yb (F n) KX.out KY.out).mono (fun e W q => by
          obtain ⟨⟨u, rfl, rfl⟩, hb⟩ := q
          exact ⟨rfl, hF' W (bel_tr (hF n) hb)⟩)
        clear hF hF'
        go_wp2_with fail
        refine region_last F rfl (by kernel_rfl) (by kernel_rfl) (by kernel_rfl) (by kernel_rfl) HC.out ?_
        simp only [List.dropLast]
        repeat (go_big_quiet_step (first | (go_at_call 107; exact HU.out _)))
        refine wpQuiet_nil ?_
        rintro _ ⟨nq, rfl⟩
        refine ⟨by simp [Region.wanted], fun K hK => ?_⟩
        obtain ⟨V, hV⟩ : ∃ V, F nq = V := ⟨_, rfl⟩
        have BV : Hid (Below Y.heap.size Y V) := hV ▸ HF.out nq
        rw [hV]
        clear hV HC HF HF' HU
        obtain ⟨r0', r1', r2', r3', r4', r5'⟩ := (A3.out.later BV.out).cells
        obtain ⟨s0', s1', s2', s3', s4', s5'⟩ := (A3.out.later BV.out).soft
        simp only [oz, nz] at r0' r1' r2' r3' r4' r5'
        dsimp only [List.getLast]
        go_simp
        refine hK _ _ ?_
        go_wp2
        refine bodyPost_ret (v := opv ⟨yn, xb.join yb, true⟩) (by simp [results, Try.f104, go_sem, opv, *]) rfl ?_
        exact ⟨by rw [HK.out]; simp, set6_below (bel_tr (bel_tr BX.out BY.out) BV.out) (w.heap.size + 1) ⟨yn, xb.join yb, true⟩ (by omega)⟩
  · cases xl
    · go_enter Try.func104, Try.ntmps104
      go_wp2
      have AX : Hid (At6 ((w.alloc (.cells #[.int .i64 o.kind, .slice sa o.sl sc, .int .i64 o.arg] 80)).alloc (ops6 oz)) (w.heap.size + 1) oz) := by
        have := At6.new (w.alloc (.cells #[.int .i64 o.kind, .slice sa o.sl sc, .int .i64 o.arg] 80)) oz
        rw [World.size_alloc] at this
        exact this
      have BX : Hid (Below w.heap.size w ((w.alloc (.cells #[.int .i64 o.kind, .slice sa o.sl sc, .int .i64 o.arg] 80)).alloc (ops6 oz))) := bel2 w _ _
      have SX : Hid (((w.alloc (.cells #[.int .i64 o.kind, .slice sa o.sl sc, .int .i64 o.arg] 80)).alloc (ops6 oz)).heap.size = w.heap.size + 2) := by show _ = _; simp
      have eX : ((w.alloc (.cells #[.int .i64 o.kind, .slice sa o.sl sc, .int .i64 o.arg] 80)).alloc (.cells #[.bool false, .int .u64 0, .int .u64 0, .int .u64 0, .int .u64 0, .bool false] 95)) = ((w.alloc (.cells #[.int .i64 o.kind, .slice sa o.sl sc, .int .i64 o.arg] 80)).alloc (ops6 oz)) := rfl
      rw [eX]
      clear eX
      generalize ((w.alloc (.cells #[.int .i64 o.kind, .slice sa o.sl sc, .int .i64 o.arg] 80)).alloc (ops6 oz)) = X at *
      obtain ⟨x0, x1, x2, x3, x4, x5⟩ := HX.out.later BX.out
      obtain ⟨y0, y1, y2, y3, y4, y5⟩ := HY.out.later BX.out
      simp only at x0 x1 x2 x3 x4 x5 y0 y1 y2 y3 y4 y5
      have hbX : ob < X.heap.size := lt_of_cell x0
      go_region
      · have A1 : Hid (At6 ((X.alloc (.cells #[.bool true, .int .u64 xb.a, .int .u64 xb.b, .int .u64 xb.c, .int .u64 xb.d, .bool false] 95)).alloc (.cells #[.bool yn, .int .u64 yb.a, .int .u64 yb.b, .int .u64 yb.c, .int .u64 yb.d, .bool yl] 95)).drew (X.heap.size) (⟨true, xb, false⟩ : Opn)) := at6_one X (⟨true, xb, false⟩ : Opn) (⟨yn, yb, yl⟩ : Opn)
        have A2 : Hid (At6 ((X.alloc (.cells #[.bool true, .int .u64 xb.a, .int .u64 xb.b, .int .u64 xb.c, .int .u64 xb.d, .bool false] 95)).alloc (.cells #[.bool yn, .int .u64 yb.a, .int .u64 yb.b, .int .u64 yb.c, .int .u64 yb.d, .bool yl] 95)).drew (X.heap.size + 1) (⟨yn, yb, yl⟩ : Opn)) := at6_two X (⟨true, xb, false⟩ : Opn) (⟨yn, yb, yl⟩ : Opn)
        have BY : Hid (Below X.heap.size X ((X.alloc (.cells #[.bool true, .int .u64 xb.a, .int .u64 xb.b, .int .u64 xb.c, .int .u64 xb.d, .bool false] 95)).alloc (.cells #[.bool yn, .int .u64 yb.a, .int .u64 yb.b, .int .u64 yb.c, .int .u64 yb.d, .bool yl] 95)).drew) := (bel2 X _ _).drew
        generalize ((X.alloc (.cells #[.bool true, .int .u64 xb.a, .int .u64 xb.b, .int .u64 xb.c, .int .u64 xb.d, .bool false] 95)).alloc (.cells #[.bool yn, .int .u64 yb.a, .int .u64 yb.b, .int .u64 yb.c, .int .u64 yb.d, .bool yl] 95)).drew = Y at *
        have A3 : Hid (At6 Y (w.heap.size + 1) oz) := AX.out.later BY.out
        have l1 := A1.out.lt
        have l2 := A2.out.lt
        have l3 := A3.out.lt
        have lne : ¬ w.heap.size + 1 = Y.heap.size := by omega
        obtain ⟨p0, p1, p2, p3, p4, p5⟩ := A1.out.cells
        obtain ⟨q0, q1, q2, q3, q4, q5⟩ := A2.out.cells
        obtain ⟨r0, r1, r2, r3, r4, r5⟩ := A3.out.cells
        obtain ⟨s0, s1, s2, s3, s4, s5⟩ := A3.out.soft
        simp only [oz, nz] at p0 p1 p2 p3 p4 p5 q0 q1 q2 q3 q4 q5 r0 r1 r2 r3 r4 r5
        clear x0 x1 x2 x3 x4 x5 y0 y1 y2 y3 y4 y5
        clear f0 f2 f3 f4 f5 HX HY hbX
        obtain ⟨ι, hne, F, hF, hF'⟩ := family Y
        have c0 : ∀ n, (F n).cell? ⟨X.heap.size, 0, none⟩ = some (.bool true) := fun n => cell_on p0 (hF n)
        have c1 : ∀ n, (F n).cell? ⟨X.heap.size, 1, none⟩ = some (.int .u64 xb.a) := fun n => cell_on p1 (hF n)
        have c2 : ∀ n, (F n).cell? ⟨X.heap.size, 2, none⟩ = some (.int .u64 xb.b) := fun n => cell_on p2 (hF n)
        have c3 : ∀ n, (F n).cell? ⟨X.heap.size, 3, none⟩ = some (.int .u64 xb.c) := fun n => cell_on p3 (hF n)
        have c4 : ∀ n, (F n).cell? ⟨X.heap.size, 4, none⟩ = some (.int .u64 xb.d) := fun n => cell_on p4 (hF n)
        have c5 : ∀ n, (F n).cell? ⟨X.heap.size, 5, none⟩ = some (.bool false) := fun n => cell_on p5 (hF n)
        have e0 : ∀ n, (F n).cell? ⟨X.heap.size + 1, 0, none⟩ = some (.bool yn) := fun n => cell_on q0 (hF n)
        have e1 : ∀ n, (F n).cell? ⟨X.heap.size + 1, 1, none⟩ = some (.int .u64 yb.a) := fun n => cell_on q1 (hF n)
        have e2 : ∀ n, (F n).cell? ⟨X.heap.size + 1, 2, none⟩ = some (.int .u64 yb.b) := fun n => cell_on q2 (hF n)
        have e3 : ∀ n, (F n).cell? ⟨X.heap.size + 1, 3, none⟩ = some (.int .u64 yb.c) := fun n => cell_on q3 (hF n)
        have e4 : ∀ n, (F n).cell? ⟨X.heap.size + 1, 4, none⟩ = some (.int .u64 yb.d) := fun n => cell_on q4 (hF n)
        have e5 : ∀ n, (F n).cell? ⟨X.heap.size + 1, 5, none⟩ = some (.bool yl) := fun n => cell_on q5 (hF n)
        have HC : Hid (∃ n, Y.drew = F n) := hF' _ (Below.refl _ Y).drew
        have HF : Hid (∀ n, Below Y.heap.size Y (F n)) := hF
        have HF' : Hid (∀ W, Below Y.heap.size Y W → ∃ n, W = F n) := hF'
        have HU : Hid (∀ n, Calls Try.prog 107 #[.agg #[.int .u64 xb.a, .int .u64 xb.b, .int .u64 xb.c, .int .u64 xb.d], .agg #[.int .u64 yb.a, .int .u64 yb.b, .int .u64 yb.c, .int .u64 yb.d]] (F n) fun e w'' => e = .returned (.agg #[.int .u64 (xb.join yb).a, .int .u64 (xb.join yb).b, .int .u64 (xb.join yb).c, .int .u64 (xb.join yb).d]) ∧ ∃ m, w'' = F m) := fun n => (union_agg xb yb (F n) KX.out KY.out).mono (fun e W q => by
          obtain ⟨⟨u, rfl, rfl⟩, hb⟩ := q
          exact ⟨rfl, hF' W (bel_tr (hF n) hb)⟩)
        clear hF hF'
        go_wp2_with fail
        refine region_last F rfl (by kernel_rfl) (by kernel_rfl) (by kernel_rfl) (by kernel_rfl) HC.out ?_
        simp only [List.dropLast]
        repeat (go_big_quiet_step (first | (go_at_call 107; exact HU.out _)))
        refine wpQuiet_nil ?_
        rintro _ ⟨nq, rfl⟩
        refine ⟨by simp [Region.wanted], fun K hK => ?_⟩
        obtain ⟨V, hV⟩ : ∃ V, F nq = V := ⟨_, rfl⟩
        have BV : Hid (Below Y.heap.size Y V) := hV ▸ HF.out nq
        rw [hV]
        clear hV HC HF HF' HU
        obtain ⟨r0', r1', r2', r3', r4', r5'⟩ := (A3.out.later BV.out).cells
        obtain ⟨s0', s1', s2', s3', s4', s5'⟩ := (A3.out.later BV.out).soft
        simp only [oz, nz] at r0' r1' r2' r3' r4' r5'
        dsimp only [List.getLast]
        go_simp
        refine hK _ _ ?_
        go_wp2
        refine bodyPost_ret (v := opv ⟨true, xb.join yb, yl⟩) (by simp [results, Try.f104, go_sem, opv, *]) rfl ?_
        exact ⟨by rw [HK.out]; simp, set6_below (bel_tr (bel_tr BX.out BY.out) BV.out) (w.heap.size + 1) ⟨true, xb.join yb, yl⟩ (by omega)⟩
      · have A1 : Hid (At6 ((X.alloc (.cells #[.bool yn, .int .u64 yb.a, .int .u64 yb.b, .int .u64 yb.c, .int .u64 yb.d, .bool yl] 95)).alloc (.cells #[.bool true, .int .u64 xb.a, .int .u64 xb.b, .int .u64 xb.c, .int .u64 xb.d, .bool false] 95)).drew (X.heap.size + 1) (⟨true, xb, false⟩ : Opn)) := at6_two X (⟨yn, yb, yl⟩ : Opn) (⟨true, xb, false⟩ : Opn)
        have A2 : Hid (At6 ((X.alloc (.cells #[.bool yn, .int .u64 yb.a, .int .u64 yb.b, .int .u64 yb.c, .int .u64 yb.d, .bool yl] 95)).alloc (.cells #[.bool true, .int .u64 xb.a, .int .u64 xb.b, .int .u64 xb.c, .int .u64 xb.d, .bool false] 95)).drew (X.heap.size) (⟨yn, yb, yl⟩ : Opn)) := at6_one X (⟨yn, yb, yl⟩ : Opn) (⟨true, xb, false⟩ : Opn)
        have BY : Hid (Below X.heap.size X ((X.alloc (.cells #[.bool yn, .int .u64 yb.a, .int .u64 yb.b, .int .u64 yb.c, .int .u64 yb.d, .bool yl] 95)).alloc (.cells #[.bool true, .int .u64 xb.a, .int .u64 xb.b, .int .u64 xb.c, .int .u64 xb.d, .bool false] 95)).drew) := (bel2 X _ _).drew
        generalize ((X.alloc (.cells #[.bool yn, .int .u64 yb.a, .int .u64 yb.b, .int .u64 yb.c, .int .u64 yb.d, .bool yl] 95)).alloc (.cells #[.bool true, .int .u64 xb.a, .int .u64 xb.b, .int .u64 xb.c, .int .u64 xb.d, .bool false] 95)).drew = Y at *
        have A3 : Hid (At6 Y (w.heap.size + 1) oz) := AX.out.later BY.out
        have l1 := A1.out.lt
        have l2 := A2.out.lt
        have l3 := A3.out.lt
        have lne : ¬ w.heap.size + 1 = Y.heap.size := by omega
        obtain ⟨p0, p1, p2, p3, p4, p5⟩ := A1.out.cells
        obtain ⟨q0, q1, q2, q3, q4, q5⟩ := A2.out.cells
        obtain ⟨r0, r1, r2, r3, r4, r5⟩ := A3.out.cells
        obtain ⟨s0, s1, s2, s3, s4, s5⟩ := A3.out.soft
        simp only [oz, nz] at p0 p1 p2 p3 p4 p5 q0 q1 q2 q3 q4 q5 r0 r1 r2 r3 r4 r5
        clear x0 x1 x2 x3 x4 x5 y0 y1 y2 y3 y4 y5
        clear f0 f2 f3 f4 f5 HX HY hbX
        obtain ⟨ι, hne, F, hF, hF'⟩ := family Y
        have c0 : ∀ n, (F n).cell? ⟨X.heap.size + 1, 0, none⟩ = some (.bool true) := fun n => cell_on p0 (hF n)
        have c1 : ∀ n, (F n).cell? ⟨X.heap.size + 1, 1, none⟩ = some (.int .u64 xb.a) := fun n => cell_on p1 (hF n)
        have c2 : ∀ n, (F n).cell? ⟨X.heap.size + 1, 2, none⟩ = some (.int .u64 xb.b) := fun n => cell_on p2 (hF n)
        have c3 : ∀ n, (F n).cell? ⟨X.heap.size + 1, 3, none⟩ = some (.int .u64 xb.c) := fun n => cell_on p3 (hF n)
        have c4 : ∀ n, (F n).cell? ⟨X.heap.size + 1, 4, none⟩ = some (.int .u64 xb.d) := fun n => cell_on p4 (hF n)
        have c5 : ∀ n, (F n).cell? ⟨X.heap.size + 1, 5, none⟩ = some (.bool false) := fun n => cell_on p5 (hF n)
        have e0 : ∀ n, (F n).cell? ⟨X.heap.size, 0, none⟩ = some (.bool yn) := fun n => cell_on q0 (hF n)
        have e1 : ∀ n, (F n).cell? ⟨X.heap.size, 1, none⟩ = some (.int .u64 yb.a) := fun n => cell_on q1 (hF n)
        have e2 : ∀ n, (F n).cell? ⟨X.heap.size, 2, none⟩ = some (.int .u64 yb.b) := fun n => cell_on q2 (hF n)
        have e3 : ∀ n, (F n).cell? ⟨X.heap.size, 3, none⟩ = some (.int .u64 yb.c) := fun n => cell_on q3 (hF n)
        have e4 : ∀ n, (F n).cell? ⟨X.heap.size, 4, none⟩ = some (.int .u64 yb.d) := fun n => cell_on q4 (hF n)
        have e5 : ∀ n, (F n).cell? ⟨X.heap.size, 5, none⟩ = some (.bool yl) := fun n => cell_on q5 (hF n)
        have HC : Hid (∃ n, Y.drew = F n) := hF' _ (Below.refl _ Y).drew
        have HF : Hid (∀ n, Below Y.heap.size Y (F n)) := hF
        have HF' : Hid (∀ W, Below Y.heap.size Y W → ∃ n, W = F n) := hF'
        have HU : Hid (∀ n, Calls Try.prog 107 #[.agg #[.int .u64 xb.a, .int .u64 xb.b, .int .u64 xb.c, .int .u64 xb.d], .agg #[.int .u64 yb.a, .int .u64 yb.b, .int .u64 yb.c, .int .u64 yb.d]] (F n) fun e w'' => e = .returned (.agg #[.int .u64 (xb.join yb).a, .int .u64 (xb.join yb).b, .int .u64 (xb.join yb).c, .int .u64 (xb.join yb).d]) ∧ ∃ m, w'' = F m) := fun n => (union_agg xb yb (F n) KX.out KY.out).mono (fun e W q => by
          obtain ⟨⟨u, rfl, rfl⟩, hb⟩ := q
          exact ⟨rfl, hF' W (bel_tr (hF n) hb)⟩)
        clear hF hF'
        go_wp2_with fail
        refine region_last F rfl (by kernel_rfl) (by kernel_rfl) (by kernel_rfl) (by kernel_rfl) HC.out ?_
        simp only [List.dropLast]
        repeat (go_big_quiet_step (first | (go_at_call 107; exact HU.out _)))
        refine wpQuiet_nil ?_
        rintro _ ⟨nq, rfl⟩
        refine ⟨by simp [Region.wanted], fun K hK => ?_⟩
        obtain ⟨V, hV⟩ : ∃ V, F nq = V := ⟨_, rfl⟩
        have BV : Hid (Below Y.heap.size Y V) := hV ▸ HF.out nq
        rw [hV]
        clear hV HC HF HF' HU
        obtain ⟨r0', r1', r2', r3', r4', r5'⟩ := (A3.out.later BV.out).cells
        obtain ⟨s0', s1', s2', s3', s4', s5'⟩ := (A3.out.later BV.out).soft
        simp only [oz, nz] at r0' r1' r2' r3' r4' r5'
        dsimp only [List.getLast]
        go_simp
        refine hK _ _ ?_
        go_wp2
        refine bodyPost_ret (v := opv ⟨true, xb.join yb, yl⟩) (by simp [results, Try.f104, go_sem, opv, *]) rfl ?_
        exact ⟨by rw [HK.out]; simp, set6_below (bel_tr (bel_tr BX.out BY.out) BV.out) (w.heap.size + 1) ⟨true, xb.join yb, yl⟩ (by omega)⟩
    · go_enter Try.func104, Try.ntmps104
      go_wp2
      have AX : Hid (At6 ((w.alloc (.cells #[.int .i64 o.kind, .slice sa o.sl sc, .int .i64 o.arg] 80)).alloc (ops6 oz)) (w.heap.size + 1) oz) := by
        have := At6.new (w.alloc (.cells #[.int .i64 o.kind, .slice sa o.sl sc, .int .i64 o.arg] 80)) oz
        rw [World.size_alloc] at this
        exact this
      have BX : Hid (Below w.heap.size w ((w.alloc (.cells #[.int .i64 o.kind, .slice sa o.sl sc, .int .i64 o.arg] 80)).alloc (ops6 oz))) := bel2 w _ _
      have SX : Hid (((w.alloc (.cells #[.int .i64 o.kind, .slice sa o.sl sc, .int .i64 o.arg] 80)).alloc (ops6 oz)).heap.size = w.heap.size + 2) := by show _ = _; simp
      have eX : ((w.alloc (.cells #[.int .i64 o.kind, .slice sa o.sl sc, .int .i64 o.arg] 80)).alloc (.cells #[.bool false, .int .u64 0, .int .u64 0, .int .u64 0, .int .u64 0, .bool false] 95)) = ((w.alloc (.cells #[.int .i64 o.kind, .slice sa o.sl sc, .int .i64 o.arg] 80)).alloc (ops6 oz)) := rfl
      rw [eX]
      clear eX
      generalize ((w.alloc (.cells #[.int .i64 o.kind, .slice sa o.sl sc, .int .i64 o.arg] 80)).alloc (ops6 oz)) = X at *
      obtain ⟨x0, x1, x2, x3, x4, x5⟩ := HX.out.later BX.out
      obtain ⟨y0, y1, y2, y3, y4, y5⟩ := HY.out.later BX.out
      simp only at x0 x1 x2 x3 x4 x5 y0 y1 y2 y3 y4 y5
      have hbX : ob < X.heap.size := lt_of_cell x0
      go_region
      · have A1 : Hid (At6 ((X.alloc (.cells #[.bool true, .int .u64 xb.a, .int .u64 xb.b, .int .u64 xb.c, .int .u64 xb.d, .bool true] 95)).alloc (.cells #[.bool yn, .int .u64 yb.a, .int .u64 yb.b, .int .u64 yb.c, .int .u64 yb.d, .bool yl] 95)).drew (X.heap.size) (⟨true, xb, true⟩ : Opn)) := at6_one X (⟨true, xb, true⟩ : Opn) (⟨yn, yb, yl⟩ : Opn)
        have A2 : Hid (At6 ((X.alloc (.cells #[.bool true, .int .u64 xb.a, .int .u64 xb.b, .int .u64 xb.c, .int .u64 xb.d, .bool true] 95)).alloc (.cells #[.bool yn, .int .u64 yb.a, .int .u64 yb.b, .int .u64 yb.c, .int .u64 yb.d, .bool yl] 95)).drew (X.heap.size + 1) (⟨yn, yb, yl⟩ : Opn)) := at6_two X (⟨true, xb, true⟩ : Opn) (⟨yn, yb, yl⟩ : Opn)
        have BY : Hid (Below X.heap.size X ((X.alloc (.cells #[.bool true, .int .u64 xb.a, .int .u64 xb.b, .int .u64 xb.c, .int .u64 xb.d, .bool true] 95)).alloc (.cells #[.bool yn, .int .u64 yb.a, .int .u64 yb.b, .int .u64 yb.c, .int .u64 yb.d, .bool yl] 95)).drew) := (bel2 X _ _).drew
        generalize ((X.alloc (.cells #[.bool true, .int .u64 xb.a, .int .u64 xb.b, .int .u64 xb.c, .int .u64 xb.d, .bool true] 95)).alloc (.cells #[.bool yn, .int .u64 yb.a, .int .u64 yb.b, .int .u64 yb.c, .int .u64 yb.d, .bool yl] 95)).drew = Y at *
        have A3 : Hid (At6 Y (w.heap.size + 1) oz) := AX.out.later BY.out
        have l1 := A1.out.lt
        have l2 := A2.out.lt
        have l3 := A3.out.lt
        have lne : ¬ w.heap.size + 1 = Y.heap.size := by omega
        obtain ⟨p0, p1, p2, p3, p4, p5⟩ := A1.out.cells
        obtain ⟨q0, q1, q2, q3, q4, q5⟩ := A2.out.cells
        obtain ⟨r0, r1, r2, r3, r4, r5⟩ := A3.out.cells
        obtain ⟨s0, s1, s2, s3, s4, s5⟩ := A3.out.soft
        simp only [oz, nz] at p0 p1 p2 p3 p4 p5 q0 q1 q2 q3 q4 q5 r0 r1 r2 r3 r4 r5
        clear x0 x1 x2 x3 x4 x5 y0 y1 y2 y3 y4 y5
        clear f0 f2 f3 f4 f5 HX HY hbX
        obtain ⟨ι, hne, F, hF, hF'⟩ := family Y
        have c0 : ∀ n, (F n).cell? ⟨X.heap.size, 0, none⟩ = some (.bool true) := fun n => cell_on p0 (hF n)
        have c1 : ∀ n, (F n).cell? ⟨X.heap.size, 1, none⟩ = some (.int .u64 xb.a) := fun n => cell_on p1 (hF n)
        have c2 : ∀ n, (F n).cell? ⟨X.heap.size, 2, none⟩ = some (.int .u64 xb.b) := fun n => cell_on p2 (hF n)
        have c3 : ∀ n, (F n).cell? ⟨X.heap.size, 3, none⟩ = some (.int .u64 xb.c) := fun n => cell_on p3 (hF n)
        have c4 : ∀ n, (F n).cell? ⟨X.heap.size, 4, none⟩ = some (.int .u64 xb.d) := fun n => cell_on p4 (hF n)
        have c5 : ∀ n, (F n).cell? ⟨X.heap.size, 5, none⟩ = some (.bool true) := fun n => cell_on p5 (hF n)
        have e0 : ∀ n, (F n).cell? ⟨X.heap.size + 1, 0, none⟩ = some (.bool yn) := fun n => cell_on q0 (hF n)
        have e1 : ∀ n, (F n).cell? ⟨X.heap.size + 1, 1, none⟩ = some (.int .u64 yb.a) := fun n => cell_on q1 (hF n)
        have e2 : ∀ n, (F n).cell? ⟨X.heap.size + 1, 2, none⟩ = some (.int .u64 yb.b) := fun n => cell_on q2 (hF n)
        have e3 : ∀ n, (F n).cell? ⟨X.heap.size + 1, 3, none⟩ = some (.int .u64 yb.c) := fun n => cell_on q3 (hF n)
        have e4 : ∀ n, (F n).cell? ⟨X.heap.size + 1, 4, none⟩ = some (.int .u64 yb.d) := fun n => cell_on q4 (hF n)
        have e5 : ∀ n, (F n).cell? ⟨X.heap.size + 1, 5, none⟩ = some (.bool yl) := fun n => cell_on q5 (hF n)
        have HC : Hid (∃ n, Y.drew = F n) := hF' _ (Below.refl _ Y).drew
        have HF : Hid (∀ n, Below Y.heap.size Y (F n)) := hF
        have HF' : Hid (∀ W, Below Y.heap.size Y W → ∃ n, W = F n) := hF'
        have HU : Hid (∀ n, Calls Try.prog 107 #[.agg #[.int .u64 xb.a, .int .u64 xb.b, .int .u64 xb.c, .int .u64 xb.d], .agg #[.int .u64 yb.a, .int .u64 yb.b, .int .u64 yb.c, .int .u64 yb.d]] (F n) fun e w'' => e = .returned (.agg #[.int .u64 (xb.join yb).a, .int .u64 (xb.join yb).b, .int .u64 (xb.join yb).c, .int .u64 (xb.join yb).d]) ∧ ∃ m, w'' = F m) := fun n => (union_agg xb yb (F n) KX.out KY.out).mono (fun e W q => by
          obtain ⟨⟨u, rfl, rfl⟩, hb⟩ := q
          exact ⟨rfl, hF' W (bel_tr (hF n) hb)⟩)
        clear hF hF'
        go_wp2_with fail
        refine region_last F rfl (by kernel_rfl) (by kernel_rfl) (by kernel_rfl) (by kernel_rfl) HC.out ?_
        simp only [List.dropLast]
        repeat (go_big_quiet_step (first | (go_at_call 107; exact HU.out _)))
        refine wpQuiet_nil ?_
        rintro _ ⟨nq, rfl⟩
        refine ⟨by simp [Region.wanted], fun K hK => ?_⟩
        obtain ⟨V, hV⟩ : ∃ V, F nq = V := ⟨_, rfl⟩
        have BV : Hid (Below Y.heap.size Y V) := hV ▸ HF.out nq
        rw [hV]
        clear hV HC HF HF' HU
        obtain ⟨r0', r1', r2', r3', r4', r5'⟩ := (A3.out.later BV.out).cells
        obtain ⟨s0', s1', s2', s3', s4', s5'⟩ := (A3.out.later BV.out).soft
        simp only [oz, nz] at r0' r1' r2' r3' r4' r5'
        dsimp only [List.getLast]
        go_simp
        refine hK _ _ ?_
        go_wp2
        refine bodyPost_ret (v := opv ⟨true, xb.join yb, true⟩) (by simp [results, Try.f104, go_sem, opv, *]) rfl ?_
        exact ⟨by rw [HK.out]; simp, set6_below (bel_tr (bel_tr BX.out BY.out) BV.out) (w.heap.size + 1) ⟨true, xb.join yb, true⟩ (by omega)⟩
      · have A1 : Hid (At6 ((X.alloc (.cells #[.bool yn, .int .u64 yb.a, .int .u64 yb.b, .int .u64 yb.c, .int .u64 yb.d, .bool yl] 95)).alloc (.cells #[.bool true, .int .u64 xb.a, .int .u64 xb.b, .int .u64 xb.c, .int .u64 xb.d, .bool true] 95)).drew (X.heap.size + 1) (⟨true, xb, true⟩ : Opn)) := at6_two X (⟨yn, yb, yl⟩ : Opn) (⟨true, xb, true⟩ : Opn)
        have A2 : Hid (At6 ((X.alloc (.cells #[.bool yn, .int .u64 yb.a, .int .u64 yb.b, .int .u64 yb.c, .int .u64 yb.d, .bool yl] 95)).alloc (.cells #[.bool true, .int .u64 xb.a, .int .u64 xb.b, .int .u64 xb.c, .int .u64 xb.d, .bool true] 95)).drew (X.heap.size) (⟨yn, yb, yl⟩ : Opn)) := at6_one X (⟨yn, yb, yl⟩ : Opn) (⟨true, xb, true⟩ : Opn)
        have BY : Hid (Below X.heap.size X ((X.alloc (.cells #[.bool yn, .int .u64 yb.a, .int .u64 yb.b, .int .u64 yb.c, .int .u64 yb.d, .bool yl] 95)).alloc (.cells #[.bool true, .int .u64 xb.a, .int .u64 xb.b, .int .u64 xb.c, .int .u64 xb.d, .bool true] 95)).drew) := (bel2 X _ _).drew
        generalize ((X.alloc (.cells #[.bool yn, .int .u64 yb.a, .int .u64 yb.b, .int .u64 yb.c, .int .u64 yb.d, .bool yl] 95)).alloc (.cells #[.bool true, .int .u64 xb.a, .int .u64 xb.b, .int .u64 xb.c, .int .u64 xb.d, .bool true] 95)).drew = Y at *
        have A3 : Hid (At6 Y (w.heap.size + 1) oz) := AX.out.later BY.out
        have l1 := A1.out.lt
        have l2 := A2.out.lt
        have l3 := A3.out.lt
        have lne : ¬ w.heap.size + 1 = Y.heap.size := by omega
        obtain ⟨p0, p1, p2, p3, p4, p5⟩ := A1.out.cells
        obtain ⟨q0, q1, q2, q3, q4, q5⟩ := A2.out.cells
        obtain ⟨r0, r1, r2, r3, r4, r5⟩ := A3.out.cells
        obtain ⟨s0, s1, s2, s3, s4, s5⟩ := A3.out.soft
        simp only [oz, nz] at p0 p1 p2 p3 p4 p5 q0 q1 q2 q3 q4 q5 r0 r1 r2 r3 r4 r5
        clear x0 x1 x2 x3 x4 x5 y0 y1 y2 y3 y4 y5
        clear f0 f2 f3 f4 f5 HX HY hbX
        obtain ⟨ι, hne, F, hF, hF'⟩ := family Y
        have c0 : ∀ n, (F n).cell? ⟨X.heap.size + 1, 0, none⟩ = some (.bool true) := fun n => cell_on p0 (hF n)
        have c1 : ∀ n, (F n).cell? ⟨X.heap.size + 1, 1, none⟩ = some (.int .u64 xb.a) := fun n => cell_on p1 (hF n)
        have c2 : ∀ n, (F n).cell? ⟨X.heap.size + 1, 2, none⟩ = some (.int .u64 xb.b) := fun n => cell_on p2 (hF n)
        have c3 : ∀ n, (F n).cell? ⟨X.heap.size + 1, 3, none⟩ = some (.int .u64 xb.c) := fun n => cell_on p3 (hF n)
        have c4 : ∀ n, (F n).cell? ⟨X.heap.size + 1, 4, none⟩ = some (.int .u64 xb.d) := fun n => cell_on p4 (hF n)
        have c5 : ∀ n, (F n).cell? ⟨X.heap.size + 1, 5, none⟩ = some (.bool true) := fun n => cell_on p5 (hF n)
        have e0 : ∀ n, (F n).cell? ⟨X.heap.size, 0, none⟩ = some (.bool yn) := fun n => cell_on q0 (hF n)
        have e1 : ∀ n, (F n).cell? ⟨X.heap.size, 1, none⟩ = some (.int .u64 yb.a) := fun n => cell_on q1 (hF n)
        have e2 : ∀ n, (F n).cell? ⟨X.heap.size, 2, none⟩ = some (.int .u64 yb.b) := fun n => cell_on q2 (hF n)
        have e3 : ∀ n, (F n).cell? ⟨X.heap.size, 3, none⟩ = some (.int .u64 yb.c) := fun n => cell_on q3 (hF n)
        have e4 : ∀ n, (F n).cell? ⟨X.heap.size, 4, none⟩ = some (.int .u64 yb.d) := fun n => cell_on q4 (hF n)
        have e5 : ∀ n, (F n).cell? ⟨X.heap.size, 5, none⟩ = some (.bool yl) := fun n => cell_on q5 (hF n)
        have HC : Hid (∃ n, Y.drew = F n) := hF' _ (Below.refl _ Y).drew
        have HF : Hid (∀ n, Below Y.heap.size Y (F n)) := hF
        have HF' : Hid (∀ W, Below Y.heap.size Y W → ∃ n, W = F n) := hF'
        have HU : Hid (∀ n, Calls Try.prog 107 #[.agg #[.int .u64 xb.a, .int .u64 xb.b, .int .u64 xb.c, .int .u64 xb.d], .agg #[.int .u64 yb.a, .int .u64 yb.b, .int .u64 yb.c, .int .u64 yb.d]] (F n) fun e w'' => e = .returned (.agg #[.int .u64 (xb.join yb).a, .int .u64 (xb.join yb).b, .int .u64 (xb.join yb).c, .int .u64 (xb.join yb).d]) ∧ ∃ m, w'' = F m) := fun n => (union_agg xb yb (F n) KX.out KY.out).mono (fun e W q => by
          obtain ⟨⟨u, rfl, rfl⟩, hb⟩ := q
          exact ⟨rfl, hF' W (bel_tr (hF n) hb)⟩)
        clear hF hF'
        go_wp2_with fail
        refine region_last F rfl (by kernel_rfl) (by kernel_rfl) (by kernel_rfl) (by kernel_rfl) HC.out ?_
        simp only [List.dropLast]
        repeat (go_big_quiet_step (first | (go_at_call 107; exact HU.out _)))
        refine wpQuiet_nil ?_
        rintro _ ⟨nq, rfl⟩
        refine ⟨by simp [Region.wanted], fun K hK => ?_⟩
        obtain ⟨V, hV⟩ : ∃ V, F nq = V := ⟨_, rfl⟩
        have BV : Hid (Below Y.heap.size Y V) := hV ▸ HF.out nq
        rw [hV]
        clear hV HC HF HF' HU
        obtain ⟨r0', r1', r2', r3', r4', r5'⟩ := (A3.out.later BV.out).cells
        obtain ⟨s0', s1', s2', s3', s4', s5'⟩ := (A3.out.later BV.out).soft
        simp only [oz, nz] at r0' r1' r2' r3' r4' r5'
        dsimp only [List.getLast]
        go_simp
        refine hK _ _ ?_
        go_wp2
        refine bodyPost_ret (v := opv ⟨true, xb.join yb, true⟩) (by simp [results, Try.f104, go_sem, opv, *]) rfl ?_
        exact ⟨by rw [HK.out]; simp, set6_below (bel_tr (bel_tr BX.out BY.out) BV.out) (w.heap.size + 1) ⟨true, xb.join yb, true⟩ (by omega)⟩

end Go.Proofs.Ytjpcojabdjldbaa
