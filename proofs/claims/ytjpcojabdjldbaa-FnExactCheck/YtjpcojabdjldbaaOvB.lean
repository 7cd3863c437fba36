/-
  Walks: the value of a sequence.
-/
import Derived.Test.YtjpcojabdjldbaaOv
namespace Go.Proofs.Ytjpcojabdjldbaa
open Go.RowKit
open M (OpD NodeD Gr)
set_option linter.unusedVariables false
set_option linter.unusedSimpArgs false

set_option maxRecDepth 100000 in
set_option maxHeartbeats 16000000 in
theorem ov_seq (gp mp : Value) (sa : Option Addr) (nr sc ob oo oc : Nat) (mk : NS) (o : OpD) (x y : Opn) (w : World) (hk : o.kind = 4) (hx : OpnC w ob oo x) (hy : OpnC w ob (oo + 6) y) (kx : x.beg.OK) (ky : y.beg.OK) :
    Calls Try.prog 104 #[.agg #[.int .i64 o.kind, .slice sa o.sl sc, .int .i64 o.arg], .slice (some ⟨ob, oo, none⟩) 2 oc, gp, mp] w (IsOpn (valO nr mk o x y) w) := by
  have hN : ¬ M.Names o := by rintro (q | q) <;> omega
  have HK : Hid (valO nr mk o x y = ⟨x.nul && y.nul, if x.nul then x.beg.join y.beg else x.beg, x.loop || y.loop⟩) := by show _ = _; simp [valO, hk, hN]
  have f0 : (o.kind == 0) = false := by simp [hk]
  have f2 : (o.kind == 2) = false := by simp [hk]
  have f3 : (o.kind == 3) = false := by simp [hk]
  have f4 : (o.kind == 4) = true := by simp [hk]
  have f5 : (o.kind == 5) = false := by simp [hk]
  have HX : Hid (OpnC w ob oo x) := hx
  have HY : Hid (OpnC w ob (oo + 6) y) := hy
  have KX : Hid x.beg.OK := kx
  have KY : Hid y.beg.OK := ky
  clear hk hN kx ky hx hy
  obtain ⟨xn, xb, xl⟩ := x
  obtain ⟨yn, yb, yl⟩ := y
  simp only at KX KY
  cases xn
  · cases xl
    · go_enter Try.func104, Try.ntmps104
      go_wp2
      have AX : Hid (At6 ((w.alloc (.cells #[.int .i64 o.kind, .slice sa o.sl sc, .int .i64 o.arg] 80)).alloc (ops6 oz)) (w.heap.size + 1) oz) := by
        have := At6.new (w.alloc (.cells #[.int .i64 o.kind, .slice sa o.sl sc, .int .i64 o.arg] 80)) oz
        rw [World.size_alloc] at this
        exact this
      have BX : Hid (Below w.heap.size w ((w.alloc (.cells #[.int .i64 o.kind, .slice sa o.sl sc, .int .i64 o.arg] 80)).alloc (ops6 oz))) := bel2 w _ _
      have SX : Hid (((w.alloc (.cells #[.int .i64 o.kind, .slice sa o.sl sc, .int .i64 o.arg] 80)).alloc (ops6 oz)).heap.size = w.heap.size + 2) := by show _ = _; simp
      have eX : ((w.alloc (.cells #[.int .i64 o.kind, .slice sa o.sl sc, .int .i64 o.arg] 80)).alloc (.cells #[.bool false, .int .u64 0, .int .u64 0, .int .u64 0, .int .u64 0, .bool false] 95)) = ((w.alloc (.cells #[.int .i64 o.kind, .slice sa o.sl sc, .int .i64 o.arg] 80)).alloc (ops6 oz)) := rfl
      rw [eX]
      clear eX
      generalize ((w.alloc (.cells #[.int .i64 o.kind, .slice sa o.sl sc, .int .i64 o.arg] 80)).alloc (ops6 oz)) = X at *
      obtain ⟨x0, x1, x2, x3, x4, x5⟩ := HX.out.later BX.out
      obtain ⟨y0, y1, y2, y3, y4, y5⟩ := HY.out.later BX.out
      simp only at x0 x1 x2 x3 x4 x5 y0 y1 y2 y3 y4 y5
      have hbX : ob < X.heap.size := lt_of_cell x0
      go_region
      · have A1 : Hid (At6 ((X.alloc (.cells #[.bool false, .int .u64 xb.a, .int .u64 xb.b, .int .u64 xb.c, .int .u64 xb.d, .bool false] 95)).alloc (.cells #[.bool yn, .int .u64 yb.a, .int .u64 yb.b, .int .u64 yb.c, .int .u64 yb.d, .bool yl] 95)).drew (X.heap.size) (⟨false, xb, false⟩ : Opn)) := at6_one X (⟨false, xb, false⟩ : Opn) (⟨yn, yb, yl⟩ : Opn)
        have A2 : Hid (At6 ((X.alloc (.cells #[.bool false, .int .u64 xb.a, .int .u64 xb.b, .int .u64 xb.c, .int .u64 xb.d, .bool false] 95)).alloc (.cells #[.bool yn, .int .u64 yb.a, .int .u64 yb.b, .int .u64 yb.c, .int .u64 yb.d, .bool yl] 95)).drew (X.heap.size + 1) (⟨yn, yb, yl⟩ : Opn)) := at6_two X (⟨false, xb, false⟩ : Opn) (⟨yn, yb, yl⟩ : Opn)
        have BY : Hid (Below X.heap.size X ((X.alloc (.cells #[.bool false, .int .u64 xb.a, .int .u64 xb.b, .int .u64 xb.c, .int .u64 xb.d, .bool false] 95)).alloc (.cells #[.bool yn, .int .u64 yb.a, .int .u64 yb.b, .int .u64 yb.c, .int .u64 yb.d, .bool yl] 95)).drew) := (bel2 X _ _).drew
        generalize ((X.alloc (.cells #[.bool false, .int .u64 xb.a, .int .u64 xb.b, .int .u64 xb.c, .int .u64 xb.d, .bool false] 95)).alloc (.cells #[.bool yn, .int .u64 yb.a, .int .u64 yb.b, .int .u64 yb.c, .int .u64 yb.d, .bool yl] 95)).drew = Y at *
        have A3 : Hid (At6 Y (w.heap.size + 1) oz) := AX.out.later BY.out
        have l1 := A1.out.lt
        have l2 := A2.out.lt
        have l3 := A3.out.lt
        have lne : ¬ w.heap.size + 1 = Y.heap.size := by omega
        obtain ⟨p0, p1, p2, p3, p4, p5⟩ := A1.out.cells
        obtain ⟨q0, q1, q2, q3, q4, q5⟩ := A2.out.cells
        obtain ⟨r0, r1, r2, r3, r4, r5⟩ := A3.out.cells
        obtain ⟨s0, s1, s2, s3, s4, s5⟩ := A3.out.soft
        simp only [oz, nz] at p0 p1 p2 p3 p4 p5 q0 q1 q2 q3 q4 q5 r0 r1 r2 r3 r4 r5
        clear x0 x1 x2 x3 x4 x5 y0 y1 y2 y3 y4 y5
        go_wp2
        refine bodyPost_ret (v := opv ⟨false, xb, yl⟩) (by simp [results, Try.f104, go_sem, opv, *]) rfl ?_
        exact ⟨by rw [HK.out]; simp, (set6_below (bel_tr BX.out BY.out) (w.heap.size + 1) ⟨false, xb, yl⟩ (by omega)).alloc (by rw [set6_size]; omega) _⟩
      · have A1 : Hid (At6 ((X.alloc (.cells #[.bool yn, .int .u64 yb.a, .int .u64 yb.b, .int .u64 yb.c, .int .u64 yb.d, .bool yl] 95)).alloc (.cells #[.bool false, .int .u64 xb.a, .int .u64 xb.b, .int .u64 xb.c, .int .u64 xb.d, .bool false] 95)).drew (X.heap.size + 1) (⟨false, xb, false⟩ : Opn)) := at6_two X (⟨yn, yb, yl⟩ : Opn) (⟨false, xb, false⟩ : Opn)
        have A2 : Hid (At6 ((X.alloc (.cells #[.bool yn, .int .u64 yb.a, .int .u64 yb.b, .int .u64 yb.c, .int .u64 yb.d, .bool yl] 95)).alloc (.cells #[.bool false, .int .u64 xb.a, .int .u64 xb.b, .int .u64 xb.c, .int .u64 xb.d, .bool false] 95)).drew (X.heap.size) (⟨yn, yb, yl⟩ : Opn)) := at6_one X (⟨yn, yb, yl⟩ : Opn) (⟨false, xb, false⟩ : Opn)
        have BY : Hid (Below X.heap.size X ((X.alloc (.cells #[.bool yn, .int .u64 yb.a, .int .u64 yb.b, .int .u64 yb.c, .int .u64 yb.d, .bool yl] 95)).alloc (.cells #[.bool false, .int .u64 xb.a, .int .u64 xb.b, .int .u64 xb.c, .int .u64 xb.d, .bool false] 95)).drew) := (bel2 X _ _).drew
        generalize ((X.alloc (.cells #[.bool yn, .int .u64 yb.a, .int .u64 yb.b, .int .u64 yb.c, .int .u64 yb.d, .bool yl] 95)).alloc (.cells #[.bool false, .int .u64 xb.a, .int .u64 xb.b, .int .u64 xb.c, .int .u64 xb.d, .bool false] 95)).drew = Y at *
        have A3 : Hid (At6 Y (w.heap.size + 1) oz) := AX.out.later BY.out
        have l1 := A1.out.lt
        have l2 := A2.out.lt
        have l3 := A3.out.lt
        have lne : ¬ w.heap.size + 1 = Y.heap.size := by omega
        obtain ⟨p0, p1, p2, p3, p4, p5⟩ := A1.out.cells
        obtain ⟨q0, q1, q2, q3, q4, q5⟩ := A2.out.cells
        obtain ⟨r0, r1, r2, r3, r4, r5⟩ := A3.out.cells
        obtain ⟨s0, s1, s2, s3, s4, s5⟩ := A3.out.soft
        simp only [oz, nz] at p0 p1 p2 p3 p4 p5 q0 q1 q2 q3 q4 q5 r0 r1 r2 r3 r4 r5
        clear x0 x1 x2 x3 x4 x5 y0 y1 y2 y3 y4 y5
        go_wp2
        refine bodyPost_ret (v := opv ⟨false, xb, yl⟩) (by simp [results, Try.f104, go_sem, opv, *]) rfl ?_
        exact ⟨by rw [HK.out]; simp, (set6_below (bel_tr BX.out BY.out) (w.heap.size + 1) ⟨false, xb, yl⟩ (by omega)).alloc (by rw [set6_size]; omega) _⟩
    · go_enter Try.func104, Try.ntmps104
      go_wp2
      have AX : Hid (At6 ((w.alloc (.cells #[.int .i64 o.kind, .slice sa o.sl sc, .int .i64 o.arg] 80)).alloc (ops6 oz)) (w.heap.size + 1) oz) := by
        have := At6.new (w.alloc (.cells #[.int .i64 o.kind, .slice sa o.sl sc, .int .i64 o.arg] 80)) oz
        rw [World.size_alloc] at this
        exact this
      have BX : Hid (Below w.heap.size w ((w.alloc (.cells #[.int .i64 o.kind, .slice sa o.sl sc, .int .i64 o.arg] 80)).alloc (ops6 oz))) := bel2 w _ _
      have SX : Hid (((w.alloc (.cells #[.int .i64 o.kind, .slice sa o.sl sc, .int .i64 o.arg] 80)).alloc (ops6 oz)).heap.size = w.heap.size + 2) := by show _ = _; simp
      have eX : ((w.alloc (.cells #[.int .i64 o.kind, .slice sa o.sl sc, .int .i64 o.arg] 80)).alloc (.cells #[.bool false, .int .u64 0, .int .u64 0, .int .u64 0, .int .u64 0, .bool false] 95)) = ((w.alloc (.cells #[.int .i64 o.kind, .slice sa o.sl sc, .int .i64 o.arg] 80)).alloc (ops6 oz)) := rfl
      rw [eX]
      clear eX
      generalize ((w.alloc (.cells #[.int .i64 o.kind, .slice sa o.sl sc, .int .i64 o.arg] 80)).alloc (ops6 oz)) = X at *
      obtain ⟨x0, x1, x2, x3, x4, x5⟩ := HX.out.later BX.out
      obtain ⟨y0, y1, y2, y3, y4, y5⟩ := HY.out.later BX.out
      simp only at x0 x1 x2 x3 x4 x5 y0 y1 y2 y3 y4 y5
      have hbX : ob < X.heap.size := lt_of_cell x0
      go_region
      · have A1 : Hid (At6 ((X.alloc (.cells #[.bool false, .int .u64 xb.a, .int .u64 xb.b, .int .u64 xb.c, .int .u64 xb.d, .bool true] 95)).alloc (.cells #[.bool yn, .int .u64 yb.a, .int .u64 yb.b, .int .u64 yb.c, .int .u64 yb.d, .bool yl] 95)).drew (X.heap.size) (⟨false, xb, true⟩ : Opn)) := at6_one X (⟨false, xb, true⟩ : Opn) (⟨yn, yb, yl⟩ : Opn)
        have A2 : Hid (At6 ((X.alloc (.cells #[.bool false, .int .u64 xb.a, .int .u64 xb.b, .int .u64 xb.c, .int .u64 xb.d, .bool true] 95)).alloc (.cells #[.bool yn, .int .u64 yb.a, .int .u64 yb.b, .int .u64 yb.c, .int .u64 yb.d, .bool yl] 95)).drew (X.heap.size + 1) (⟨yn, yb, yl⟩ : Opn)) := at6_two X (⟨false, xb, true⟩ : Opn) (⟨yn, yb, yl⟩ : Opn)
        have BY : Hid (Below X.heap.size X ((X.alloc (.cells #[.bool false, .int .u64 xb.a, .int .u64 xb.b, .int .u64 xb.c, .int .u64 xb.d, .bool true] 95)).alloc (.cells #[.bool yn, .int .u64 yb.a, .int .u64 yb.b, .int .u64 yb.c, .int .u64 yb.d, .bool yl] 95)).drew) := (bel2 X _ _).drew
        generalize ((X.alloc (.cells #[.bool false, .int .u64 xb.a, .int .u64 xb.b, .int .u64 xb.c, .int .u64 xb.d, .bool true] 95)).alloc (.cells #[.bool yn, .int .u64 yb.a, .int .u64 yb.b, .int .u64 yb.c, .int .u64 yb.d, .bool yl] 95)).drew = Y at *
        have A3 : Hid (At6 Y (w.heap.size + 1) oz) := AX.out.later BY.out
        have l1 := A1.out.lt
        have l2 := A2.out.lt
        have l3 := A3.out.lt
        have lne : ¬ w.heap.size + 1 = Y.heap.size := by omega
        obtain ⟨p0, p1, p2, p3, p4, p5⟩ := A1.out.cells
        obtain ⟨q0, q1, q2, q3, q4, q5⟩ := A2.out.cells
        obtain ⟨r0, r1, r2, r3, r4, r5⟩ := A3.out.cells
        obtain ⟨s0, s1, s2, s3, s4, s5⟩ := A3.out.soft
        simp only [oz, nz] at p0 p1 p2 p3 p4 p5 q0 q1 q2 q3 q4 q5 r0 r1 r2 r3 r4 r5
        clear x0 x1 x2 x3 x4 x5 y0 y1 y2 y3 y4 y5
        go_wp2
        refine bodyPost_ret (v := opv ⟨false, xb, true⟩) (by simp [results, Try.f104, go_sem, opv, *]) rfl ?_
        exact ⟨by rw [HK.out]; simp, (set6_below (bel_tr BX.out BY.out) (w.heap.size + 1) ⟨false, xb, true⟩ (by omega)).alloc (by rw [set6_size]; omega) _⟩
      · have A1 : Hid (At6 ((X.alloc (.cells #[.bool yn, .int .u64 yb.a, .int .u64 yb.b, .int .u64 yb.c, .int .u64 yb.d, .bool yl] 95)).alloc (.cells #[.bool false, .int .u64 xb.a, .int .u64 xb.b, .int .u64 xb.c, .int .u64 xb.d, .bool true] 95)).drew (X.heap.size + 1) (⟨false, xb, true⟩ : Opn)) := at6_two X (⟨yn, yb, yl⟩ : Opn) (⟨false, xb, true⟩ : Opn)
        have A2 : Hid (At6 ((X.alloc (.cells #[.bool yn, .int .u64 yb.a, .int .u64 yb.b, .int .u64 yb.c, .int .u64 yb.d, .bool yl] 95)).alloc (.cells #[.bool false, .int .u64 xb.a, .int .u64 xb.b, .int .u64 xb.c, .int .u64 xb.d, .bool true] 95)).drew (X.heap.size) (⟨yn, yb, yl⟩ : Opn)) := at6_one X (⟨yn, yb, yl⟩ : Opn) (⟨false, xb, true⟩ : Opn)
        have BY : Hid (Below X.heap.size X ((X.alloc (.cells #[.bool yn, .int .u64 yb.a, .int .u64 yb.b, .int .u64 yb.c, .int .u64 yb.d, .bool yl] 95)).alloc (.cells #[.bool false, .int .u64 xb.a, .int .u64 xb.b, .int .u64 xb.c, .int .u64 xb.d, .bool true] 95)).drew) := (bel2 X _ _).drew
        generalize ((X.alloc (.cells #[.bool yn, .int .u64 yb.a, .int .u64 yb.b, .int .u64 yb.c, .int .u64 yb.d, .bool yl] 95)).alloc (.cells #[.bool false, .int .u64 xb.a, .int .u64 xb.b, .int .u64 xb.c, .int .u64 xb.d, .bool true] 95)).drew = Y at *
        have A3 : Hid (At6 Y (w.heap.size + 1) oz) := AX.out.later BY.out
        have l1 := A1.out.lt
        have l2 := A2.out.lt
        have l3 := A3.out.lt
        have lne : ¬ w.heap.size + 1 = Y.heap.size := by omega
        obtain ⟨p0, p1, p2, p3, p4, p5⟩ := A1.out.cells
        obtain ⟨q0, q1, q2, q3, q4, q5⟩ := A2.out.cells
        obtain ⟨r0, r1, r2, r3, r4, r5⟩ := A3.out.cells
        obtain ⟨s0, s1, s2, s3, s4, s5⟩ := A3.out.soft
        simp only [oz, nz] at p0 p1 p2 p3 p4 p5 q0 q1 q2 q3 q4 q5 r0 r1 r2 r3 r4 r5
        clear x0 x1 x2 x3 x4 x5 y0 y1 y2 y3 y4 y5
        go_wp2
        refine bodyPost_ret (v := opv ⟨false, xb, true⟩) (by simp [results, Try.f104, go_sem, opv, *]) rfl ?_
        exact ⟨by rw [HK.out]; simp, (set6_below (bel_tr BX.out BY.out) (w.heap.size + 1) ⟨false, xb, true⟩ (by omega)).alloc (by rw [set6_size]; omega) _⟩
  · cases xl
    · go_enter Try.func104, Try.ntmps104
      go_wp2
      have AX : Hid (At6 ((w.alloc (.cells #[.int .i64 o.kind, .slice sa o.sl sc, .int .i64 o.arg] 80)).alloc (ops6 oz)) (w.heap.size + 1) oz) := by
        have := At6.new (w.alloc (.cells #[.int .i64 o.kind, .slice sa o.sl sc, .int .i64 o.arg] 80)) oz
        rw [World.size_alloc] at this
        exact this
      have BX : Hid (Below w.heap.size w ((w.alloc (.cells #[.int .i64 o.kind, .slice sa o.sl sc, .int .i64 o.arg] 80)).alloc (ops6 oz))) := bel2 w _ _
      have SX : Hid (((w.alloc (.cells #[.int .i64 o.kind, .slice sa o.sl sc, .int .i64 o.arg] 80)).alloc (ops6 oz)).heap.size = w.heap.size + 2) := by show _ = _; simp
      have eX : ((w.alloc (.cells #[.int .i64 o.kind, .slice sa o.sl sc, .int .i64 o.arg] 80)).alloc (.cells #[.bool false, .int .u64 0, .int .u64 0, .int .u64 0, .int .u64 0, .bool false] 95)) = ((w.alloc (.cells #[.int .i64 o.kind, .slice sa o.sl sc, .int .i64 o.arg] 80)).alloc (ops6 oz)) := rfl
      rw [eX]
      clear eX
      generalize ((w.alloc (.cells #[.int .i64 o.kind, .slice sa o.sl sc, .int .i64 o.arg] 80)).alloc (ops6 oz)) = X at *
      obtain ⟨x0, x1, x2, x3, x4, x5⟩ := HX.out.later BX.out
      obtain ⟨y0, y1, y2, y3, y4, y5⟩ := HY.out.later BX.out
      simp only at x0 x1 x2 x3 x4 x5 y0 y1 y2 y3 y4 y5
      have hbX : ob < X.heap.size := lt_of_cell x0
      go_region
      · have A1 : Hid (At6 ((X.alloc (.cells #[.bool true, .int .u64 xb.a, .int .u64 xb.b, .int .u64 xb.c, .int .u64 xb.d, .bool false] 95)).alloc (.cells #[.bool yn, .int .u64 yb.a, .int .u64 yb.b, .int .u64 yb.c, .int .u64 yb.d, .bool yl] 95)).drew (X.heap.size) (⟨true, xb, false⟩ : Opn)) := at6_one X (⟨true, xb, false⟩ : Opn) (⟨yn, yb, yl⟩ : Opn)
        have A2 : Hid (At6 ((X.alloc (.cells #[.bool true, .int .u64 xb.a, .int .u64 xb.b, .int .u64 xb.c, .int .u64 xb.d, .bool false] 95)).alloc (.cells #[.bool yn, .int .u64 yb.a, .int .u64 yb.b, .int .u64 yb.c, .int .u64 yb.d, .bool yl] 95)).drew (X.heap.size + 1) (⟨yn, yb, yl⟩ : Opn)) := at6_two X (⟨true, xb, false⟩ : Opn) (⟨yn, yb, yl⟩ : Opn)
        have BY : Hid (Below X.heap.size X ((X.alloc (.cells #[.bool true, .int .u64 xb.a, .int .u64 xb.b, .int .u64 xb.c, .int .u64 xb.d, .bool false] 95)).alloc (.cells #[.bool yn, .int .u64 yb.a, .int .u64 yb.b, .int .u64 yb.c, .int .u64 yb.d, .bool yl] 95)).drew) := (bel2 X _ _).drew
        generalize ((X.alloc (.cells #[.bool true, .int .u64 xb.a, .int .u64 xb.b, .int .u64 xb.c, .int .u64 xb.d, .bool false] 95)).alloc (.cells #[.bool yn, .int .u64 yb.a, .int .u64 yb.b, .int .u64 yb.c, .int .u64 yb.d, .bool yl] 95)).drew = Y at *
        have A3 : Hid (At6 Y (w.heap.size + 1) oz) := AX.out.later BY.out
        have l1 := A1.out.lt
        have l2 := A2.out.lt
        have l3 := A3.out.lt
        have lne : ¬ w.heap.size + 1 = Y.heap.size := by omega
        obtain ⟨p0, p1, p2, p3, p4, p5⟩ := A1.out.cells
        obtain ⟨q0, q1, q2, q3, q4, q5⟩ := A2.out.cells
        obtain ⟨r0, r1, r2, r3, r4, r5⟩ := A3.out.cells
        obtain ⟨s0, s1, s2, s3, s4, s5⟩ := A3.out.soft
        simp only [oz, nz] at p0 p1 p2 p3 p4 p5 q0 q1 q2 q3 q4 q5 r0 r1 r2 r3 r4 r5
        clear x0 x1 x2 x3 x4 x5 y0 y1 y2 y3 y4 y5
        go_wp2_with (go_at_call 107; refine (union_agg xb yb _ KX.out KY.out).mono ?_; rintro e V ⟨⟨u, hu, rfl⟩, hb⟩; have HU : Hid (u = xb.join yb) := hu; have BV : Hid (Below Y.heap.size Y V) := bel_tr (bel1 Y _) hb; have AB : Hid (At V Y.heap.size xb) := (At.new Y xb).later hb; obtain ⟨p0', p1', p2', p3', p4', p5'⟩ := (A1.out.later BV.out).cells; obtain ⟨q0', q1', q2', q3', q4', q5'⟩ := (A2.out.later BV.out).cells; obtain ⟨r0', r1', r2', r3', r4', r5'⟩ := (A3.out.later BV.out).cells; obtain ⟨s0', s1', s2', s3', s4', s5'⟩ := (A3.out.later BV.out).soft; obtain ⟨b0, b1, b2, b3⟩ := AB.out.cells; obtain ⟨d0, d1, d2, d3⟩ := AB.out.soft; simp only [oz, nz] at p0' p1' p2' p3' p4' p5' q0' q1' q2' q3' q4' q5' r0' r1' r2' r3' r4' r5'; clear hu hb)
        refine bodyPost_ret (v := opv ⟨yn, u, yl⟩) (by simp [results, Try.f104, go_sem, opv, *]) rfl ?_
        exact ⟨by rw [HK.out, HU.out]; simp, set6_below (set4_below (bel_tr (bel_tr BX.out BY.out) BV.out) Y.heap.size u (by omega)) (w.heap.size + 1) ⟨yn, u, yl⟩ (by omega)⟩
      · have A1 : Hid (At6 ((X.alloc (.cells #[.bool yn, .int .u64 yb.a, .int .u64 yb.b, .int .u64 yb.c, .int .u64 yb.d, .bool yl] 95)).alloc (.cells #[.bool true, .int .u64 xb.a, .int .u64 xb.b, .int .u64 xb.c, .int .u64 xb.d, .bool false] 95)).drew (X.heap.size + 1) (⟨true, xb, false⟩ : Opn)) := at6_two X (⟨yn, yb, yl⟩ : Opn) (⟨true, xb, false⟩ : Opn)
        have A2 : Hid (At6 ((X.alloc (.cells #[.bool yn, .int .u64 yb.a, .int .u64 yb.b, .int .u64 yb.c, .int .u64 yb.d, .bool yl] 95)).alloc (.cells #[.bool true, .int .u64 xb.a, .int .u64 xb.b, .int .u64 xb.c, .int .u64 xb.d, .bool false] 95)).drew (X.heap.size) (⟨yn, yb, yl⟩ : Opn)) := at6_one X (⟨yn, yb, yl⟩ : Opn) (⟨true, xb, false⟩ : Opn)
        have BY : Hid (Below X.heap.size X ((X.alloc (.cells #[.bool yn, .int .u64 yb.a, .int .u64 yb.b, .int .u64 yb.c, .int .u64 yb.d, .bool yl] 95)).alloc (.cells #[.bool true, .int .u64 xb.a, .int .u64 xb.b, .int .u64 xb.c, .int .u64 xb.d, .bool false] 95)).drew) := (bel2 X _ _).drew
        generalize ((X.alloc (.cells #[.bool yn, .int .u64 yb.a, .int .u64 yb.b, .int .u64 yb.c, .int .u64 yb.d, .bool yl] 95)).alloc (.cells #[.bool true, .int .u64 xb.a, .int .u64 xb.b, .int .u64 xb.c, .int .u64 xb.d, .bool false] 95)).drew = Y at *
        have A3 : Hid (At6 Y (w.heap.size + 1) oz) := AX.out.later BY.out
        have l1 := A1.out.lt
        have l2 := A2.out.lt
        have l3 := A3.out.lt
        have lne : ¬ w.heap.size + 1 = Y.heap.size := by omega
        obtain ⟨p0, p1, p2, p3, p4, p5⟩ := A1.out.cells
        obtain ⟨q0, q1, q2, q3, q4, q5⟩ := A2.out.cells
        obtain ⟨r0, r1, r2, r3, r4, r5⟩ := A3.out.cells
        obtain ⟨s0, s1, s2, s3, s4, s5⟩ := A3.out.soft
        simp only [oz, nz] at p0 p1 p2 p3 p4 p5 q0 q1 q2 q3 q4 q5 r0 r1 r2 r3 r4 r5
        clear x0 x1 x2 x3 x4 x5 y0 y1 y2 y3 y4 y5
        go_wp2_with (go_at_call 107; refine (union_agg xb yb _ KX.out KY.out).mono ?_; rintro e V ⟨⟨u, hu, rfl⟩, hb⟩; have HU : Hid (u = xb.join yb) := hu; have BV : Hid (Below Y.heap.size Y V) := bel_tr (bel1 Y _) hb; have AB : Hid (At V Y.heap.size xb) := (At.new Y xb).later hb; obtain ⟨p0', p1', p2', p3', p4', p5'⟩ := (A1.out.later BV.out).cells; obtain ⟨q0', q1', q2', q3', q4', q5'⟩ := (A2.out.later BV.out).cells; obtain ⟨r0', r1', r2', r3', r4', r5'⟩ := (A3.out.later BV.out).cells; obtain ⟨s0', s1', s2', s3', s4', s5'⟩ := (A3.out.later BV.out).soft; obtain ⟨b0, b1, b2, b3⟩ := AB.out.cells; obtain ⟨d0, d1, d2, d3⟩ := AB.out.soft; simp only [oz, nz] at p0' p1' p2' p3' p4' p5' q0' q1' q2' q3' q4' q5' r0' r1' r2' r3' r4' r5'; clear hu hb)
        refine bodyPost_ret (v := opv ⟨yn, u, yl⟩) (by simp [results, Try.f104, go_sem, opv, *]) rfl ?_
        exact ⟨by rw [HK.out, HU.out]; simp, set6_below (set4_below (bel_tr (bel_tr BX.out BY.out) BV.out) Y.heap.size u (by omega)) (w.heap.size + 1) ⟨yn, u, yl⟩ (by omega)⟩
    · go_enter Try.func104, Try.ntmps104
      go_wp2
      have AX : Hid (At6 ((w.alloc (.cells #[.int .i64 o.kind, .slice sa o.sl sc, .int .i64 o.arg] 80)).alloc (ops6 oz)) (w.heap.size + 1) oz) := by
        have := At6.new (w.alloc (.cells #[.int .i64 o.kind, .slice sa o.sl sc, .int .i64 o.arg] 80)) oz
        rw [World.size_alloc] at this
        exact this
      have BX : Hid (Below w.heap.size w ((w.alloc (.cells #[.int .i64 o.kind, .slice sa o.sl sc, .int .i64 o.arg] 80)).alloc (ops6 oz))) := bel2 w _ _
      have SX : Hid (((w.alloc (.cells #[.int .i64 o.kind, .slice sa o.sl sc, .int .i64 o.arg] 80)).alloc (ops6 oz)).heap.size = w.heap.size + 2) := by show _ = _; simp
      have eX : ((w.alloc (.cells #[.int .i64 o.kind, .slice sa o.sl sc, .int .i64 o.arg] 80)).alloc (.cells #[.bool false, .int .u64 0, .int .u64 0, .int .u64 0, .int .u64 0, .bool false] 95)) = ((w.alloc (.cells #[.int .i64 o.kind, .slice sa o.sl sc, .int .i64 o.arg] 80)).alloc (ops6 oz)) := rfl
      rw [eX]
      clear eX
      generalize ((w.alloc (.cells #[.int .i64 o.kind, .slice sa o.sl sc, .int .i64 o.arg] 80)).alloc (ops6 oz)) = X at *
      obtain ⟨x0, x1, x2, x3, x4, x5⟩ := HX.out.later BX.out
      obtain ⟨y0, y1, y2, y3, y4, y5⟩ := HY.out.later BX.out
      simp only at x0 x1 x2 x3 x4 x5 y0 y1 y2 y3 y4 y5
      have hbX : ob < X.heap.size := lt_of_cell x0
      go_region
      · have A1 : Hid (At6 ((X.alloc (.cells #[.bool true, .int .u64 xb.a, .int .u64 xb.b, .int .u64 xb.c, .int .u64 xb.d, .bool true] 95)).alloc (.cells #[.bool yn, .int .u64 yb.a, .int .u64 yb.b, .int .u64 yb.c, .int .u64 yb.d, .bool yl] 95)).drew (X.heap.size) (⟨true, xb, true⟩ : Opn)) := at6_one X (⟨true, xb, true⟩ : Opn) (⟨yn, yb, yl⟩ : Opn)
        have A2 : Hid (At6 ((X.alloc (.cells #[.bool true, .int .u64 xb.a, .int .u64 xb.b, .int .u64 xb.c, .int .u64 xb.d, .bool true] 95)).alloc (.cells #[.bool yn, .int .u64 yb.a, .int .u64 yb.b, .int .u64 yb.c, .int .u64 yb.d, .bool yl] 95)).drew (X.heap.size + 1) (⟨yn, yb, yl⟩ : Opn)) := at6_two X (⟨true, xb, true⟩ : Opn) (⟨yn, yb, yl⟩ : Opn)
        have BY : Hid (Below X.heap.size X ((X.alloc (.cells #[.bool true, .int .u64 xb.a, .int .u64 xb.b, .int .u64 xb.c, .int .u64 xb.d, .bool true] 95)).alloc (.cells #[.bool yn, .int .u64 yb.a, .int .u64 yb.b, .int .u64 yb.c, .int .u64 yb.d, .bool yl] 95)).drew) := (bel2 X _ _).drew
        generalize ((X.alloc (.cells #[.bool true, .int .u64 xb.a, .int .u64 xb.b, .int .u64 xb.c, .int .u64 xb.d, .bool true] 95)).alloc (.cells #[.bool yn, .int .u64 yb.a, .int .u64 yb.b, .int .u64 yb.c, .int .u64 yb.d, .bool yl] 95)).drew = Y at *
        have A3 : Hid (At6 Y (w.heap.size + 1) oz) := AX.out.later BY.out
        have l1 := A1.out.lt
        have l2 := A2.out.lt
        have l3 := A3.out.lt
        have lne : ¬ w.heap.size + 1 = Y.heap.size := by omega
        obtain ⟨p0, p1, p2, p3, p4, p5⟩ := A1.out.cells
        obtain ⟨q0, q1, q2, q3, q4, q5⟩ := A2.out.cells
        obtain ⟨r0, r1, r2, r3, r4, r5⟩ := A3.out.cells
        obtain ⟨s0, s1, s2, s3, s4, s5⟩ := A3.out.soft
        simp only [oz, nz] at p0 p1 p2 p3 p4 p5 q0 q1 q2 q3 q4 q5 r0 r1 r2 r3 r4 r5
        clear x0 x1 x2 x3 x4 x5 y0 y1 y2 y3 y4 y5
        go_wp2_with (go_at_call 107; refine (union_agg xb yb _ KX.out KY.out).mono ?_; rintro e V ⟨⟨u, hu, rfl⟩, hb⟩; have HU : Hid (u = xb.join yb) := hu; have BV : Hid (Below Y.heap.size Y V) := bel_tr (bel1 Y _) hb; have AB : Hid (At V Y.heap.size xb) := (At.new Y xb).later hb; obtain ⟨p0', p1', p2', p3', p4', p5'⟩ := (A1.out.later BV.out).cells; obtain ⟨q0', q1', q2', q3', q4', q5'⟩ := (A2.out.later BV.out).cells; obtain ⟨r0', r1', r2', r3', r4', r5'⟩ := (A3.out.later BV.out).cells; obtain ⟨s0', s1', s2', s3', s4', s5'⟩ := (A3.out.later BV.out).soft; obtain ⟨b0, b1, b2, b3⟩ := AB.out.cells; obtain ⟨d0, d1, d2, d3⟩ := AB.out.soft; simp only [oz, nz] at p0' p1' p2' p3' p4' p5' q0' q1' q2' q3' q4' q5' r0' r1' r2' r3' r4' r5'; clear hu hb)
        refine bodyPost_ret (v := opv ⟨yn, u, true⟩) (by simp [results, Try.f104, go_sem, opv, *]) rfl ?_
        exact ⟨by rw [HK.out, HU.out]; simp, set6_below (set4_below (bel_tr (bel_tr BX.out BY.out) BV.out) Y.heap.size u (by omega)) (w.heap.size + 1) ⟨yn, u, true⟩ (by omega)⟩
      · have A1 : Hid (At6 ((X.alloc (.cells #[.bool yn, .int .u64 yb.a, .int .u64 yb.b, .int .u64 yb.c, .int .u64 yb.d, .bool yl] 95)).alloc (.cells #[.bool true, .int .u64 xb.a, .int .u64 xb.b, .int .u64 xb.c, .int .u64 xb.d, .bool true] 95)).drew (X.heap.size + 1) (⟨true, xb, true⟩ : Opn)) := at6_two X (⟨yn, yb, yl⟩ : Opn) (⟨true, xb, true⟩ : Opn)
        have A2 : Hid (At6 ((X.alloc (.cells #[.bool yn, .int .u64 yb.a, .int .u64 yb.b, .int .u64 yb.c, .int .u64 yb.d, .bool yl] 95)).alloc (.cells #[.bool true, .int .u64 xb.a, .int .u64 xb.b, .int .u64 xb.c, .int .u64 xb.d, .bool true] 95)).drew (X.heap.size) (⟨yn, yb, yl⟩ : Opn)) := at6_one X (⟨yn, yb, yl⟩ : Opn) (⟨true, xb, true⟩ : Opn)
        have BY : Hid (Below X.heap.size X ((X.alloc (.cells #[.bool yn, .int .u64 yb.a, .int .u64 yb.b, .int .u64 yb.c, .int .u64 yb.d, .bool yl] 95)).alloc (.cells #[.bool true, .int .u64 xb.a, .int .u64 xb.b, .int .u64 xb.c, .int .u64 xb.d, .bool true] 95)).drew) := (bel2 X _ _).drew
        generalize ((X.alloc (.cells #[.bool yn, .int .u64 yb.a, .int .u64 yb.b, .int .u64 yb.c, .int .u64 yb.d, .bool yl] 95)).alloc (.cells #[.bool true, .int .u64 xb.a, .int .u64 xb.b, .int .u64 xb.c, .int .u64 xb.d, .bool true] 95)).drew = Y at *
        have A3 : Hid (At6 Y (w.heap.size + 1) oz) := AX.out.later BY.out
        have l1 := A1.out.lt
        have l2 := A2.out.lt
        have l3 := A3.out.lt
        have lne : ¬ w.heap.size + 1 = Y.heap.size := by omega
        obtain ⟨p0, p1, p2, p3, p4, p5⟩ := A1.out.cells
        obtain ⟨q0, q1, q2, q3, q4, q5⟩ := A2.out.cells
        obtain ⟨r0, r1, r2, r3, r4, r5⟩ := A3.out.cells
        obtain ⟨s0, s1, s2, s3, s4, s5⟩ := A3.out.soft
        simp only [oz, nz] at p0 p1 p2 p3 p4 p5 q0 q1 q2 q3 q4 q5 r0 r1 r2 r3 r4 r5
        clear x0 x1 x2 x3 x4 x5 y0 y1 y2 y3 y4 y5
        go_wp2_with (go_at_call 107; refine (union_agg xb yb _ KX.out KY.out).mono ?_; rintro e V ⟨⟨u, hu, rfl⟩, hb⟩; have HU : Hid (u = xb.join yb) := hu; have BV : Hid (Below Y.heap.size Y V) := bel_tr (bel1 Y _) hb; have AB : Hid (At V Y.heap.size xb) := (At.new Y xb).later hb; obtain ⟨p0', p1', p2', p3', p4', p5'⟩ := (A1.out.later BV.out).cells; obtain ⟨q0', q1', q2', q3', q4', q5'⟩ := (A2.out.later BV.out).cells; obtain ⟨r0', r1', r2', r3', r4', r5'⟩ := (A3.out.later BV.out).cells; obtain ⟨s0', s1', s2', s3', s4', s5'⟩ := (A3.out.later BV.out).soft; obtain ⟨b0, b1, b2, b3⟩ := AB.out.cells; obtain ⟨d0, d1, d2, d3⟩ := AB.out.soft; simp only [oz, nz] at p0' p1' p2' p3' p4' p5' q0' q1' q2' q3' q4' q5' r0' r1' r2' r3' r4' r5'; clear hu hb)
        refine bodyPost_ret (v := opv ⟨yn, u, true⟩) (by simp [results, Try.f104, go_sem, opv, *]) rfl ?_
        exact ⟨by rw [HK.out, HU.out]; simp, set6_below (set4_below (bel_tr (bel_tr BX.out BY.out) BV.out) Y.heap.size u (by omega)) (w.heap.size + 1) ⟨yn, u, true⟩ (by omega)⟩

end Go.Proofs.Ytjpcojabdjldbaa
