/-
  Walks: the nodes that an expression begins with, by the specification.
-/
import Derived.Test.YtjpcojabdjldbaaSNuB
import Derived.Test.YtjpcojabdjldbaaOpn
import Derived.Test.YtjpcojabdjldbaaLefts
import Derived.Test.YtjpcojabdjldbaaOne
namespace Go.Proofs.Ytjpcojabdjldbaa
open Go.RowKit
open M (OpD NodeD Gr)
set_option linter.unusedVariables false
set_option linter.unusedSimpArgs false

/-- What l3begins leaves. -/
structure BegIs (n ob : Nat) (out : Nat → Bool) (w : World) (e : Ending) (w' : World) : Prop where
  ret : ∃ v, e = .returned v
  row : w'.rowIs ob 4 n (fun j => .bool (out j))
  keep : Keep (fun x => x = ob) w w'
theorem stk_nul {nr : Nat} {S : NS} {B : Nat → OpD} {hi lo : Nat} {x : Opn} (h : M.stk (valO nr S) B hi = (lo, x) :: M.stk (valO nr S) B lo) : M.stk (M.fN nr S.has) B hi = (lo, x.nul) :: M.stk (M.fN nr S.has) B lo := by
  rw [M.stk_map (valO nr S) (M.fN nr S.has) Opn.nul rfl (valO_nul nr S) B hi, M.stk_map (valO nr S) (M.fN nr S.has) Opn.nul rfl (valO_nul nr S) B lo, h]
  rfl
theorem row_or {w : World} {ob n : Nat} {out : Nat → Bool} (h : w.rowIs ob 4 n (fun j => .bool (out j))) {f : Nat → Bool} (k : ∀ j, j < n → f j = out j) : w.rowIs ob 4 n (fun j => .bool (f j)) := h.congr (fun j hj => by simp only [k j hj])
theorem keep_row {w w' : World} {ob n : Nat} {f : Nat → Value} (h : w.rowIs ob 4 n f) (k : Below w.heap.size w w') : w'.rowIs ob 4 n f := h.of_block (k.block _ (rowIs_lt h))

set_option maxRecDepth 100000 in
set_option maxHeartbeats 8000000 in
theorem l3begins_any (Q : Nat → Prop) (V : World) (ra la : Option Addr) (nr rc nb lc : Nat) (b off N : Nat) (B : Nat → OpD) (mb mo mc ob oc : Nat) (S : NS) (hN : N ≤ 1048576) (h1 : nr ≤ 100) (h2 : nb ≤ 100)
    (hok : ∀ i, i < N → M.ElemOK nr nb (B i)) (hB : ∀ i, i < N → OpC Q V b (off + i * 3) (B i)) (hM : BoolsA V mb mo (nr + nb) S.has) (hob : V.heap.size ≤ ob) (hi : Nat) : ∀ (lo o c l : Nat) (x : Opn) (out : Nat → Bool) (w : World), hi ≤ N → M.Fed B hi → M.stk (valO nr S) B hi = (lo, x) :: M.stk (valO nr S) B lo → o = off + lo * 3 → l + lo = hi → l ≤ c →
      Below V.heap.size V w → w.rowIs ob 4 (nr + nb) (fun j => .bool (out j)) →
      Calls Try.prog 65 #[.agg #[.slice ra nr rc, .slice la nb lc], .slice (some ⟨b, o, none⟩) l c, .slice (some ⟨mb, mo, none⟩) (nr + nb) mc, .slice (some ⟨ob, 0, none⟩) (nr + nb) oc] w (BegIs (nr + nb) ob (fun j => out j || x.beg.has j) w) := by
  induction hi using Nat.strongRecOn with
  | _ hi ih =>
    intro lo o c l x out w hle hF hst ho hl hc hV hR
    obtain ⟨hlo, _, _⟩ := M.stk_cons _ B hi hF lo x _ hst
    obtain ⟨q, rfl⟩ : ∃ q, hi = q + 1 := ⟨hi - 1, by omega⟩
    have IH : Hid (∀ m, m < q + 1 → ∀ (lo o c l : Nat) (x : Opn) (out : Nat → Bool) (w : World), m ≤ N → M.Fed B m → M.stk (valO nr S) B m = (lo, x) :: M.stk (valO nr S) B lo → o = off + lo * 3 → l + lo = m → l ≤ c →
      Below V.heap.size V w → w.rowIs ob 4 (nr + nb) (fun j => .bool (out j)) →
      Calls Try.prog 65 #[.agg #[.slice ra nr rc, .slice la nb lc], .slice (some ⟨b, o, none⟩) l c, .slice (some ⟨mb, mo, none⟩) (nr + nb) mc, .slice (some ⟨ob, 0, none⟩) (nr + nb) oc] w (BegIs (nr + nb) ob (fun j => out j || x.beg.has j) w)) := ih
    have HB : Hid (∀ i, i < N → OpC Q V b (off + i * 3) (B i)) := hB
    have HM : Hid (BoolsA V mb mo (nr + nb) S.has) := hM
    have HK : Hid (∀ i, i < N → M.ElemOK nr nb (B i)) := hok
    have HF : Hid (M.Fed B (q + 1)) := hF
    have HS : Hid (M.stk (valO nr S) B (q + 1) = (lo, x) :: M.stk (valO nr S) B lo) := hst
    have HV : Hid (Below V.heap.size V w) := hV
    have HR : Hid (w.rowIs ob 4 (nr + nb) (fun j => .bool (out j))) := hR
    have lob := rowIs_lt hR
    obtain ⟨m, rfl⟩ : ∃ m, l = m + 1 := ⟨l - 1, by omega⟩
    have hm : m + lo = q := by omega
    obtain ⟨c0, ⟨sa, sc, c1, hss⟩, c2⟩ := (hB q (by omega)).later hV
    have eo : off + q * 3 = o + m * 3 := by omega
    rw [eo] at c0 c1 c2
    have hbl : b < w.heap.size := lt_of_cell c0
    have hE := hok q (by omega)
    have k0 := hE.1
    have k7 := hE.2.1
    have ha0 : 0 ≤ (B q).arg := hE.2.2.2.2.1
    have ha1 : (B q).arg ≤ 1048576 := by have := hE.2.2.2.2.2; unfold M.most at this; split at this <;> (try split at this) <;> omega
    have x1 : (((m + 1 : Nat) : Int) == 0) = false := by simp; omega
    have x2 : ((m + 1 : Nat) : Int) - 1 = (m : Int) := by omega
    have x3 : (m : Int) < ((m + 1 : Nat) : Int) := by omega
    have x4 : m + 1 ≤ 1048576 := by omega
    clear hB hM hok hF hst ih hss hE hV hR
    have HO : Hid (o = off + lo * 3) := ho
    have HMM : Hid (m + lo = q) := hm
    have HOB : Hid (V.heap.size ≤ ob) := hob
    clear ho hm hl hob
    by_cases hN2 : M.Names (B q)
    · have HN2 : Hid (M.Names (B q)) := hN2
      have ht := tg_lt' (HK.out q (by omega)) hN2
      have ht2 : ((M.tg nr (B q) : Nat) : Int) < ((nr + nb : Nat) : Int) := by omega
      have hx : Hid (x.beg = nz.put (M.tg nr (B q))) := by
        show _ = _
        have h0 : M.ar (B q).kind = 0 := by rcases HN2.out with e | e <;> rw [e] <;> rfl
        have n0 : ¬ (B q).kind = 0 := by rcases HN2.out with e | e <;> omega
        rw [(M.leaf_at _ B q lo x h0 HS.out).2]
        simp [valO, HN2.out, n0]
      have g4 : ((B q).kind == 4) = false := by rcases hN2 with e | e <;> simp [e]
      have g5 : ((B q).kind == 5) = false := by rcases hN2 with e | e <;> simp [e]
      have g6 : ((B q).kind == 6) = false := by rcases hN2 with e | e <;> simp [e]
      have g7 : ((B q).kind == 7) = false := by rcases hN2 with e | e <;> simp [e]
      by_cases e2 : (B q).kind = 2
      · have f2 : ((B q).kind == 2) = true := by simp [e2]
        clear e2 hN2
        go_enter Try.func65, Try.ntmps65
        go_wp2_with (go_at_call 102; refine (l3target_any ra la sa nr rc nb lc sc (B q) _ HN2.out ha0 ha1 (by omega)).mono ?_; rintro e W ⟨rfl, hb⟩; have HW : Hid (Below w.heap.size w W) := bel_tr (bel2 w _ _) hb; have R2 : Hid (W.rowIs ob 4 (nr + nb) (fun j => .bool (out j))) := keep_row HR.out HW.out; have hc2 := R2.out.cell ht; have hf2 := R2.out.frozen (M.tg nr (B q)); have j0 := cell_on (a := ⟨w.heap.size + 1, 0, none⟩) (v := .int .i64 (B q).kind) (cN (w.heap.size + 1) (by simp) rfl) hb; clear hb)
        go_end0
        refine ⟨⟨_, rfl⟩, (R2.out.set (M.tg nr (B q)) (.bool true)).congr (fun j hj => ?_), (keep_bel HW.out).trans (Keep.setCell _ ⟨ob, _, none⟩ _ rfl)⟩
        rw [hx.out, put_has _ _ _ (by omega) (by omega), nz_has]
        by_cases e : j = M.tg nr (B q)
        · simp [e]
        · simp [e]
      · have f2 : ((B q).kind == 2) = false := by simp [e2]
        have f3 : ((B q).kind == 3) = true := by rcases hN2 with k | k; exact absurd k e2; simp [k]
        clear e2 hN2
        go_enter Try.func65, Try.ntmps65
        go_wp2_with (go_at_call 102; refine (l3target_any ra la sa nr rc nb lc sc (B q) _ HN2.out ha0 ha1 (by omega)).mono ?_; rintro e W ⟨rfl, hb⟩; have HW : Hid (Below w.heap.size w W) := bel_tr (bel2 w _ _) hb; have R2 : Hid (W.rowIs ob 4 (nr + nb) (fun j => .bool (out j))) := keep_row HR.out HW.out; have hc2 := R2.out.cell ht; have hf2 := R2.out.frozen (M.tg nr (B q)); have j0 := cell_on (a := ⟨w.heap.size + 1, 0, none⟩) (v := .int .i64 (B q).kind) (cN (w.heap.size + 1) (by simp) rfl) hb; clear hb)
        go_end0
        refine ⟨⟨_, rfl⟩, (R2.out.set (M.tg nr (B q)) (.bool true)).congr (fun j hj => ?_), (keep_bel HW.out).trans (Keep.setCell _ ⟨ob, _, none⟩ _ rfl)⟩
        rw [hx.out, put_has _ _ _ (by omega) (by omega), nz_has]
        by_cases e : j = M.tg nr (B q)
        · simp [e]
        · simp [e]
    have g2 : ((B q).kind == 2) = false := by simp; exact fun k => hN2 (.inl k)
    have g3 : ((B q).kind == 3) = false := by simp; exact fun k => hN2 (.inr k)
    have HN2 : Hid (¬ M.Names (B q)) := hN2
    by_cases e67 : (B q).kind = 6 ∨ (B q).kind = 7
    · have har : M.ar (B q).kind = 1 := by rcases e67 with e | e <;> rw [e] <;> rfl
      obtain ⟨y, hlq, st, hx⟩ := M.un_at _ B q lo x HF.out har HS.out
      have ST : Hid (M.stk (valO nr S) B q = (lo, y) :: M.stk (valO nr S) B lo) := st
      have HX : Hid (x.beg = y.beg) := by
        show _ = _
        rw [hx]
        have n0 : ¬ (B q).kind = 0 := by rcases e67 with e | e <;> omega
        have n4 : ¬ (B q).kind = 4 := by rcases e67 with e | e <;> omega
        have n5 : ¬ (B q).kind = 5 := by rcases e67 with e | e <;> omega
        rcases e67 with e | e <;> simp [valO, HN2.out, e]
      have hmp : 0 < m := by have := HMM.out; omega
      have g4 : ((B q).kind == 4) = false := by rcases e67 with e | e <;> simp [e]
      have g5 : ((B q).kind == 5) = false := by rcases e67 with e | e <;> simp [e]
      have z3 : m ≤ c := by omega
      have z5 : ¬ c = 0 := by omega
      have z6 := wrap_small m (by omega)
      have HC6 : Hid ((B q).kind = 6 ∨ (B q).kind = 7) := e67
      clear st hx har hlq hN2 e67
      have bX : Below w.heap.size w ((w.alloc (.cells #[.slice ra nr rc, .slice la nb lc] 36)).alloc (.cells #[.int .i64 (B q).kind, .slice sa (B q).sl sc, .int .i64 (B q).arg] 80)) := bel2 w _ _
      have xg0 : ((w.alloc (.cells #[.slice ra nr rc, .slice la nb lc] 36)).alloc (.cells #[.int .i64 (B q).kind, .slice sa (B q).sl sc, .int .i64 (B q).arg] 80)).cell? ⟨w.heap.size, 0, none⟩ = some (.slice ra nr rc) := cell_on (cN w.heap.size rfl rfl) (bel1 _ _)
      have xg1 : ((w.alloc (.cells #[.slice ra nr rc, .slice la nb lc] 36)).alloc (.cells #[.int .i64 (B q).kind, .slice sa (B q).sl sc, .int .i64 (B q).arg] 80)).cell? ⟨w.heap.size, 1, none⟩ = some (.slice la nb lc) := cell_on (cN w.heap.size rfl rfl) (bel1 _ _)
      have xk : ((w.alloc (.cells #[.slice ra nr rc, .slice la nb lc] 36)).alloc (.cells #[.int .i64 (B q).kind, .slice sa (B q).sl sc, .int .i64 (B q).arg] 80)).cell? ⟨w.heap.size + 1, 0, none⟩ = some (.int .i64 (B q).kind) := cN (w.heap.size + 1) (by simp) rfl
      by_cases e6 : (B q).kind = 6
      · have f6 : ((B q).kind == 6) = true := by simp [e6]
        clear e6
        go_enter Try.func65, Try.ntmps65
        go_wp2
        generalize (w.alloc (.cells #[.slice ra nr rc, .slice la nb lc] 36)).alloc (.cells #[.int .i64 (B q).kind, .slice sa (B q).sl sc, .int .i64 (B q).arg] 80) = X at *
        have BX : Hid (Below w.heap.size w X) := bX
        have lX : ob < X.heap.size := by have := bX.size; omega
        have lX1 : w.heap.size + 1 < X.heap.size := lt_of_cell xk
        clear bX c0 c1 c2
        go_region_with (go_at_call 65; refine (IH.out q (by omega) lo _ _ _ y out _ (by omega) (HF.out.less (by omega)) ST.out HO.out HMM.out z3 (HV.out.trans (BX.out.drew.mono HV.out.size)) (keep_row HR.out BX.out.drew)).mono ?_; rintro e W2 ⟨⟨v, rfl⟩, hr2, hk2⟩; have HR2 : Hid (W2.rowIs ob 4 (nr + nb) (fun j => .bool (out j || y.beg.has j))) := hr2; have HK2 : Hid (Keep (fun x => x = ob) X.drew W2) := hk2; have yk : W2.cell? ⟨w.heap.size + 1, 0, none⟩ = some (.int .i64 (B q).kind) := (hk2.cell (p := ⟨w.heap.size + 1, 0, none⟩) lX1 (show ¬ (w.heap.size + 1 = ob) by omega)).trans xk; clear hr2 hk2)
        all_goals go_wp2
        all_goals go_end0
        all_goals exact ⟨⟨_, rfl⟩, row_or HR2.out (fun j hj => by rw [HX.out]), ((keep_bel BX.out).trans (Keep.drew _ X)).trans HK2.out⟩
      · have f6 : ((B q).kind == 6) = false := by simp [e6]
        have f7 : ((B q).kind == 7) = true := by rcases HC6.out with k | k; exact absurd k e6; simp [k]
        clear e6
        go_enter Try.func65, Try.ntmps65
        go_wp2
        generalize (w.alloc (.cells #[.slice ra nr rc, .slice la nb lc] 36)).alloc (.cells #[.int .i64 (B q).kind, .slice sa (B q).sl sc, .int .i64 (B q).arg] 80) = X at *
        have BX : Hid (Below w.heap.size w X) := bX
        have lX : ob < X.heap.size := by have := bX.size; omega
        have lX1 : w.heap.size + 1 < X.heap.size := lt_of_cell xk
        clear bX c0 c1 c2
        go_region_with (go_at_call 65; refine (IH.out q (by omega) lo _ _ _ y out _ (by omega) (HF.out.less (by omega)) ST.out HO.out HMM.out z3 (HV.out.trans (BX.out.drew.mono HV.out.size)) (keep_row HR.out BX.out.drew)).mono ?_; rintro e W2 ⟨⟨v, rfl⟩, hr2, hk2⟩; have HR2 : Hid (W2.rowIs ob 4 (nr + nb) (fun j => .bool (out j || y.beg.has j))) := hr2; have HK2 : Hid (Keep (fun x => x = ob) X.drew W2) := hk2; have yk : W2.cell? ⟨w.heap.size + 1, 0, none⟩ = some (.int .i64 (B q).kind) := (hk2.cell (p := ⟨w.heap.size + 1, 0, none⟩) lX1 (show ¬ (w.heap.size + 1 = ob) by omega)).trans xk; clear hr2 hk2)
        all_goals go_wp2
        all_goals go_end0
        all_goals exact ⟨⟨_, rfl⟩, row_or HR2.out (fun j hj => by rw [HX.out]), ((keep_bel BX.out).trans (Keep.drew _ X)).trans HK2.out⟩
    have g6 : ((B q).kind == 6) = false := by simp; exact fun k => e67 (.inl k)
    have g7 : ((B q).kind == 7) = false := by simp; exact fun k => e67 (.inr k)
    have E67 : Hid (¬ ((B q).kind = 6 ∨ (B q).kind = 7)) := e67
    by_cases e45 : (B q).kind = 4 ∨ (B q).kind = 5
    · have har : M.ar (B q).kind = 2 := by unfold M.ar; rw [if_pos e45]
      obtain ⟨s, y, z, hls, hsq, st1, st2, hx, d1, d2⟩ := M.bin_at _ B q lo x HF.out har HS.out
      obtain ⟨p, hp⟩ : ∃ p, s = lo + p := ⟨s - lo, by omega⟩
      have HP : Hid (s = lo + p) := hp
      have hpm : p < m := by have := HMM.out; omega
      have hpm' : (p : Int) < (m : Int) := by omega
      have hcm : m < c := by have := HMM.out; omega
      have hp0 : 0 < p := by omega
      have d1' : Hid (M.dep (fun i => B (lo + i)) p + 1 = M.dep (fun i => B (lo + i)) m) := by
        show _ = _
        rw [dep_shift, dep_shift, ← hp, show lo + m = q by have := HMM.out; omega]
        omega
      have d2' : Hid (∀ j, p < j → j ≤ m → M.dep (fun i => B (lo + i)) m ≤ M.dep (fun i => B (lo + i)) j) := fun j h3 h4 => by
        rw [dep_shift, dep_shift, show lo + m = q by have := HMM.out; omega]
        have := d2 (lo + j) (by omega) (by have := HMM.out; omega)
        omega
      have ST1 : Hid (M.stk (valO nr S) B q = (s, y) :: M.stk (valO nr S) B s) := st1
      have ST2 : Hid (M.stk (valO nr S) B s = (lo, z) :: M.stk (valO nr S) B lo) := st2
      have HX : Hid (x = valO nr S (B q) z y) := hx
      have HSQ : Hid (lo < s ∧ s < q) := ⟨hls, hsq⟩
      have HOP : Hid (∀ W, Below w.heap.size w W → ∀ i, i < m + 1 → OpC Q W b (o + i * 3) (B (lo + i))) := fun W hW i hi => by
        have := ((HB.out (lo + i) (by have := HMM.out; omega)).later HV.out).later hW
        rw [show off + (lo + i) * 3 = o + i * 3 by have := HO.out; omega] at this
        exact this
      have n0 : Hid (¬ (B q).kind = 0) := by show ¬ _; omega
      clear st1 st2 hx d1 d2 hp hls hsq har
      have bX : Below w.heap.size w ((w.alloc (.cells #[.slice ra nr rc, .slice la nb lc] 36)).alloc (.cells #[.int .i64 (B q).kind, .slice sa (B q).sl sc, .int .i64 (B q).arg] 80)) := bel2 w _ _
      have xg0 : ((w.alloc (.cells #[.slice ra nr rc, .slice la nb lc] 36)).alloc (.cells #[.int .i64 (B q).kind, .slice sa (B q).sl sc, .int .i64 (B q).arg] 80)).cell? ⟨w.heap.size, 0, none⟩ = some (.slice ra nr rc) := cell_on (cN w.heap.size rfl rfl) (bel1 _ _)
      have xg1 : ((w.alloc (.cells #[.slice ra nr rc, .slice la nb lc] 36)).alloc (.cells #[.int .i64 (B q).kind, .slice sa (B q).sl sc, .int .i64 (B q).arg] 80)).cell? ⟨w.heap.size, 1, none⟩ = some (.slice la nb lc) := cell_on (cN w.heap.size rfl rfl) (bel1 _ _)
      have xk : ((w.alloc (.cells #[.slice ra nr rc, .slice la nb lc] 36)).alloc (.cells #[.int .i64 (B q).kind, .slice sa (B q).sl sc, .int .i64 (B q).arg] 80)).cell? ⟨w.heap.size + 1, 0, none⟩ = some (.int .i64 (B q).kind) := cN (w.heap.size + 1) (by simp) rfl
      have z1 : ¬ c = p := by omega
      have z2 : p ≤ m := by omega
      have z3 : m ≤ c := by omega
      have z4 : p ≤ c := by omega
      have z5 : ¬ c = 0 := by omega
      have z6 := wrap_small m (by omega)
      have z7 := wrap_small p (by omega)
      by_cases e4 : (B q).kind = 4
      · have f4 : ((B q).kind == 4) = true := by simp [e4]
        have f5 : ((B q).kind == 5) = false := by simp [e4]
        have E4 : Hid ((B q).kind = 4) := e4
        clear e4 e45 hN2 e67
        go_enter Try.func65, Try.ntmps65
        go_wp2_with fail
        refine (l2start_any b o (m + 1) c (fun i => B (lo + i)) _ Q (HOP.out _ (bel2 w _ _)) x4 m p (by omega) hpm d1'.out d2'.out).mono ?_
        rintro e W ⟨rfl, hw⟩
        subst W
        go_wp2
        generalize (w.alloc (.cells #[.slice ra nr rc, .slice la nb lc] 36)).alloc (.cells #[.int .i64 (B q).kind, .slice sa (B q).sl sc, .int .i64 (B q).arg] 80) = X at *
        have BX : Hid (Below w.heap.size w X) := bX
        have lX : ob < X.heap.size := by have := bX.size; omega
        have lX1 : w.heap.size + 1 < X.heap.size := lt_of_cell xk
        clear bX c0 c1 c2
        go_region_with (go_at_call 65; refine (IH.out s (by have := HSQ.out; omega) lo _ _ _ z out _ (by have := HSQ.out; omega) (HF.out.less (by have := HSQ.out; omega)) ST2.out HO.out (by have := HP.out; omega) z4 (HV.out.trans (BX.out.drew.mono HV.out.size)) (keep_row HR.out BX.out.drew)).mono ?_; rintro e W2 ⟨⟨v, rfl⟩, hr2, hk2⟩; have HR2 : Hid (W2.rowIs ob 4 (nr + nb) (fun j => .bool (out j || z.beg.has j))) := hr2; have HK2 : Hid (Keep (fun x => x = ob) X.drew W2) := hk2; have yk : W2.cell? ⟨w.heap.size + 1, 0, none⟩ = some (.int .i64 (B q).kind) := (hk2.cell (p := ⟨w.heap.size + 1, 0, none⟩) lX1 (show ¬ (w.heap.size + 1 = ob) by omega)).trans xk; have yg0 : W2.cell? ⟨w.heap.size, 0, none⟩ = some (.slice ra nr rc) := (hk2.cell (p := ⟨w.heap.size, 0, none⟩) (show w.heap.size < X.heap.size by omega) (show ¬ (w.heap.size = ob) by omega)).trans xg0; have yg1 : W2.cell? ⟨w.heap.size, 1, none⟩ = some (.slice la nb lc) := (hk2.cell (p := ⟨w.heap.size, 1, none⟩) (show w.heap.size < X.heap.size by omega) (show ¬ (w.heap.size = ob) by omega)).trans xg1; have hBV : Below V.heap.size V W2 := (HV.out.trans (BX.out.drew.mono HV.out.size)).trans (hk2.below (by have := HV.out.size; have := BX.out.size; show _ ≤ X.heap.size; omega) (fun k hk => by have := HOB.out; omega)); have BV2 : Hid (Below V.heap.size V W2) := hBV; clear hBV hr2 hk2)
        all_goals go_wp2
        by_cases hz : z.nul = true
        · have HZ : Hid (z.nul = true) := hz
          go_region_with (go_at_call 98; refine (l3null_any Q ra la nr rc nb lc b off N B mb mo mc S.has hN h1 h2 HK.out s lo _ _ _ z.nul _ (by have := HSQ.out; omega) (HF.out.less (by have := HSQ.out; omega)) (stk_nul ST2.out) HO.out (by have := HP.out; omega) z4 (fun i hi => (HB.out i hi).later BV2.out.drew) (HM.out.later BV2.out.drew)).mono ?_; rintro e W3 ⟨rfl, hb3⟩; have hb3' : Below W2.heap.size W2 W3 := (Below.refl _ W2).drew.trans hb3; have B3 : Hid (Below W2.heap.size W2 W3) := hb3'; have ug0 := cell_on yg0 hb3'; have ug1 := cell_on yg1 hb3'; clear hb3 hb3')
          all_goals go_wp2
          all_goals go_region_with (go_at_call 65; refine (IH.out q (by omega) s _ _ _ y (fun j => out j || z.beg.has j) _ (by omega) (HF.out.less (by omega)) ST1.out (by have := HO.out; have := HP.out; omega) (by have := HMM.out; have := HP.out; omega) (by omega) ((BV2.out.trans (B3.out.mono BV2.out.size)).drew) (keep_row HR2.out B3.out.drew)).mono ?_; rintro e W4 ⟨⟨v', rfl⟩, hr4, hk4⟩; have HR4 : Hid (W4.rowIs ob 4 (nr + nb) (fun j => .bool ((out j || z.beg.has j) || y.beg.has j))) := hr4; have HK4 : Hid (Keep (fun x => x = ob) W3.drew W4) := hk4; clear hr4 hk4)
          all_goals go_wp2
          all_goals go_end0
          all_goals exact ⟨⟨_, rfl⟩, row_or HR4.out (fun j hj => by rw [HX.out]; simp [valO, HN2.out, n0.out, E4.out, HZ.out, join_has, Bool.or_assoc]), (((((keep_bel BX.out).trans (Keep.drew _ X)).trans HK2.out).trans (keep_bel B3.out)).trans (Keep.drew _ W3)).trans HK4.out⟩
        · have hz2 : z.nul = false := by simpa using hz
          have HZ : Hid (z.nul = false) := hz2
          clear hz
          go_region_with (go_at_call 98; refine (l3null_any Q ra la nr rc nb lc b off N B mb mo mc S.has hN h1 h2 HK.out s lo _ _ _ z.nul _ (by have := HSQ.out; omega) (HF.out.less (by have := HSQ.out; omega)) (stk_nul ST2.out) HO.out (by have := HP.out; omega) z4 (fun i hi => (HB.out i hi).later BV2.out.drew) (HM.out.later BV2.out.drew)).mono ?_; rintro e W3 ⟨rfl, hb3⟩; have hb3' : Below W2.heap.size W2 W3 := (Below.refl _ W2).drew.trans hb3; have B3 : Hid (Below W2.heap.size W2 W3) := hb3'; clear hb3 hb3')
          all_goals go_wp2
          all_goals go_end0
          all_goals exact ⟨⟨_, rfl⟩, row_or (keep_row HR2.out B3.out) (fun j hj => by rw [HX.out]; simp [valO, HN2.out, n0.out, E4.out, HZ.out]), (((keep_bel BX.out).trans (Keep.drew _ X)).trans HK2.out).trans (keep_bel B3.out)⟩
      · have f4 : ((B q).kind == 4) = false := by simp [e4]
        have f5 : ((B q).kind == 5) = true := by rcases e45 with k | k; exact absurd k e4; simp [k]
        have E4 : Hid (¬ (B q).kind = 4) := e4
        have E5 : Hid ((B q).kind = 5) := by rcases e45 with k | k; exact absurd k e4; exact k
        clear e4 e45 hN2 e67
        go_enter Try.func65, Try.ntmps65
        go_wp2_with fail
        refine (l2start_any b o (m + 1) c (fun i => B (lo + i)) _ Q (HOP.out _ (bel2 w _ _)) x4 m p (by omega) hpm d1'.out d2'.out).mono ?_
        rintro e W ⟨rfl, hw⟩
        subst W
        go_wp2
        generalize (w.alloc (.cells #[.slice ra nr rc, .slice la nb lc] 36)).alloc (.cells #[.int .i64 (B q).kind, .slice sa (B q).sl sc, .int .i64 (B q).arg] 80) = X at *
        have BX : Hid (Below w.heap.size w X) := bX
        have lX : ob < X.heap.size := by have := bX.size; omega
        have lX1 : w.heap.size + 1 < X.heap.size := lt_of_cell xk
        clear bX c0 c1 c2
        go_region_with (go_at_call 65; refine (IH.out s (by have := HSQ.out; omega) lo _ _ _ z out _ (by have := HSQ.out; omega) (HF.out.less (by have := HSQ.out; omega)) ST2.out HO.out (by have := HP.out; omega) z4 (HV.out.trans (BX.out.drew.mono HV.out.size)) (keep_row HR.out BX.out.drew)).mono ?_; rintro e W2 ⟨⟨v, rfl⟩, hr2, hk2⟩; have HR2 : Hid (W2.rowIs ob 4 (nr + nb) (fun j => .bool (out j || z.beg.has j))) := hr2; have HK2 : Hid (Keep (fun x => x = ob) X.drew W2) := hk2; have yk : W2.cell? ⟨w.heap.size + 1, 0, none⟩ = some (.int .i64 (B q).kind) := (hk2.cell (p := ⟨w.heap.size + 1, 0, none⟩) lX1 (show ¬ (w.heap.size + 1 = ob) by omega)).trans xk; have yg0 : W2.cell? ⟨w.heap.size, 0, none⟩ = some (.slice ra nr rc) := (hk2.cell (p := ⟨w.heap.size, 0, none⟩) (show w.heap.size < X.heap.size by omega) (show ¬ (w.heap.size = ob) by omega)).trans xg0; have yg1 : W2.cell? ⟨w.heap.size, 1, none⟩ = some (.slice la nb lc) := (hk2.cell (p := ⟨w.heap.size, 1, none⟩) (show w.heap.size < X.heap.size by omega) (show ¬ (w.heap.size = ob) by omega)).trans xg1; have hBV : Below V.heap.size V W2 := (HV.out.trans (BX.out.drew.mono HV.out.size)).trans (hk2.below (by have := HV.out.size; have := BX.out.size; show _ ≤ X.heap.size; omega) (fun k hk => by have := HOB.out; omega)); have BV2 : Hid (Below V.heap.size V W2) := hBV; clear hBV hr2 hk2)
        all_goals go_wp2
        go_region
        go_wp2
        go_region_with (go_at_call 65; refine (IH.out q (by omega) s _ _ _ y (fun j => out j || z.beg.has j) _ (by omega) (HF.out.less (by omega)) ST1.out (by have := HO.out; have := HP.out; omega) (by have := HMM.out; have := HP.out; omega) (by omega) (BV2.out.drew.drew) HR2.out).mono ?_; rintro e W4 ⟨⟨v', rfl⟩, hr4, hk4⟩; have HR4 : Hid (W4.rowIs ob 4 (nr + nb) (fun j => .bool ((out j || z.beg.has j) || y.beg.has j))) := hr4; have HK4 : Hid (Keep (fun x => x = ob) W2.drew.drew W4) := hk4; clear hr4 hk4)
        all_goals go_wp2
        all_goals go_end0
        all_goals exact ⟨⟨_, rfl⟩, row_or HR4.out (fun j hj => by rw [HX.out]; simp [valO, HN2.out, n0.out, E4.out, E5.out, join_has, Bool.or_assoc]), (((((keep_bel BX.out).trans (Keep.drew _ X)).trans HK2.out).trans (Keep.drew _ W2)).trans (Keep.drew _ W2.drew)).trans HK4.out⟩
    · have g4 : ((B q).kind == 4) = false := by simp; exact fun k => e45 (.inl k)
      have g5 : ((B q).kind == 5) = false := by simp; exact fun k => e45 (.inr k)
      have hx : Hid (x.beg = nz) := by
        show _ = _
        have n2 : ¬ (B q).kind = 2 := fun k => hN2 (.inl k)
        have n3 : ¬ (B q).kind = 3 := fun k => hN2 (.inr k)
        have n4 : ¬ (B q).kind = 4 := fun k => e45 (.inl k)
        have n5 : ¬ (B q).kind = 5 := fun k => e45 (.inr k)
        have n6 : ¬ (B q).kind = 6 := fun k => e67 (.inl k)
        have n7 : ¬ (B q).kind = 7 := fun k => e67 (.inr k)
        have hc : (B q).kind = 0 ∨ (B q).kind = 1 := by omega
        have h0 : M.ar (B q).kind = 0 := by rcases hc with e | e <;> rw [e] <;> rfl
        rw [(M.leaf_at _ B q lo x h0 HS.out).2]
        rcases hc with e | e <;> simp [valO, HN2.out, e]
      clear e45 hN2 e67
      go_enter Try.func65, Try.ntmps65
      go_wp2
      go_end0
      exact ⟨⟨_, rfl⟩, row_or (keep_row HR.out (bel2 w _ _)) (fun j hj => by rw [hx.out, nz_has, Bool.or_false]), keep_bel (bel2 w _ _)⟩

end Go.Proofs.Ytjpcojabdjldbaa
