import Derived.Test.YteoddjobpmmgeaaGreatT20
set_option linter.unusedVariables false
set_option linter.unusedSimpArgs false
namespace Go.Proofs.YteoddjobpmmgeaaGreat
section
open Go.RowKit
open M (OpD NodeD Gr)
def BufR (rb : Nat) (w0 : World) (z : List Int) (v : Value) (wr : World) : Prop := OwnC (New w0 wr) wr v 1 z.length (intVs .u8 (lf z) z.length) ∧ Keep (fun b => b = rb) w0 wr
theorem BufR.nil {rb : Nat} {w0 wr : World} (h : Keep (fun b => b = rb) w0 wr) : BufR rb w0 [] (.slice none 0 0) wr := ⟨.inl ⟨rfl, rfl, rfl⟩, h⟩
theorem BufR.shape {rb : Nat} {w0 wr : World} {l : List Int} {v : Value} (h : BufR rb w0 l v wr) : ∃ a c, v = .slice a l.length c := own_shape h.1
theorem BufR.later {rb : Nat} {w0 wr W : World} {l : List Int} {v : Value} (h : BufR rb w0 l v wr) (hr : rb < w0.heap.size) (k : Keep (fun b => b = rb) wr W) : BufR rb w0 l v W :=
  ⟨ownC_wide (h.1.on (fun b hb => k.block b hb.2 (fun e => by have := hb.1; omega))) (fun b hb => ⟨hb.1, Nat.lt_of_lt_of_le hb.2 k.size⟩), h.2.trans k⟩
theorem BufR.snoc {rb : Nat} {w0 wr W1 W5 : World} {l : List Int} {v5 : Value} {x : Int} (hk : Keep (fun b => b = rb) w0 wr) (k1 : Keep (fun _ => False) wr W1) (own : OwnC (fun b => New w0 wr b ∨ W1.heap.size ≤ b) W5 v5 1 (l.length + 1) (intVs .u8 (lf l) l.length ++ [.int .u8 x])) (g : Grew (fun b => New w0 wr b) W1 W5) : BufR rb w0 (l ++ [x]) v5 W5 := by
  have z1 := k1.size
  have z2 := g.size
  have z0 := hk.size
  refine ⟨?_, ?_⟩
  · rw [List.length_append, List.length_singleton, ← intVs_snoc]
    rcases own with ⟨_, q, _⟩ | ⟨b, cap, e, hq, h3, h4, h5, h6⟩
    · omega
    refine .inr ⟨b, cap, e, ⟨?_, ?_⟩, h3, h4, h5, h6⟩
    · rcases hq with q | q
      · exact q.1
      · omega
    · obtain ⟨u, hu⟩ := Option.isSome_iff_exists.1 (h6 0 (by omega)).1
      exact lt_of_cell hu
  · have k2 := hk.trans (keepF (rb := rb) k1)
    exact ⟨g.os.trans k2.os, g.tape.trans k2.tape, g.output.trans k2.output, Nat.le_trans k2.size g.size, fun b hb hn => (g.block b (Nat.lt_of_lt_of_le hb k2.size) (fun q => by have := q.1; omega)).trans (k2.block b hb hn)⟩
theorem BufR.ints {rb : Nat} {w0 wr : World} {l : List Int} {a : Option Addr} {n c : Nat} (h : BufR rb w0 l (.slice a n c) wr) : Ints (New w0 wr) .u8 wr a l.length (lf l) := by
  obtain ⟨a', c', e⟩ := own_shape h.1
  injection e with e1 e2 e3
  subst e1 e2 e3
  exact own_lists h.1
def kk (k : Int) : Int := if k = 110 then 97 else k
def ScS (res : Option (List Int × Nat)) (i : Nat) (rb : Nat) (t : Tx) (r : Rv) (w : World) (e : Ending) (w' : World) : Prop :=
  Keep (fun b => b = rb) w w' ∧ ((∃ z j, res = some (z, j) ∧ e = .returned (.agg #[.int .u8 34, .int .i64 (i : Nat), .string (str z.length (lf z)), .slice none 0 0]) ∧ RB rb t r j w') ∨ (res = none ∧ e = .panicked (flt 5 (i : Nat))))
def strI (rb : Nat) (t : Tx) (r : Rv) (w0 : World) (R : Option (List Int × Nat)) (v : Value) (wr : World) : Prop :=
  ∃ (f j : Nat) (z : List Int), j ≤ t.n ∧ t.n - j < f ∧ z.length ≤ j ∧ strF t f j z = R ∧ RB rb t r j wr ∧ BufR rb w0 z v wr
theorem strF_step (t : Tx) (f j : Nat) (z : List Int) : strF t (f + 1) j z = if j < t.n ∧ t.T j = 34 then some (z, j + 1) else match chM t j false with | none => none | some (c, j') => strF t f j' (z ++ [c]) := by
  rw [strF]
  split
  · rfl
  · unfold chM
    split <;> rfl
theorem chM_rng {t : Tx} {i : Nat} {cls : Bool} {c : Int} {j : Nat} (hi : i ≤ t.n) (h : chM t i cls = some (c, j)) : i < j ∧ j ≤ t.n ∧ 0 ≤ c ∧ c ≤ 255 := by
  have := chr_rng t i cls hi
  unfold chM at h
  split at h
  · cases h
  · injection h with h
    injection h with h1 h2
    omega
abbrev tkZ : Array Value := #[.int .u8 0, .int .i64 0, .string ⟨#[]⟩, .slice none 0 0]
def lenW : Value → Nat
  | .slice _ n _ => n
  | _ => 0
theorem keepX {rb : Nat} {w W : World} (k : Keep (fun b => b = rb) w W) {b o : Nat} {v : Value} (hb : w.heap.size ≤ b) : Keep (fun b => b = rb) w (W.setCell ⟨b, o, none⟩ v) :=
  ⟨k.os, k.tape, k.output, by rw [size_set]; exact k.size, fun x hx hn => (Below.heap_setCell _ _ _ _ (fun e => by have e' : x = b := e; omega)).trans (k.block x hx hn)⟩
theorem RB.setX {rb : Nat} {t : Tx} {r : Rv} {i : Nat} {w : World} (h : RB rb t r i w) {b o : Nat} {v : Value} (hb : b ≠ rb) : RB rb t r i (w.setCell ⟨b, o, none⟩ v) := (Below.heap_setCell _ _ _ _ (fun e => hb (by exact e.symm))).trans h
set_option maxHeartbeats 2000000 in
set_option maxRecDepth 100000 in
theorem scanString_any (rb : Nat) (t : Tx) (r : Rv) (i : Nat) (w : World) (hB : RB rb t r i w) (hT : TxQ rb w r.ta t) (hi : i < t.n) :
    Calls Tryz.prog 61 #[.pointer (some ⟨rb, 0, none⟩)] w (ScS (strT t i) i rb t r w) := by
  have hn := t.le
  have HB : Hid (RB rb t r i w) := hB
  have HT : Hid (TxQ rb w r.ta t) := hT
  have hrb : rb < w.heap.size := hB.lt
  clear hB hT
  have c1 : w.cell? ⟨rb, 1, none⟩ = some (.int .i64 (i : Nat)) := blk_cell HB.out rfl
  have f1 : w.frozen? ⟨rb, 1, none⟩ = false := blk_frz HB.out
  obtain ⟨R, hR⟩ : ∃ R, strT t i = R := ⟨_, rfl⟩
  rw [hR]
  have HR : Hid (strF t (t.n - i) (i + 1) [] = R) := hR
  clear hR
  go_enter Tryz.func61, Tryz.ntmps61
  go_wp2
  obtain ⟨W0, hW0⟩ : ∃ W0, W0 = (w.setCell ⟨rb, 1, none⟩ (.int .i64 ((i : Int) + 1))).alloc (.cells tkZ 59) := ⟨_, rfl⟩
  have HK0 : Hid (Keep (fun b => b = rb) w W0) := by rw [hW0]; exact (keepC (Keep.refl _ w) _ _).trans (Keep.alloc _ _ _)
  have HB0 : Hid (RB rb t r (i + 1) W0) := by rw [hW0]; exact (HB.out.set (i + 1) (by simp)).keep (Keep.alloc _ _ _)
  have HZ0 : Hid (W0.heap[w.heap.size]? = some (.cells tkZ 59)) := by rw [hW0]; exact blk_new _ _ _ (by rw [size_set])
  rw [← hW0]
  clear hW0 c1 f1
  go_loopw [4] (strI rb t r W0 R) (fun v _ => t.n + 1 - lenW v)
  case atStart => exact ⟨t.n - i, i + 1, [], hi, by omega, by simp, HR.out, HB0.out, BufR.nil (Keep.refl _ _)⟩
  case round =>
    obtain ⟨f, j, z, hj, hf, hz, hR, hB, hU⟩ := hrel
    obtain ⟨f, rfl⟩ : ∃ q, f = q + 1 := ⟨f - 1, by omega⟩
    obtain ⟨va, vc, rfl⟩ := hU.shape
    have HR1 : Hid ((if j < t.n ∧ t.T j = 34 then some (z, j + 1) else match chM t j false with | none => none | some (c, j') => strF t f j' (z ++ [c])) = R) := by
      rw [← strF_step]
      exact hR
    have HU : Hid (BufR rb W0 z (.slice va z.length vc) wr) := hU
    have HKW : Hid (Keep (fun b => b = rb) w wr) := HK0.out.trans hU.2
    have hsk := skip_any rb t r j 34 wr hB (HT.out.keep HKW.out) hj
    have hrb0 : rb < W0.heap.size := Nat.lt_of_lt_of_le hrb HK0.out.size
    clear hR hB hU HR
    by_cases hq : j < t.n ∧ t.T j = 34
    · rw [decide_eq_true hq, if_pos hq] at hsk
      have HE : Hid (R = some (z, j + 1)) := by
        have h := HR1.out
        rw [if_pos hq] at h
        exact h.symm
      clear HR1 hq
      go_wp2_with fail
      refine hsk.mono ?_
      clear hsk
      rintro e W ⟨hk, rfl, hB'⟩
      have HBW : Hid (RB rb t r (j + 1) W) := hB'
      have HK : Hid (Keep (fun b => b = rb) w W) := HKW.out.trans hk
      have hUW := HU.out.later hrb0 hk
      have hcv := conv_run _ va z.length vc (lf z) W hUW.ints
      have cR : W.heap[w.heap.size]? = some (.cells tkZ 59) := (hUW.2.block w.heap.size (Array.getElem?_eq_some_iff.1 HZ0.out).1 (by show ¬ w.heap.size = rb; omega)).trans HZ0.out
      have z0 : W.cell? ⟨w.heap.size, 0, none⟩ = some (.int .u8 0) := blk_cell cR rfl
      have z1 : W.cell? ⟨w.heap.size, 1, none⟩ = some (.int .i64 0) := blk_cell cR rfl
      have z2 : W.cell? ⟨w.heap.size, 2, none⟩ = some (.string ⟨#[]⟩) := blk_cell cR rfl
      have z3 : W.cell? ⟨w.heap.size, 3, none⟩ = some (.slice none 0 0) := blk_cell cR rfl
      have g0 : W.frozen? ⟨w.heap.size, 0, none⟩ = false := blk_frz cR
      have g1 : W.frozen? ⟨w.heap.size, 1, none⟩ = false := blk_frz cR
      have g2 : W.frozen? ⟨w.heap.size, 2, none⟩ = false := blk_frz cR
      have g3 : W.frozen? ⟨w.heap.size, 3, none⟩ = false := blk_frz cR
      clear hk hB' hUW cR
      generalize hsz : str z.length (lf z) = sz at *
      have HSZ : Hid (str z.length (lf z) = sz) := hsz
      clear hsz
      go_wp2
      refine bodyPost_ret (v := .agg #[.int .u8 34, .int .i64 (i : Nat), .string sz, .slice none 0 0]) ?_ rfl ?_
      · simp [results, Tryz.f61, go_sem, *]
      · refine ⟨keepX (keepX (keepX (keepX HK.out (Nat.le_refl _)) (Nat.le_refl _)) (Nat.le_refl _)) (Nat.le_refl _), .inl ⟨z, j + 1, HE.out, by rw [HSZ.out], ?_⟩⟩
        exact (((HBW.out.setX (by omega)).setX (by omega)).setX (by omega)).setX (by omega)
    · rw [decide_eq_false hq, if_neg hq] at hsk
      have HR2 : Hid ((match chM t j false with | none => none | some (c, j') => strF t f j' (z ++ [c])) = R) := by
        have h := HR1.out
        rw [if_neg hq] at h
        exact h
      have H34 : Hid (j < t.n → t.T j ≠ 34) := fun h1 h2 => hq ⟨h1, h2⟩
      clear HR1 hq
      go_wp2_with fail
      refine hsk.mono ?_
      clear hsk
      rintro e W ⟨hk, rfl, hB'⟩
      have HK : Hid (Keep (fun b => b = rb) w W) := HKW.out.trans hk
      have HUW : Hid (BufR rb W0 z (.slice va z.length vc) W) := HU.out.later hrb0 hk
      have hch := character_any false rb t r j (i : Nat) W hB' (HT.out.keep HK.out) hj (fun _ => H34.out)
      clear hk hB' HU H34
      go_wp2_with fail
      refine hch.mono ?_
      clear hch
      rintro e W2 ⟨hk2, ⟨c, j', hres, rfl, hB2⟩ | ⟨hres, rfl⟩⟩
      · have hrg := chM_rng hj hres
        have HR3 : Hid (strF t f j' (z ++ [c]) = R) := by
          have h := HR2.out
          rw [hres] at h
          exact h
        have HU2 : Hid (BufR rb W0 z (.slice va z.length vc) W2) := HUW.out.later hrb0 hk2
        have HB2 : Hid (RB rb t r j' W2) := hB2
        have HNX : Hid (∀ W5 v5, OwnC (fun b => New W0 W2 b ∨ (W2.alloc (.cells #[.int .u8 c] 5)).heap.size ≤ b) W5 v5 1 (z.length + 1) (intVs .u8 (lf z) z.length ++ [.int .u8 c]) → Grew (fun b => New W0 W2 b) (W2.alloc (.cells #[.int .u8 c] 5)) W5 → strI rb t r W0 R v5 W5) := fun W5 v5 hown hgrew =>
          ⟨f, j', z ++ [c], hrg.2.1, by omega, by simp; omega, HR3.out, (hgrew.block rb (Nat.lt_of_lt_of_le HB2.out.lt (by simp)) (fun q => by have := q.1; omega)).trans (HB2.out.keep (Keep.alloc _ _ _)), BufR.snoc HU2.out.2 (Keep.alloc _ _ _) hown hgrew⟩
        have hzl : z.length + 1 ≤ t.n := by omega
        clear hk2 hB2 hres HR2 HUW
        go_wp2_with (at_builtin; refine appE rfl _ _ 22 22 rfl rfl rfl elem22 (Q := New W0 W2) (n := z.length) (cs := intVs .u8 (lf z) z.length) (m := 1) (news := [.int .u8 c]) (HU2.out.1.on (fun b hb => Below.heap_alloc W2 _ _ hb.2)) (src_u8 W2 c) (by omega) ?_; intro v5 W5 hown hgrew hsz; obtain ⟨a5, c5, rfl⟩ := own_shape hown; have HE : Hid (strI rb t r W0 R (.slice a5 (z.length + 1) c5) W5) := HNX.out _ _ hown hgrew; clear hown hgrew hsz)
        go_roundw
        all_goals first
          | exact HE.out
          | (simp [lenW]; omega)
      · have HN : Hid (R = none) := by
          have h := HR2.out
          rw [hres] at h
          exact h.symm
        have HK2 : Hid (Keep (fun b => b = rb) w W2) := HK.out.trans hk2
        clear hk2 hres
        go_wp2
        exact ⟨rfl, HK2.out, .inr ⟨HN.out, rfl⟩⟩
def ScN (i : Nat) (rb : Nat) (t : Tx) (r : Rv) (w : World) (e : Ending) (w' : World) : Prop :=
  Keep (fun b => b = rb) w w' ∧ ((M.Letter (t.T i) ∧ e = .returned (.agg #[.int .u8 97, .int .i64 (i : Nat), .string (str (nameF t (t.n - i) i []).1.length (lf (nameF t (t.n - i) i []).1)), .slice none 0 0]) ∧ RB rb t r (nameF t (t.n - i) i []).2 w') ∨ (¬ M.Letter (t.T i) ∧ e = .panicked (flt 5 (i : Nat))))
def atOf (rb : Nat) (w : World) : Nat := match w.cell? ⟨rb, 1, none⟩ with | some (.int _ x) => x.toNat | _ => 0
theorem RB.at_ {rb : Nat} {t : Tx} {r : Rv} {i : Nat} {w : World} (h : RB rb t r i w) : atOf rb w = i := by
  have c1 : w.cell? ⟨rb, 1, none⟩ = some (.int .i64 (i : Nat)) := blk_cell h rfl
  unfold atOf
  rw [c1]
  simp
def nmI (rb : Nat) (t : Tx) (r : Rv) (i : Nat) (W0 : World) (R : List Int × Nat) (v : Value) (wr : World) : Prop :=
  ∃ (f j : Nat) (z : List Int), i ≤ j ∧ j ≤ t.n ∧ t.n - j ≤ f ∧ z.length = j - i ∧ (∀ k, k < z.length → lf z k = t.T (i + k)) ∧ nameF t f j z = R ∧ RB rb t r j wr ∧ Keep (fun b => b = rb) W0 wr
theorem lf_snoc_lt (z : List Int) (x : Int) {k : Nat} (h : k < z.length) : lf (z ++ [x]) k = lf z k := by
  unfold lf
  rw [List.getD_eq_getElem?_getD, List.getD_eq_getElem?_getD, List.getElem?_append_left h]
theorem lf_snoc_eq (z : List Int) (x : Int) : lf (z ++ [x]) z.length = x := by
  unfold lf
  rw [List.getD_eq_getElem?_getD, List.getElem?_append_right (Nat.le_refl _)]
  simp
set_option maxHeartbeats 2000000 in
set_option maxRecDepth 100000 in
theorem scanName_any (rb : Nat) (t : Tx) (r : Rv) (i : Nat) (w : World) (hB : RB rb t r i w) (hT : TxQ rb w r.ta t) (hi : i < t.n) (htc : t.n ≤ r.tc) :
    Calls Tryz.prog 63 #[.pointer (some ⟨rb, 0, none⟩)] w (ScN i rb t r w) := by
  have hn := t.le
  have HB : Hid (RB rb t r i w) := hB
  have HT : Hid (TxQ rb w r.ta t) := hT
  have hrb : rb < w.heap.size := hB.lt
  obtain ⟨b, off, e, hq, hcell⟩ := hT.at hi
  have cT := hcell i hi
  have bT := t.byt i
  have c0 : w.cell? ⟨rb, 0, none⟩ = some (.slice r.ta t.n r.tc) := blk_cell hB rfl
  have c1 : w.cell? ⟨rb, 1, none⟩ = some (.int .i64 (i : Nat)) := blk_cell hB rfl
  rw [e] at c0
  have hi' : (i : Int) < t.n := by omega
  have hbw : b < w.heap.size := hq.1
  have hbr : ¬ b = rb := hq.2
  have HTA : Hid (r.ta = some ⟨b, off, none⟩) := e
  clear hB hT hcell hq e
  go_enter Tryz.func63, Tryz.ntmps63
  go_wp2_with fail
  obtain ⟨W0, hW0⟩ : ∃ W0, W0 = w.alloc (.cells tkZ 59) := ⟨_, rfl⟩
  have HK0 : Hid (Keep (fun b => b = rb) w W0) := by rw [hW0]; exact Keep.alloc _ _ _
  have HB0 : Hid (RB rb t r i W0) := by rw [hW0]; exact HB.out.keep (Keep.alloc _ _ _)
  have HZ0 : Hid (W0.heap[w.heap.size]? = some (.cells tkZ 59)) := by rw [hW0]; exact blk_new _ _ _ rfl
  rw [← hW0]
  clear hW0 c1 c0 cT
  refine (beginsName_any (t.T i) _ bT.1 bT.2).mono ?_
  rintro e W ⟨⟨rr, rfl, hrr⟩, hw⟩
  subst W
  by_cases hL : M.Letter (t.T i)
  · obtain rfl : rr = true := hrr.2 hL
    obtain ⟨R, hR⟩ : ∃ R, nameF t (t.n - i) i [] = R := ⟨_, rfl⟩
    have HFIN : Hid (∀ w' j z, R = (z, j) → Keep (fun b => b = rb) w w' → RB rb t r j w' → ScN i rb t r w (.returned (.agg #[.int .u8 97, .int .i64 (i : Nat), .string (str z.length (lf z)), .slice none 0 0])) w') := fun w' j z e1 k h => ⟨k, .inl ⟨hL, by rw [hR, e1], by rw [hR, e1]; exact h⟩⟩
    have HR : Hid (nameF t (t.n - i) i [] = R) := hR
    clear hrr hL hR
    go_wp2
    go_loopw [42] (nmI rb t r i W0 R) (fun _ wr => t.n - atOf rb wr)
    case atStart => exact ⟨t.n - i, i, [], Nat.le_refl _, by omega, by omega, by simp, (fun k hk => by simp at hk), HR.out, HB0.out, Keep.refl _ _⟩
    case round =>
      obtain ⟨f, j, z, hij, hj, hf, hz, hzk, hR, hB, hK⟩ := hrel
      have HZK : Hid (∀ k, k < z.length → lf z k = t.T (i + k)) := hzk
      have HZL : Hid (z.length = j - i) := hz
      have HBJ : Hid (RB rb t r j wr) := hB
      have HKJ : Hid (Keep (fun b => b = rb) W0 wr) := hK
      have HKW : Hid (Keep (fun b => b = rb) w wr) := HK0.out.trans hK
      have hTJ : TxQ rb wr r.ta t := HT.out.keep HKW.out
      have HN1 : Hid ((if j < t.n ∧ nameC (t.T j) then nameF t (f - 1) (j + 1) (z ++ [t.T j]) else (z, j)) = R) := by
        rw [← name_step t hf]
        exact hR
      have d0 : wr.cell? ⟨rb, 0, none⟩ = some (.slice r.ta t.n r.tc) := blk_cell hB rfl
      have d1 : wr.cell? ⟨rb, 1, none⟩ = some (.int .i64 (j : Nat)) := blk_cell hB rfl
      have g1 : wr.frozen? ⟨rb, 1, none⟩ = false := blk_frz hB
      rw [HTA.out] at d0
      have HEND : Hid (¬ (j < t.n ∧ nameC (t.T j)) → R = (z, j)) := fun h => by
        have q := HN1.out
        rw [if_neg h] at q
        exact q.symm
      have HNXT : Hid ((j < t.n ∧ nameC (t.T j)) → ∀ n, nmI rb t r i W0 R (.bool true) ((wr.drewN n).setCell ⟨rb, 1, none⟩ (.int .i64 ((j : Int) + 1))) ∧ atOf rb ((wr.drewN n).setCell ⟨rb, 1, none⟩ (.int .i64 ((j : Int) + 1))) = j + 1) := fun h n => by
        have q := HN1.out
        rw [if_pos h] at q
        have hbb : RB rb t r (j + 1) ((wr.drewN n).setCell ⟨rb, 1, none⟩ (.int .i64 ((j : Int) + 1))) := (HBJ.out.keep (keep_drewN wr n)).set (j + 1) (by simp)
        refine ⟨⟨f - 1, j + 1, z ++ [t.T j], by omega, h.1, by have := h.1; omega, by rw [List.length_append, HZL.out]; simp; omega, fun k hk => ?_, q, hbb, keepC (keepD HKJ.out n) _ _⟩, hbb.at_⟩
        rw [List.length_append, List.length_singleton] at hk
        by_cases e : k < z.length
        · rw [lf_snoc_lt _ _ e]; exact HZK.out k e
        · obtain rfl : k = z.length := by omega
          rw [lf_snoc_eq, HZL.out, show i + (j - i) = j by omega]
      have HAT : Hid (atOf rb wr = j) := hB.at_
      have HLAST : Hid (¬ (j < t.n ∧ nameC (t.T j)) → ∀ n V, V = wr.drewN n → (convert 22 9 (.slice (some ⟨b, off + i, none⟩) (j - i) (r.tc - i))).run Tryz.prog V.drew = .ok (.string (str z.length (lf z))) V.drew) := fun h n V hV => by
        subst hV
        have hI : Ints (fun b => b < wr.heap.size ∧ b ≠ rb) .u8 ((wr.drewN n).drew) (some ⟨b, off + i, none⟩) (j - i) (fun k => t.T (i + k)) := by
          rcases (hTJ.keep (rb := rb) (keepF ((keep_drewN wr n).trans (Keep.drew _ _)))) with q | ⟨b', off', e', hq', hc'⟩
          · omega
          · rw [HTA.out] at e'
            injection e' with e'
            injection e' with e1 e2
            subst e1 e2
            exact .inr ⟨b, off + i, rfl, by simpa using hq', fun k hk => by rw [Nat.add_assoc]; exact hc' (i + k) (by omega)⟩
        have hr := conv_run _ (some ⟨b, off + i, none⟩) (j - i) (r.tc - i) (fun k => t.T (i + k)) _ hI
        have hs : str (j - i) (fun k => t.T (i + k)) = str z.length (lf z) := (str_eq _ _ _ _ (fun k _ => t.byt _) (fun k hk => by rw [HZK.out k hk]; exact t.byt _)).2 ⟨HZL.out.symm, fun k hk => (HZK.out k (by rw [HZL.out]; exact hk)).symm⟩
        rw [hs] at hr
        exact hr
      have HCR : Hid (∀ n, (wr.drewN n).heap[w.heap.size]? = some (.cells tkZ 59)) := fun n => ((keep_drewN wr n).block w.heap.size (Nat.lt_of_lt_of_le (Array.getElem?_eq_some_iff.1 HZ0.out).1 HKJ.out.size) (fun q => q)).trans ((HKJ.out.block w.heap.size (Array.getElem?_eq_some_iff.1 HZ0.out).1 (by show ¬ w.heap.size = rb; omega)).trans HZ0.out)
      clear hzk hz hB hK hR hTJ HN1
      by_cases hjl : j < t.n
      · have hjl' : (j : Int) < t.n := by omega
        have hTJ2 : TxQ rb wr r.ta t := HT.out.keep HKW.out
        obtain ⟨b', off', e', _, hcell'⟩ := hTJ2.at hjl
        rw [HTA.out] at e'
        injection e' with e'
        injection e' with e1 e2
        subst e1 e2
        have dT := hcell' j hjl
        have bJ := t.byt j
        clear hcell' hTJ2
        by_cases hnc : nameC (t.T j)
        · have HNX := Hid.out HNXT ⟨hjl, hnc⟩
          have HNX : Hid (∀ n, nmI rb t r i W0 R (.bool true) ((wr.drewN n).setCell ⟨rb, 1, none⟩ (.int .i64 ((j : Int) + 1))) ∧ atOf rb ((wr.drewN n).setCell ⟨rb, 1, none⟩ (.int .i64 ((j : Int) + 1))) = j + 1) := HNX
          have HC : Hid (∀ d, Calls Tryz.prog 82 #[.int .u8 (t.T j)] (wr.drewN d) fun e w' => e = .returned (.bool true) ∧ w' = wr.drewN d) := fun d => (continuesName_any (t.T j) _ bJ.1 bJ.2).mono (fun e W h => by
            obtain ⟨⟨r', rfl, hr'⟩, rfl⟩ := h
            obtain rfl : r' = true := hr'.2 hnc
            exact ⟨rfl, rfl⟩)
          clear hnc HNXT HEND HLAST
          go_upto_region 4 with fail
          go_quiet (first | (go_at_call 82; exact Calls.quiet_of_same (HC.out _)))
          go_wp2
          go_roundw
          case rel => exact (HNX.out _).1
          case measure => rw [(HNX.out _).2, HAT.out]; omega
        · have HE : Hid (R = (z, j)) := HEND.out (fun q => hnc q.2)
          have HCV := Hid.out HLAST (fun q => hnc q.2)
          have HCV : Hid (∀ n V, V = wr.drewN n → (convert 22 9 (.slice (some ⟨b, off + i, none⟩) (j - i) (r.tc - i))).run Tryz.prog V.drew = .ok (.string (str z.length (lf z))) V.drew) := HCV
          have HC : Hid (∀ d, Calls Tryz.prog 82 #[.int .u8 (t.T j)] (wr.drewN d) fun e w' => e = .returned (.bool false) ∧ w' = wr.drewN d) := fun d => (continuesName_any (t.T j) _ bJ.1 bJ.2).mono (fun e W h => by
            obtain ⟨⟨r', rfl, hr'⟩, rfl⟩ := h
            obtain rfl : r' = false := by { cases r'; rfl; exact absurd (hr'.1 rfl) hnc }
            exact ⟨rfl, rfl⟩)
          clear hnc HNXT HEND HLAST
          go_upto_region 4 with fail
          go_quiet (first | (go_at_call 82; exact Calls.quiet_of_same (HC.out _)))
          go_upto_region 6 with fail
          obtain ⟨V, hV⟩ : ∃ V, V = wr.drewN nq := ⟨_, rfl⟩
          have hcv := HCV.out nq V hV
          have HBV : Hid (RB rb t r j V) := by rw [hV]; exact HBJ.out.keep (keep_drewN wr nq)
          have HKV : Hid (Keep (fun b => b = rb) w V) := by rw [hV]; exact keepD HKW.out nq
          have cR : V.heap[w.heap.size]? = some (.cells tkZ 59) := by rw [hV]; exact HCR.out nq
          rw [← hV]
          clear hV d0 d1 g1
          have d0 : V.cell? ⟨rb, 0, none⟩ = some (.slice r.ta t.n r.tc) := blk_cell HBV.out rfl
          have d1 : V.cell? ⟨rb, 1, none⟩ = some (.int .i64 (j : Nat)) := blk_cell HBV.out rfl
          rw [HTA.out] at d0
          have z0 : V.cell? ⟨w.heap.size, 0, none⟩ = some (.int .u8 0) := blk_cell cR rfl
          have z1 : V.cell? ⟨w.heap.size, 1, none⟩ = some (.int .i64 0) := blk_cell cR rfl
          have z2 : V.cell? ⟨w.heap.size, 2, none⟩ = some (.string ⟨#[]⟩) := blk_cell cR rfl
          have z3 : V.cell? ⟨w.heap.size, 3, none⟩ = some (.slice none 0 0) := blk_cell cR rfl
          have g0 : V.frozen? ⟨w.heap.size, 0, none⟩ = false := blk_frz cR
          have g1 : V.frozen? ⟨w.heap.size, 1, none⟩ = false := blk_frz cR
          have g2 : V.frozen? ⟨w.heap.size, 2, none⟩ = false := blk_frz cR
          have g3 : V.frozen? ⟨w.heap.size, 3, none⟩ = false := blk_frz cR
          have l1 : (j : Int) ≤ r.tc := by omega
          have l2 : ¬ r.tc = i := by omega
          clear cR HCV
          generalize hsz : str z.length (lf z) = sz at *
          have HSZ : Hid (str z.length (lf z) = sz) := hsz
          clear hsz
          go_region
          all_goals go_wp2
          refine bodyPost_ret (v := .agg #[.int .u8 97, .int .i64 (i : Nat), .string sz, .slice none 0 0]) ?_ rfl ?_
          · simp [results, Tryz.f63, go_sem, *]
          · have h := HFIN.out ((((V.drew.setCell ⟨w.heap.size, 0, none⟩ (.int .u8 97)).setCell ⟨w.heap.size, 1, none⟩ (.int .i64 (i : Nat))).setCell ⟨w.heap.size, 2, none⟩ (.string sz)).setCell ⟨w.heap.size, 3, none⟩ (.slice none 0 0)) j z HE.out (keepX (keepX (keepX (keepX (HKV.out.trans (Keep.drew _ _)) (Nat.le_refl _)) (Nat.le_refl _)) (Nat.le_refl _)) (Nat.le_refl _)) (((((HBV.out.keep (Keep.drew _ _)).setX (by omega)).setX (by omega)).setX (by omega)).setX (by omega))
            rw [HSZ.out] at h
            exact h
      · have HE : Hid (R = (z, j)) := HEND.out (fun q => hjl q.1)
        have HCV := Hid.out HLAST (fun q => hjl q.1)
        have HCV : Hid (∀ n V, V = wr.drewN n → (convert 22 9 (.slice (some ⟨b, off + i, none⟩) (j - i) (r.tc - i))).run Tryz.prog V.drew = .ok (.string (str z.length (lf z))) V.drew) := HCV
        have hjl' : ¬ (j : Int) < t.n := by omega
        clear HNXT HEND HLAST
        go_upto_region 4 with fail
        go_quiet (fail)
        go_upto_region 6 with fail
        obtain ⟨V, hV⟩ : ∃ V, V = wr.drewN nq := ⟨_, rfl⟩
        have hcv := HCV.out nq V hV
        have HBV : Hid (RB rb t r j V) := by rw [hV]; exact HBJ.out.keep (keep_drewN wr nq)
        have HKV : Hid (Keep (fun b => b = rb) w V) := by rw [hV]; exact keepD HKW.out nq
        have cR : V.heap[w.heap.size]? = some (.cells tkZ 59) := by rw [hV]; exact HCR.out nq
        rw [← hV]
        clear hV d0 d1 g1
        have d0 : V.cell? ⟨rb, 0, none⟩ = some (.slice r.ta t.n r.tc) := blk_cell HBV.out rfl
        have d1 : V.cell? ⟨rb, 1, none⟩ = some (.int .i64 (j : Nat)) := blk_cell HBV.out rfl
        rw [HTA.out] at d0
        have z0 : V.cell? ⟨w.heap.size, 0, none⟩ = some (.int .u8 0) := blk_cell cR rfl
        have z1 : V.cell? ⟨w.heap.size, 1, none⟩ = some (.int .i64 0) := blk_cell cR rfl
        have z2 : V.cell? ⟨w.heap.size, 2, none⟩ = some (.string ⟨#[]⟩) := blk_cell cR rfl
        have z3 : V.cell? ⟨w.heap.size, 3, none⟩ = some (.slice none 0 0) := blk_cell cR rfl
        have g0 : V.frozen? ⟨w.heap.size, 0, none⟩ = false := blk_frz cR
        have g1 : V.frozen? ⟨w.heap.size, 1, none⟩ = false := blk_frz cR
        have g2 : V.frozen? ⟨w.heap.size, 2, none⟩ = false := blk_frz cR
        have g3 : V.frozen? ⟨w.heap.size, 3, none⟩ = false := blk_frz cR
        have l1 : (j : Int) ≤ r.tc := by omega
        have l2 : ¬ r.tc = i := by omega
        clear cR HCV
        generalize hsz : str z.length (lf z) = sz at *
        have HSZ : Hid (str z.length (lf z) = sz) := hsz
        clear hsz
        go_region
        all_goals go_wp2
        refine bodyPost_ret (v := .agg #[.int .u8 97, .int .i64 (i : Nat), .string sz, .slice none 0 0]) ?_ rfl ?_
        · simp [results, Tryz.f63, go_sem, *]
        · have h := HFIN.out ((((V.drew.setCell ⟨w.heap.size, 0, none⟩ (.int .u8 97)).setCell ⟨w.heap.size, 1, none⟩ (.int .i64 (i : Nat))).setCell ⟨w.heap.size, 2, none⟩ (.string sz)).setCell ⟨w.heap.size, 3, none⟩ (.slice none 0 0)) j z HE.out (keepX (keepX (keepX (keepX (HKV.out.trans (Keep.drew _ _)) (Nat.le_refl _)) (Nat.le_refl _)) (Nat.le_refl _)) (Nat.le_refl _)) (((((HBV.out.keep (Keep.drew _ _)).setX (by omega)).setX (by omega)).setX (by omega)).setX (by omega))
          rw [HSZ.out] at h
          exact h
  · obtain rfl : rr = false := by { cases rr; rfl; exact absurd (hrr.1 rfl) hL }
    have HL : Hid (¬ M.Letter (t.T i)) := hL
    clear hrr hL
    go_wp2
    exact ⟨rfl, HK0.out, .inr ⟨HL.out, rfl⟩⟩
end
end Go.Proofs.YteoddjobpmmgeaaGreat
