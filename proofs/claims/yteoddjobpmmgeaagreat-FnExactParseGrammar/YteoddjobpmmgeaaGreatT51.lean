import Derived.Test.YteoddjobpmmgeaaGreatT50
set_option linter.unusedVariables false
set_option linter.unusedSimpArgs false
namespace Go.Proofs.YteoddjobpmmgeaaGreat
section
open Go.RowKit
open M (OpD NodeD Gr)
def Own0 (G : Nat → Nat) : Nat → Prop := fun b => G b ≠ 3
theorem SmNL.cntR {x : NL} (h : SmNL x) : cntR x ≤ 1048579048576 := by
  have := h.2.2.cnt
  have := h.1
  unfold Go.Proofs.YteoddjobpmmgeaaGreat.cntR
  omega
theorem SmNL.cntB {x : NL} (h : SmNL x) : cntB x ≤ 1048579048577 := by
  have := h.2.2.cnt
  have := h.1
  unfold Go.Proofs.YteoddjobpmmgeaaGreat.cntB
  omega
abbrev cR : GC → Nat := fun x => cntR x.d
abbrev cB : GC → Nat := fun x => cntB x.d
def MrIs (w0 : World) (G : Nat → Nat) (rv lv : Value) (rs cs : List GC) (k : Int) (w : World) (e : Ending) (w' : World) : Prop :=
  e = .returned (.int .i64 (k + cntK cR rs)) ∧ BG w0 G w' rv lv (mapK cR gcR k rs) cs ∧ Keep (Own0 G) w w'
def mrI (w0 : World) (G : Nat → Nat) (rv lv : Value) (rs cs : List GC) (k : Int) (w : World) (kv i : Value) (wr : World) : Prop :=
  ∃ m : Nat, m ≤ rs.length ∧ kv = .int .i64 (k + cntK cR (rs.take m)) ∧ i = .int .i64 (m : Int) ∧ BG w0 G wr rv lv (mixK cR gcR k rs m) cs ∧ Keep (Own0 G) w wr
theorem BG.ruleAt {w0 w : World} {G : Nat → Nat} {rv lv : Value} {rs ls : List GC} (h : BG w0 G w rv lv rs ls) {i : Nat} {x : GC} (hx : rs[i]? = some x) : ∃ g c, rv = .slice (some ⟨g, 0, none⟩) rs.length c ∧ Tg G w 0 g ∧ w.cell? ⟨g, i * 2, none⟩ = some (.slice x.na x.d.nm.length x.nc) ∧ w.cell? ⟨g, i * 2 + 1, none⟩ = some (.slice x.ba x.d.bd.length x.bc) := by
  have hi := (List.getElem?_eq_some_iff.1 hx).1
  obtain ⟨g, c, e, hq, hc, hcell⟩ := h.rules.at_ (by omega)
  rw [flat_len ncR 2 ncR_len] at hcell
  have h0 := hcell (i * 2) (by omega)
  have h1 := hcell (i * 2 + 1) (by omega)
  have f0 := flat_get ncR 2 ncR_len rs i 0 x hx (by omega)
  have f1 := flat_get ncR 2 ncR_len rs i 1 x hx (by omega)
  exact ⟨g, c, e, hq, h0.1.trans f0, h1.1.trans f1⟩
set_option maxHeartbeats 1000000 in
theorem markRules (w0 : World) (G : Nat → Nat) (a : Option Addr) (n c : Nat) (lv : Value) (rs cs : List GC) (k : Int) (w : World) (h : BG w0 G w (.slice a n c) lv rs cs) (hn : n = rs.length) (hl : rs.length ≤ 1048576) (hs : ∀ x ∈ rs, SmNL x.d) (h0 : 0 ≤ k) (h1 : k ≤ 4) :
    Calls Tryz.prog 26 #[.slice a n c, .int .i64 k] w (MrIs w0 G (.slice a n c) lv rs cs k w) := by
  have HI : Hid (mrI w0 G (.slice a n c) lv rs cs k w (.int .i64 k) (.int .i64 0) w) := ⟨0, Nat.zero_le _, by simp [cntK], rfl, h, Keep.refl _ _⟩
  have HN : Hid (n = rs.length) := hn
  have HS : Hid (∀ x ∈ rs, SmNL x.d) := hs
  have HC : Hid (∀ m, cntK cR (rs.take m) ≤ m * 1048579048576) := cntK_take cR rs _ (fun x hx => (hs x hx).cntR)
  have hnl : n ≤ 1048576 := by omega
  clear h hn hs
  go_enter Tryz.func26, Tryz.ntmps26
  go_wp2
  go_loopw [1, 5] (mrI w0 G (.slice a n c) lv rs cs k w) (fun kv i _ => n - (intOf i).toNat)
  case atStart => exact HI.out
  case round =>
    clear HI
    obtain ⟨m, hm, rfl, rfl, hB, hK⟩ := hrel
    by_cases hlt : m < n
    · obtain ⟨x, hx⟩ : ∃ x, rs[m]? = some x := ⟨_, List.getElem?_eq_getElem (by have := HN.out; omega)⟩
      obtain ⟨hxm, hset⟩ := mixK_at (c := cR) (f := gcR) (k := k) hx
      have HMM : Hid (m + 1 ≤ rs.length) := by
        have := HN.out
        have h : m + 1 ≤ rs.length := by omega
        exact h
      have HSX : Hid (SmNL x.d) := HS.out x (List.mem_of_getElem? hx)
      have hcm := HC.out m
      have hstep := cntK_step (c := cR) hx
      obtain ⟨g, c', ea, hgt, c0, c1⟩ := hB.ruleAt hxm
      have ea1 : a = some ⟨g, 0, none⟩ := by injection ea
      subst ea1
      have HB : Hid (BG w0 G wr (.slice (some ⟨g, 0, none⟩) n c) lv (mixK cR gcR k rs m) cs) := hB
      have HX : Hid ((mixK cR gcR k rs m)[m]? = some x ∧ (mixK cR gcR k rs m).set m (gcR (k + cntK cR (rs.take m)) x) = mixK cR gcR k rs (m + 1)) := ⟨hxm, hset⟩
      have HK : Hid (Keep (Own0 G) w wr) := hK
      have HST : Hid ((k : Int) + (cntK cR (rs.take m) : Int) + (x.d.nm.length : Int) + (cntK cntO x.d.bd : Int) = k + (cntK cR (rs.take (m + 1)) : Int)) := by
        have h : (cR x : Int) = (x.d.nm.length : Int) + (cntK cntO x.d.bd : Int) := by show ((cntR x.d : Nat) : Int) = _; unfold cntR; omega
        show _ = _
        rw [hstep]
        omega
      have hlt' : (m : Int) < (n : Int) := by omega
      have lg : g < wr.heap.size := lt_of_cell c0
      have hgG : G g = 0 := hgt.2
      have hnm := HSX.out.1
      have hbd := HSX.out.2.2.cnt
      have b0 : 0 ≤ k + (cntK cR (rs.take m) : Int) := by omega
      have b1 : k + (cntK cR (rs.take m) : Int) ≤ 4611686018427387904 := by omega
      have b2 : 0 ≤ k + (cntK cR (rs.take m) : Int) + (x.d.nm.length : Int) := by omega
      have b3 : k + (cntK cR (rs.take m) : Int) + (x.d.nm.length : Int) ≤ 4611686018427387904 := by omega
      have HC1 : Hid (Calls Tryz.prog 9 #[.slice x.na x.d.nm.length x.nc, .int .i64 (k + (cntK cR (rs.take m) : Int))] wr (MkIs .u8 (fun i => IntKind.u8.wrap (k + (cntK cR (rs.take m) : Int) + i)) (Tg G wr (4 + 4 * m)) x.na x.d.nm.length x.nc (k + (cntK cR (rs.take m) : Int) + x.d.nm.length) wr)) := markByteS_own _ x.na x.d.nm.length x.nc _ _ wr (hB.rn m x hxm) hnm b0 b1
      have HC2 : Hid (∀ W1, Keep (Tg G wr (4 + 4 * m)) wr W1 → Calls Tryz.prog 48 #[.slice x.ba x.d.bd.length x.bc, .int .i64 (k + (cntK cR (rs.take m) : Int) + (x.d.nm.length : Int))] W1 (MbIs (Tg G wr (6 + 4 * m)) x.ba x.d.bd.length x.bc x.d.bd (k + (cntK cR (rs.take m) : Int) + (x.d.nm.length : Int)) W1)) := fun W1 k1 =>
        markBod _ x.ba x.d.bd.length x.bc x.d.bd _ W1 ((hB.rb m x hxm).on (fun b q => k1.block b q.1 (fun z => by have z1 := z.2; have q1 := q.2; omega))) (fun b q => Nat.lt_of_lt_of_le q.1 k1.size) rfl HSX.out.2.2 b2 b3
      have HFN : Hid (∀ W1 W2, OwnC (Tg G wr (4 + 4 * m)) W1 (.slice x.na x.d.nm.length x.nc) 1 x.d.nm.length (intVs .u8 (fun i => IntKind.u8.wrap (k + (cntK cR (rs.take m) : Int) + i)) x.d.nm.length) → Keep (Tg G wr (4 + 4 * m)) wr W1 → BodP (Tg G wr (6 + 4 * m)) W2 (.slice x.ba x.d.bd.length x.bc) (mapK cntO mkdO (k + (cntK cR (rs.take m) : Int) + (x.d.nm.length : Int)) x.d.bd) → Keep (Tg G wr (6 + 4 * m)) W1 W2 → mrI w0 G (.slice (some ⟨g, 0, none⟩) n c) lv rs cs k w (.int .i64 (k + (cntK cR (rs.take m) : Int) + (x.d.nm.length : Int) + (cntK cntO x.d.bd : Int))) (.int .i64 ((m : Int) + 1)) W2) := fun W1 W2 o1 k1 o2 k2 => by
        have z1 := k1.size
        have z2 := k2.size
        have k12 : Keep (fun b => Tg G wr (4 + 4 * m) b ∨ Tg G wr (6 + 4 * m) b) wr W2 := (k1.mono (fun b q => .inl q)).trans (k2.mono (fun b q => .inr q))
        refine ⟨m + 1, HMM.out, by rw [HST.out], by simp, ?_, HK.out.trans (k12.mono (fun b q => by show G b ≠ 3; rcases q with q | q <;> (rw [q.2]; omega)))⟩
        rw [← HX.out.2]
        refine HB.out.reR HX.out.1 (gcR_nc _ _) k12 (fun b q => q.imp (fun z => z.2) (fun z => z.2)) ?_ ?_
        · show OwnC _ W2 (.slice x.na (bytK _ x.d.nm.length).length x.nc) 1 (bytK _ x.d.nm.length).length (intVs .u8 (lf (bytK _ x.d.nm.length)) (bytK _ x.d.nm.length).length)
          rw [bytK_len, ← bytK_vs]
          exact ownC_wide (o1.on (fun b q => k2.block b (by have := q.1; omega) (fun z => by have a := z.2; have b := q.2; omega))) (fun b q => ⟨by have := q.1; omega, q.2⟩)
        · show BodP _ W2 (.slice x.ba (mapK cntO mkdO _ x.d.bd).length x.bc) (mapK cntO mkdO _ x.d.bd)
          rw [mapK_len]
          exact o2.wide (fun b q => ⟨by have := q.1; omega, q.2⟩)
      have HCL : Hid (∀ W1, Keep (Tg G wr (4 + 4 * m)) wr W1 → W1.cell? ⟨g, m * 2 + 1, none⟩ = some (.slice x.ba x.d.bd.length x.bc)) := fun W1 k1 => (k1.cell (p := ⟨g, m * 2 + 1, none⟩) lg (fun z => by have := z.2; rw [hgG] at this; omega)).trans c1
      generalize (cntK cR (rs.take m) : Int) = q at *
      generalize hnn : x.d.nm.length = nn at *
      generalize hbb : x.d.bd.length = bb at *
      clear hB hxm hset hK hcm hstep ea hgt hx hnn hbb hgG hbd
      go_wp2_with fail
      refine HC1.out.mono ?_
      rintro e W1 ⟨rfl, o1, k1⟩
      have d1 := HCL.out W1 k1
      have ld1 := lt_of_cell d1
      have HO1 : Hid (OwnC (Tg G wr (4 + 4 * m)) W1 (.slice x.na nn x.nc) 1 nn (intVs .u8 (fun i => IntKind.u8.wrap (k + q + i)) nn)) := o1
      have HK1 : Hid (Keep (Tg G wr (4 + 4 * m)) wr W1) := k1
      clear o1 k1 HC1 c0 c1
      go_wp2_with fail
      refine (HC2.out W1 HK1.out).mono ?_
      rintro e W2 ⟨rfl, o2, k2⟩
      have HIN : Hid (mrI w0 G (.slice (some ⟨g, 0, none⟩) n c) lv rs cs k w (.int .i64 (k + q + nn + (cntK cntO x.d.bd : Int))) (.int .i64 ((m : Int) + 1)) W2) := HFN.out W1 W2 HO1.out HK1.out o2 k2
      clear o2 k2 HFN HC2 HCL
      go_wp2
      go_roundw
      all_goals first
        | exact HIN.out
        | (simp [intOf]; omega)
    · have hmn : m = rs.length := by have := HN.out; omega
      have HFI : Hid (MrIs w0 G (.slice a n c) lv rs cs k w (.returned (.int .i64 (k + cntK cR (rs.take m)))) wr) := by
        rw [hmn] at hB ⊢
        rw [mixK_all] at hB
        rw [List.take_of_length_le (Nat.le_refl _)]
        exact ⟨rfl, hB, hK⟩
      have hge : ¬ ((m : Int) < (n : Int)) := by omega
      clear hB hK hmn
      go_wp2
      go_ret
      exact HFI.out
end
section
open Go.RowKit
open M (OpD NodeD Gr)
def MlIs (w0 : World) (G : Nat → Nat) (rv lv : Value) (rs cs : List GC) (k : Int) (w : World) (e : Ending) (w' : World) : Prop :=
  e = .returned (.int .i64 (k + cntK cB cs)) ∧ BG w0 G w' rv lv rs (mapK cB gcB k cs) ∧ Keep (Own0 G) w w'
def mlI (w0 : World) (G : Nat → Nat) (rv lv : Value) (rs cs : List GC) (k : Int) (w : World) (kv i : Value) (wr : World) : Prop :=
  ∃ m : Nat, m ≤ cs.length ∧ kv = .int .i64 (k + cntK cB (cs.take m)) ∧ i = .int .i64 (m : Int) ∧ BG w0 G wr rv lv rs (mixK cB gcB k cs m) ∧ Keep (Own0 G) w wr
theorem BG.markL {w0 wr W1 W2 : World} {G : Nat → Nat} {rv : Value} {g n c : Nat} {rs cs : List GC} {m : Nat} {x : GC} {k : Int} (h : BG w0 G wr rv (.slice (some ⟨g, 0, none⟩) n c) rs cs) (hx : cs[m]? = some x) (hg : Tg G wr 1 g)
    (o1 : OwnC (Tg G wr (5 + 4 * m)) W1 (.slice x.na x.d.nm.length x.nc) 1 x.d.nm.length (intVs .u8 (fun i => IntKind.u8.wrap (k + i)) x.d.nm.length)) (k1 : Keep (Tg G wr (5 + 4 * m)) wr W1)
    (o2 : BodP (Tg G wr (7 + 4 * m)) W2 (.slice x.ba x.d.bd.length x.bc) (mapK cntO mkdO (k + x.d.nm.length + 1) x.d.bd)) (k2 : Keep (Tg G wr (7 + 4 * m)) (W1.setCell ⟨g, m * 3 + 1, none⟩ (.bool (((k + (x.d.nm.length : Int)) % 3 == 0)))) W2) :
    BG w0 G W2 rv (.slice (some ⟨g, 0, none⟩) n c) rs (cs.set m (gcB k x)) ∧ Keep (Own0 G) wr W2 := by
  have z1 := k1.size
  have z2 := k2.size
  rw [size_set] at z2
  have hm := (List.getElem?_eq_some_iff.1 hx).1
  have B1 : BG w0 G W1 rv (.slice (some ⟨g, 0, none⟩) n c) rs (cs.set m ⟨⟨bytK k x.d.nm.length, x.d.has, x.d.bd⟩, x.na, x.nc, x.ba, x.bc⟩) := by
    refine h.reL hx (by unfold ncL; simp only [bytK_len]) k1 (fun b q => .inl q.2) ?_ ?_
    · show OwnC _ W1 (.slice x.na (bytK k x.d.nm.length).length x.nc) 1 (bytK k x.d.nm.length).length (intVs .u8 (lf (bytK k x.d.nm.length)) (bytK k x.d.nm.length).length)
      rw [bytK_len, ← bytK_vs]
      exact ownC_wide o1 (fun b q => ⟨by have := q.1; omega, q.2⟩)
    · exact ((h.lb m x hx).on (fun b q => k1.block b q.1 (fun z => by have a := z.2; have b := q.2; omega))).wide (fun b q => ⟨by have := q.1; omega, q.2⟩)
  have hx1 : (cs.set m ⟨⟨bytK k x.d.nm.length, x.d.has, x.d.bd⟩, x.na, x.nc, x.ba, x.bc⟩)[m]? = some ⟨⟨bytK k x.d.nm.length, x.d.has, x.d.bd⟩, x.na, x.nc, x.ba, x.bc⟩ := List.getElem?_set_self hm
  have hn1 := B1.ln m _ hx1
  have hb1 := B1.lb m _ hx1
  have B2 := B1.putL (j := 1) (y := ⟨⟨bytK k x.d.nm.length, ((k + (x.d.nm.length : Int)) % 3 == 0), x.d.bd⟩, x.na, x.nc, x.ba, x.bc⟩) (u := .bool (((k + (x.d.nm.length : Int)) % 3 == 0))) hx1 (by omega) rfl ⟨by have := hg.1; omega, hg.2⟩ hn1 hb1
  rw [List.set_set] at B2
  have hx2 : (cs.set m ⟨⟨bytK k x.d.nm.length, ((k + (x.d.nm.length : Int)) % 3 == 0), x.d.bd⟩, x.na, x.nc, x.ba, x.bc⟩)[m]? = some ⟨⟨bytK k x.d.nm.length, ((k + (x.d.nm.length : Int)) % 3 == 0), x.d.bd⟩, x.na, x.nc, x.ba, x.bc⟩ := List.getElem?_set_self hm
  have hn2 := B2.ln m _ hx2
  have B3 := B2.reL (y := gcB k x) hx2 (by unfold ncL gcB mkB; simp only [bytK_len, mapK_len]) k2 (fun b q => .inr q.2) (ownC_wide (hn2.on (fun b q => k2.block b q.1 (fun z => by have a := z.2; have b := q.2; omega))) (fun b q => ⟨Nat.lt_of_lt_of_le q.1 k2.size, q.2⟩)) (by
    show BodP _ W2 (.slice x.ba (mapK cntO mkdO _ x.d.bd).length x.bc) (mapK cntO mkdO _ x.d.bd)
    rw [mapK_len]
    exact o2.wide (fun b q => ⟨by have := q.1; omega, q.2⟩))
  rw [List.set_set] at B3
  refine ⟨B3, ?_⟩
  exact ((k1.mono (fun b q => by show G b ≠ 3; rw [q.2]; omega)).trans (Keep.setCell _ _ _ (by show G g ≠ 3; rw [hg.2]; omega))).trans (k2.mono (fun b q => by show G b ≠ 3; rw [q.2]; omega))
set_option maxHeartbeats 1000000 in
theorem markLabels (w0 : World) (G : Nat → Nat) (a : Option Addr) (n c : Nat) (rv : Value) (rs cs : List GC) (k : Int) (w : World) (h : BG w0 G w rv (.slice a n c) rs cs) (hn : n = cs.length) (hl : cs.length ≤ 1048576) (hs : ∀ x ∈ cs, SmNL x.d) (h0 : 0 ≤ k) (h1 : k ≤ 1152921504606846976) :
    Calls Tryz.prog 27 #[.slice a n c, .int .i64 k] w (MlIs w0 G rv (.slice a n c) rs cs k w) := by
  have HI : Hid (mlI w0 G rv (.slice a n c) rs cs k w (.int .i64 k) (.int .i64 0) w) := ⟨0, Nat.zero_le _, by simp [cntK], rfl, h, Keep.refl _ _⟩
  have HN : Hid (n = cs.length) := hn
  have HS : Hid (∀ x ∈ cs, SmNL x.d) := hs
  have HC : Hid (∀ m, cntK cB (cs.take m) ≤ m * 1048579048577) := cntK_take cB cs _ (fun x hx => (hs x hx).cntB)
  have hnl : n ≤ 1048576 := by omega
  clear h hn hs
  go_enter Tryz.func27, Tryz.ntmps27
  go_wp2
  go_loopw [1, 5] (mlI w0 G rv (.slice a n c) rs cs k w) (fun kv i _ => n - (intOf i).toNat)
  case atStart => exact HI.out
  case round =>
    clear HI
    obtain ⟨m, hm, rfl, rfl, hB, hK⟩ := hrel
    by_cases hlt : m < n
    · obtain ⟨x, hx⟩ : ∃ x, cs[m]? = some x := ⟨_, List.getElem?_eq_getElem (by have := HN.out; omega)⟩
      obtain ⟨hxm, hset⟩ := mixK_at (c := cB) (f := gcB) (k := k) hx
      have HMM : Hid (m + 1 ≤ cs.length) := by
        have := HN.out
        have h : m + 1 ≤ cs.length := by omega
        exact h
      have HSX : Hid (SmNL x.d) := HS.out x (List.mem_of_getElem? hx)
      have hcm := HC.out m
      have hstep := cntK_step (c := cB) hx
      obtain ⟨g, c', ea, hgt, _, c0, c1, c2, f0, f1, f2⟩ := hB.labelAt hxm
      have ea1 : a = some ⟨g, 0, none⟩ := by injection ea
      subst ea1
      have HB : Hid (BG w0 G wr rv (.slice (some ⟨g, 0, none⟩) n c) rs (mixK cB gcB k cs m)) := hB
      have HX : Hid ((mixK cB gcB k cs m)[m]? = some x ∧ (mixK cB gcB k cs m).set m (gcB (k + cntK cB (cs.take m)) x) = mixK cB gcB k cs (m + 1)) := ⟨hxm, hset⟩
      have HK : Hid (Keep (Own0 G) w wr) := hK
      have HST : Hid ((k : Int) + (cntK cB (cs.take m) : Int) + (x.d.nm.length : Int) + 1 + (cntK cntO x.d.bd : Int) = k + (cntK cB (cs.take (m + 1)) : Int)) := by
        have h : (cB x : Int) = (x.d.nm.length : Int) + 1 + (cntK cntO x.d.bd : Int) := by show ((cntB x.d : Nat) : Int) = _; unfold cntB; omega
        show _ = _
        rw [hstep]
        omega
      have hlt' : (m : Int) < (n : Int) := by omega
      have lg : g < wr.heap.size := lt_of_cell c0
      have hgG : G g = 1 := hgt.2
      have hnm := HSX.out.1
      have hbd := HSX.out.2.2.cnt
      have b0 : 0 ≤ k + (cntK cB (cs.take m) : Int) := by omega
      have b1 : k + (cntK cB (cs.take m) : Int) ≤ 4611686018427387904 := by omega
      have b2 : 0 ≤ k + (cntK cB (cs.take m) : Int) + (x.d.nm.length : Int) + 1 := by omega
      have b3 : k + (cntK cB (cs.take m) : Int) + (x.d.nm.length : Int) + 1 ≤ 4611686018427387904 := by omega
      have HC1 : Hid (Calls Tryz.prog 9 #[.slice x.na x.d.nm.length x.nc, .int .i64 (k + (cntK cB (cs.take m) : Int))] wr (MkIs .u8 (fun i => IntKind.u8.wrap (k + (cntK cB (cs.take m) : Int) + i)) (Tg G wr (5 + 4 * m)) x.na x.d.nm.length x.nc (k + (cntK cB (cs.take m) : Int) + x.d.nm.length) wr)) := markByteS_own _ x.na x.d.nm.length x.nc _ _ wr (hB.ln m x hxm) hnm b0 b1
      have HC2 : Hid (∀ W1 bv, Keep (Tg G wr (5 + 4 * m)) wr W1 → Calls Tryz.prog 48 #[.slice x.ba x.d.bd.length x.bc, .int .i64 (k + (cntK cB (cs.take m) : Int) + (x.d.nm.length : Int) + 1)] (W1.setCell ⟨g, m * 3 + 1, none⟩ (.bool bv)) (MbIs (Tg G wr (7 + 4 * m)) x.ba x.d.bd.length x.bc x.d.bd (k + (cntK cB (cs.take m) : Int) + (x.d.nm.length : Int) + 1) (W1.setCell ⟨g, m * 3 + 1, none⟩ (.bool bv)))) := fun W1 bv k1 =>
        markBod _ x.ba x.d.bd.length x.bc x.d.bd _ _ ((hB.lb m x hxm).on (fun b q => (Below.heap_setCell _ _ _ _ (fun e => by have e' : b = g := e; have q1 := q.2; rw [e', hgG] at q1; omega)).trans (k1.block b q.1 (fun z => by have z1 := z.2; have q1 := q.2; omega)))) (fun b q => by rw [size_set]; exact Nat.lt_of_lt_of_le q.1 k1.size) rfl HSX.out.2.2 b2 b3
      have HFN : Hid (∀ W1 W2, OwnC (Tg G wr (5 + 4 * m)) W1 (.slice x.na x.d.nm.length x.nc) 1 x.d.nm.length (intVs .u8 (fun i => IntKind.u8.wrap (k + (cntK cB (cs.take m) : Int) + i)) x.d.nm.length) → Keep (Tg G wr (5 + 4 * m)) wr W1 → BodP (Tg G wr (7 + 4 * m)) W2 (.slice x.ba x.d.bd.length x.bc) (mapK cntO mkdO (k + (cntK cB (cs.take m) : Int) + (x.d.nm.length : Int) + 1) x.d.bd) → Keep (Tg G wr (7 + 4 * m)) (W1.setCell ⟨g, m * 3 + 1, none⟩ (.bool (((k + (cntK cB (cs.take m) : Int) + (x.d.nm.length : Int)) % 3 == 0)))) W2 → mlI w0 G rv (.slice (some ⟨g, 0, none⟩) n c) rs cs k w (.int .i64 (k + (cntK cB (cs.take m) : Int) + (x.d.nm.length : Int) + 1 + (cntK cntO x.d.bd : Int))) (.int .i64 ((m : Int) + 1)) W2) := fun W1 W2 o1 k1 o2 k2 => by
        obtain ⟨h1, h2⟩ := HB.out.markL HX.out.1 hgt o1 k1 o2 k2
        refine ⟨m + 1, HMM.out, by rw [HST.out], by simp, ?_, HK.out.trans h2⟩
        rw [← HX.out.2]
        exact h1
      have HCL : Hid (∀ W1, Keep (Tg G wr (5 + 4 * m)) wr W1 → W1.cell? ⟨g, m * 3 + 1, none⟩ = some (.bool x.d.has) ∧ W1.cell? ⟨g, m * 3 + 2, none⟩ = some (.slice x.ba x.d.bd.length x.bc) ∧ W1.frozen? ⟨g, m * 3 + 1, none⟩ = false) := fun W1 k1 => by
        have e := k1.block g lg (fun z => by have := z.2; rw [hgG] at this; omega)
        exact ⟨(World.cell?_of_block (a := ⟨g, m * 3 + 1, none⟩) e).trans c1, (World.cell?_of_block (a := ⟨g, m * 3 + 2, none⟩) e).trans c2, (World.frozen?_of_block (a := ⟨g, m * 3 + 1, none⟩) e).trans f1⟩
      generalize (cntK cB (cs.take m) : Int) = q at *
      generalize hnn : x.d.nm.length = nn at *
      generalize hbb : x.d.bd.length = bb at *
      clear hB hxm hset hK hcm hstep ea hgt hx hnn hbb hgG hbd f0 f2
      go_wp2_with fail
      refine HC1.out.mono ?_
      rintro e W1 ⟨rfl, o1, k1⟩
      obtain ⟨d1, d2, df⟩ := HCL.out W1 k1
      have ld1 := lt_of_cell d1
      have HO1 : Hid (OwnC (Tg G wr (5 + 4 * m)) W1 (.slice x.na nn x.nc) 1 nn (intVs .u8 (fun i => IntKind.u8.wrap (k + q + i)) nn)) := o1
      have HK1 : Hid (Keep (Tg G wr (5 + 4 * m)) wr W1) := k1
      clear o1 k1 HC1 c0 c1 c2 f1
      go_wp2_with fail
      refine (HC2.out W1 _ HK1.out).mono ?_
      rintro e W2 ⟨rfl, o2, k2⟩
      have HIN : Hid (mlI w0 G rv (.slice (some ⟨g, 0, none⟩) n c) rs cs k w (.int .i64 (k + q + nn + 1 + (cntK cntO x.d.bd : Int))) (.int .i64 ((m : Int) + 1)) W2) := HFN.out W1 W2 HO1.out HK1.out o2 k2
      clear o2 k2 HFN HC2 HCL
      generalize ((k + q + (nn : Int)) % 3 == 0) = bv
      go_wp2
      go_roundw
      all_goals first
        | exact HIN.out
        | (simp [intOf]; omega)
    · have hmn : m = cs.length := by have := HN.out; omega
      have HFI : Hid (MlIs w0 G rv (.slice a n c) rs cs k w (.returned (.int .i64 (k + cntK cB (cs.take m)))) wr) := by
        rw [hmn] at hB ⊢
        rw [mixK_all] at hB
        rw [List.take_of_length_le (Nat.le_refl _)]
        exact ⟨rfl, hB, hK⟩
      have hge : ¬ ((m : Int) < (n : Int)) := by omega
      clear hB hK hmn
      go_wp2
      go_ret
      exact HFI.out
def MgIs (w0 : World) (G : Nat → Nat) (rv lv : Value) (rs cs : List GC) (w : World) (e : Ending) (w' : World) : Prop :=
  e = .returned (.int .i64 (1 + cntK cR rs + cntK cB cs)) ∧ BG w0 G w' rv lv (mapK cR gcR 1 rs) (mapK cB gcB (1 + cntK cR rs) cs) ∧ Keep (Own0 G) w w'
set_option maxHeartbeats 1000000 in
set_option maxRecDepth 100000 in
theorem markGram (w0 : World) (G : Nat → Nat) (ra la : Option Addr) (rc lc nr nb : Nat) (rs cs : List GC) (w : World) (h : BG w0 G w (.slice ra nr rc) (.slice la nb lc) rs cs) (hnr : nr = rs.length) (hnb : nb = cs.length) (hl : rs.length ≤ 1048576) (hl2 : cs.length ≤ 1048576) (hs : ∀ x ∈ rs, SmNL x.d) (hs2 : ∀ x ∈ cs, SmNL x.d) (hG : ∀ b, w.heap.size ≤ b → G b = 3) :
    Calls Tryz.prog 10 #[.agg #[.slice ra nr rc, .slice la nb lc], .int .i64 1] w (MgIs w0 G (.slice ra nr rc) (.slice la nb lc) rs cs w) := by
  have ka : Keep (fun _ => False) w (w.alloc (.cells #[.slice ra nr rc, .slice la nb lc] 26)) := Keep.alloc _ _ _
  have HA : Hid (BG w0 G (w.alloc (.cells #[.slice ra nr rc, .slice la nb lc] 26)) (.slice ra nr rc) (.slice la nb lc) rs cs) := h.keep ka (fun b q => q.elim)
  have hct : cntK cR rs ≤ rs.length * 1048579048576 := cntK_all cR rs _ (fun x hx => (hs x hx).cntR)
  have hct2 : cntK cR rs ≤ 1048576 * 1048579048576 := Nat.le_trans hct (Nat.mul_le_mul_right _ hl)
  have HC1 : Hid (Calls Tryz.prog 26 #[.slice ra nr rc, .int .i64 1] (w.alloc (.cells #[.slice ra nr rc, .slice la nb lc] 26)) (MrIs w0 G (.slice ra nr rc) (.slice la nb lc) rs cs 1 (w.alloc (.cells #[.slice ra nr rc, .slice la nb lc] 26)))) := markRules w0 G ra nr rc _ rs cs 1 _ HA.out hnr hl hs (by omega) (by omega)
  have HC2 : Hid (∀ W1, BG w0 G W1 (.slice ra nr rc) (.slice la nb lc) (mapK cR gcR 1 rs) cs → Calls Tryz.prog 27 #[.slice la nb lc, .int .i64 (1 + cntK cR rs)] W1 (MlIs w0 G (.slice ra nr rc) (.slice la nb lc) (mapK cR gcR 1 rs) cs (1 + cntK cR rs) W1)) := fun W1 h1 => markLabels w0 G la nb lc _ _ cs _ W1 h1 hnb hl2 hs2 (by omega) (by omega)
  have HBX : Hid (∀ W1, Keep (Own0 G) (w.alloc (.cells #[.slice ra nr rc, .slice la nb lc] 26)) W1 → W1.cell? ⟨w.heap.size, 1, none⟩ = some (.slice la nb lc)) := fun W1 k1 => by
    have e := (k1.block w.heap.size (by simp) (fun q => q (hG _ (Nat.le_refl _)))).trans (World.alloc_heap_new w (.cells #[.slice ra nr rc, .slice la nb lc] 26))
    exact blk_cell e rfl
  have HKA : Hid (Keep (fun _ => False) w (w.alloc (.cells #[.slice ra nr rc, .slice la nb lc] 26))) := ka
  clear h hs hs2 hct hct2 ka hnr hnb hl hl2 hG
  go_enter Tryz.func10, Tryz.ntmps10
  go_wp2_with fail
  refine HC1.out.mono ?_
  rintro e W1 ⟨rfl, hB1, hK1⟩
  have x1 := HBX.out W1 hK1
  have lx1 := lt_of_cell x1
  have HB1 : Hid (BG w0 G W1 (.slice ra nr rc) (.slice la nb lc) (mapK cR gcR 1 rs) cs) := hB1
  have HK1 : Hid (Keep (Own0 G) (w.alloc (.cells #[.slice ra nr rc, .slice la nb lc] 26)) W1) := hK1
  clear hB1 hK1 HC1
  go_wp2_with fail
  refine (HC2.out W1 HB1.out).mono ?_
  rintro e W2 ⟨rfl, hB2, hK2⟩
  have HFI : Hid (MgIs w0 G (.slice ra nr rc) (.slice la nb lc) rs cs w (.returned (.int .i64 (1 + cntK cR rs + cntK cB cs))) W2) := ⟨rfl, hB2, ((HKA.out.mono (fun b q => q.elim)).trans HK1.out).trans hK2⟩
  clear hB2 hK2 HC2
  go_wp2
  go_ret
  exact HFI.out
end
end Go.Proofs.YteoddjobpmmgeaaGreat
