import Derived.Test.YteoddjobpmmgeaaGreatT39
set_option linter.unusedVariables false
set_option linter.unusedSimpArgs false
namespace Go.Proofs.YteoddjobpmmgeaaGreat
section
open Go.RowKit
open M (OpD NodeD Gr)
theorem DS.kept {rb : Nat} {t : Tx} {r : Rv} {k : Tok} {sa : Option Addr} {sc i : Nat} {l : List Tok} {qs : List Rl} {A B N D T : Nat → Prop} {w w' : World} (h : DS rb t r k sa sc i l qs A B N D T w) (hk : Keep (fun _ => False) w w') : DS rb t r k sa sc i l qs A B N D T w' := by
  have hs := hk.size
  refine ⟨h.st.kept hk, h.row.on (fun b q => hk.block b (h.da b q).1 (fun z => z)) (fun b q => hk.block b (h.ta b q).1 (fun z => z)) (fun b q => q) (fun b q => q), h.len, fun b q => ⟨by have := (h.da b q).1; omega, (h.da b q).2⟩, fun b q => ⟨by have := (h.ta b q).1; omega, (h.ta b q).2⟩, ?_⟩
  exact ints_wide (ints_stay (ints_and h.st.txt h.tx) (fun b q => hk.block b q.1.1 (fun z => z))) (fun b q => q.2)
def RowT (w : World) (v : Value) (th : List Tok) : Prop := ∃ ta tc, v = .slice ta th.length tc ∧ ∀ k t, th[k]? = some t → ∃ g sa sn sc, ta = some ⟨g, 0, none⟩ ∧ g < w.heap.size ∧ ∀ j, j < 4 → w.cell? ⟨g, k * 4 + j, none⟩ = (tkC t (.slice sa sn sc))[j]?
theorem TkRow.rowT {Q : Nat → Prop} {w : World} {v : Value} {th : List Tok} (h : TkRow Q w v th) (hQ : ∀ b, Q b → b < w.heap.size) : RowT w v th := by
  obtain ⟨cs, h1, h2⟩ := h
  obtain ⟨ta, tc, rfl⟩ := own_shape h1
  refine ⟨ta, tc, rfl, fun k t hk => ?_⟩
  have hkl := (List.getElem?_eq_some_iff.1 hk).1
  obtain ⟨g, c, e, hg, hc⟩ := row4 h1 h2.len (by omega)
  obtain ⟨sa, sn, sc, h3⟩ := h2.at hk
  injection e with e1 _ _
  exact ⟨g, sa, sn, sc, e1, hQ g hg, fun j hj => by rw [hc k hkl j hj]; exact h3 j hj⟩
def refB (ns : List (List Int)) : List Tok → Option Nat
  | [] => none
  | t :: r => if t.nm ∈ ns then refB ns r else some t.at_
theorem refB_at {ns : List (List Int)} {l : List Tok} {k : Nat} {t : Tok} (h : l[k]? = some t) : refB ns (l.drop k) = if t.nm ∈ ns then refB ns (l.drop (k + 1)) else some t.at_ := by
  obtain ⟨hk, e⟩ := List.getElem?_eq_some_iff.1 h
  rw [List.drop_eq_getElem_cons hk, e, refB]
def NameBad (n : Nat) (qs : List Rl) (p : Nat) : Prop :=
  dupF [] qs = some p ∨ (dupF [] qs = none ∧ (refB (namesOf qs) (refTs qs) = some p ∨ (refB (namesOf qs) (refTs qs) = none ∧ namesOf qs = [] ∧ p = n)))
def FnIs (n : Nat) (qs : List Rl) (w : World) (e : Ending) (w' : World) : Prop :=
  Keep (fun _ => False) w w' ∧ ((∃ p : Nat, e = .panicked (flt 6 (p : Nat)) ∧ NameBad n qs p) ∨ (dupF [] qs = none ∧ refB (namesOf qs) (refTs qs) = none ∧ namesOf qs ≠ [] ∧ ∃ b1 b2 ls, e = .returned (.agg #[.map (some b1), .map (some b2)]) ∧ New w w' b1 ∧ New w w' b2 ∧ b1 ≠ b2 ∧ MapN w' b1 (namesOf qs) (ixN (namesOf qs)) ∧ MapN w' b2 ls (ixN ls) ∧ Asc ls ∧ ∀ z, z ∈ ls ↔ z ∈ recsOf qs ∨ ∃ t ∈ thrTs qs, t.nm = z))
def fnI (ns : List (List Int)) (rf : List Tok) (b1 : Nat) (W1 : World) (v : Value) (wr : World) : Prop :=
  ∃ k : Nat, k ≤ rf.length ∧ v = .int .i64 (k : Nat) ∧ refB ns rf = refB ns (rf.drop k) ∧ Keep (fun _ => False) W1 wr
set_option maxHeartbeats 1000000 in
set_option maxRecDepth 100000 in
theorem findNames_any (rb : Nat) (t : Tx) (r : Rv) (k : Tok) (sa : Option Addr) (sc i : Nat) (qs : List Rl) (A B N D T : Nat → Prop) (w : World) (hD : DS rb t r k sa sc i [] qs A B N D T w) (hq : NmQ qs) (hqr : NmT (refTs qs)) (hqt : NmT (thrTs qs)) (hsz : qs.length + (thrTs qs).length + 1 ≤ 1000000) : Calls Tryz.prog 22 #[.pointer (some ⟨rb, 0, none⟩)] w (FnIs t.n qs w) := by
  have k0 : Keep (fun _ => False) w (w.alloc (.cells #[.map none, .map none] 67)) := Keep.alloc _ _ _
  have HC1 : Hid (Calls Tryz.prog 43 #[.pointer (some ⟨rb, 0, none⟩)] (w.alloc (.cells #[.map none, .map none] 67)) (FdIs qs (w.alloc (.cells #[.map none, .map none] 67)))) := findDefs_any rb t r k sa sc i qs A B N D T _ (hD.kept k0) hq
  obtain ⟨ra, rc, hv7, hrow7⟩ := hD.st.refs.rowT (fun b q => (hD.st.apt.rows b q).1)
  obtain ⟨ta, tc, hv8, hrow8⟩ := hD.st.thrs.rowT (fun b q => (hD.st.apt.thrs b q).1)
  have c0 : w.cell? ⟨rb, 0, none⟩ = some (.slice r.ta t.n r.tc) := blk_cell hD.st.blk rfl
  have c7 : w.cell? ⟨rb, 7, none⟩ = some (.slice ra (refTs qs).length rc) := by
    have h : w.cell? ⟨rb, 7, none⟩ = some r.v7 := blk_cell hD.st.blk rfl
    rw [hv7] at h
    exact h
  have c8 : w.cell? ⟨rb, 8, none⟩ = some (.slice ta (thrTs qs).length tc) := by
    have h : w.cell? ⟨rb, 8, none⟩ = some r.v8 := blk_cell hD.st.blk rfl
    rw [hv8] at h
    exact h
  have hrb := hD.st.blk.lt
  have hrl : (refTs qs).length ≤ 1000000 := by have := hD.st.big; omega
  have htn : t.n ≤ 1000000 := hD.st.tn
  have HR7 : Hid (∀ k t, (refTs qs)[k]? = some t → ∃ g sa sn sc, ra = some ⟨g, 0, none⟩ ∧ g < w.heap.size ∧ ∀ j, j < 4 → w.cell? ⟨g, k * 4 + j, none⟩ = (tkC t (.slice sa sn sc))[j]?) := hrow7
  have HR8 : Hid (∀ k t, (thrTs qs)[k]? = some t → ∃ g sa sn sc, ta = some ⟨g, 0, none⟩ ∧ g < w.heap.size ∧ ∀ j, j < 4 → w.cell? ⟨g, k * 4 + j, none⟩ = (tkC t (.slice sa sn sc))[j]?) := hrow8
  have HQR : Hid (NmT (refTs qs)) := hqr
  have HQT : Hid (NmT (thrTs qs)) := hqt
  have HSZ : Hid (qs.length + (thrTs qs).length + 1 ≤ 1000000) := hsz
  generalize hrf : refTs qs = rf at *
  generalize hth : thrTs qs = th at *
  have HRF : Hid (refTs qs = rf) := hrf
  have HTH : Hid (thrTs qs = th) := hth
  clear hD hv7 hv8 hrow7 hrow8 hq hqr hqt hsz k0 hrf hth
  go_enter Tryz.func22, Tryz.ntmps22
  go_wp2_with fail
  refine HC1.out.mono ?_
  rintro e W1 ⟨hk1, ⟨hdup, b1, b2, rfl, hn1, hn2, hne, hM1, hM2⟩ | ⟨p, hdup, rfl⟩⟩
  · have HDU : Hid (dupF [] qs = none) := hdup
    have HM1 : Hid (MapN W1 b1 (namesOf qs) (ixN (namesOf qs))) := hM1
    have HM2 : Hid (MapN W1 b2 (recsOf qs) (ixN (recsOf qs))) := hM2
    have HK1 : Hid (Keep (fun _ => False) w W1) := (Keep.alloc _ _ _).trans hk1
    have hres : W1.heap[w.heap.size]? = some (.cells #[.map none, .map none] 67) := (hk1.block w.heap.size (by simp) (fun z => z)).trans (World.alloc_heap_new w _)
    have HRES : Hid (W1.heap[w.heap.size]? = some (.cells #[.map none, .map none] 67)) := hres
    have HB12 : Hid (w.heap.size + 1 ≤ b1 ∧ w.heap.size + 1 ≤ b2 ∧ b1 ≠ b2) := ⟨by have := hn1.1; simpa using this, by have := hn2.1; simpa using this, hne⟩
    have d0 : W1.cell? ⟨rb, 0, none⟩ = some (.slice r.ta t.n r.tc) := (HK1.out.cell (p := ⟨rb, 0, none⟩) hrb (fun z => z)).trans c0
    have d7 : W1.cell? ⟨rb, 7, none⟩ = some (.slice ra rf.length rc) := (HK1.out.cell (p := ⟨rb, 7, none⟩) hrb (fun z => z)).trans c7
    have d8 : W1.cell? ⟨rb, 8, none⟩ = some (.slice ta th.length tc) := (HK1.out.cell (p := ⟨rb, 8, none⟩) hrb (fun z => z)).trans c8
    have hw1 : rb < W1.heap.size := lt_of_cell d0
    clear hdup hM1 hM2 hk1 hn1 hn2 hne hres c0 c7 c8 HC1
    go_wp2
    go_loopw [19] (fnI (namesOf qs) rf b1 W1) (fun v _ => rf.length - (intOf v).toNat)
    case atStart => exact ⟨0, Nat.zero_le _, rfl, rfl, Keep.refl _ _⟩
    case round =>
      obtain ⟨m, hm, rfl, hE, hK⟩ := hrel
      have HE : Hid (refB (namesOf qs) rf = refB (namesOf qs) (rf.drop m)) := hE
      have HK : Hid (Keep (fun _ => False) W1 wr) := hK
      have HMr : Hid (MapN wr b1 (namesOf qs) (ixN (namesOf qs))) := HM1.out.on (hK.block b1 HM1.out.lt (fun z => z))
      have HKw : Hid (Keep (fun _ => False) w wr) := HK1.out.trans hK
      by_cases hlt : m < rf.length
      · obtain ⟨q, hq⟩ : ∃ q, rf[m]? = some q := ⟨_, List.getElem?_eq_getElem hlt⟩
        obtain ⟨g, sa', sn, sc', rfl, hg, hc⟩ := HR7.out m q hq
        have y0 : wr.cell? ⟨g, m * 4, none⟩ = some (.int .u8 (kk q.kind)) := (HKw.out.cell (p := ⟨g, m * 4 + 0, none⟩) hg (fun z => z)).trans (hc 0 (by omega))
        have y1 : wr.cell? ⟨g, m * 4 + 1, none⟩ = some (.int .i64 (q.at_ : Nat)) := (HKw.out.cell (p := ⟨g, m * 4 + 1, none⟩) hg (fun z => z)).trans (hc 1 (by omega))
        have y2 : wr.cell? ⟨g, m * 4 + 2, none⟩ = some (.string (str q.nm.length (lf q.nm))) := (HKw.out.cell (p := ⟨g, m * 4 + 2, none⟩) hg (fun z => z)).trans (hc 2 (by omega))
        have y3 : wr.cell? ⟨g, m * 4 + 3, none⟩ = some (.slice sa' sn sc') := (HKw.out.cell (p := ⟨g, m * 4 + 3, none⟩) hg (fun z => z)).trans (hc 3 (by omega))
        have hgr : g < wr.heap.size := by have := HKw.out.size; omega
        have hlt' : (m : Int) < (rf.length : Int) := by omega
        have HZ : Hid (BytL q.nm ∧ q.nm.length ≤ 1000000) := HQR.out q (List.mem_of_getElem? hq)
        have HST : Hid (refB (namesOf qs) (rf.drop m) = if q.nm ∈ namesOf qs then refB (namesOf qs) (rf.drop (m + 1)) else some q.at_) := refB_at hq
        have HMK : Hid (MapN (wr.alloc (.cells #[.int .u8 (kk q.kind), .int .i64 (q.at_ : Nat), .string (str q.nm.length (lf q.nm)), .slice sa' sn sc'] 59)) b1 (namesOf qs) (ixN (namesOf qs))) := HMr.out.alloc _
        clear hc hK hq hE d7 d8 d0
        by_cases hin : q.nm ∈ namesOf qs
        · have HBV : Hid (decide (q.nm ∈ namesOf qs) = true) := decide_eq_true hin
          have HI2 : Hid (fnI (namesOf qs) rf b1 W1 (.int .i64 ((m : Int) + 1)) (wr.alloc (.cells #[.int .u8 (kk q.kind), .int .i64 (q.at_ : Nat), .string (str q.nm.length (lf q.nm)), .slice sa' sn sc'] 59))) := ⟨m + 1, hlt, by simp, by rw [HE.out, HST.out, if_pos hin], HK.out.trans (Keep.alloc _ _ _)⟩
          clear hin
          go_wp2_with (at_lookup; refine lookN _ rfl _ _ rfl b1 (namesOf qs) (ixN (namesOf qs)) q.nm rfl HMK.out rfl HZ.out.1 HZ.out.2 true HBV.out ?_)
          go_roundw
          all_goals first
            | exact HI2.out
            | (simp [intOf]; omega)
        · have HBV : Hid (decide (q.nm ∈ namesOf qs) = false) := decide_eq_false hin
          have HFI : Hid (FnIs t.n qs w (.panicked (flt 6 (q.at_ : Nat))) (wr.alloc (.cells #[.int .u8 (kk q.kind), .int .i64 (q.at_ : Nat), .string (str q.nm.length (lf q.nm)), .slice sa' sn sc'] 59))) := by
            refine ⟨HKw.out.trans (Keep.alloc _ _ _), .inl ⟨q.at_, rfl, .inr ⟨HDU.out, .inl ?_⟩⟩⟩
            rw [HRF.out, HE.out, HST.out, if_neg hin]
          clear hin
          go_wp2_with (at_lookup; refine lookN _ rfl _ _ rfl b1 (namesOf qs) (ixN (namesOf qs)) q.nm rfl HMK.out rfl HZ.out.1 HZ.out.2 false HBV.out ?_)
          exact ⟨rfl, HFI.out⟩
      · have hge : ¬ ((m : Int) < (rf.length : Int)) := by omega
        have HEN : Hid (refB (namesOf qs) rf = none) := by
          have h := HE.out
          rw [List.drop_of_length_le (by omega)] at h
          exact h
        have z0 : wr.cell? ⟨rb, 0, none⟩ = some (.slice r.ta t.n r.tc) := (hK.cell (p := ⟨rb, 0, none⟩) hw1 (fun z => z)).trans d0
        have z8 : wr.cell? ⟨rb, 8, none⟩ = some (.slice ta th.length tc) := (hK.cell (p := ⟨rb, 8, none⟩) hw1 (fun z => z)).trans d8
        have HRES2 : Hid (wr.heap[w.heap.size]? = some (.cells #[.map none, .map none] 67)) := (hK.block w.heap.size (Array.getElem?_eq_some_iff.1 HRES.out).1 (fun z => z)).trans HRES.out
        have HM2r : Hid (MapN wr b2 (recsOf qs) (ixN (recsOf qs))) := HM2.out.on (hK.block b2 HM2.out.lt (fun z => z))
        clear d0 d7 d8 hK hE
        by_cases hnil : namesOf qs = []
        · have HFI : Hid (FnIs t.n qs w (.panicked (flt 6 (t.n : Nat))) wr) := ⟨HKw.out, .inl ⟨t.n, rfl, .inr ⟨HDU.out, .inr ⟨by rw [HRF.out]; exact HEN.out, hnil, rfl⟩⟩⟩⟩
          have HML : Hid (MapN wr b1 [] (ixN (namesOf qs))) := by
            have h := HMr.out
            rw [hnil] at h ⊢
            exact h
          clear hnil
          go_wp2_with (at_len; refine lenN _ rfl _ rfl b1 [] (ixN (namesOf qs)) rfl HML.out ?_)
          exact ⟨rfl, HFI.out⟩
        · have HNN : Hid (namesOf qs ≠ []) := hnil
          obtain ⟨nn, hnn⟩ : ∃ nn, (namesOf qs).length = nn + 1 := by
            cases h : namesOf qs with
            | nil => exact absurd h hnil
            | cons x l => exact ⟨l.length, rfl⟩
          have HNN1 : Hid ((namesOf qs).length = nn + 1) := hnn
          have hrl2 : (recsOf qs).length ≤ qs.length := by
            unfold recsOf
            rw [List.length_map]
            exact List.length_filter_le _ _
          have HC2 : Hid (Calls Tryz.prog 44 #[.pointer (some ⟨rb, 0, none⟩), .map (some b2)] wr (FlIs (recsOf qs) th wr)) := findLabels_any rb b2 ta tc (recsOf qs) _ th wr HM2r.out z8 (fun k t hk => by
            obtain ⟨g, s1, s2, s3, e1, e2, e3⟩ := HR8.out k t hk
            exact ⟨g, s1, s2, s3, e1, by have := HKw.out.size; omega, fun j hj => (HKw.out.cell (p := ⟨g, k * 4 + j, none⟩) e2 (fun z => z)).trans (e3 j hj)⟩) HQT.out (by have := HSZ.out; omega)
          clear hnil hnn hrl2
          have hp1 : ¬ ((nn + 1 : Nat) : Int) = 0 := by omega
          have hp2 : ((((nn + 1 : Nat) : Int)) == 0) = false := by simp; omega
          go_wp2_with (at_len; refine lenN _ rfl _ rfl b1 (namesOf qs) (ixN (namesOf qs)) rfl HMr.out ?_; rw [HNN1.out])
          refine HC2.out.mono ?_
          rintro e W4 ⟨b3, ls, rfl, hn3, hM3, hA, hmem, hk4⟩
          have hres := (hk4.block w.heap.size (Array.getElem?_eq_some_iff.1 HRES2.out).1 (fun z => z)).trans HRES2.out
          have r0 : W4.cell? ⟨w.heap.size, 0, none⟩ = some (.map none) := blk_cell hres rfl
          have r1 : W4.cell? ⟨w.heap.size, 1, none⟩ = some (.map none) := blk_cell hres rfl
          have f0 : W4.frozen? ⟨w.heap.size, 0, none⟩ = false := blk_frz hres
          have f1 : W4.frozen? ⟨w.heap.size, 1, none⟩ = false := blk_frz hres
          have HFI : Hid (FnIs t.n qs w (.returned (.agg #[.map (some b1), .map (some b3)])) ((W4.setCell ⟨w.heap.size, 0, none⟩ (.map (some b1))).setCell ⟨w.heap.size, 1, none⟩ (.map (some b3)))) := by
            have hb1 := HB12.out.1
            have hb3 := hn3.1
            have hb1l := HMr.out.lt
            have hwl := (Array.getElem?_eq_some_iff.1 HRES2.out).1
            have kk4 : Keep (fun _ => False) w W4 := HKw.out.trans hk4
            have kf : Keep (fun _ => False) w ((W4.setCell ⟨w.heap.size, 0, none⟩ (.map (some b1))).setCell ⟨w.heap.size, 1, none⟩ (.map (some b3))) :=
              ⟨kk4.os, kk4.tape, kk4.output, by simp only [size_set]; exact kk4.size, fun b hb hc => (Below.heap_setCell _ _ _ _ (fun e => by have e' : b = w.heap.size := e; omega)).trans ((Below.heap_setCell _ _ _ _ (fun e => by have e' : b = w.heap.size := e; omega)).trans (kk4.block b hb hc))⟩
            have st : ∀ b, b ≠ w.heap.size → ((W4.setCell ⟨w.heap.size, 0, none⟩ (.map (some b1))).setCell ⟨w.heap.size, 1, none⟩ (.map (some b3))).heap[b]? = W4.heap[b]? := fun b hb => (Below.heap_setCell _ _ _ _ hb).trans (Below.heap_setCell _ _ _ _ hb)
            refine ⟨kf, .inr ⟨HDU.out, by rw [HRF.out]; exact HEN.out, HNN.out, b1, b3, ls, rfl, ⟨by omega, by simp only [size_set]; have := hk4.size; omega⟩, ⟨by omega, by simp only [size_set]; exact hn3.2⟩, by omega, (HMr.out.on (hk4.block b1 hb1l (fun z => z))).on (st b1 (by omega)), hM3.on (st b3 (by omega)), hA, ?_⟩⟩
            rw [HTH.out]
            exact hmem
          clear hn3 hM3 hA hmem hk4 hres
          go_wp2
          refine bodyPost_ret (v := .agg #[.map (some b1), .map (some b3)]) ?_ rfl ?_
          · simp [results, Tryz.f22, go_sem, *]
          · exact HFI.out
  · have HFI : Hid (FnIs t.n qs w (.panicked (flt 6 (p : Nat))) W1) := ⟨(Keep.alloc _ _ _).trans hk1, .inl ⟨p, rfl, .inl hdup⟩⟩
    clear hdup hk1
    go_wp2
    exact ⟨rfl, HFI.out⟩
end
section
open Go.RowKit
open M (OpD NodeD Gr)
theorem BuS.fresh {w w0 : World} {T : Nat → Prop} {b1 b2 : Nat} {G : Nat → Nat} {wr : World} {rv lv : Value} {rs cs : List GC} (h : BuS w w0 T b1 b2 G wr rv lv rs cs) : BuS w w0 T b1 b2 (tagN G wr 3) wr rv lv rs cs :=
  ⟨h.bg.on (Nat.le_refl _) (fun _ _ _ => rfl) (fun b hb _ => tagN_old hb) (fun b hb => by
    by_cases e : b < wr.heap.size
    · rw [tagN_old e] at hb; exact h.bg.new b hb
    · rw [tagN_new (by omega)] at hb; exact absurd rfl hb), h.keep, h.box, h.res, h.var, fun b hb => by
    by_cases e : b < wr.heap.size
    · rw [tagN_old e] at hb; exact h.own b hb
    · rw [tagN_new (by omega)] at hb; exact absurd rfl hb, h.le⟩
def buI (w w0 : World) (T : Nat → Prop) (b1 b2 : Nat) (ls : List (List Int)) (v : Value) (wr : World) : Prop :=
  ∃ todo cnt cs G, RgN wr b2 (w.heap.size + 4) ls (ixN ls) todo cnt ∧ BuS w w0 T b1 b2 G wr (.slice none 0 0) (.slice (some ⟨w.heap.size + 2, 0, none⟩) ls.length ls.length) [] cs ∧ cs.length = ls.length ∧ w.heap.size + 5 ≤ wr.heap.size ∧ Keep (fun _ => False) w wr ∧ (∀ b, b < w.heap.size → G b = 3) ∧ ∀ (i : Nat) (z : List Int), ls[i]? = some z → ∃ x, cs[i]? = some x ∧ (todo z → x = gc0) ∧ (¬ todo z → x.d = ⟨z, false, []⟩)
theorem keep_of_grown {w w' : World} {r : Nat} (h : w.grownBy w' (some r)) : Keep (fun b => b = r) w w' := ⟨h.os, h.tape, h.output, h.size, fun b hb hc => h.block b hb (fun q => hc (Option.some.inj q))⟩
theorem bu_start {w w0 V4 : World} {T : Nat → Prop} {b1 b2 : Nat} {ls : List (List Int)} (hz0 : w0.heap.size ≤ w.heap.size)
    (hrg : RgN V4 b2 (w.heap.size + 4) ls (ixN ls) (fun _ => True) ls.length)
    (hg : ((((w.alloc (.cells #[.map (some b1), .map (some b2)] 67)).alloc (.cells #[.slice none 0 0, .slice none 0 0] 26)).alloc (.cells (madeCells #[.slice none 0 0, .bool false, .slice none 0 0] (ls.length * 3)) 50)).alloc (.cells #[.slice none 0 0, .slice (some ⟨w.heap.size + 2, 0, none⟩) ls.length ls.length] 26)).grownBy V4 none)
    (hs : V4.heap.size = ((((w.alloc (.cells #[.map (some b1), .map (some b2)] 67)).alloc (.cells #[.slice none 0 0, .slice none 0 0] 26)).alloc (.cells (madeCells #[.slice none 0 0, .bool false, .slice none 0 0] (ls.length * 3)) 50)).alloc (.cells #[.slice none 0 0, .slice (some ⟨w.heap.size + 2, 0, none⟩) ls.length ls.length] 26)).heap.size + 1) (v : Value) : buI w w0 T b1 b2 ls v V4 := by
  obtain ⟨V0, e0⟩ : ∃ V, V = w.alloc (.cells #[.map (some b1), .map (some b2)] 67) := ⟨_, rfl⟩
  rw [← e0] at hg hs
  obtain ⟨V1, e1⟩ : ∃ V, V = V0.alloc (.cells #[.slice none 0 0, .slice none 0 0] 26) := ⟨_, rfl⟩
  rw [← e1] at hg hs
  obtain ⟨V2, e2⟩ : ∃ V, V = V1.alloc (.cells (madeCells #[.slice none 0 0, .bool false, .slice none 0 0] (ls.length * 3)) 50) := ⟨_, rfl⟩
  rw [← e2] at hg hs
  obtain ⟨V3, e3⟩ : ∃ V, V = V2.alloc (.cells #[.slice none 0 0, .slice (some ⟨w.heap.size + 2, 0, none⟩) ls.length ls.length] 26) := ⟨_, rfl⟩
  rw [← e3] at hg hs
  have s0 : V0.heap.size = w.heap.size + 1 := by rw [e0]; simp
  have s1 : V1.heap.size = w.heap.size + 2 := by rw [e1]; simp [s0]
  have s2 : V2.heap.size = w.heap.size + 3 := by rw [e2]; simp [s1]
  have s3 : V3.heap.size = w.heap.size + 4 := by rw [e3]; simp [s2]
  have k4 : Keep (fun _ => False) V3 V4 := ⟨hg.os, hg.tape, hg.output, hg.size, fun b hb _ => hg.block b hb (by simp)⟩
  have k3 : Keep (fun _ => False) V2 V3 := by rw [e3]; exact Keep.alloc _ _ _
  have k2 : Keep (fun _ => False) V1 V2 := by rw [e2]; exact Keep.alloc _ _ _
  have k1 : Keep (fun _ => False) V0 V1 := by rw [e1]; exact Keep.alloc _ _ _
  have k0 : Keep (fun _ => False) w V0 := by rw [e0]; exact Keep.alloc _ _ _
  have q0 : V0.heap[w.heap.size]? = some (.cells #[.map (some b1), .map (some b2)] 67) := by rw [e0]; exact World.alloc_heap_new w _
  have q1 : V1.heap[w.heap.size + 1]? = some (.cells #[.slice none 0 0, .slice none 0 0] 26) := by rw [e1, ← s0]; exact World.alloc_heap_new V0 _
  have q3 : V3.heap[w.heap.size + 3]? = some (.cells #[.slice none 0 0, .slice (some ⟨w.heap.size + 2, 0, none⟩) ls.length ls.length] 26) := by rw [e3, ← s2]; exact World.alloc_heap_new V2 _
  have hm := made_labs V1 ls.length 50
  rw [← e2, s1] at hm
  have k24 : Keep (fun _ => False) V2 V4 := k3.trans k4
  have hcs : ∀ (i : Nat) (x : GC), (List.replicate ls.length gc0)[i]? = some x → x = gc0 := fun i x hx => by
    rw [List.getElem?_replicate] at hx
    split at hx
    · exact (Option.some.inj hx).symm
    · cases hx
  refine ⟨fun _ => True, ls.length, List.replicate ls.length gc0, fun b => if b = w.heap.size + 2 then 1 else 3, hrg, ⟨⟨.inl ⟨rfl, rfl, rfl⟩, ?_, (fun i x hx => by simp at hx), fun i x hx => ?_, (fun i x hx => by simp at hx), fun i x hx => ?_, fun b hb => ?_⟩, ?_, ?_, ?_, ?_, fun b hb => ?_, hz0⟩, by simp, by omega, (((k0.trans k1).trans k2).trans k3).trans k4, fun b hb => if_neg (by omega), fun i z hz => ⟨gc0, ?_, fun _ => rfl, fun q => absurd trivial q⟩⟩
  · rw [List.length_replicate]
    exact ownC_wide (hm.on (fun b q => k24.block b (by rw [q]; omega) (fun z => z))) (fun b q => ⟨by rw [q]; omega, by simp only [q, if_true]⟩)
  · rw [hcs i x hx]
    exact .inl ⟨rfl, rfl, rfl⟩
  · rw [hcs i x hx]
    exact bod_nil _ _
  · by_cases e : b = w.heap.size + 2
    · omega
    · simp only [if_neg e] at hb
      exact absurd rfl hb
  · exact ((((k0.trans k1).trans k2).trans k3).trans k4).mono (fun b q => q.elim)
  · exact (k4.block _ (by omega) (fun z => z)).trans ((k3.block _ (by omega) (fun z => z)).trans ((k2.block _ (by omega) (fun z => z)).trans ((k1.block _ (by omega) (fun z => z)).trans q0)))
  · exact (k4.block _ (by omega) (fun z => z)).trans ((k3.block _ (by omega) (fun z => z)).trans ((k2.block _ (by omega) (fun z => z)).trans q1))
  · exact (k4.block _ (by omega) (fun z => z)).trans q3
  · by_cases e : b = w.heap.size + 2
    · right; omega
    · simp only [if_neg e] at hb
      exact absurd rfl hb
  · rw [List.getElem?_replicate, if_pos (List.getElem?_eq_some_iff.1 hz).1]
theorem bu_round {w w0 wr W' W'' : World} {T : Nat → Prop} {b1 b2 : Nat} {ls : List (List Int)} {todo : List Int → Prop} {cnt' nc : Nat} {cs : List GC} {G : Nat → Nat} {z : List Int} (hnd : ls.Nodup) (hrg : RgN W' b2 (w.heap.size + 4) ls (ixN ls) (fun y => todo y ∧ y ≠ z) cnt') (hS : BuS w w0 T b1 b2 G wr (.slice none 0 0) (.slice (some ⟨w.heap.size + 2, 0, none⟩) ls.length ls.length) [] cs) (hcl : cs.length = ls.length) (h5 : w.heap.size + 5 ≤ wr.heap.size) (hkp : Keep (fun _ => False) w wr) (hg3 : ∀ b, b < w.heap.size → G b = 3) (hb2 : b2 < w.heap.size)
    (hcs : ∀ (i : Nat) (z : List Int), ls[i]? = some z → ∃ x, cs[i]? = some x ∧ (todo z → x = gc0) ∧ (¬ todo z → x.d = ⟨z, false, []⟩)) (hz : z ∈ ls) (htd : todo z) (hg : wr.grownBy W' (some (w.heap.size + 4))) (hs : W'.heap.size = wr.heap.size) (hk : Keep (fun _ => False) W' W'') (hs2 : W''.heap.size = W'.heap.size + 1)
    (ho : OwnC (fun b => b = W'.heap.size) W'' (.slice (some ⟨W'.heap.size, 0, none⟩) z.length nc) 1 z.length (intVs .u8 (lf z) z.length)) (v : Value) :
    W''.cell? ⟨w.heap.size + 2, ixN ls z * 3, none⟩ = some (.slice none 0 0) ∧ W''.frozen? ⟨w.heap.size + 2, ixN ls z * 3, none⟩ = false ∧ buI w w0 T b1 b2 ls v (W''.setCell ⟨w.heap.size + 2, ixN ls z * 3, none⟩ (.slice (some ⟨W'.heap.size, 0, none⟩) z.length nc)) ∧ (W''.setCell ⟨w.heap.size + 2, ixN ls z * 3, none⟩ (.slice (some ⟨W'.heap.size, 0, none⟩) z.length nc)).rangeLeft b2 (w.heap.size + 4) = cnt' := by
  obtain ⟨i, hi⟩ := List.getElem?_of_mem hz
  have hix : ixN ls z = i := ixN_at hnd hi
  rw [hix]
  obtain ⟨x, hx, hx0, _⟩ := hcs i z hi
  have ex := hx0 htd
  subst ex
  have S1 := (hS.fresh.step (keep_of_grown hg) (fun b q => ⟨by subst q; rw [tagN_old (by omega)]; exact hS.tag3 (fun q => by omega) (by omega), .inr (by omega)⟩)).step hk (fun b q => q.elim)
  have S2 := S1.tag (fun b => b = W'.heap.size) (5 + 4 * i) (fun b q => ⟨by rw [q, tagN_new (by omega)], by have := hS.le; omega, .inr (by omega)⟩)
  obtain ⟨g, c, e, hgt, _, q0, _, _, f0, _⟩ := S2.bg.labelAt hx
  have eg : w.heap.size + 2 = g := by
    injection e with e _ _
    injection e with e
    injection e with e
  subst eg
  obtain ⟨g', c', e', _, _, _, _, S3⟩ := S2.setL (j := 0) (y := ⟨⟨z, false, []⟩, some ⟨W'.heap.size, 0, none⟩, nc, none, 0⟩) (u := .slice (some ⟨W'.heap.size, 0, none⟩) z.length nc) hx (by omega) rfl (ownC_wide ho (fun b q => ⟨by rw [q]; omega, tagS_in q⟩)) (bod_nil _ _)
  have eg' : w.heap.size + 2 = g' := by
    injection e' with e _ _
    injection e with e
    injection e with e
  subst eg'
  rw [Nat.add_zero] at S3
  have hrgF : RgN (W''.setCell ⟨w.heap.size + 2, i * 3, none⟩ (.slice (some ⟨W'.heap.size, 0, none⟩) z.length nc)) b2 (w.heap.size + 4) ls (ixN ls) (fun y => todo y ∧ y ≠ z) cnt' := by
    have hl := hrg.lt
    refine (hrg.on (hk.block b2 hl.1 (fun z => z)) (hk.block _ hl.2 (fun z => z))).on (Below.heap_setCell _ _ _ _ ?_) (Below.heap_setCell _ _ _ _ ?_)
    · show b2 ≠ w.heap.size + 2; omega
    · show w.heap.size + 4 ≠ w.heap.size + 2; omega
  refine ⟨q0, f0, ⟨fun y => todo y ∧ y ≠ z, cnt', _, _, hrgF, S3, by rw [List.length_set]; exact hcl, by rw [size_set]; omega, ⟨hk.os.trans (hg.os.trans hkp.os), hk.tape.trans (hg.tape.trans hkp.tape), hk.output.trans (hg.output.trans hkp.output), by rw [size_set]; omega, fun b hb hc => (Below.heap_setCell _ _ _ _ (by show b ≠ w.heap.size + 2; omega)).trans ((hk.block b (by omega) (fun z => z)).trans ((hg.block b (by omega) (by simp; omega)).trans (hkp.block b hb hc)))⟩, fun b hb => by rw [tagS_out (by omega), tagN_old (by omega)]; exact hg3 b hb, fun j y hy => ?_⟩, hrgF.left⟩
  · by_cases ej : j = i
    · subst ej
      have ey : y = z := by rw [hi] at hy; exact (Option.some.inj hy).symm
      subst ey
      refine ⟨_, List.getElem?_set_self (List.getElem?_eq_some_iff.1 hx).1, fun q => absurd rfl q.2, fun _ => rfl⟩
    · obtain ⟨x', hx', a1, a2⟩ := hcs j y hy
      have ny : y ≠ z := fun q => ej (by rw [q] at hy; rw [← ixN_at hnd hy, ixN_at hnd hi])
      exact ⟨x', by rw [List.getElem?_set_ne (by omega)]; exact hx', fun q => a1 q.1, fun q => a2 (fun p => q ⟨p, ny⟩)⟩
theorem bu_names {w w0 wr : World} {T : Nat → Prop} {b1 b2 : Nat} {ns ls : List (List Int)} {todo : List Int → Prop} {cs : List GC} (hcl : cs.length = ls.length) (hcs : ∀ (i : Nat) (z : List Int), ls[i]? = some z → ∃ x, cs[i]? = some x ∧ (todo z → x = gc0) ∧ (¬ todo z → x.d = ⟨z, false, []⟩)) (hd : ∀ z ∈ ls, ¬ todo z) : cs.map (·.d) = labsNL ns ls [] := by
  refine List.ext_getElem? (fun i => ?_)
  unfold labsNL
  rw [List.getElem?_map, List.getElem?_map]
  cases h : ls[i]? with
  | none =>
    have : cs[i]? = none := List.getElem?_eq_none (by have := List.getElem?_eq_none_iff.1 h; omega)
    rw [this]
    rfl
  | some z =>
    obtain ⟨x, hx, _, h2⟩ := hcs i z h
    rw [hx]
    show some x.d = some (labNL ns ls [] z)
    rw [h2 (hd z (List.mem_of_getElem? h))]
    rfl
end
end Go.Proofs.YteoddjobpmmgeaaGreat
