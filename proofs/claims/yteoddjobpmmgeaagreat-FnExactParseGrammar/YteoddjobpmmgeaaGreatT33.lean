import Derived.Test.YteoddjobpmmgeaaGreatT32
import Derived.Test.YteoddjobpmmgeaaGreatT31
import Derived.Carry
set_option linter.unusedVariables false
set_option linter.unusedSimpArgs false
namespace Go.Proofs.YteoddjobpmmgeaaGreat
section
open Go.RowKit
open M (OpD NodeD Gr)
theorem rdRule_bad {n : Nat} {y : Tok} {l : List Tok} (h : y.kind = 0) : rdRule n (y :: l) = .inl y.at_ := by
  simp only [rdRule]
  rw [if_neg (by omega)]
  simp only [rdBody]
  rw [if_neg (by omega)]
theorem rdAll_bad {n f : Nat} {y : Tok} {l : List Tok} (h : y.kind = 0) : rdAll n (f + 1) (y :: l) = .inl y.at_ := by
  simp only [rdAll]
  rw [rdRule_bad h]
def preR (qs : List Rl) : Sum Nat (List Rl) → Sum Nat (List Rl)
  | .inl p => .inl p
  | .inr q => .inr (qs ++ q)
theorem rdAll_ok {n f : Nat} {l l1 : List Tok} {q : Rl} (qs : List Rl) (h : rdRule n l = .inr (q, l1)) : preR qs (rdAll n (f + 1) l) = preR (qs ++ [q]) (rdAll n f l1) := by
  cases l with
  | nil => simp [rdRule] at h
  | cons x r =>
    simp only [rdAll]
    rw [h]
    simp only
    cases rdAll n f l1 with
    | inl p => rfl
    | inr z => simp [preR]
theorem rdAll_no {n f : Nat} {l : List Tok} {p : Nat} (qs : List Rl) (hl : l ≠ []) (hf : l.length < f + 1) (hlen : ∀ q l1, rdRule n l = .inr (q, l1) → l1.length < l.length) (h : BadS (rdRule n l) p) : preR qs (rdAll n (f + 1) l) = .inl p := by
  cases l with
  | nil => exact absurd rfl hl
  | cons x r =>
    simp only [rdAll]
    rcases h with h | ⟨q, y, l', h, hy, ha⟩
    · rw [h]; rfl
    · rw [h]
      have h2 := hlen _ _ h
      simp only [List.length_cons] at h2 hf
      obtain ⟨g, rfl⟩ : ∃ g, f = g + 1 := ⟨f - 1, by omega⟩
      simp only
      rw [rdAll_bad hy, ha]
      rfl
theorem rdRule_len {n : Nat} {l : List Tok} : ∀ q l1, rdRule n l = .inr (q, l1) → l1.length < l.length := by
  intro q l1 h
  cases l with
  | nil => simp [rdRule] at h
  | cons x r =>
    obtain ⟨_, h2, _⟩ := (rdRule_any n (x :: r) (by simp)).2 q l1 h
    rw [h2, List.length_append]
    simp [Rl.tk]
    omega
def AllIs (rb : Nat) (t : Tx) (r : Rv) (w : World) (e : Ending) (w' : World) : Prop :=
  Keep (fun b => b = rb) w w' ∧ ((∃ qs v v6 v7 v8 k sa sc i A B N D T, rdAll t.n ((toksT t).length + 1) (toksT t) = .inr qs ∧ e = .returned v ∧ DS rb t { r with v6 := v6, v7 := v7, v8 := v8 } k sa sc i [] qs A B N D T w' ∧ ∀ b, (A b ∨ B b ∨ N b ∨ D b ∨ T b) → New w w' b) ∨ (∃ p : Nat, e = .panicked (flt 5 (p : Nat)) ∧ rdAll t.n ((toksT t).length + 1) (toksT t) = .inl p))
def raI (F : Nat) (rb : Nat) (t : Tx) (r : Rv) (w : World) (v : Value) (wr : World) : Prop :=
  Keep (fun b => b = rb) w wr ∧ ∃ f qs l v6 v7 v8 k sa sc i A B N D T, l.length < f ∧ rdAll t.n F (toksT t) = preR qs (rdAll t.n f l) ∧ DS rb t { r with v6 := v6, v7 := v7, v8 := v8 } k sa sc i l qs A B N D T wr ∧ ∀ b, (A b ∨ B b ∨ N b ∨ D b ∨ T b) → New w wr b
theorem keep_all {rb : Nat} {A B D : Nat → Prop} {w wr W : World} (h : Keep (fun b => b = rb) w wr) (k : Keep (C4 rb A B D) wr W) (hn : ∀ b, (A b ∨ B b ∨ D b) → w.heap.size ≤ b) : Keep (fun b => b = rb) w W :=
  ⟨k.os.trans h.os, k.tape.trans h.tape, k.output.trans h.output, Nat.le_trans h.size k.size, fun b hb hc => (k.block b (Nat.lt_of_lt_of_le hb h.size) (fun q => by
    rcases q with (q | q | q) | q
    · exact hc q
    · have := hn b (.inl q); omega
    · have := hn b (.inr (.inl q)); omega
    · have := hn b (.inr (.inr q)); omega)).trans (h.block b hb hc)⟩
theorem first_ds {rb : Nat} {t : Tx} {r : Rv} {w w' : World} {sa : Option Addr} {sc : Nat} (h6 : r.v6 = .slice none 0 0) (h7 : r.v7 = .slice none 0 0) (h8 : r.v8 = .slice none 0 0) (hT : TxQ rb w r.ta t) (hrb : rb < w.heap.size) (htc : t.n ≤ r.tc) (hn : t.n ≤ 4000) (hk : Keep (fun b => b = rb) w w') (h0 : skip t 0 < t.n → (advT t 0).1.kind ≠ 0)
    (hB : RB rb t (nextR r (advT t 0).1 sa sc) (advT t 0).2 w') (hO : OwnC (New w w') w' (.slice sa (advT t 0).1.set.length sc) 1 (advT t 0).1.set.length (intVs .i64 (lf (advT t 0).1.set) (advT t 0).1.set.length)) :
    DS rb t r (advT t 0).1 sa sc (advT t 0).2 (toksT t) [] (fun _ => False) (fun _ => False) (New w w') (fun _ => False) (fun _ => False) w' := by
  have hl : Left t (⟨1, 0, [], []⟩ : Tok) 0 (⟨1, 0, [], []⟩ :: tokL t 0) := .inl ⟨rfl, by show (1 : Int) ≠ 0; omega, Nat.zero_le _⟩
  have hs := hk.size
  have htl : (toksT t).length ≤ 8000 := Nat.le_trans (wtT_len _) (Nat.le_trans (toksT_ok t).2 (by omega))
  have ht' : Ints (fun b => b < w'.heap.size ∧ b ≠ rb) .u8 w' r.ta t.n t.T := hT.keep hk
  refine ⟨⟨hB, hO, ⟨[], .inl ⟨h7, rfl, rfl⟩, rfl⟩, ⟨[], .inl ⟨h8, rfl, rfl⟩, rfl⟩, left_next hl h0, ints_wide ht' (fun b q => ⟨q.1, q.2, fun z => z, fun z => z⟩), htc, ⟨fun b q => q.elim, fun b q => q.elim, fun b q => ⟨q.2, fun e => by have := q.1; omega⟩⟩, (advT_ok t 0).1, (advT_ok t 0).2, ?_, by omega⟩, ⟨[], .inl ⟨h6, rfl, rfl⟩, rfl⟩, ?_, fun b q => q.elim, fun b q => q.elim, ints_wide ht' (fun b q z => z)⟩
  · show 0 + 0 + (toksT t).length ≤ 1000000; omega
  · show 0 + (toksT t).length ≤ 1000000; omega
set_option maxHeartbeats 1000000 in
set_option maxRecDepth 100000 in
theorem readAll_any (rb : Nat) (t : Tx) (r : Rv) (w : World) (hB : RB rb t r 0 w) (h6 : r.v6 = .slice none 0 0) (h7 : r.v7 = .slice none 0 0) (h8 : r.v8 = .slice none 0 0) (hT : TxQ rb w r.ta t) (htc : t.n ≤ r.tc) (hn : t.n ≤ 4000) :
    Calls Tryz.prog 20 #[.pointer (some ⟨rb, 0, none⟩)] w (AllIs rb t r w) := by
  have HAD : Hid (Calls Tryz.prog 40 #[.pointer (some ⟨rb, 0, none⟩)] w (AdvIs t 0 rb r w)) := advance_any rb t r 0 w hB hT (Nat.zero_le _) htc
  have HDS : Hid (∀ (w' : World) (sa : Option Addr) (sc : Nat), Keep (fun b => b = rb) w w' → (skip t 0 < t.n → (advT t 0).1.kind ≠ 0) → RB rb t (nextR r (advT t 0).1 sa sc) (advT t 0).2 w' → OwnC (New w w') w' (.slice sa (advT t 0).1.set.length sc) 1 (advT t 0).1.set.length (intVs .i64 (lf (advT t 0).1.set) (advT t 0).1.set.length) → DS rb t r (advT t 0).1 sa sc (advT t 0).2 (toksT t) [] (fun _ => False) (fun _ => False) (New w w') (fun _ => False) (fun _ => False) w') := fun w' sa sc a1 a2 a3 a4 => first_ds h6 h7 h8 hT hB.lt htc hn a1 a2 a3 a4
  clear hB h6 h7 h8 hT htc hn
  go_enter Tryz.func20, Tryz.ntmps20
  go_wp2_with fail
  refine HAD.out.mono ?_
  clear HAD
  rintro e W1 ⟨hk1, ⟨v, sa, sc, h0, rfl, hB1, hO1⟩ | ⟨h1, h0, rfl⟩⟩
  · have HI : Hid (∀ v, raI ((toksT t).length + 1) rb t r w v W1) := fun v =>
      ⟨hk1, (toksT t).length + 1, [], toksT t, r.v6, r.v7, r.v8, _, sa, sc, _, _, _, _, _, _, Nat.lt_succ_self _, by cases rdAll t.n ((toksT t).length + 1) (toksT t) <;> rfl, HDS.out W1 sa sc hk1 h0 hB1 hO1, fun b q => by
        rcases q with q | q | q | q | q
        · exact q.elim
        · exact q.elim
        · exact q
        · exact q.elim
        · exact q.elim⟩
    clear hk1 h0 hB1 hO1 HDS
    go_wp2
    go_loopw [4] (raI ((toksT t).length + 1) rb t r w) (fun _ wr => lenM t rb wr)
    case atStart => exact HI.out _
    case round =>
      clear HI
      obtain ⟨hk, f, qs, l, v6, v7, v8, k1, sa1, sc1, i1, A, B, N, D, T, hf, hE, hD, hN⟩ := hrel
      have HD : Hid (DS rb t { r with v6 := v6, v7 := v7, v8 := v8 } k1 sa1 sc1 i1 l qs A B N D T wr) := hD
      have HE : Hid (rdAll t.n ((toksT t).length + 1) (toksT t) = preR qs (rdAll t.n f l)) := hE
      have HF : Hid (l.length < f) := hf
      have HK : Hid (Keep (fun b => b = rb) w wr) := hk
      have HN : Hid (∀ b, (A b ∨ B b ∨ N b ∨ D b ∨ T b) → New w wr b) := hN
      have HLM : Hid (lenM t rb wr = l.length) := hD.st.lenM
      have c2 : wr.cell? ⟨rb, 2, none⟩ = some (.int .u8 (kk k1.kind)) := blk_cell hD.st.blk rfl
      have HB1 : Hid (kk k1.kind = 0 ↔ l = []) := (kk_is hD.st.kind (by omega) (by omega)).trans hD.st.left.kind.symm
      clear hD hE hf hk hN
      generalize kk k1.kind = c1 at c2 HB1
      by_cases hc : c1 = 0
      · have HNL : Hid (l = []) := HB1.out.1 hc
        have HFI : Hid (∀ v, AllIs rb t r w (.returned v) wr) := fun v => by
          obtain ⟨g, hg⟩ : ∃ g, f = g + 1 := ⟨f - 1, by have := HF.out; omega⟩
          have h1 := HE.out
          have h2 := HD.out
          rw [HNL.out] at h1 h2
          rw [hg] at h1
          exact ⟨HK.out, .inl ⟨qs, v, v6, v7, v8, k1, sa1, sc1, i1, A, B, N, D, T, by rw [h1]; simp [rdAll, preR], rfl, h2, HN.out⟩⟩
        subst hc
        clear HB1 HNL
        go_wp2
        exact ⟨rfl, _, results_none rfl _ _ _, HFI.out _⟩
      · have HNL : Hid (l ≠ []) := fun q => hc (HB1.out.2 q)
        clear HB1
        go_wp2_with fail
        refine (readRule_any rb t _ k1 sa1 sc1 i1 l qs A B N D T wr HD.out).mono ?_
        rintro e W2 ⟨hk2, ⟨q, l2, v, u6, u7, u8, k2, sa2, sc2, i2, A2, B2, N2, D2, T2, hR, rfl, hl, hD2, a1, a2, a3, a4, a5⟩ | ⟨p, rfl, hbad⟩⟩
        · have HK2 : Hid (Keep (fun b => b = rb) w W2) := keep_all HK.out hk2 (fun b q => by
            rcases q with q | q | q
            · exact (HN.out b (.inl q)).1
            · exact (HN.out b (.inr (.inl q))).1
            · exact (HN.out b (.inr (.inr (.inr (.inl q))))).1)
          have HI2 : Hid (∀ v, raI ((toksT t).length + 1) rb t r w v W2) := fun v => by
            have h1 := HF.out
            obtain ⟨g, hg⟩ : ∃ g, f = g + 1 := ⟨f - 1, by omega⟩
            have h2 := HE.out
            rw [hg, rdAll_ok qs hR] at h2
            have hs := HK.out.size
            have hs2 := hk2.size
            have nt : ∀ b, New wr W2 b → New w W2 b := fun b q => new_trans hs q
            have nm : ∀ b, New w wr b → New w W2 b := fun b q => new_more hs2 q
            refine ⟨HK2.out, g, qs ++ [q], l2, u6, u7, u8, k2, sa2, sc2, i2, A2, B2, N2, D2, T2, by omega, h2, hD2, fun b z => ?_⟩
            rcases z with z | z | z | z | z
            · exact (a1 b z).elim (fun y => nm b (HN.out b (.inl y))) (nt b)
            · exact (a2 b z).elim (fun y => nm b (HN.out b (.inr (.inl y)))) (nt b)
            · exact nt b (a4 b z)
            · exact (a3 b z).elim (fun y => nm b (HN.out b (.inr (.inr (.inr (.inl y)))))) (nt b)
            · exact (a5 b z).elim (fun y => nm b (HN.out b (.inr (.inr (.inr (.inr y)))))) (nt b)
          have HM : Hid (lenM t rb W2 < lenM t rb wr) := by
            rw [HLM.out, hD2.st.lenM]
            have h3 : l2.length < l.length := by omega
            exact h3
          clear hR hD2 hk2 c2 hc hl a1 a2 a3 a4 a5
          go_wp2
          go_roundw
          all_goals first
            | exact HI2.out _
            | exact HM.out
        · have HFI : Hid (AllIs rb t r w (.panicked (flt 5 (p : Nat))) W2) := by
            have h1 := HF.out
            obtain ⟨g, hg⟩ : ∃ g, f = g + 1 := ⟨f - 1, by omega⟩
            have h2 := HE.out
            rw [hg] at h2 h1
            exact ⟨keep_all HK.out hk2 (fun b q => by
              rcases q with q | q | q
              · exact (HN.out b (.inl q)).1
              · exact (HN.out b (.inr (.inl q))).1
              · exact (HN.out b (.inr (.inr (.inr (.inl q))))).1), .inr ⟨p, rfl, h2.trans (rdAll_no qs HNL.out h1 rdRule_len hbad)⟩⟩
          clear hk2 hbad hc
          go_wp2
          exact ⟨rfl, HFI.out⟩
  · have HFI : Hid (AllIs rb t r w (.panicked (flt 5 (skip t 0 : Nat))) W1) := by
      obtain ⟨x, e1, e2, e3⟩ := left_bad (t := t) (k := (⟨1, 0, [], []⟩ : Tok)) (i := 0) (l := tokL t 0) (.inl ⟨rfl, by show (1 : Int) ≠ 0; omega, Nat.zero_le _⟩) h1 h0
      have e1 : toksT t = [x] := e1
      refine ⟨hk1, .inr ⟨_, rfl, ?_⟩⟩
      rw [e1, rdAll_bad e2, e3]
    clear hk1 h0 h1 HDS
    go_wp2
    exact ⟨rfl, HFI.out⟩
end
section
open Go.RowKit
open M (OpD NodeD Gr)
theorem keep_grown {C : Nat → Prop} {w W W' : World} {b : Nat} (k : Keep C w W) (g : W.grownBy W' (some b)) (h : w.heap.size ≤ b) : Keep C w W' :=
  ⟨g.os.trans k.os, g.tape.trans k.tape, g.output.trans k.output, Nat.le_trans k.size g.size, fun x hx hc => (g.block x (Nat.lt_of_lt_of_le hx k.size) (fun e => by injection e with e; omega)).trans (k.block x hx hc)⟩
def NmQ (qs : List Rl) : Prop := ∀ q ∈ qs, BytL q.name.nm ∧ q.name.nm.length ≤ 1000000
def FdIs (qs : List Rl) (w : World) (e : Ending) (w' : World) : Prop :=
  Keep (fun _ => False) w w' ∧ ((dupF [] qs = none ∧ ∃ b1 b2, e = .returned (.tuple #[.map (some b1), .map (some b2)]) ∧ New w w' b1 ∧ New w w' b2 ∧ b1 ≠ b2 ∧ MapN w' b1 (namesOf qs) (ixN (namesOf qs)) ∧ MapN w' b2 (recsOf qs) (ixN (recsOf qs))) ∨ (∃ p : Nat, dupF [] qs = some p ∧ e = .panicked (flt 6 (p : Nat))))
def fdI (qs : List Rl) (w : World) (v : Value) (wr : World) : Prop :=
  ∃ k : Nat, k ≤ qs.length ∧ v = .int .i64 (k : Nat) ∧ dupF [] qs = dupF (qs.take k) (qs.drop k) ∧ Keep (fun _ => False) w wr ∧ w.heap.size + 2 ≤ wr.heap.size ∧ MapN wr w.heap.size (namesOf (qs.take k)) (ixN (namesOf (qs.take k))) ∧ MapN wr (w.heap.size + 1) (recsOf (qs.take k)) (ixN (recsOf (qs.take k)))
set_option maxHeartbeats 1000000 in
set_option maxRecDepth 100000 in
theorem findDefs_any (rb : Nat) (t : Tx) (r : Rv) (k : Tok) (sa : Option Addr) (sc i : Nat) (qs : List Rl) (A B N D T : Nat → Prop) (w : World) (hD : DS rb t r k sa sc i [] qs A B N D T w) (hq : NmQ qs) : Calls Tryz.prog 43 #[.pointer (some ⟨rb, 0, none⟩)] w (FdIs qs w) := by
  have HD : Hid (DS rb t r k sa sc i [] qs A B N D T w) := hD
  have HQ : Hid (NmQ qs) := hq
  have hmm := @run_makeMap Tryz.prog
  obtain ⟨cs, hcs, hdt⟩ := hD.row
  have hql := hD.len
  simp only [List.length_nil, Nat.add_zero] at hql
  obtain ⟨ra, rc, hv6⟩ := own_shape hcs
  have c6 : w.cell? ⟨rb, 6, none⟩ = some (.slice ra qs.length rc) := by
    have h : w.cell? ⟨rb, 6, none⟩ = some r.v6 := blk_cell hD.st.blk rfl
    rw [hv6] at h
    exact h
  have hrb := hD.st.blk.lt
  have HCS : Hid (∀ k q, qs[k]? = some q → ∃ g v, ra = some ⟨g, 0, none⟩ ∧ g < w.heap.size ∧ (∃ ty u, v = .iface ty u) ∧ ∀ j, j < 4 → w.cell? ⟨g, k * 4 + j, none⟩ = (dfC q v)[j]?) := fun k q hq => by
    have hk := (List.getElem?_eq_some_iff.1 hq).1
    obtain ⟨g, c, e, hg, hc⟩ := row4 hcs hdt.len (by omega)
    obtain ⟨v, P, h1, h2, h3⟩ := hdt.at hq
    rw [hv6] at e
    injection e with e1 _ _
    exact ⟨g, v, e1, (hD.da g hg).1, TrA.iface _ h1, fun j hj => by rw [hc k hk j hj]; exact h3 j hj⟩
  clear hD hcs hdt hv6 hq
  go_enter Tryz.func43, Tryz.ntmps43
  go_wp2
  go_loopw [16] (fdI qs w) (fun v _ => qs.length - (intOf v).toNat)
  case atStart =>
    have hz : ((w.alloc (.map #[] 0)).alloc (.map #[] 0)).heap.size = w.heap.size + 2 := by simp
    refine ⟨0, Nat.zero_le _, rfl, rfl, (Keep.alloc _ _ _).trans (Keep.alloc _ _ _), by omega, ?_, ?_⟩
    · exact (MapN.made w _).on (Below.heap_alloc _ _ _ (by simp))
    · have := MapN.made (w.alloc (.map #[] 0)) (ixN [])
      rw [show (w.alloc (.map #[] 0)).heap.size = w.heap.size + 1 by simp] at this
      exact this
  case round =>
    obtain ⟨m, hm, rfl, hE, hK, hz, hM1, hM2⟩ := hrel
    have HE : Hid (dupF [] qs = dupF (qs.take m) (qs.drop m)) := hE
    have HK : Hid (Keep (fun _ => False) w wr) := hK
    have HM1 : Hid (MapN wr w.heap.size (namesOf (qs.take m)) (ixN (namesOf (qs.take m)))) := hM1
    have HM2 : Hid (MapN wr (w.heap.size + 1) (recsOf (qs.take m)) (ixN (recsOf (qs.take m)))) := hM2
    clear hE hM1 hM2
    by_cases hlt : m < qs.length
    · obtain ⟨q, hq⟩ : ∃ q, qs[m]? = some q := ⟨_, List.getElem?_eq_getElem hlt⟩
      obtain ⟨g, v, rfl, hg, ⟨ty, u, rfl⟩, hc⟩ := HCS.out m q hq
      have y0 : wr.cell? ⟨g, m * 4, none⟩ = some (.string (str q.name.nm.length (lf q.name.nm))) := (hK.cell (p := ⟨g, m * 4 + 0, none⟩) hg (fun z => z)).trans (hc 0 (by omega))
      have y1 : wr.cell? ⟨g, m * 4 + 1, none⟩ = some (.int .i64 (q.name.at_ : Nat)) := (hK.cell (p := ⟨g, m * 4 + 1, none⟩) hg (fun z => z)).trans (hc 1 (by omega))
      have y2 : wr.cell? ⟨g, m * 4 + 2, none⟩ = some (.bool q.car.isSome) := (hK.cell (p := ⟨g, m * 4 + 2, none⟩) hg (fun z => z)).trans (hc 2 (by omega))
      have y3 : wr.cell? ⟨g, m * 4 + 3, none⟩ = some (.iface ty u) := (hK.cell (p := ⟨g, m * 4 + 3, none⟩) hg (fun z => z)).trans (hc 3 (by omega))
      have HST : Hid (dupF (qs.take m) (qs.drop m) = if q.name.nm ∈ (if q.car.isSome then recsOf (qs.take m) else namesOf (qs.take m)) then some q.name.at_ else dupF (qs.take (m + 1)) (qs.drop (m + 1))) := dup_at hq
      have hgr : g < wr.heap.size := by have := hK.size; omega
      have hlt' : (m : Int) < (qs.length : Int) := by omega
      have HZ : Hid (BytL q.name.nm ∧ q.name.nm.length ≤ 1000000) := HQ.out q (List.mem_of_getElem? hq)
      have HTK : Hid (qs.take (m + 1) = qs.take m ++ [q]) := take_snoc hq
      clear hc hK hq
      cases hcar : q.car.isSome with
      | false =>
        have HCAR : Hid (q.car.isSome = false) := hcar
        rw [hcar] at y2
        clear hcar
        have HMK : Hid (MapN (wr.alloc (.cells #[.string (str q.name.nm.length (lf q.name.nm)), .int .i64 (q.name.at_ : Nat), .bool false, .iface ty u] 87)) (w.heap.size) (namesOf (qs.take m)) (ixN (namesOf (qs.take m)))) := HM1.out.alloc _
        have HMO : Hid (MapN (wr.alloc (.cells #[.string (str q.name.nm.length (lf q.name.nm)), .int .i64 (q.name.at_ : Nat), .bool false, .iface ty u] 87)) (w.heap.size + 1) (recsOf (qs.take m)) (ixN (recsOf (qs.take m)))) := HM2.out.alloc _
        have HKA : Hid (Keep (fun _ => False) w (wr.alloc (.cells #[.string (str q.name.nm.length (lf q.name.nm)), .int .i64 (q.name.at_ : Nat), .bool false, .iface ty u] 87))) := HK.out.trans (Keep.alloc _ _ _)
        by_cases hin : q.name.nm ∈ namesOf (qs.take m)
        · have HBV : Hid (decide (q.name.nm ∈ namesOf (qs.take m)) = true) := decide_eq_true hin
          have HFI : Hid (FdIs qs w (.panicked (flt 6 (q.name.at_ : Nat))) (wr.alloc (.cells #[.string (str q.name.nm.length (lf q.name.nm)), .int .i64 (q.name.at_ : Nat), .bool false, .iface ty u] 87))) := by
            refine ⟨HKA.out, .inr ⟨q.name.at_, ?_, rfl⟩⟩
            rw [HE.out, HST.out, HCAR.out]
            simp only [if_true, Bool.false_eq_true, if_false]
            rw [if_pos hin]
          clear hin
          go_wp2_with (at_lookup; refine lookN _ rfl _ _ rfl (w.heap.size) (namesOf (qs.take m)) (ixN (namesOf (qs.take m))) q.name.nm rfl HMK.out rfl HZ.out.1 HZ.out.2 true HBV.out ?_)
          exact ⟨rfl, HFI.out⟩
        · have HIN : Hid (q.name.nm ∉ namesOf (qs.take m)) := hin
          have HBV : Hid (decide (q.name.nm ∈ namesOf (qs.take m)) = false) := decide_eq_false hin
          have hll : (namesOf (qs.take m)).length ≤ m := by
            unfold namesOf
            rw [List.length_map]
            exact Nat.le_trans (List.length_filter_le _ _) (by rw [List.length_take]; omega)
          have HLL : Hid ((namesOf (qs.take m)).length + 1 ≤ 1000000) := by
            have h : (namesOf (qs.take m)).length + 1 ≤ 1000000 := by omega
            exact h
          have HLM : Hid ((namesOf (qs.take m)).length ≤ 1000000) := by
            have h : (namesOf (qs.take m)).length ≤ 1000000 := by omega
            exact h
          have HI : Hid (∀ W', MapN W' (w.heap.size) (addN (namesOf (qs.take m)) q.name.nm) (updN (ixN (namesOf (qs.take m))) q.name.nm (namesOf (qs.take m)).length) → (wr.alloc (.cells #[.string (str q.name.nm.length (lf q.name.nm)), .int .i64 (q.name.at_ : Nat), .bool false, .iface ty u] 87)).grownBy W' (some (w.heap.size)) → fdI qs w (.int .i64 ((m : Int) + 1)) W') := fun W' h1 h2 => by
            refine ⟨m + 1, hlt, by simp, ?_, keep_grown HKA.out h2 (by omega), ?_, ?_, ?_⟩
            · rw [HE.out, HST.out, HCAR.out]
              simp only [if_true, Bool.false_eq_true, if_false]
              rw [if_neg HIN.out]
            · have := h2.size
              have e : (wr.alloc (.cells #[.string (str q.name.nm.length (lf q.name.nm)), .int .i64 (q.name.at_ : Nat), .bool false, .iface ty u] 87)).heap.size = wr.heap.size + 1 := by simp
              omega
            · rw [HTK.out, namesOf_snoc, HCAR.out]
              simp only [if_true, Bool.false_eq_true, if_false]
              exact h1.snoc (w := w) HIN.out
            · rw [HTK.out, recsOf_snoc, HCAR.out]
              simp only [if_true, Bool.false_eq_true, if_false]
              exact HMO.out.on (h2.block _ HMO.out.lt (by simp))
          clear hin hll
          go_wp2_with (first
            | (at_lookup; refine lookN _ rfl _ _ rfl (w.heap.size) (namesOf (qs.take m)) (ixN (namesOf (qs.take m))) q.name.nm rfl HMK.out rfl HZ.out.1 HZ.out.2 false HBV.out ?_)
            | (at_len; refine lenN _ rfl _ rfl (w.heap.size) (namesOf (qs.take m)) (ixN (namesOf (qs.take m))) rfl HMK.out ?_)
            | (at_mapUpdate; refine putN _ rfl _ _ _ rfl (w.heap.size) (namesOf (qs.take m)) (ixN (namesOf (qs.take m))) q.name.nm (namesOf (qs.take m)).length rfl HMK.out rfl rfl HZ.out.1 HZ.out.2 HLL.out HLM.out ?_; intro W' hM' hg'; have HI2 : Hid (fdI qs w (.int .i64 ((m : Int) + 1)) W') := HI.out W' hM' hg'; clear hM' hg'))
          go_roundw
          all_goals first
            | exact HI2.out
            | (simp [intOf]; omega)
      | true =>
        have HCAR : Hid (q.car.isSome = true) := hcar
        rw [hcar] at y2
        clear hcar
        have HMK : Hid (MapN (wr.alloc (.cells #[.string (str q.name.nm.length (lf q.name.nm)), .int .i64 (q.name.at_ : Nat), .bool true, .iface ty u] 87)) (w.heap.size + 1) (recsOf (qs.take m)) (ixN (recsOf (qs.take m)))) := HM2.out.alloc _
        have HMO : Hid (MapN (wr.alloc (.cells #[.string (str q.name.nm.length (lf q.name.nm)), .int .i64 (q.name.at_ : Nat), .bool true, .iface ty u] 87)) (w.heap.size) (namesOf (qs.take m)) (ixN (namesOf (qs.take m)))) := HM1.out.alloc _
        have HKA : Hid (Keep (fun _ => False) w (wr.alloc (.cells #[.string (str q.name.nm.length (lf q.name.nm)), .int .i64 (q.name.at_ : Nat), .bool true, .iface ty u] 87))) := HK.out.trans (Keep.alloc _ _ _)
        by_cases hin : q.name.nm ∈ recsOf (qs.take m)
        · have HBV : Hid (decide (q.name.nm ∈ recsOf (qs.take m)) = true) := decide_eq_true hin
          have HFI : Hid (FdIs qs w (.panicked (flt 6 (q.name.at_ : Nat))) (wr.alloc (.cells #[.string (str q.name.nm.length (lf q.name.nm)), .int .i64 (q.name.at_ : Nat), .bool true, .iface ty u] 87))) := by
            refine ⟨HKA.out, .inr ⟨q.name.at_, ?_, rfl⟩⟩
            rw [HE.out, HST.out, HCAR.out]
            simp only [if_true, Bool.false_eq_true, if_false]
            rw [if_pos hin]
          clear hin
          go_wp2_with (at_lookup; refine lookN _ rfl _ _ rfl (w.heap.size + 1) (recsOf (qs.take m)) (ixN (recsOf (qs.take m))) q.name.nm rfl HMK.out rfl HZ.out.1 HZ.out.2 true HBV.out ?_)
          exact ⟨rfl, HFI.out⟩
        · have HIN : Hid (q.name.nm ∉ recsOf (qs.take m)) := hin
          have HBV : Hid (decide (q.name.nm ∈ recsOf (qs.take m)) = false) := decide_eq_false hin
          have hll : (recsOf (qs.take m)).length ≤ m := by
            unfold recsOf
            rw [List.length_map]
            exact Nat.le_trans (List.length_filter_le _ _) (by rw [List.length_take]; omega)
          have HLL : Hid ((recsOf (qs.take m)).length + 1 ≤ 1000000) := by
            have h : (recsOf (qs.take m)).length + 1 ≤ 1000000 := by omega
            exact h
          have HLM : Hid ((recsOf (qs.take m)).length ≤ 1000000) := by
            have h : (recsOf (qs.take m)).length ≤ 1000000 := by omega
            exact h
          have HI : Hid (∀ W', MapN W' (w.heap.size + 1) (addN (recsOf (qs.take m)) q.name.nm) (updN (ixN (recsOf (qs.take m))) q.name.nm (recsOf (qs.take m)).length) → (wr.alloc (.cells #[.string (str q.name.nm.length (lf q.name.nm)), .int .i64 (q.name.at_ : Nat), .bool true, .iface ty u] 87)).grownBy W' (some (w.heap.size + 1)) → fdI qs w (.int .i64 ((m : Int) + 1)) W') := fun W' h1 h2 => by
            refine ⟨m + 1, hlt, by simp, ?_, keep_grown HKA.out h2 (by omega), ?_, ?_, ?_⟩
            · rw [HE.out, HST.out, HCAR.out]
              simp only [if_true, Bool.false_eq_true, if_false]
              rw [if_neg HIN.out]
            · have := h2.size
              have e : (wr.alloc (.cells #[.string (str q.name.nm.length (lf q.name.nm)), .int .i64 (q.name.at_ : Nat), .bool true, .iface ty u] 87)).heap.size = wr.heap.size + 1 := by simp
              omega
            · rw [HTK.out, namesOf_snoc, HCAR.out]
              simp only [if_true, Bool.false_eq_true, if_false]
              exact HMO.out.on (h2.block _ HMO.out.lt (by simp))
            · rw [HTK.out, recsOf_snoc, HCAR.out]
              simp only [if_true, Bool.false_eq_true, if_false]
              exact h1.snoc (w := w) HIN.out
          clear hin hll
          go_wp2_with (first
            | (at_lookup; refine lookN _ rfl _ _ rfl (w.heap.size + 1) (recsOf (qs.take m)) (ixN (recsOf (qs.take m))) q.name.nm rfl HMK.out rfl HZ.out.1 HZ.out.2 false HBV.out ?_)
            | (at_len; refine lenN _ rfl _ rfl (w.heap.size + 1) (recsOf (qs.take m)) (ixN (recsOf (qs.take m))) rfl HMK.out ?_)
            | (at_mapUpdate; refine putN _ rfl _ _ _ rfl (w.heap.size + 1) (recsOf (qs.take m)) (ixN (recsOf (qs.take m))) q.name.nm (recsOf (qs.take m)).length rfl HMK.out rfl rfl HZ.out.1 HZ.out.2 HLL.out HLM.out ?_; intro W' hM' hg'; have HI2 : Hid (fdI qs w (.int .i64 ((m : Int) + 1)) W') := HI.out W' hM' hg'; clear hM' hg'))
          go_roundw
          all_goals first
            | exact HI2.out
            | (simp [intOf]; omega)
    · have hmq : m = qs.length := by omega
      have HFI : Hid (FdIs qs w (.returned (.tuple #[.map (some w.heap.size), .map (some (w.heap.size + 1))])) wr) := by
        have h1 := HM1.out
        have h2 := HM2.out
        have h3 := HE.out
        rw [hmq, List.take_of_length_le (Nat.le_refl _)] at h1 h2 h3
        rw [List.drop_of_length_le (Nat.le_refl _)] at h3
        exact ⟨HK.out, .inl ⟨h3, _, _, rfl, ⟨Nat.le_refl _, by omega⟩, ⟨by omega, by omega⟩, by omega, h1, h2⟩⟩
      have hge : ¬ ((m : Int) < (qs.length : Int)) := by omega
      clear hmq
      go_wp2
      refine bodyPost_ret (v := .tuple #[.map (some w.heap.size), .map (some (w.heap.size + 1))]) ?_ rfl ?_
      · simp [results, Tryz.f43, go_sem]
      · exact HFI.out
end
end Go.Proofs.YteoddjobpmmgeaaGreat
